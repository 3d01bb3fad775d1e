import Derived.Test.YtkenlaikhnoldaaBunProofPgcdYun14
import Derived.Test.YtkenlaikhnoldaaBunProofPgcdYun10
import Derived.Test.YtkenlaikhnoldaaBunProofPgcdYun13
/-
  PACKAGE poly: takeOff.
-/
namespace Go.Proofs.Ytkenlaikhnoldaa
open Go.RowKit
open Num
set_option linter.unusedVariables false
set_option maxRecDepth 100000
set_option linter.unusedSimpArgs false

set_option maxHeartbeats 8000000 in
theorem takeoff_p {w00 w : World} {b0 i N d cp : Nat} {rs : Nat → Nr} {R : Nat → Rat} {vq : Value} {lq : List Rat} {m n : Nat}
    (hq : PN w00 vq lq) (hB : Below w00.heap.size w00 w) (hK : w00.heap.size ≤ b0) (hrow : NRw w b0 N rs) (hw : ∀ j, j < N → NF w (nag (rs j)) (R j)) (hi : i + (d + 1) ≤ N) (hdl : lq.length = d + 1) (h0 : co lq d ≠ 0) (hsR : ∀ j, Sm (R j) m) (hs : Sml lq n) (hm : m + m + n + n + 2 ≤ 68719476736) (hN : N ≤ 1000000) (hcp1 : d + 1 ≤ cp) (hcp : cp ≤ maxLen) {ff : Rat} (hff : R (i + d) / co lq d = ff) :
    Calls Try.prog 57 #[.slice (some ⟨b0, i * 4, none⟩) (d + 1) cp, vq] w fun e w' => ∃ v rs', e = .returned v ∧ NF w' v ff ∧ NRw w' b0 N rs' ∧ (∀ j, j < N → NF w' (nag (rs' j)) (offq R lq i ff (d + 1) j)) ∧ w.grownBy w' (some b0) := by
  obtain ⟨aq, cq, rfl, hnq, hcq⟩ := hq.opened
  rw [hdl] at hnq hq ⊢
  obtain ⟨s2a, p2a, n2a, c2a, s2b, p2b, n2b, c2b, hz2⟩ : ∃ s2a p2a n2a c2a s2b p2b n2b c2b, rs (i + d) = ((s2a, p2a, n2a, c2a), (s2b, p2b, n2b, c2b)) := ⟨_, _, _, _, _, _, _, _, rfl⟩
  have hrd := hw (i + d) (by omega)
  rw [hz2] at hrd
  dsimp only [nag] at hrd
  have B := hid hB
  have GB := hid (gby_refl w (some b0))
  have ROW := hid hrow
  have HW := hid hw
  have HK := hid hK
  have HR := hid hrd
  have HP := hid hq
  have HD := hid hdl
  have H0 := hid h0
  have SR := hid hsR
  have SQ := hid hs
  have HM := hid hm
  have HZ2 := hid hz2
  have HFF := hid hff
  clear hff
  have hidN : i + d < N := by omega
  have LB := hid ROW.out.lt
  have HCP := hid hcp
  unfold maxLen at hcp hcq
  obtain ⟨hb1, hx2, hs3⟩ := Nbx.made w false false (.slice none 0 0) (.slice none 0 0)
  replace HR := nf HR hb1
  replace ROW := rwo ROW hb1
  replace HW := hid (fun q_ hq_ => (HW.out q_ hq_).on hb1)
  replace B := bb B hb1
  replace GB := gby_on GB hb1
  have X4 := hid hx2
  clear hb1 hx2
  clear hs3 hq hB hK hrow hw hdl h0 hsR hs hm hrd hz2
  go_enter Try.func57, Try.ntmps57
  go_wp2_with fail
  generalize hW : w.alloc (.cells #[.bool false, .slice none 0 0, .bool false, .slice none 0 0] 52) = W4 at *
  clear hW
  obtain ⟨bq, s1a, p1a, n1a, c1a, s1b, p1b, n1b, c1b, rfl, hbq, hcq1, hqd⟩ := pn_at HP.out B.out (i := d) (by rw [HD.out]; omega)
  have LX4 := hid X4.out.lt
  have HQ := hid hqd
  have HCQ := hid hcq1
  have HLQ := hid (show bq < W4.heap.size from Nat.lt_of_lt_of_le hbq B.out.size)
  clear hqd hcq1 hbq
  refine region_ops (by kernel_rfl) (by kernel_rfl) (fun a f a' w' => ∃ u6 u7 u13 u14 u15 u16 u17 u18 u19 u20 u21 u22 u23 u24 v9 : Value, a' = { tmps := ((((((((((((((a.tmps.setIfInBounds 6 u6).setIfInBounds 7 u7).setIfInBounds 13 u13).setIfInBounds 14 u14).setIfInBounds 15 u15).setIfInBounds 16 u16).setIfInBounds 17 u17).setIfInBounds 18 u18).setIfInBounds 19 u19).setIfInBounds 20 u20).setIfInBounds 21 u21).setIfInBounds 22 u22).setIfInBounds 23 u23).setIfInBounds 24 u24), defers := a.defers } ∧ Hid (Below W4.heap.size W4 w') ∧ Hid (f 0 = true → u14 = .slice (some ⟨b0, i * 4, none⟩) (d + 1) cp) ∧ Hid (f 1 = true → u15 = .int .i64 (d : Int)) ∧ Hid (f 2 = true → u16 = .pointer (some ⟨b0, i * 4 + d * 4, none⟩)) ∧ Hid (f 3 = true → u17 = (.agg #[.bool s2a, .slice p2a n2a c2a, .bool s2b, .slice p2b n2b c2b])) ∧ Hid (f 4 = true → u18 = .slice (some ⟨bq, 0, none⟩) (d + 1) cq) ∧ Hid (f 5 = true → u19 = .int .i64 (d : Int)) ∧ Hid (f 6 = true → u20 = .pointer (some ⟨bq, d * 4, none⟩)) ∧ Hid (f 7 = true → u21 = (.agg #[.bool s1a, .slice p1a n1a c1a, .bool s1b, .slice p1b n1b c1b])) ∧ Hid (f 8 = true → (u22 = .tuple #[v9, .nilIface] ∧ NF w' v9 (R (i + d) / co lq d))) ∧ Hid (f 9 = true → u13 = .tuple #[v9, .nilIface]) ∧ Hid (f 10 = true → u23 = v9) ∧ Hid (f 11 = true → u24 = .nilIface) ∧ Hid (f 12 = true → NewN W4 w' u6 (f 13) v9) ∧ Hid (f 14 = true → u7 = .nilIface) ∧ (f 9 = true → f 8 = true) ∧ (f 10 = true → f 9 = true) ∧ (f 11 = true → f 9 = true) ∧ (f 13 = true → f 12 = true) ∧ (f 13 = true → f 10 = true)) ?h0 ⟨?s0, ?s1, ?s2, ?s3, ?s4, ?s5, ?s6, ?s7, ?s8, ?s9, ?s10, ?s11, ?s12, ?s13, ?s14, trivial⟩ ?hend
  case h0 =>
    simp only [List.setIfInBounds_toArray, List.set_cons_zero, List.set_cons_succ]
    exact ⟨_, _, _, _, _, _, _, _, _, _, _, _, _, _, .nilIface, rfl, hid (Below.drew (Below.refl _ _)), hid (fun h => by cases h), hid (fun h => by cases h), hid (fun h => by cases h), hid (fun h => by cases h), hid (fun h => by cases h), hid (fun h => by cases h), hid (fun h => by cases h), hid (fun h => by cases h), hid (fun h => by cases h), hid (fun h => by cases h), hid (fun h => by cases h), hid (fun h => by cases h), hid (fun h => by cases h), hid (fun h => by cases h), fun h => h, fun h => h, fun h => h, fun h => h, fun h => h⟩
  case s0 =>
    rintro f a1 w1 ⟨u6, u7, u13, u14, u15, u16, u17, u18, u19, u20, u21, u22, u23, u24, v9, rfl, HBW, h0, h1, h2, h3, h4, h5, h6, h7, h8, h9, h10, h11, h12, h14, o9_8, o10_9, o11_9, o13_12, o13_10⟩ hf hd K hK
    simp only [List.setIfInBounds_toArray, List.set_cons_zero, List.set_cons_succ] at hK ⊢
    replace hK := hid hK
    go_simp
    exact hK.out _ _ ⟨_, _, _, _, _, _, _, _, _, _, _, _, _, _, v9, rfl, HBW, hid (fun h => rfl), hid (fun h => h1.out h), hid (fun h => h2.out h), hid (fun h => h3.out h), hid (fun h => h4.out h), hid (fun h => h5.out h), hid (fun h => h6.out h), hid (fun h => h7.out h), hid (fun h => h8.out h), hid (fun h => h9.out h), hid (fun h => h10.out h), hid (fun h => h11.out h), hid (fun h => h12.out h), hid (fun h => h14.out h), fun h => o9_8 h, fun h => o10_9 h, fun h => o11_9 h, fun h => o13_12 h, fun h => o13_10 h⟩
  case s1 =>
    rintro f a1 w1 ⟨u6, u7, u13, u14, u15, u16, u17, u18, u19, u20, u21, u22, u23, u24, v9, rfl, HBW, h0, h1, h2, h3, h4, h5, h6, h7, h8, h9, h10, h11, h12, h14, o9_8, o10_9, o11_9, o13_12, o13_10⟩ hf hd K hK
    simp only [List.setIfInBounds_toArray, List.set_cons_zero, List.set_cons_succ] at hK ⊢
    replace hK := hid hK
    go_simp
    exact hK.out _ _ ⟨_, _, _, _, _, _, _, _, _, _, _, _, _, _, v9, rfl, HBW, hid (fun h => h0.out h), hid (fun h => rfl), hid (fun h => h2.out h), hid (fun h => h3.out h), hid (fun h => h4.out h), hid (fun h => h5.out h), hid (fun h => h6.out h), hid (fun h => h7.out h), hid (fun h => h8.out h), hid (fun h => h9.out h), hid (fun h => h10.out h), hid (fun h => h11.out h), hid (fun h => h12.out h), hid (fun h => h14.out h), fun h => o9_8 h, fun h => o10_9 h, fun h => o11_9 h, fun h => o13_12 h, fun h => o13_10 h⟩
  case s2 =>
    rintro f a1 w1 ⟨u6, u7, u13, u14, u15, u16, u17, u18, u19, u20, u21, u22, u23, u24, v9, rfl, HBW, h0, h1, h2, h3, h4, h5, h6, h7, h8, h9, h10, h11, h12, h14, o9_8, o10_9, o11_9, o13_12, o13_10⟩ hf hd K hK
    simp only [List.setIfInBounds_toArray, List.set_cons_zero, List.set_cons_succ] at hK ⊢
    replace hK := hid hK
    simp [Region.binds] at hd
    obtain rfl := h0.out (by simp only [hd])
    obtain rfl := h1.out (by simp only [hd])
    have hdd : (d : Int) < (d : Int) + 1 := by omega
    go_simp
    exact hK.out _ _ ⟨_, _, _, _, _, _, _, _, _, _, _, _, _, _, v9, rfl, HBW, hid (fun h => rfl), hid (fun h => rfl), hid (fun h => rfl), hid (fun h => h3.out h), hid (fun h => h4.out h), hid (fun h => h5.out h), hid (fun h => h6.out h), hid (fun h => h7.out h), hid (fun h => h8.out h), hid (fun h => h9.out h), hid (fun h => h10.out h), hid (fun h => h11.out h), hid (fun h => h12.out h), hid (fun h => h14.out h), fun h => o9_8 h, fun h => o10_9 h, fun h => o11_9 h, fun h => o13_12 h, fun h => o13_10 h⟩
  case s3 =>
    rintro f a1 w1 ⟨u6, u7, u13, u14, u15, u16, u17, u18, u19, u20, u21, u22, u23, u24, v9, rfl, HBW, h0, h1, h2, h3, h4, h5, h6, h7, h8, h9, h10, h11, h12, h14, o9_8, o10_9, o11_9, o13_12, o13_10⟩ hf hd K hK
    simp only [List.setIfInBounds_toArray, List.set_cons_zero, List.set_cons_succ] at hK ⊢
    replace hK := hid hK
    simp [Region.binds] at hd
    obtain rfl := h2.out (by simp only [hd])
    obtain ⟨y1, y2, y3, y4⟩ := (ROW.out.on HBW.out).cellsO hidN (show i * 4 + d * 4 = (i + d) * 4 by omega)
    rw [HZ2.out] at y1 y2 y3 y4
    go_simp
    exact hK.out _ _ ⟨_, _, _, _, _, _, _, _, _, _, _, _, _, _, v9, rfl, HBW, hid (fun h => h0.out h), hid (fun h => h1.out h), hid (fun h => rfl), hid (fun h => rfl), hid (fun h => h4.out h), hid (fun h => h5.out h), hid (fun h => h6.out h), hid (fun h => h7.out h), hid (fun h => h8.out h), hid (fun h => h9.out h), hid (fun h => h10.out h), hid (fun h => h11.out h), hid (fun h => h12.out h), hid (fun h => h14.out h), fun h => o9_8 h, fun h => o10_9 h, fun h => o11_9 h, fun h => o13_12 h, fun h => o13_10 h⟩
  case s4 =>
    rintro f a1 w1 ⟨u6, u7, u13, u14, u15, u16, u17, u18, u19, u20, u21, u22, u23, u24, v9, rfl, HBW, h0, h1, h2, h3, h4, h5, h6, h7, h8, h9, h10, h11, h12, h14, o9_8, o10_9, o11_9, o13_12, o13_10⟩ hf hd K hK
    simp only [List.setIfInBounds_toArray, List.set_cons_zero, List.set_cons_succ] at hK ⊢
    replace hK := hid hK
    go_simp
    exact hK.out _ _ ⟨_, _, _, _, _, _, _, _, _, _, _, _, _, _, v9, rfl, HBW, hid (fun h => h0.out h), hid (fun h => h1.out h), hid (fun h => h2.out h), hid (fun h => h3.out h), hid (fun h => rfl), hid (fun h => h5.out h), hid (fun h => h6.out h), hid (fun h => h7.out h), hid (fun h => h8.out h), hid (fun h => h9.out h), hid (fun h => h10.out h), hid (fun h => h11.out h), hid (fun h => h12.out h), hid (fun h => h14.out h), fun h => o9_8 h, fun h => o10_9 h, fun h => o11_9 h, fun h => o13_12 h, fun h => o13_10 h⟩
  case s5 =>
    rintro f a1 w1 ⟨u6, u7, u13, u14, u15, u16, u17, u18, u19, u20, u21, u22, u23, u24, v9, rfl, HBW, h0, h1, h2, h3, h4, h5, h6, h7, h8, h9, h10, h11, h12, h14, o9_8, o10_9, o11_9, o13_12, o13_10⟩ hf hd K hK
    simp only [List.setIfInBounds_toArray, List.set_cons_zero, List.set_cons_succ] at hK ⊢
    replace hK := hid hK
    go_simp
    exact hK.out _ _ ⟨_, _, _, _, _, _, _, _, _, _, _, _, _, _, v9, rfl, HBW, hid (fun h => h0.out h), hid (fun h => h1.out h), hid (fun h => h2.out h), hid (fun h => h3.out h), hid (fun h => h4.out h), hid (fun h => rfl), hid (fun h => h6.out h), hid (fun h => h7.out h), hid (fun h => h8.out h), hid (fun h => h9.out h), hid (fun h => h10.out h), hid (fun h => h11.out h), hid (fun h => h12.out h), hid (fun h => h14.out h), fun h => o9_8 h, fun h => o10_9 h, fun h => o11_9 h, fun h => o13_12 h, fun h => o13_10 h⟩
  case s6 =>
    rintro f a1 w1 ⟨u6, u7, u13, u14, u15, u16, u17, u18, u19, u20, u21, u22, u23, u24, v9, rfl, HBW, h0, h1, h2, h3, h4, h5, h6, h7, h8, h9, h10, h11, h12, h14, o9_8, o10_9, o11_9, o13_12, o13_10⟩ hf hd K hK
    simp only [List.setIfInBounds_toArray, List.set_cons_zero, List.set_cons_succ] at hK ⊢
    replace hK := hid hK
    simp [Region.binds] at hd
    obtain rfl := h4.out (by simp only [hd])
    obtain rfl := h5.out (by simp only [hd])
    have hdd : (d : Int) < (d : Int) + 1 := by omega
    go_simp
    exact hK.out _ _ ⟨_, _, _, _, _, _, _, _, _, _, _, _, _, _, v9, rfl, HBW, hid (fun h => h0.out h), hid (fun h => h1.out h), hid (fun h => h2.out h), hid (fun h => h3.out h), hid (fun h => rfl), hid (fun h => rfl), hid (fun h => rfl), hid (fun h => h7.out h), hid (fun h => h8.out h), hid (fun h => h9.out h), hid (fun h => h10.out h), hid (fun h => h11.out h), hid (fun h => h12.out h), hid (fun h => h14.out h), fun h => o9_8 h, fun h => o10_9 h, fun h => o11_9 h, fun h => o13_12 h, fun h => o13_10 h⟩
  case s7 =>
    rintro f a1 w1 ⟨u6, u7, u13, u14, u15, u16, u17, u18, u19, u20, u21, u22, u23, u24, v9, rfl, HBW, h0, h1, h2, h3, h4, h5, h6, h7, h8, h9, h10, h11, h12, h14, o9_8, o10_9, o11_9, o13_12, o13_10⟩ hf hd K hK
    simp only [List.setIfInBounds_toArray, List.set_cons_zero, List.set_cons_succ] at hK ⊢
    replace hK := hid hK
    simp [Region.binds] at hd
    obtain rfl := h6.out (by simp only [hd])
    obtain ⟨y1, y2, y3, y4⟩ := cells_kept HCQ.out (HBW.out.block bq HLQ.out)
    go_simp
    exact hK.out _ _ ⟨_, _, _, _, _, _, _, _, _, _, _, _, _, _, v9, rfl, HBW, hid (fun h => h0.out h), hid (fun h => h1.out h), hid (fun h => h2.out h), hid (fun h => h3.out h), hid (fun h => h4.out h), hid (fun h => h5.out h), hid (fun h => rfl), hid (fun h => rfl), hid (fun h => h8.out h), hid (fun h => h9.out h), hid (fun h => h10.out h), hid (fun h => h11.out h), hid (fun h => h12.out h), hid (fun h => h14.out h), fun h => o9_8 h, fun h => o10_9 h, fun h => o11_9 h, fun h => o13_12 h, fun h => o13_10 h⟩
  case s8 =>
    rintro f a1 w1 ⟨u6, u7, u13, u14, u15, u16, u17, u18, u19, u20, u21, u22, u23, u24, v9, rfl, HBW, h0, h1, h2, h3, h4, h5, h6, h7, h8, h9, h10, h11, h12, h14, o9_8, o10_9, o11_9, o13_12, o13_10⟩ hf hd K hK
    simp only [List.setIfInBounds_toArray, List.set_cons_zero, List.set_cons_succ] at hK ⊢
    replace hK := hid hK
    simp [Region.binds] at hd
    obtain rfl := h3.out (by simp only [hd])
    obtain rfl := h7.out (by simp only [hd])
    go_simp
    refine (ndiv_f (HR.out.on HBW.out) (HQ.out.on HBW.out) (SR.out _) (SQ.out.2 _) H0.out (by have := HM.out; omega) (by have := HM.out; omega)).mono ?_
    rintro e w2 ⟨v, rfl, hv, hb⟩
    go_wp2_with fail
    exact hK.out _ _ ⟨_, _, _, _, _, _, _, _, _, _, _, _, _, _, v, rfl, hid (below_next HBW.out hb), hid (fun h => h0.out h), hid (fun h => h1.out h), hid (fun h => h2.out h), hid (fun h => rfl), hid (fun h => h4.out h), hid (fun h => h5.out h), hid (fun h => h6.out h), hid (fun h => rfl), hid (fun h => ⟨rfl, hv⟩), hid (fun h => absurd (o9_8 h) (by rw [hf]; decide)), hid (fun h => absurd (o9_8 (o10_9 h)) (by rw [hf]; decide)), hid (fun h => h11.out h), hid (fun h => ((h12.out h).on hb).free (by cases e : f 13 with | false => rfl | true => exact absurd (o9_8 (o10_9 (o13_10 e))) (by rw [hf]; decide))), hid (fun h => h14.out h), fun _ => rfl, fun h => o10_9 h, fun h => o11_9 h, fun h => o13_12 h, fun h => o13_10 h⟩
  case s9 =>
    rintro f a1 w1 ⟨u6, u7, u13, u14, u15, u16, u17, u18, u19, u20, u21, u22, u23, u24, v9, rfl, HBW, h0, h1, h2, h3, h4, h5, h6, h7, h8, h9, h10, h11, h12, h14, o9_8, o10_9, o11_9, o13_12, o13_10⟩ hf hd K hK
    simp only [List.setIfInBounds_toArray, List.set_cons_zero, List.set_cons_succ] at hK ⊢
    replace hK := hid hK
    simp [Region.binds] at hd
    have g8 : f 8 = true := by simp only [hd]
    obtain ⟨rfl, e2⟩ := h8.out g8
    go_simp
    exact hK.out _ _ ⟨_, _, _, _, _, _, _, _, _, _, _, _, _, _, v9, rfl, HBW, hid (fun h => h0.out h), hid (fun h => h1.out h), hid (fun h => h2.out h), hid (fun h => h3.out h), hid (fun h => h4.out h), hid (fun h => h5.out h), hid (fun h => h6.out h), hid (fun h => h7.out h), hid (fun h => ⟨rfl, e2⟩), hid (fun h => rfl), hid (fun h => h10.out h), hid (fun h => h11.out h), hid (fun h => h12.out h), hid (fun h => h14.out h), fun _ => g8, fun _ => rfl, fun _ => rfl, fun h => o13_12 h, fun h => o13_10 h⟩
  case s10 =>
    rintro f a1 w1 ⟨u6, u7, u13, u14, u15, u16, u17, u18, u19, u20, u21, u22, u23, u24, v9, rfl, HBW, h0, h1, h2, h3, h4, h5, h6, h7, h8, h9, h10, h11, h12, h14, o9_8, o10_9, o11_9, o13_12, o13_10⟩ hf hd K hK
    simp only [List.setIfInBounds_toArray, List.set_cons_zero, List.set_cons_succ] at hK ⊢
    replace hK := hid hK
    simp [Region.binds] at hd
    have g9 : f 9 = true := by simp only [hd]
    have e1 := h9.out g9
    subst e1
    go_simp
    exact hK.out _ _ ⟨_, _, _, _, _, _, _, _, _, _, _, _, _, _, v9, rfl, HBW, hid (fun h => h0.out h), hid (fun h => h1.out h), hid (fun h => h2.out h), hid (fun h => h3.out h), hid (fun h => h4.out h), hid (fun h => h5.out h), hid (fun h => h6.out h), hid (fun h => h7.out h), hid (fun h => h8.out h), hid (fun h => rfl), hid (fun h => rfl), hid (fun h => h11.out h), hid (fun h => h12.out h), hid (fun h => h14.out h), fun h => o9_8 h, fun _ => g9, fun h => o11_9 h, fun h => o13_12 h, fun _ => rfl⟩
  case s11 =>
    rintro f a1 w1 ⟨u6, u7, u13, u14, u15, u16, u17, u18, u19, u20, u21, u22, u23, u24, v9, rfl, HBW, h0, h1, h2, h3, h4, h5, h6, h7, h8, h9, h10, h11, h12, h14, o9_8, o10_9, o11_9, o13_12, o13_10⟩ hf hd K hK
    simp only [List.setIfInBounds_toArray, List.set_cons_zero, List.set_cons_succ] at hK ⊢
    replace hK := hid hK
    simp [Region.binds] at hd
    have g9 : f 9 = true := by simp only [hd]
    have e1 := h9.out g9
    subst e1
    go_simp
    exact hK.out _ _ ⟨_, _, _, _, _, _, _, _, _, _, _, _, _, _, v9, rfl, HBW, hid (fun h => h0.out h), hid (fun h => h1.out h), hid (fun h => h2.out h), hid (fun h => h3.out h), hid (fun h => h4.out h), hid (fun h => h5.out h), hid (fun h => h6.out h), hid (fun h => h7.out h), hid (fun h => h8.out h), hid (fun h => rfl), hid (fun h => h10.out h), hid (fun h => rfl), hid (fun h => h12.out h), hid (fun h => h14.out h), fun h => o9_8 h, fun h => o10_9 h, fun _ => g9, fun h => o13_12 h, fun h => o13_10 h⟩
  case s12 =>
    rintro f a1 w1 ⟨u6, u7, u13, u14, u15, u16, u17, u18, u19, u20, u21, u22, u23, u24, v9, rfl, HBW, h0, h1, h2, h3, h4, h5, h6, h7, h8, h9, h10, h11, h12, h14, o9_8, o10_9, o11_9, o13_12, o13_10⟩ hf hd K hK
    simp only [List.setIfInBounds_toArray, List.set_cons_zero, List.set_cons_succ] at hK ⊢
    replace hK := hid hK
    go_simp
    exact hK.out _ _ ⟨_, _, _, _, _, _, _, _, _, _, _, _, _, _, v9, rfl, hid (below_next HBW.out ((Below.refl _ _).alloc (Nat.le_refl _) _)), hid (fun h => h0.out h), hid (fun h => h1.out h), hid (fun h => h2.out h), hid (fun h => h3.out h), hid (fun h => h4.out h), hid (fun h => h5.out h), hid (fun h => h6.out h), hid (fun h => h7.out h), hid (fun h => ⟨(h8.out h).1, (h8.out h).2.on ((Below.refl _ _).alloc (Nat.le_refl _) _)⟩), hid (fun h => h9.out h), hid (fun h => h10.out h), hid (fun h => h11.out h), hid (fun h => ⟨w1.heap.size, rfl, HBW.out.size, fun _ => Nbx.new w1 false false _ _, fun e => absurd (o13_12 e) (by rw [hf]; decide)⟩), hid (fun h => h14.out h), fun h => o9_8 h, fun h => o10_9 h, fun h => o11_9 h, fun _ => rfl, fun h => o13_10 h⟩
  case s13 =>
    rintro f a1 w1 ⟨u6, u7, u13, u14, u15, u16, u17, u18, u19, u20, u21, u22, u23, u24, v9, rfl, HBW, h0, h1, h2, h3, h4, h5, h6, h7, h8, h9, h10, h11, h12, h14, o9_8, o10_9, o11_9, o13_12, o13_10⟩ hf hd K hK
    simp only [List.setIfInBounds_toArray, List.set_cons_zero, List.set_cons_succ] at hK ⊢
    replace hK := hid hK
    simp [Region.binds] at hd
    have g10 : f 10 = true := by simp only [hd]
    have g12 : f 12 = true := by simp only [hd]
    have g8 : f 8 = true := o9_8 (o10_9 g10)
    have e8 := h10.out g10
    subst e8
    obtain ⟨g, rfl, hg, hn, _⟩ := h12.out g12
    replace hn := hn hf
    have hv9 := (h8.out g8).2
    obtain ⟨s9a, p9a, n9a, c9a, s9b, p9b, n9b, c9b, rfl⟩ := hv9.opened
    obtain ⟨⟨c1, c2⟩, ⟨c3, c4⟩, ⟨c5, c6⟩, c7, c8⟩ := hn.stores
    obtain ⟨n1, n2, n3⟩ := hn.last HBW.out hg s9a s9b p9a p9b n9a n9b c9a c9b
    have HN2 := hid (And.intro n1 n2)
    have HV := hid (fun v z k h => @n3 v z k h)
    have H9 := hid (hv9.moved fun _ _ _ h => n3 h)
    clear n1 n2 n3
    go_simp
    exact hK.out _ _ ⟨_, _, _, _, _, _, _, _, _, _, _, _, _, _, _, rfl, hid HN2.out.2, hid (fun h => h0.out h), hid (fun h => h1.out h), hid (fun h => h2.out h), hid (fun h => h3.out h), hid (fun h => h4.out h), hid (fun h => h5.out h), hid (fun h => h6.out h), hid (fun h => h7.out h), hid (fun h => ⟨(h8.out h).1, H9.out⟩), hid (fun h => h9.out h), hid (fun h => h10.out h), hid (fun h => h11.out h), hid (fun h => ⟨g, rfl, hg, fun e => by simp [more] at e, fun _ => ⟨_, _, _, _, _, _, _, _, rfl, HN2.out.1⟩⟩), hid (fun h => h14.out h), fun h => o9_8 h, fun h => o10_9 h, fun h => o11_9 h, fun _ => g12, fun _ => g10⟩
  case s14 =>
    rintro f a1 w1 ⟨u6, u7, u13, u14, u15, u16, u17, u18, u19, u20, u21, u22, u23, u24, v9, rfl, HBW, h0, h1, h2, h3, h4, h5, h6, h7, h8, h9, h10, h11, h12, h14, o9_8, o10_9, o11_9, o13_12, o13_10⟩ hf hd K hK
    simp only [List.setIfInBounds_toArray, List.set_cons_zero, List.set_cons_succ] at hK ⊢
    replace hK := hid hK
    simp [Region.binds] at hd
    obtain rfl := h11.out (by simp only [hd])
    go_simp
    exact hK.out _ _ ⟨_, _, _, _, _, _, _, _, _, _, _, _, _, _, v9, rfl, HBW, hid (fun h => h0.out h), hid (fun h => h1.out h), hid (fun h => h2.out h), hid (fun h => h3.out h), hid (fun h => h4.out h), hid (fun h => h5.out h), hid (fun h => h6.out h), hid (fun h => h7.out h), hid (fun h => h8.out h), hid (fun h => h9.out h), hid (fun h => h10.out h), hid (fun h => rfl), hid (fun h => h12.out h), hid (fun h => rfl), fun h => o9_8 h, fun h => o10_9 h, fun h => o11_9 h, fun h => o13_12 h, fun h => o13_10 h⟩
  case hend =>
    rintro f a1 w1 ⟨u6, u7, u13, u14, u15, u16, u17, u18, u19, u20, u21, u22, u23, u24, v9, rfl, HBW, h0, h1, h2, h3, h4, h5, h6, h7, h8, h9, h10, h11, h12, h14, _⟩ hall
    simp only [List.setIfInBounds_toArray, List.set_cons_zero, List.set_cons_succ]
    have hv9 := (h8.out (hall 8 (by decide))).2
    obtain ⟨g9, rfl, hg, _, hn⟩ := h12.out (hall 12 (by decide))
    obtain ⟨s9a, p9a, n9a, c9a, s9b, p9b, n9b, c9b, rfl, hn2⟩ := hn (hall 13 (by decide))
    have X6 := hid hn2
    have HF := hid (hv9.cast HFF.out)
    replace X4 := nx X4 HBW.out
    replace ROW := rwo ROW HBW.out
    replace HW : Hid (∀ j, j < N → NF w1 (nag (rs j)) (offq R lq i ff 0 j)) := hid (fun j hj => ((HW.out j hj).on HBW.out).cast (offq_start _ _ _ _ _).symm)
    replace GB := gby_on GB HBW.out
    have LX := hid (show w.heap.size < W4.heap.size from LX4.out)
    have LG := hid hg
    replace B := bb B HBW.out
    have LQ9 := hid (show bq < bq + 1 by omega)
    clear h0 h1 h2 h3 h4 h5 h6 h7 h8 h9 h10 h11 h12 h14 hall hn hn2 hg hv9 HBW HR HQ HCQ HLQ LQ9 HZ2
    have SF : Hid (Sm ff (m + n)) := hid (by rw [← HFF.out]; exact (SR.out _).div (SQ.out.2 _))
    go_wp2_with fail
    go_loopw [27] (fun x wr => ∃ (k : Nat) (rs : Nat → Nr), k ≤ d + 1 ∧ x = .int .i64 k ∧ Hid (NRw wr b0 N rs) ∧ Hid (∀ j, j < N → NF wr (nag (rs j)) (offq R lq i ff k j)) ∧ Hid (Nbx wr w.heap.size false (.slice none 0 0) false (.slice none 0 0)) ∧ Hid (Nbx wr g9 s9a (.slice p9a n9a c9a) s9b (.slice p9b n9b c9b)) ∧ Hid (NF wr (.agg #[.bool s9a, .slice p9a n9a c9a, .bool s9b, .slice p9b n9b c9b]) ff) ∧ Hid (w.grownBy wr (some b0)) ∧ Hid (Below w00.heap.size w00 wr)) (fun x _ => d + 1 - (intOf x).toNat)
    case atStart => exact ⟨0, rs, by omega, rfl, ROW, HW, X4, X6, HF, GB, B⟩
    case round =>
      clear ROW HW X4 X6 HF GB B
      obtain ⟨k, rs, hk, rfl, ROW, HW, X4, X6, HF, GB, B⟩ := hrel
      by_cases hlt : k < d + 1
      · have hkn : i + k < N := by omega
        obtain ⟨b5, s5a, p5a, n5a, c5a, s5b, p5b, n5b, c5b, e5, hb5, cd5, hq5⟩ := pn_at HP.out B.out (i := k) (by rw [HD.out]; exact hlt)
        cases e5
        obtain ⟨s7a, p7a, n7a, c7a, s7b, p7b, n7b, c7b, hz7⟩ : ∃ s7a p7a n7a c7a s7b p7b n7b c7b, rs (i + k) = ((s7a, p7a, n7a, c7a), (s7b, p7b, n7b, c7b)) := ⟨_, _, _, _, _, _, _, _, rfl⟩
        have hq7 := HW.out (i + k) hkn
        rw [hz7] at hq7
        dsimp only [nag] at hq7
        have HD5 := hid hq5
        have HS := hid (hq7.cast (offq_self R lq i ff k))
        clear hq5 hq7
        obtain ⟨hb601, hx602, hs603⟩ := Nbx.made wr s5a s5b (.slice p5a n5a c5a) (.slice p5b n5b c5b)
        have L4 := hid X6.out.lt
        replace X4 := nx X4 hb601
        replace X6 := nx X6 hb601
        replace HF := nf HF hb601
        replace HD5 := nf HD5 hb601
        replace HS := nf HS hb601
        replace ROW := rwo ROW hb601
        replace HW := hid (fun q_ hq_ => (HW.out q_ hq_).on hb601)
        replace B := bb B hb601
        replace GB := gby_on GB hb601
        have X9 := hid hx602
        clear hb601 hx602
        have cc604 := X4.out.cells
        have cc605 := X6.out.cells
        have cc606 := X9.out.cells
        have cr := ROW.out.cellsO hkn (show i * 4 + k * 4 = (i + k) * 4 by omega)
        rw [hz7] at cr
        go_wp2_with fail
        generalize hW : wr.alloc (.cells #[.bool s5a, .slice p5a n5a c5a, .bool s5b, .slice p5b n5b c5b] 52) = W607 at *
        clear hW
        clear cr cd5 cc604 cc605 cc606
        have cc608 := X6.out.cells
        have cc609 := X9.out.cells
        replace X4 := hid X4.out.dr
        replace X6 := hid X6.out.dr
        replace X9 := hid X9.out.dr
        replace HF := hid HF.out.drew
        replace HD5 := hid HD5.out.drew
        replace HS := hid HS.out.drew
        replace HW := hid (fun q_ hq_ => (HW.out q_ hq_).drew)
        replace ROW := hid ROW.out.dr
        replace B := hid (Below.drew B.out)
        replace GB := gby_on GB (Below.drew (Below.refl _ _))
        have cr := ROW.out.cellsO hkn (show i * 4 + k * 4 = (i + k) * 4 by omega)
        rw [hz7] at cr
        have cc610 := X6.out.cells
        have cc611 := X9.out.cells
        go_region_with (first
          | (have hm := mk612_0; clear hm; go_at_call 75; refine (nsub_f HS.out HV.out (SR.out _) (SF.out.mul (SQ.out.2 k)) (by have := HM.out; omega) (by have := HM.out; omega)).mono ?_; rintro e w616 ⟨v, rfl, hv, hb⟩; obtain ⟨s4a, p4a, n4a, c4a, s4b, p4b, n4b, c4b, rfl⟩ := hv.opened; replace X4 := nx X4 hb; replace X6 := nx X6 hb; replace X9 := nx X9 hb; replace HF := nf HF hb; replace HD5 := nf HD5 hb; replace HS := nf HS hb; replace HV := nf HV hb; replace ROW := rwo ROW hb; replace HW := hid (fun q_ hq_ => (HW.out q_ hq_).on hb); replace B := bb B hb; replace GB := gby_on GB hb; clear cc614 cc615; have HX := hid hv; clear hb hv cr; have cc617 := X6.out.cells; have cc618 := X9.out.cells; have cr := ROW.out.cellsO hkn (show i * 4 + k * 4 = (i + k) * 4 by omega); rw [hz7] at cr; have cc619 := ROW.out.storesO hkn (show i * 4 + k * 4 = (i + k) * 4 by omega); replace X4 := hid (X4.out.kept (ROW.out.farO (i + k) (by have := LB.out; have := HK.out; have := LX.out; have := LG.out; have := L4.out; omega) (show i * 4 + k * 4 = (i + k) * 4 by omega) s4a p4a n4a c4a s4b p4b n4b c4b)); replace X6 := hid (X6.out.kept (ROW.out.farO (i + k) (by have := LB.out; have := HK.out; have := LX.out; have := LG.out; have := L4.out; omega) (show i * 4 + k * 4 = (i + k) * 4 by omega) s4a p4a n4a c4a s4b p4b n4b c4b)); replace X9 := hid (X9.out.kept (ROW.out.farO (i + k) (by have := LB.out; have := HK.out; have := LX.out; have := LG.out; have := L4.out; omega) (show i * 4 + k * 4 = (i + k) * 4 by omega) s4a p4a n4a c4a s4b p4b n4b c4b)); replace HF := hid (HF.out.putO ROW.out (i + k) (show i * 4 + k * 4 = (i + k) * 4 by omega) s4a p4a n4a c4a s4b p4b n4b c4b); replace HD5 := hid (HD5.out.putO ROW.out (i + k) (show i * 4 + k * 4 = (i + k) * 4 by omega) s4a p4a n4a c4a s4b p4b n4b c4b); replace HS := hid (HS.out.putO ROW.out (i + k) (show i * 4 + k * 4 = (i + k) * 4 by omega) s4a p4a n4a c4a s4b p4b n4b c4b); replace HV := hid (HV.out.putO ROW.out (i + k) (show i * 4 + k * 4 = (i + k) * 4 by omega) s4a p4a n4a c4a s4b p4b n4b c4b); replace HX := hid (HX.out.putO ROW.out (i + k) (show i * 4 + k * 4 = (i + k) * 4 by omega) s4a p4a n4a c4a s4b p4b n4b c4b); replace HW := hid (fun q_ hq_ => (HW.out q_ hq_).putO ROW.out (i + k) (show i * 4 + k * 4 = (i + k) * 4 by omega) s4a p4a n4a c4a s4b p4b n4b c4b); replace GB := hid (gby_tr GB.out (set4_grownO _ b0 (i + k) (show i * 4 + k * 4 = (i + k) * 4 by omega) s4a p4a n4a c4a s4b p4b n4b c4b)); replace B := hid (ROW.out.belowO B.out (i + k) (by have := LB.out; have := HK.out; have := LX.out; have := LG.out; have := L4.out; omega) (show i * 4 + k * 4 = (i + k) * 4 by omega) s4a p4a n4a c4a s4b p4b n4b c4b); replace ROW := hid (ROW.out.putO hkn (show i * 4 + k * 4 = (i + k) * 4 by omega) s4a p4a n4a c4a s4b p4b n4b c4b); have mk612_1 := hid True.intro)
          | (go_at_call 29; refine (nmul_f HF.out HD5.out SF.out (SQ.out.2 k) (by have := HM.out; omega) (by have := HM.out; omega)).mono ?_; rintro e w613 ⟨v, rfl, hv, hb⟩; obtain ⟨s8a, p8a, n8a, c8a, s8b, p8b, n8b, c8b, rfl⟩ := hv.opened; replace X4 := nx X4 hb; replace X6 := nx X6 hb; replace X9 := nx X9 hb; replace HF := nf HF hb; replace HD5 := nf HD5 hb; replace HS := nf HS hb; replace ROW := rwo ROW hb; replace HW := hid (fun q_ hq_ => (HW.out q_ hq_).on hb); replace B := bb B hb; replace GB := gby_on GB hb; clear cc608 cc609 cc610 cc611; have HV := hid hv; clear hb hv cr; have cc614 := X6.out.cells; have cc615 := X9.out.cells; have cr := ROW.out.cellsO hkn (show i * 4 + k * 4 = (i + k) * 4 by omega); rw [hz7] at cr; have mk612_0 := hid True.intro))
        all_goals
          go_wp2_with fail
          go_roundw
          case rel => exact ⟨k + 1, _, by omega, by go_num, ROW, hid (fun t ht => by
            by_cases htj : t = i + k
            · subst htj; rw [upd_self, offq_next]; exact HX.out
            · rw [upd_ne _ _ htj, offq_ne _ _ _ htj]; exact HW.out t ht), X4, X6, HF, GB, B⟩
          case measure => simp [intOf]; omega
      · obtain rfl : k = d + 1 := by omega
        have cc901 := X4.out.cells
        have cc902 := X6.out.cells
        have cc903 := X4.out.stores
        obtain ⟨r904a, r904b, r904c⟩ := X4.out.last B.out (by have := LB.out; have := HK.out; have := LX.out; have := LG.out; omega) s9a s9b p9a p9b n9a n9b c9a c9b
        replace GB := hid (gby_set4 GB.out (Nat.le_refl _) (.bool s9a) (.slice p9a n9a c9a) (.bool s9b) (.slice p9b n9b c9b))
        replace X6 := hid (X6.out.kept (heap4 (g := w.heap.size) (by have := LB.out; have := HK.out; have := LX.out; have := LG.out; omega) (.bool s9a) (.slice p9a n9a c9a) (.bool s9b) (.slice p9b n9b c9b)))
        replace HF := hid (HF.out.moved fun _ _ _ hv => r904c hv)
        replace HW := hid (fun q_ hq_ => (HW.out q_ hq_).moved fun _ _ _ hv => r904c hv)
        replace ROW := hid (ROW.out.kept (heap4 (g := w.heap.size) (by have := LB.out; have := HK.out; have := LX.out; have := LG.out; omega) (.bool s9a) (.slice p9a n9a c9a) (.bool s9b) (.slice p9b n9b c9b)))
        replace X4 := hid r904a
        replace B := hid r904b
        clear r904a r904b r904c
        go_wp2_with fail
        refine bodyPost_ret (res_num rfl rfl X4.out) rfl ?_
        exact ⟨_, _, rfl, HF.out, ROW.out, HW.out, GB.out⟩

end Go.Proofs.Ytkenlaikhnoldaa

/-
  PACKAGE poly: Polynomial.Mul.
-/
namespace Go.Proofs.Ytkenlaikhnoldaa
open Go.RowKit
open Num
set_option linter.unusedVariables false
set_option maxRecDepth 100000
set_option linter.unusedSimpArgs false

/-- Sums of products: so many rows of them, and so many of the next row. -/
def psum (l r : List Rat) (i t : Nat) : Rat := sumN (fun a => if a ≤ t then co l a * co r (t - a) else 0) i
def pprod (l r : List Rat) (i j t : Nat) : Rat := psum l r i t + if i ≤ t ∧ t < i + j then co l i * co r (t - i) else 0
theorem pprod_start (l r : List Rat) (i t : Nat) : pprod l r i 0 t = psum l r i t := by
  rw [pprod, if_neg (by omega)]; grind
theorem pprod_self (l r : List Rat) (i j : Nat) : pprod l r i j (i + j) = psum l r i (i + j) := by
  rw [pprod, if_neg (by omega)]; grind
theorem pprod_next (l r : List Rat) (i j : Nat) : pprod l r i (j + 1) (i + j) = psum l r i (i + j) + co l i * co r j := by
  rw [pprod, if_pos (by omega), Nat.add_sub_cancel_left]
theorem pprod_ne (l r : List Rat) {i j t : Nat} (h : t ≠ i + j) : pprod l r i (j + 1) t = pprod l r i j t := by
  rw [pprod, pprod]
  by_cases h1 : i ≤ t ∧ t < i + j
  · rw [if_pos h1, if_pos (by omega)]
  · rw [if_neg h1, if_neg (by omega)]
theorem pprod_end (l r : List Rat) {i j t : Nat} (h : r.length ≤ j) : pprod l r i j t = psum l r (i + 1) t := by
  show _ = psum l r i t + (if i ≤ t then co l i * co r (t - i) else 0)
  rw [pprod]
  congr 1
  by_cases h1 : i ≤ t
  · rw [if_pos h1]
    by_cases h2 : t < i + j
    · rw [if_pos ⟨h1, h2⟩]
    · rw [if_neg (by omega), co_ge (l := r) (by omega)]; grind
  · rw [if_neg (by omega), if_neg h1]
theorem part_all (l r : List Rat) (t : Nat) : psum l r l.length t = cnv l r t := by
  have h1 : cnv l r t = sumN (fun a => if a ≤ t then co l a * co r (t - a) else 0) (t + 1) := sumN_congr fun k hk => (if_pos (by omega)).symm
  rw [h1, psum]
  rcases Nat.le_total l.length (t + 1) with h | h
  · exact (sumN_more _ h fun k h2 h3 => by
      show (if k ≤ t then co l k * _ else 0) = 0
      rw [co_ge h2]; split <;> grind).symm
  · exact sumN_more _ h fun k h2 h3 => by
      show (if k ≤ t then co l k * _ else 0) = 0
      rw [if_neg (by omega)]
theorem Sml.rows {l r : List Rat} {m n : Nat} (h : Sml l m) (h' : Sml r n) (t : Nat) : ∀ i, Sm (psum l r i t) (i * (m + n + 1) + 1) := by
  intro i
  induction i with
  | zero => exact Sm.zero (by omega)
  | succ i ih =>
    show Sm (psum l r i t + if i ≤ t then co l i * co r (t - i) else 0) _
    refine (ih.add (n := m + n) ?_).mono (by rw [Nat.succ_mul]; omega)
    split
    · exact (h.2 i).mul (h'.2 (t - i))
    · exact Sm.zero (by have := h.1; omega)
theorem mulp_of (l r : List Rat) : trimQ (lof (l.length + r.length) fun t => psum l r l.length t) = mulp l r := by
  refine trim_ext fun i => ?_
  rw [co_lof, co_lof]
  by_cases h : i < l.length + r.length - 1
  · rw [if_pos h, if_pos (by omega), part_all]
  · rw [if_neg h]
    split
    · rw [part_all, cnv_big (by omega)]
    · rfl

set_option maxHeartbeats 8000000 in
theorem pmul_p {w : World} {v u : Value} {l r : List Rat} {m n : Nat} (h : PN w v l) (h' : PN w u r) (hs : Sml l m) (hs' : Sml r n) (hm : l.length * (m + n + 1) + m + n + 2 ≤ 68719476736) (hl : l.length ≤ 1000000) (hr : r.length ≤ 1000000) :
    Calls Try.prog 17 #[v, u] w fun e w' => ∃ v', e = .returned v' ∧ PN w' v' (mulp l r) ∧ Below w.heap.size w w' := by
  obtain ⟨a, c, rfl, hn1, hc1⟩ := h.opened
  obtain ⟨a', c', rfl, hn2, hc2⟩ := h'.opened
  have HP := hid h
  have HP' := hid h'
  have SL := hid hs
  have SR := hid hs'
  have HM := hid (show m + n + 2 ≤ 68719476736 by omega)
  have HI0 : Hid (∀ i, i ≤ l.length → i * (m + n + 1) + 1 ≤ 68719476736) := hid (fun i hi => by have := Nat.mul_le_mul_right (m + n + 1) hi; omega)
  have HK := hid (mulp_of l r)
  obtain ⟨nl, hNL⟩ : ∃ nl, l.length = nl := ⟨_, rfl⟩
  obtain ⟨nr, hNR⟩ : ∃ nr, r.length = nr := ⟨_, rfl⟩
  have NL := hid hNL
  have NR := hid hNR
  rw [hNL] at hn1 hl HP HK HI0 ⊢
  rw [hNR] at hn2 hr HP' HK ⊢
  clear h h' hs hs' hm hNL hNR
  unfold maxLen at hc1 hc2
  go_enter Try.func17, Try.ntmps17
  go_wp2_with (refine wpList_make_ns _ rfl _ _ _ rfl Try.underlying36 (nl + nr) (by show Value.int .i64 ((nl : Int) + nr) = _; push_cast; rfl) (by show Value.int .i64 ((nl : Int) + nr) = _; push_cast; rfl) (by omega) ?_)
  intro w0 hrow hb0 hs0
  have B := hid hb0
  have ROW := hid hrow
  have HB := hid (Nat.le_refl w.heap.size)
  have HW : Hid (∀ t, t < nl + nr → NF w0 (nag Nz) (psum l r 0 t)) := hid (fun t ht => NF.zero w0)
  clear hrow hb0 hs0
  go_wp2_with fail
  obtain ⟨b0, hb0⟩ : ∃ b0, b0 = w.heap.size := ⟨_, rfl⟩
  have HB := hid (show w.heap.size ≤ b0 by omega)
  rw [← hb0] at ROW ⊢
  clear hb0
  have W0 : ∃ rs : Nat → Nr, Hid (NRw w0 b0 (nl + nr) rs) ∧ Hid (∀ t, t < nl + nr → NF w0 (nag (rs t)) (psum l r 0 t)) := ⟨_, ROW, HW⟩
  clear ROW HW
  obtain ⟨rs0, ROW, HW⟩ := W0
  go_loopw [18] (fun x wr => ∃ (i : Nat) (rs : Nat → Nr), i ≤ nl ∧ x = .int .i64 i ∧ Hid (NRw wr b0 (nl + nr) rs) ∧ Hid (∀ t, t < nl + nr → NF wr (nag (rs t)) (psum l r i t)) ∧ Hid (Below w.heap.size w wr)) (fun x _ => nl - (intOf x).toNat)
  case atStart => exact ⟨0, rs0, by omega, rfl, ROW, HW, B⟩
  case round =>
    clear ROW HW B
    obtain ⟨i, rs, hi, rfl, ROW, HW, B⟩ := hrel
    by_cases hlt : i < nl
    · obtain ⟨b5, s5a, p5a, n5a, c5a, s5b, p5b, n5b, c5b, rfl, hb5, cd5, hq5⟩ := pn_at HP.out B.out (i := i) (by rw [NL.out]; exact hlt)
      have HQ := hid hq5
      have HI := hid (HI0.out i hi)
      clear hq5
      have LB := hid ROW.out.lt
      obtain ⟨hb301, hx302, hs303⟩ := Nbx.made wr s5a s5b (.slice p5a n5a c5a) (.slice p5b n5b c5b)
      replace HQ := nf HQ hb301
      replace ROW := rwo ROW hb301
      replace HW := hid (fun q_ hq_ => (HW.out q_ hq_).on hb301)
      replace B := bb B hb301
      have X7 := hid hx302
      clear hb301 hx302
      have cc304 := X7.out.cells
      go_wp2_with fail
      generalize hW : wr.alloc (.cells #[.bool s5a, .slice p5a n5a c5a, .bool s5b, .slice p5b n5b c5b] 52) = W305 at *
      clear hW
      obtain ⟨g7, hg7⟩ : ∃ g7, g7 = wr.heap.size := ⟨_, rfl⟩
      rw [← hg7] at X7 LB ⊢
      have LG := LB
      clear cc304 hg7 LB cd5
      go_loopw [25] (fun x wr => ∃ (j : Nat) (rs : Nat → Nr), j ≤ nr ∧ x = .int .i64 j ∧ Hid (NRw wr b0 (nl + nr) rs) ∧ Hid (∀ t, t < nl + nr → NF wr (nag (rs t)) (pprod l r i j t)) ∧ Hid (Nbx wr g7 s5a (.slice p5a n5a c5a) s5b (.slice p5b n5b c5b)) ∧ Hid (NF wr (.agg #[.bool s5a, .slice p5a n5a c5a, .bool s5b, .slice p5b n5b c5b]) (co l i)) ∧ Hid (Below w.heap.size w wr)) (fun x _ => nr - (intOf x).toNat)
      case atStart => exact ⟨0, rs, by omega, rfl, ROW, hid (fun t ht => (HW.out t ht).cast (pprod_start l r i t).symm), X7, HQ, B⟩
      case round =>
        clear ROW HW B X7 HQ
        obtain ⟨j, rs, hj, rfl, ROW, HW, X7, HQ, B⟩ := hrel
        by_cases hltj : j < nr
        · have hkn : i + j < nl + nr := by omega
          have hx1 : (0 : Int) ≤ (i : Int) + (j : Int) := by omega
          have hx2 : (i : Int) + (j : Int) < (nl : Int) + (nr : Int) := by omega
          have hx3 : ((i : Int) + (j : Int)).toNat = i + j := by omega
          have hx4 : IntKind.i64.wrap ((i : Int) + (j : Int)) = (i : Int) + (j : Int) := IntWalk.i64_in _ (by omega)
          obtain ⟨b6, s6a, p6a, n6a, c6a, s6b, p6b, n6b, c6b, rfl, hb6, cd6, hq6⟩ := pn_at HP'.out B.out (i := j) (by rw [NR.out]; exact hltj)
          obtain ⟨s7a, p7a, n7a, c7a, s7b, p7b, n7b, c7b, hz7⟩ : ∃ s7a p7a n7a c7a s7b p7b n7b c7b, rs (i + j) = ((s7a, p7a, n7a, c7a), (s7b, p7b, n7b, c7b)) := ⟨_, _, _, _, _, _, _, _, rfl⟩
          have hq7 := HW.out (i + j) hkn
          rw [hz7] at hq7
          dsimp only [nag] at hq7
          have HD := hid hq6
          have HS := hid (hq7.cast (pprod_self l r i j))
          clear hq6 hq7
          obtain ⟨hb101, hx102, hs103⟩ := Nbx.made wr s6a s6b (.slice p6a n6a c6a) (.slice p6b n6b c6b)
          have L2 := hid X7.out.lt
          replace X7 := nx X7 hb101
          replace HQ := nf HQ hb101
          replace HD := nf HD hb101
          replace HS := nf HS hb101
          replace ROW := rwo ROW hb101
          replace HW := hid (fun q_ hq_ => (HW.out q_ hq_).on hb101)
          replace B := bb B hb101
          have X9 := hid hx102
          clear hb101 hx102
          have cc104 := X7.out.cells
          have cc105 := X9.out.cells
          have cr := ROW.out.cells hkn
          rw [hz7] at cr
          go_wp2_with fail
          generalize hW : wr.alloc (.cells #[.bool s6a, .slice p6a n6a c6a, .bool s6b, .slice p6b n6b c6b] 52) = W106 at *
          clear hW
          clear cr cd6 cc104 cc105
          have cc107 := X7.out.cells
          have cc108 := X9.out.cells
          replace X7 := hid X7.out.dr
          replace X9 := hid X9.out.dr
          replace HQ := hid HQ.out.drew
          replace HD := hid HD.out.drew
          replace HS := hid HS.out.drew
          replace HW := hid (fun q_ hq_ => (HW.out q_ hq_).drew)
          replace ROW := hid ROW.out.dr
          replace B := hid (Below.drew B.out)
          have cr := ROW.out.cells hkn
          rw [hz7] at cr
          have cc109 := X7.out.cells
          have cc110 := X9.out.cells
          go_region_with (first
            | (have hm := mk111_0; clear hm; go_at_call 28; refine (nadd_f HS.out HV.out (SL.out.rows SR.out (i + j) i) ((SL.out.2 i).mul (SR.out.2 j)) HI.out (by have := HM.out; omega)).mono ?_; rintro e w115 ⟨v, rfl, hv, hb⟩; obtain ⟨s9a, p9a, n9a, c9a, s9b, p9b, n9b, c9b, rfl⟩ := hv.opened; replace X7 := nx X7 hb; replace X9 := nx X9 hb; replace HQ := nf HQ hb; replace HD := nf HD hb; replace HS := nf HS hb; replace HV := nf HV hb; replace ROW := rwo ROW hb; replace HW := hid (fun q_ hq_ => (HW.out q_ hq_).on hb); replace B := bb B hb; clear cc113 cc114; have HX := hid hv; clear hb hv cr; have cc116 := X7.out.cells; have cc117 := X9.out.cells; have cr := ROW.out.cells hkn; rw [hz7] at cr; have cc118 := ROW.out.stores hkn; replace X7 := hid (X7.out.kept (ROW.out.far (i + j) (by have := HB.out; have := LG.out; have := L2.out; omega) s9a p9a n9a c9a s9b p9b n9b c9b)); replace X9 := hid (X9.out.kept (ROW.out.far (i + j) (by have := HB.out; have := LG.out; have := L2.out; omega) s9a p9a n9a c9a s9b p9b n9b c9b)); replace HQ := hid (HQ.out.put ROW.out (i + j) s9a p9a n9a c9a s9b p9b n9b c9b); replace HD := hid (HD.out.put ROW.out (i + j) s9a p9a n9a c9a s9b p9b n9b c9b); replace HS := hid (HS.out.put ROW.out (i + j) s9a p9a n9a c9a s9b p9b n9b c9b); replace HV := hid (HV.out.put ROW.out (i + j) s9a p9a n9a c9a s9b p9b n9b c9b); replace HX := hid (HX.out.put ROW.out (i + j) s9a p9a n9a c9a s9b p9b n9b c9b); replace HW := hid (fun q_ hq_ => (HW.out q_ hq_).put ROW.out (i + j) s9a p9a n9a c9a s9b p9b n9b c9b); replace B := hid (ROW.out.below B.out (i + j) (by have := HB.out; have := LG.out; have := L2.out; omega) s9a p9a n9a c9a s9b p9b n9b c9b); replace ROW := hid (ROW.out.put hkn s9a p9a n9a c9a s9b p9b n9b c9b); have mk111_1 := hid True.intro)
            | (go_at_call 29; refine (nmul_f HQ.out HD.out (SL.out.2 i) (SR.out.2 j) (by have := HM.out; omega) (by have := HM.out; omega)).mono ?_; rintro e w112 ⟨v, rfl, hv, hb⟩; obtain ⟨s8a, p8a, n8a, c8a, s8b, p8b, n8b, c8b, rfl⟩ := hv.opened; replace X7 := nx X7 hb; replace X9 := nx X9 hb; replace HQ := nf HQ hb; replace HD := nf HD hb; replace HS := nf HS hb; replace ROW := rwo ROW hb; replace HW := hid (fun q_ hq_ => (HW.out q_ hq_).on hb); replace B := bb B hb; clear cc107 cc108 cc109 cc110; have HV := hid hv; clear hb hv cr; have cc113 := X7.out.cells; have cc114 := X9.out.cells; have cr := ROW.out.cells hkn; rw [hz7] at cr; have mk111_0 := hid True.intro))
          all_goals
            go_wp2_with fail
            go_roundw
            case rel => exact ⟨j + 1, _, by omega, by go_num, ROW, hid (fun t ht => by
              by_cases htj : t = i + j
              · subst htj; rw [upd_self, pprod_next]; exact HX.out
              · rw [upd_ne _ _ htj, pprod_ne _ _ htj]; exact HW.out t ht), X7, HQ, B⟩
            case measure => simp [intOf]; omega
        · obtain rfl : j = nr := by omega
          go_wp2_with fail
          go_roundw
          case rel => exact ⟨i + 1, rs, by omega, by go_num, ROW, hid (fun t ht => (HW.out t ht).cast (pprod_end l r (by rw [NR.out]; exact Nat.le_refl _))), B⟩
          case measure => simp [intOf]; omega
    · obtain rfl : i = nl := by omega
      have HP2 : Hid (PN wr (.slice (some ⟨b0, 0, none⟩) (i + nr) (i + nr)) (lof (i + nr) fun t => psum l r i t)) := hid (ROW.out.pn (by simp [lof]) (Nat.le_refl _) (by unfold maxLen; omega) (fun t ht => (HW.out t ht).cast (by rw [co_lof, if_pos ht])))
      go_wp2_with fail
      refine (trim_p HP2.out).mono ?_
      rintro e w2 ⟨v2, rfl, hp, hb⟩
      have HR := hid hp
      have B2 := hid (B.out.trans (hb.mono B.out.size))
      clear hp hb
      go_wp2_with fail
      go_ret
      exact ⟨_, rfl, by rw [← HK.out]; exact HR.out, B2.out⟩

end Go.Proofs.Ytkenlaikhnoldaa
