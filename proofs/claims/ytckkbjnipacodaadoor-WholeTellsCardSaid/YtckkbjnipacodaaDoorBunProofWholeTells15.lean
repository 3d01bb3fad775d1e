import Derived.Test.YtckkbjnipacodaaDoorBunProofWholeTells14
import Derived.Test.YtckkbjnipacodaaDoorBunProofWholeTells13
import Derived.ChangeKeysEq
/-
  THE REFERENCE's Z: DivZ (on), WholeOf.
-/
namespace Go.Proofs.YtckkbjnipacodaaDoor
open Go.RowKit
open Num4
open Num (dg isNat dval)
set_option linter.unusedVariables false
set_option maxRecDepth 100000
set_option linter.unusedSimpArgs false

set_option maxHeartbeats 4000000 in
theorem rdivz_odd {w : World} {s' : Bool} {sv sv' : Value} {xs xs' : List Nat} {k l : Nat} (hl : LimR w sv xs) (hk : xs.length ≤ k) (hl' : LimR w sv' xs') (ht' : Trim xs') (hk' : xs'.length ≤ l) (h0 : 0 < val xs') (he : val xs % val xs' ≠ 0) (hs : val xs ≠ 0) (hkb : k ≤ 34359738368) (hlb : l ≤ 34359738368) :
    Calls Tryd.prog 28 #[.agg #[.bool true, sv], .agg #[.bool s', sv']] w fun e w' => ∃ v u, e = .returned (.tuple #[v, u]) ∧ WhlR w' v (zof true (val xs) / zof s' (val xs')) (k + 2) ∧ WhlR w' u (zof true (val xs) % zof s' (val xs')) l ∧ Below w.heap.size w w' := by
  obtain ⟨x0, x1, x2, x3, bw, sz⟩ := rboxes4 w true s' false false sv sv' (.slice none 0 0) (.slice none 0 0) hl.slice hl'.slice ⟨_, _, _, rfl⟩ ⟨_, _, _, rfl⟩
  have HD := hid (rdiv_words (hl.below bw (Nat.le_refl _)) (hl'.below bw (Nat.le_refl _)) (by omega) (by omega) ht' h0)
  obtain ⟨e1, e2⟩ := (div_signs true s' (val xs) (val xs') h0 (fun _ => hs)).2 rfl he
  rw [e1, e2, zof_add]
  have hb1 := few4 hl.1 hk
  have hq : val xs / val xs' < B ^ k := Nat.lt_of_le_of_lt (Nat.div_le_self _ _) hb1
  have hr : val xs' - val xs % val xs' < B ^ l := Nat.lt_of_le_of_lt (Nat.sub_le _ _) (few4 hl'.1 hk')
  have hm := Nat.mod_lt (val xs) h0
  have HQ := hid hq
  have HR := hid hr
  have HM := hid hm
  have HE := hid he
  have L2 := hid (hl'.below bw (Nat.le_refl _))
  have LB := hid (show xs'.length ≤ 1099511627776 by omega)
  have KB := hid hkb
  have X0 := hid x0
  have X1 := hid x1
  have X2 := hid x2
  have X3 := hid x3
  have BW := hid bw
  have SZ := hid sz
  obtain ⟨p', n', c', rfl⟩ := hl'.slice
  have hbn : (true != s') = !s' := by cases s' <;> rfl
  rw [hbn]
  clear hl hk hl' hk' h0 hs x0 x1 x2 x3 bw sz e1 e2 hq hr he hm hb1 ht'
  go_enter Tryd.func28, Tryd.ntmps28
  go_wp2_with fail
  refine HD.out.mono ?_
  rintro e w4 ⟨q, r, qs, rs, rfl, hq, hr, tq, tr, vq, vr, hb⟩
  obtain ⟨c00, c01⟩ := X0.out.keep hb
  obtain ⟨c10, c11⟩ := X1.out.keep hb
  have hn0 : ∃ n, rs.length = n ∧ (n : Int) ≠ 0 := by
    refine ⟨_, rfl, ?_⟩
    have h1 := HE.out
    rw [← vr] at h1
    cases rs with
    | nil => simp [val] at h1
    | cons => simp; omega
  obtain ⟨n, hn, hn0⟩ := hn0
  obtain ⟨p, c, rfl, _⟩ := limR_parts hr
  rw [hn] at *
  have hS := rsigned_lim (k := k) (!s') hq tq (length_le_of_val tq _ (by rw [vq]; exact HQ.out))
  rw [vq] at hS
  have HS := hid hS
  have HRR := hid hr
  have TR := hid tr
  have VR := hid vr
  have HB := hid hb
  clear hS hq hr tq tr vq vr hb HD hn
  go_wp2_with fail
  refine HS.out.mono ?_
  rintro e w5 ⟨v5, rfl, hv5, hb5⟩
  obtain ⟨s5, p5, n5, c5, rfl⟩ := hv5.opened
  obtain ⟨y0, by6, ys⟩ := rboxes1 w5 s5 (.slice p5 n5 c5) ⟨_, _, _, rfl⟩
  have y0c := y0.cell0
  have y1c := y0.cell1
  have hb6 := hb5.trans (by6.mono hb5.size)
  have hb7 := HB.out.trans (hb6.mono HB.out.size)
  obtain ⟨d00, d01⟩ := X0.out.keep hb7
  obtain ⟨d10, d11⟩ := X1.out.keep hb7
  have by7 := (Below.refl _ _).alloc (Nat.le_refl (w5.alloc (.cells #[.bool s5, .slice p5 n5 c5] 46)).heap.size) (.cells #[.int .i64 1] 3)
  have hl1 := limR_one (w := w5.alloc (.cells #[.bool s5, .slice p5 n5 c5] 46)) rfl
  rw [ys] at hl1
  obtain ⟨z0, by8, zs⟩ := rboxes1 ((w5.alloc (.cells #[.bool s5, .slice p5 n5 c5] 46)).alloc (.cells #[.int .i64 1] 3)) (!s') (.slice (some ⟨w5.heap.size + 1, 0, none⟩) 1 1) ⟨_, _, _, rfl⟩
  have es : ((w5.alloc (.cells #[.bool s5, .slice p5 n5 c5] 46)).alloc (.cells #[.int .i64 1] 3)).heap.size = w5.heap.size + 1 + 1 := by simp
  have b58 := by6.trans ((by7.trans (by8.mono by7.size)).mono by6.size)
  have y8 := y0.below (by7.trans (by8.mono by7.size)) y0.lt
  rw [es] at z0 zs
  have HB8 := hid (HB.out.trans ((hb5.trans (b58.mono hb5.size)).mono HB.out.size))
  have hone : WhlR _ (.agg #[.bool (!s'), .slice (some ⟨w5.heap.size + 1, 0, none⟩) 1 1]) (zof (!s') 1) 1 := ⟨!s', _, [1], rfl, hl1.below by8 (Nat.le_refl _), .inr (by decide), Nat.le_refl _, fun _ => by decide, rfl⟩
  have HAD := hid (raddz (hv5.on b58).drew hone.drew (by have := KB.out; omega) (by omega))
  generalize hW : (((w5.alloc (.cells #[.bool s5, .slice p5 n5 c5] 46)).alloc (.cells #[.int .i64 1] 3)).alloc (.cells #[.bool (!s'), .slice (some ⟨w5.heap.size + 1, 0, none⟩) 1 1] 46)) = W at *
  have X1W := hid (X1.out.below HB8.out X1.out.lt)
  have Y8 := hid y8
  have Z0 := hid z0
  have L5 := hid (show w.heap.size + 1 + 1 + 1 + 1 ≤ w5.heap.size by rw [← SZ.out]; exact Nat.le_trans HB.out.size hb5.size)
  have HSB := hid (fun w' (hb' : Below W.heap.size W w') => rsub_lim (L2.out.below (HB8.out.trans (hb'.mono HB8.out.size)) (Nat.le_refl _)) (HRR.out.below (((hb5.trans (b58.mono hb5.size))).trans (hb'.mono (Nat.le_trans hb5.size b58.size))) (Nat.le_refl _)) LB.out TR.out (by rw [VR.out]; exact Nat.le_of_lt HM.out))
  clear hb5 hv5 y0 by6 ys hb6 hb7 by7 hl1 z0 by8 zs es b58 y8 hone HB HRR TR HS
  go_wp2_with fail

  have a0 := Y8.out.drew.cell0
  have a1 := Y8.out.drew.cell1
  have b0 := Z0.out.drew.cell0
  have b1 := Z0.out.drew.cell1
  have e0 := X1W.out.drew.cell0
  have e1 := X1W.out.drew.cell1
  clear c00 c01 c10 c11 d00 d01 d10 d11 y0c y1c hW
  go_region_held3 (fun w' => w'.cell? ⟨w5.heap.size, 0, none⟩ = some (.bool s5) ∧ w'.cell? ⟨w5.heap.size, 1, none⟩ = some (.slice p5 n5 c5) ∧ w'.cell? ⟨w5.heap.size + 1 + 1, 0, none⟩ = some (.bool (!s')) ∧ w'.cell? ⟨w5.heap.size + 1 + 1, 1, none⟩ = some (.slice (some ⟨w5.heap.size + 1, 0, none⟩) 1 1) ∧ w'.cell? ⟨w.heap.size + 1, 1, none⟩ = some (.slice p' n' c')) (go_keep) (first
    | (go_at_call 26; refine HAD.out.mono ?_; rintro e w7 ⟨v7, rfl, hv7, hb7⟩; obtain ⟨s7, p7, n7, c7, rfl⟩ := hv7.opened; replace hb7 := below_undrew' hb7; obtain ⟨f00, f01⟩ := Y8.out.keep hb7; obtain ⟨f10, f11⟩ := Z0.out.keep hb7; obtain ⟨f20, f21⟩ := X1W.out.keep hb7; have HV7 := hid hv7; have HB7 := hid hb7; clear hv7; clear hb7)
    | (go_at_call 14; refine (HSB.out _ HB7.out).mono ?_; rintro e w9 ⟨v9, zs, rfl, hv9, tz, vz, hb9⟩; obtain ⟨p9, n9, c9, rfl⟩ := hv9.slice;
       have HV79 := hid (HV7.out.on hb9); have HWR := hid (show WhlR w9 (.agg #[.bool false, .slice p9 n9 c9]) ((val xs' - val xs % val xs' : Nat) : Int) l from ⟨false, _, zs, rfl, hv9, tz, length_le_of_val tz _ (by rw [vz, VR.out]; exact HR.out), fun e => by simp at e, by rw [vz, VR.out]; rfl⟩);
       replace hb9 := HB7.out.trans (hb9.mono HB7.out.size);
       have y1 := Y8.out.below hb9 Y8.out.lt; have y2 := Z0.out.below hb9 Z0.out.lt; have y3 := X1W.out.below hb9 X1W.out.lt;
       have i0 := y1.cell0; have i1 := y1.cell1; have i2 := y2.cell0; have i3 := y2.cell1; have i5 := y3.cell1;
       obtain ⟨m0, m1, m2, m3, _, _⟩ := y1.past (w.heap.size + 1 + 1) (w.heap.size + 1 + 1 + 1) (w.heap.size + 1 + 1 + 1) (by have := L5.out; omega) (by have := L5.out; omega) (by have := L5.out; omega);
       obtain ⟨m10, m11, m12, m13, _, _⟩ := y2.past (w.heap.size + 1 + 1) (w.heap.size + 1 + 1 + 1) (w.heap.size + 1 + 1 + 1) (by have := L5.out; omega) (by have := L5.out; omega) (by have := L5.out; omega);
       obtain ⟨m20, m21, m22, m23, _, _⟩ := y3.past (w.heap.size + 1 + 1) (w.heap.size + 1 + 1 + 1) (w.heap.size + 1 + 1 + 1) (by omega) (by omega) (by omega);
       have x2' := (X2.out.below HB8.out X2.out.lt).below hb9 (X2.out.below HB8.out X2.out.lt).lt; have x3' := (X3.out.below HB8.out X3.out.lt).below hb9 (X3.out.below HB8.out X3.out.lt).lt;
       obtain ⟨⟨q0, g0, q1, g1⟩, q2, g2, q3, g3⟩ := x2'.stores2 x3'; have HL := hid (x2'.last2 x3' ((BW.out.trans (HB8.out.mono BW.out.size)).trans (hb9.mono (Nat.le_trans BW.out.size HB8.out.size))) (show w.heap.size ≤ w.heap.size + 1 + 1 by omega) s7 false p7 p9 n7 n9 c7 c9); clear hb9; clear hv9; clear tz; clear vz; clear x2'; clear x3'; clear y1; clear y2; clear y3))
  go_wp2_with fail
  obtain ⟨r1, r2, r3, r4⟩ := HL.out
  refine bodyPost_ret (res_twocells rfl rfl rfl r1 r2) rfl ?_
  exact ⟨_, _, rfl, (r4 HV79.out).mono (by omega), r4 HWR.out, r3⟩

theorem rdivz {w : World} {v u : Value} {z y : Int} {k l : Nat} (h : WhlR w v z k) (h' : WhlR w u y l) (hy : y ≠ 0) (hk1 : 1 ≤ k) (hk : k ≤ 34359738368) (hl : l ≤ 34359738368) :
    Calls Tryd.prog 28 #[v, u] w fun e w' => ∃ v u, e = .returned (.tuple #[v, u]) ∧ WhlR w' v (z / y) (k + 2) ∧ WhlR w' u (z % y) l ∧ Below w.heap.size w w' := by
  obtain ⟨s, sv, xs, rfl, hl1, ht, hkk, hs, rfl⟩ := h
  obtain ⟨s', sv', xs', rfl, hl1', ht', hkk', hs', rfl⟩ := h'
  have h0 : 0 < val xs' := by
    apply Nat.pos_of_ne_zero
    intro e
    rw [e] at hy
    cases s' <;> simp [zof] at hy
  by_cases he : s = false ∨ val xs % val xs' = 0
  · exact rdivz_even hl1 hkk hl1' ht' hkk' h0 he hs (by omega) (by omega)
  · have hst : s = true := by
      cases s
      · exact absurd (.inl rfl) he
      · rfl
    subst hst
    exact rdivz_odd hl1 hkk hl1' ht' hkk' h0 (fun e => he (.inr e)) (hs rfl) (by omega) hl

/-- A text that is an integer is read. -/
theorem rwholeof_good {s : ByteArray} (h : GoodZ s) (w : World) :
    Calls Tryd.prog 22 #[.string s] w fun e w' => ∃ v, e = .returned (.tuple #[v, .int .i64 0]) ∧ WhlR w' v (znum s) 100 ∧ Below w.heap.size w w' := by
  obtain ⟨x0, bw, sz⟩ := rboxes1 w false (.slice none 0 0) ⟨_, _, _, rfl⟩
  have X0 := hid x0
  have BW := hid bw
  have hzl := znum_lt h
  obtain ⟨hs, hn⟩ := h
  have hs' : (s.size : Int) ≤ 100 := by omega
  cases hb : (s.data.toList.head? == some 45)
  · have h2 : isNat s.data.toList = true := by rw [isWhl, hb] at hn; simpa using hn
    have hne := Num.isNat_ne h2
    have hpos : 0 < s.size := List.length_pos_iff.2 hne
    have hnc : ¬ (s[0].toNat : Int) = 45 := by
      intro e
      rw [head_at s hpos, (u8_eq (n := 45) (by omega)).2 e] at hb
      exact absurd hb (by decide)
    have HN := hid (fun w => natof_num (s := s) ⟨hs, h2⟩ w)
    have HW := hid (show znum s = (num s : Int) by unfold znum num; rw [whlOf, hb]; rfl)
    have hps : (0 : Int) < (s.size : Int) := by omega
    clear hb h2 hne hn x0 bw sz hs hzl
    go_enter Tryd.func22, Tryd.ntmps22
    go_wp2_with fail
    refine (HN.out _).mono ?_
    rintro e w1 ⟨v, xs, rfl, hl, ht, hv, hle, hb⟩
    obtain ⟨p, n, c, rfl⟩ := hl.slice
    have x1 := X0.out.below hb X0.out.lt
    obtain ⟨c0, f0, c1, f1⟩ := x1.stores
    have HV := hid (show WhlR w1 (.agg #[.bool false, .slice p n c]) (znum s) 100 from ⟨false, _, xs, rfl, hl, ht, hle, fun e => by simp at e, by rw [HW.out, hv]; rfl⟩)
    have X1 := hid x1
    have HB := hid (BW.out.trans (hb.mono BW.out.size))
    clear hl ht hv hle hb x1 HN
    go_wp2_with fail
    obtain ⟨r1, r2, r3⟩ := X1.out.last HB.out (Nat.le_refl _) false p n c
    refine bodyPost_ret (res_cell_tmpR rfl rfl rfl r1) rfl ?_
    exact ⟨_, rfl, r3 HV.out, r2⟩
  · obtain ⟨hc1, hc2⟩ := tail_cut hb
    have hcz : cutZ 45 s = s.extract 1 s.size := by rw [cutZ, hb]; rfl
    have h2 : isNat s.data.toList.tail = true ∧ dval s.data.toList.tail ≠ 0 := by
      rw [isWhl, hb] at hn
      simpa using hn
    have hpos : 0 < s.size := by omega
    have hnc : (s[0].toNat : Int) = 45 := by
      have h1 := head_at s hpos
      cases hd : s.data.toList with
      | nil => rw [hd] at hb; simp at hb
      | cons a l =>
        rw [hd] at hb h1
        simp only [List.head?_cons, Option.some_beq_some, beq_iff_eq, Option.some.injEq] at hb h1
        rw [← h1, hb]; rfl
    have HN := natof_num (s := cutZ 45 s) ⟨by omega, by rw [hc1]; exact h2.1⟩
    have hw : znum s = -(num (cutZ 45 s) : Int) := by unfold znum num; rw [hc1, whlOf, hb]; rfl
    have hd0 : num (cutZ 45 s) ≠ 0 := by unfold num; rw [hc1]; exact h2.2
    rw [hcz] at HN hw hd0
    have HN := hid HN
    have HW := hid hw
    have HD := hid hd0
    have hps : (1 : Int) ≤ (s.size : Int) := by omega
    clear hb h2 hc1 hc2 hcz hn x0 bw sz hs hzl hw hd0
    go_enter Tryd.func22, Tryd.ntmps22
    go_wp2_with fail
    refine (HN.out _).mono ?_
    rintro e w1 ⟨v, xs, rfl, hl, ht, hv, hle, hb⟩
    have hn0 : ∃ n, xs.length = n ∧ (n : Int) ≠ 0 := by
      refine ⟨_, rfl, ?_⟩
      have h1 := HD.out
      rw [← hv] at h1
      cases xs with
      | nil => simp [val] at h1
      | cons => simp; omega
    obtain ⟨n, hn, hn0⟩ := hn0
    obtain ⟨p, c, rfl, _⟩ := limR_parts hl
    rw [hn] at *
    have x1 := X0.out.below hb X0.out.lt
    obtain ⟨c0, f0, c1, f1⟩ := x1.stores
    have HV := hid (show WhlR w1 (.agg #[.bool true, .slice p n c]) (znum s) 100 from ⟨true, _, xs, rfl, hl, ht, by omega, fun e => by rw [hv]; exact HD.out, by rw [HW.out, hv]; rfl⟩)
    have X1 := hid x1
    have HB := hid (BW.out.trans (hb.mono BW.out.size))
    clear hl ht hv hle hb x1 HN hn
    go_wp2_with fail
    obtain ⟨r1, r2, r3⟩ := X1.out.last HB.out (Nat.le_refl _) true p n c
    refine bodyPost_ret (res_cell_tmpR rfl rfl rfl r1) rfl ?_
    exact ⟨_, rfl, r3 HV.out, r2⟩

end Go.Proofs.YtckkbjnipacodaaDoor

/-
  THE REFERENCE's Z: GcdZ.
-/
namespace Go.Proofs.YtckkbjnipacodaaDoor
open Go.RowKit
open Num4
open Num (dg isNat dval zg zg_zero zg_step zg_ind zg_small)
set_option linter.unusedVariables false
set_option maxRecDepth 100000
set_option linter.unusedSimpArgs false

theorem WhlR.lt {w : World} {v : Value} {z : Int} {k : Nat} (h : WhlR w v z k) : z.natAbs < B ^ k := by
  obtain ⟨s, sv, xs, h1, h2, h3, h4, h5, h6⟩ := h
  rw [← h6, natAbs_zof]
  exact few4 h2.1 h4

/-- What GcdZ tells. -/
def GcdsR (w : World) (a b : Int) (K : Nat) (e : Ending) (w' : World) : Prop :=
  ∃ vg v2 v3, e = .returned (.tuple #[vg, v2, v3]) ∧ WhlR w' (.agg #[.bool false, vg]) (zg a b).1 K ∧ WhlR w' v2 (zg a b).2.1 K ∧ WhlR w' v3 (zg a b).2.2 K ∧ Below w.heap.size w w'

set_option maxHeartbeats 4000000 in
theorem rgcdz_zero {w : World} {v u : Value} {a : Int} {K : Nat} (h : WhlR w v a K) (h' : WhlR w u 0 K) (hK1 : 1 ≤ K) :
    Calls Tryd.prog 24 #[v, u] w (GcdsR w a 0 K) := by
  obtain ⟨s', sv', xs', rfl, hl', ht', hk', hs', hz'⟩ := h'
  have hx' : xs' = [] := by
    apply ht'.zero_iff.1
    rw [← natAbs_zof s' (val xs'), hz']; rfl
  subst hx'
  obtain ⟨p', c', rfl, _⟩ := limR_parts hl'
  obtain ⟨s, sv, xs, rfl, hl, ht, hk, hs, hz⟩ := h.neg
  obtain ⟨p, c, rfl, _⟩ := limR_parts hl
  obtain ⟨x0, x1, x2, x3, bw, sz⟩ := rboxes4 w s s' false false (.slice p xs.length c) (.slice p' 0 c') (.slice none 0 0) (.slice none 0 0) ⟨_, _, _, rfl⟩ ⟨_, _, _, rfl⟩ ⟨_, _, _, rfl⟩ ⟨_, _, _, rfl⟩
  have hcase : (xs.length = 0 ∧ s = false ∧ a.sign = 0) ∨ (xs.length ≠ 0 ∧ s = false ∧ a.sign = 1) ∨ (xs.length ≠ 0 ∧ s = true ∧ a.sign = -1) := by
    by_cases h0 : xs.length = 0
    · have : xs = [] := List.length_eq_zero_iff.1 h0
      subst this
      have ha : a = 0 := by
        have : a.natAbs = 0 := by rw [← hz]; rfl
        omega
      subst ha
      exact .inl ⟨rfl, hs, rfl⟩
    · have hp : val xs ≠ 0 := by
        intro e
        exact h0 (by rw [ht.zero_iff.1 e]; rfl)
      cases s with
      | false =>
        have : ¬ a < 0 := of_decide_eq_false hs.symm
        exact .inr (.inl ⟨h0, rfl, Int.sign_eq_one_of_pos (by omega)⟩)
      | true =>
        have : a < 0 := of_decide_eq_true hs.symm
        exact .inr (.inr ⟨h0, rfl, Int.sign_eq_neg_one_of_neg this⟩)
  have HL := hid hl
  have HT := hid ht
  have HZ := hid hz
  have HK := hid (And.intro hk hK1)
  have HSM := hid (fun w => rsmallz a.sign (by rcases hcase with h | h | h <;> omega) (by rcases hcase with h | h | h <;> omega) w)
  have X0 := hid x0
  have X2 := hid x2
  have X3 := hid x3
  have BW := hid bw
  have SZ := hid sz
  have e0 := x0.drew.cell0
  have e1 := x0.drew.cell1
  generalize hn : xs.length = n at *
  have HN := hid hn
  clear hl' ht' hk' hs' hz' hl ht hk hs hz x0 x1 x2 x3 bw sz hn hK1 h
  rcases hcase with ⟨h1, rfl, h3⟩ | ⟨h1, rfl, h3⟩ | ⟨h1, rfl, h3⟩
  · rw [h3] at HSM
    have HSG := hid h3
    clear h3
    subst h1
    go_enter Tryd.func24, Tryd.ntmps24
    go_wp2_with fail
    go_region_held3 (fun w' => w'.cell? ⟨w.heap.size, 1, none⟩ = some (.slice p 0 c)) (go_keep) (first
      | (go_at_call 52; refine (HSM.out _).mono ?_; rintro e w6 ⟨v6, rfl, hv6, hb6⟩; obtain ⟨s6, p6, n6, c6, rfl⟩ := hv6.opened; replace hb6 := below_undrew' hb6;
         have y0 := X0.out.below hb6 X0.out.lt; have i1 := y0.cell1; obtain ⟨_, m1, _, m3, _, _⟩ := y0.past (w.heap.size + 1 + 1) (w.heap.size + 1 + 1 + 1) (w.heap.size + 1 + 1 + 1) (by omega) (by omega) (by omega);
         have x2' := X2.out.below hb6 X2.out.lt; have x3' := X3.out.below hb6 X3.out.lt; obtain ⟨⟨q0, g0, q1, g1⟩, q2, g2, q3, g3⟩ := x2'.stores2 x3';
         have HLL := hid (x2'.last2 x3' (BW.out.trans (hb6.mono BW.out.size)) (show w.heap.size ≤ w.heap.size + 1 + 1 by omega) s6 false p6 none n6 0 c6 0); have HV6 := hid hv6;
         have HL6 := hid (show WhlR w6 (.agg #[.bool false, .slice p 0 c]) (a.natAbs : Int) K from ⟨false, _, xs, rfl, HL.out.below (BW.out.trans (hb6.mono BW.out.size)) (Nat.le_refl _), HT.out, (by rw [HN.out]; exact HK.out.1), fun e => by simp at e, by rw [HZ.out]; rfl⟩);
         clear hv6; clear hb6; clear x2'; clear x3'; clear y0))
    go_wp2_with fail
    obtain ⟨r1, r2, r3, r4⟩ := HLL.out
    refine bodyPost_ret (res_tmp_twocells rfl rfl rfl rfl r1 r2) rfl ?_
    refine ⟨_, _, _, rfl, ?_, ?_, ?_, r3⟩
    · rw [zg_zero]; exact r4 HL6.out
    · rw [zg_zero, HSG.out]; exact (r4 HV6.out).mono HK.out.2
    · rw [zg_zero]; exact ⟨false, _, [], rfl, LimR.nil _, .inl rfl, Nat.zero_le _, fun e => by simp at e, rfl⟩
  · rw [h3] at HSM
    have HSG := hid h3
    clear h3
    have hn0 : (n : Int) ≠ 0 := by omega
    go_enter Tryd.func24, Tryd.ntmps24
    go_wp2_with fail
    go_region_held3 (fun w' => w'.cell? ⟨w.heap.size, 1, none⟩ = some (.slice p n c)) (go_keep) (first
      | (go_at_call 52; refine (HSM.out _).mono ?_; rintro e w6 ⟨v6, rfl, hv6, hb6⟩; obtain ⟨s6, p6, n6, c6, rfl⟩ := hv6.opened; replace hb6 := below_undrew' hb6;
         have y0 := X0.out.below hb6 X0.out.lt; have i1 := y0.cell1; obtain ⟨_, m1, _, m3, _, _⟩ := y0.past (w.heap.size + 1 + 1) (w.heap.size + 1 + 1 + 1) (w.heap.size + 1 + 1 + 1) (by omega) (by omega) (by omega);
         have x2' := X2.out.below hb6 X2.out.lt; have x3' := X3.out.below hb6 X3.out.lt; obtain ⟨⟨q0, g0, q1, g1⟩, q2, g2, q3, g3⟩ := x2'.stores2 x3';
         have HLL := hid (x2'.last2 x3' (BW.out.trans (hb6.mono BW.out.size)) (show w.heap.size ≤ w.heap.size + 1 + 1 by omega) s6 false p6 none n6 0 c6 0); have HV6 := hid hv6;
         have HL6 := hid (show WhlR w6 (.agg #[.bool false, .slice p n c]) (a.natAbs : Int) K from ⟨false, _, xs, rfl, HL.out.below (BW.out.trans (hb6.mono BW.out.size)) (Nat.le_refl _), HT.out, (by rw [HN.out]; exact HK.out.1), fun e => by simp at e, by rw [HZ.out]; rfl⟩);
         clear hv6; clear hb6; clear x2'; clear x3'; clear y0))
    go_wp2_with fail
    obtain ⟨r1, r2, r3, r4⟩ := HLL.out
    refine bodyPost_ret (res_tmp_twocells rfl rfl rfl rfl r1 r2) rfl ?_
    refine ⟨_, _, _, rfl, ?_, ?_, ?_, r3⟩
    · rw [zg_zero]; exact r4 HL6.out
    · rw [zg_zero, HSG.out]; exact (r4 HV6.out).mono HK.out.2
    · rw [zg_zero]; exact ⟨false, _, [], rfl, LimR.nil _, .inl rfl, Nat.zero_le _, fun e => by simp at e, rfl⟩
  · rw [h3] at HSM
    have HSG := hid h3
    clear h3
    have hn0 : (n : Int) ≠ 0 := by omega
    go_enter Tryd.func24, Tryd.ntmps24
    go_wp2_with fail
    go_region_held3 (fun w' => w'.cell? ⟨w.heap.size, 1, none⟩ = some (.slice p n c)) (go_keep) (first
      | (go_at_call 52; refine (HSM.out _).mono ?_; rintro e w6 ⟨v6, rfl, hv6, hb6⟩; obtain ⟨s6, p6, n6, c6, rfl⟩ := hv6.opened; replace hb6 := below_undrew' hb6;
         have y0 := X0.out.below hb6 X0.out.lt; have i1 := y0.cell1; obtain ⟨_, m1, _, m3, _, _⟩ := y0.past (w.heap.size + 1 + 1) (w.heap.size + 1 + 1 + 1) (w.heap.size + 1 + 1 + 1) (by omega) (by omega) (by omega);
         have x2' := X2.out.below hb6 X2.out.lt; have x3' := X3.out.below hb6 X3.out.lt; obtain ⟨⟨q0, g0, q1, g1⟩, q2, g2, q3, g3⟩ := x2'.stores2 x3';
         have HLL := hid (x2'.last2 x3' (BW.out.trans (hb6.mono BW.out.size)) (show w.heap.size ≤ w.heap.size + 1 + 1 by omega) s6 false p6 none n6 0 c6 0); have HV6 := hid hv6;
         have HL6 := hid (show WhlR w6 (.agg #[.bool false, .slice p n c]) (a.natAbs : Int) K from ⟨false, _, xs, rfl, HL.out.below (BW.out.trans (hb6.mono BW.out.size)) (Nat.le_refl _), HT.out, (by rw [HN.out]; exact HK.out.1), fun e => by simp at e, by rw [HZ.out]; rfl⟩);
         clear hv6; clear hb6; clear x2'; clear x3'; clear y0))
    go_wp2_with fail
    obtain ⟨r1, r2, r3, r4⟩ := HLL.out
    refine bodyPost_ret (res_tmp_twocells rfl rfl rfl rfl r1 r2) rfl ?_
    refine ⟨_, _, _, rfl, ?_, ?_, ?_, r3⟩
    · rw [zg_zero]; exact r4 HL6.out
    · rw [zg_zero, HSG.out]; exact (r4 HV6.out).mono HK.out.2
    · rw [zg_zero]; exact ⟨false, _, [], rfl, LimR.nil _, .inl rfl, Nat.zero_le _, fun e => by simp at e, rfl⟩

set_option maxHeartbeats 8000000 in
theorem rgcdz_step {w : World} {v u : Value} {a b : Int} {K : Nat} (h : WhlR w v a K) (h' : WhlR w u b K) (hb0 : b ≠ 0) (hK1 : 1 ≤ K) (hK : K ≤ 1073741824)
    (ih : ∀ (w : World) (v u : Value), WhlR w v b K → WhlR w u (a % b) K → Calls Tryd.prog 24 #[v, u] w (GcdsR w b (a % b) K)) :
    Calls Tryd.prog 24 #[v, u] w (GcdsR w a b K) := by
  have hyb : (zg a b).2.2.natAbs < B ^ K := by
    have h1 := (zg_small a b hb0).2
    have h2 := h.lt
    have h3 : 1 < B ^ K := Nat.lt_of_lt_of_le (show 1 < B ^ 1 by decide) (Nat.pow_le_pow_right (by decide) hK1)
    omega
  obtain ⟨s, p, n, c, rfl⟩ := h.opened
  obtain ⟨s', sv', xs', hvu, hl', ht', hk', hs', hz'⟩ := id h'
  have hn0 : xs'.length ≠ 0 := by
    intro e
    have : xs' = [] := List.length_eq_zero_iff.1 e
    subst this
    apply hb0
    rw [← hz']
    cases s' <;> rfl
  obtain ⟨p', c', rfl, _⟩ := limR_parts hl'
  subst hvu
  obtain ⟨x0, x1, x2, x3, bw, sz⟩ := rboxes4 w s s' false false (.slice p n c) (.slice p' xs'.length c') (.slice none 0 0) (.slice none 0 0) ⟨_, _, _, rfl⟩ ⟨_, _, _, rfl⟩ ⟨_, _, _, rfl⟩ ⟨_, _, _, rfl⟩
  have HD := hid (rdivz (h.on bw) (h'.on bw) hb0 hK1 (by omega) (by omega))
  have HIH := hid ih
  have HYB := hid hyb
  have HB' := hid (h'.on bw)
  have X1 := hid x1
  have X2 := hid x2
  have X3 := hid x3
  have BW := hid bw
  have SZ := hid sz
  have B0 := hid hb0
  have KB := hid (And.intro hK1 hK)
  generalize hn : xs'.length = n' at *
  have hn0' : (n' : Int) ≠ 0 := by omega
  clear hl' ht' hk' hs' hz' h h' hyb x0 x1 x2 x3 bw sz hb0 hK1 hK hn hn0 ih
  go_enter Tryd.func24, Tryd.ntmps24
  go_wp2_with fail
  refine HD.out.mono ?_
  rintro e w4 ⟨vq, vr, rfl, hq, hr, hb4⟩
  obtain ⟨sq, pq, nq, cq, rfl⟩ := hq.opened
  obtain ⟨sr, pr, nr, cr, rfl⟩ := hr.opened
  obtain ⟨y0, y1, by5, ys⟩ := rboxes2 w4 sq sr (.slice pq nq cq) (.slice pr nr cr) ⟨_, _, _, rfl⟩ ⟨_, _, _, rfl⟩
  have hb5 := hb4.trans (by5.mono hb4.size)
  obtain ⟨c10, c11⟩ := X1.out.keep hb5
  have HB5 := hid hb5
  have HC := hid (HIH.out _ _ _ (HB'.out.on hb5) (hr.on by5))
  have HQ5 := hid (hq.on by5)
  have Y0 := hid y0
  have YS := hid ys
  have L4 := hid (show w.heap.size + 1 + 1 + 1 + 1 ≤ w4.heap.size by rw [← SZ.out]; exact hb4.size)
  clear hq hr hb4 y0 y1 by5 ys hb5 HD
  go_wp2_with fail
  refine HC.out.mono ?_
  rintro e w6 ⟨vg, v2, v3, rfl, h1, h2, h3, hb6⟩
  obtain ⟨s2, p2, n2, c2, rfl⟩ := h2.opened
  obtain ⟨s3, p3, n3, c3, rfl⟩ := h3.opened
  obtain ⟨z0, z1, by7, ys7⟩ := rboxes2 w6 s2 s3 (.slice p2 n2 c2) (.slice p3 n3 c3) ⟨_, _, _, rfl⟩ ⟨_, _, _, rfl⟩
  have hb7 := hb6.trans (by7.mono hb6.size)
  have hM := rmulz (HQ5.out.on hb7).drew (h3.on by7).drew (by have := KB.out; omega) (by have := KB.out; omega)
  have HM := hid hM
  have hs6 := hb6.size
  rw [YS.out] at hs6
  have L6 := hid hs6
  have y8 := Y0.out.below hb7 Y0.out.lt
  have t00 := z0.drew.cell0
  have t01 := z0.drew.cell1
  have t10 := z1.drew.cell0
  have t11 := z1.drew.cell1
  have t20 := y8.drew.cell0
  have t21 := y8.drew.cell1
  have HX := hid (h2.on by7)
  have HY := hid (h3.on by7)
  have HG := hid (h1.on by7)
  have B7 := hid (HB5.out.trans (hb7.mono HB5.out.size))
  have Z0 := hid z0
  have Z1 := hid z1
  have Y8 := hid y8
  clear h1 h2 h3 hb6 by7 ys7 hb7 hM hs6 y8 z0 z1 HC
  go_wp2_with fail
  generalize hW : ((w6.alloc (.cells #[.bool s2, .slice p2 n2 c2] 46)).alloc (.cells #[.bool s3, .slice p3 n3 c3] 46)) = W at *
  have HAD := hid (fun w' v' (hb : Below W.heap.size W w') (hv' : WhlR w' v' (-(a / b * (zg b (a % b)).2.2)) (K + 2 + K)) => raddz (HX.out.on hb) hv' (by have := KB.out; omega) (by have := KB.out; omega))
  clear hW
  go_region_held3 (fun w' => w'.cell? ⟨w6.heap.size, 0, none⟩ = some (.bool s2) ∧ w'.cell? ⟨w6.heap.size, 1, none⟩ = some (.slice p2 n2 c2) ∧ w'.cell? ⟨w6.heap.size + 1, 0, none⟩ = some (.bool s3) ∧ w'.cell? ⟨w6.heap.size + 1, 1, none⟩ = some (.slice p3 n3 c3) ∧ w'.cell? ⟨w4.heap.size, 0, none⟩ = some (.bool sq) ∧ w'.cell? ⟨w4.heap.size, 1, none⟩ = some (.slice pq nq cq)) (go_keep) (first
    | (go_at_call 27; refine HM.out.mono ?_; rintro e w8 ⟨v8, rfl, hv8, hb8⟩; obtain ⟨s8, p8, n8, c8, rfl⟩ := hv8.opened; replace hb8 := below_undrew' hb8; obtain ⟨d00, d01⟩ := Z0.out.keep hb8; obtain ⟨d10, d11⟩ := Z1.out.keep hb8; obtain ⟨d20, d21⟩ := Y8.out.keep hb8; have HN8 := hid (rneg_whl hv8); have HB8 := hid hb8; clear hv8; clear hb8)
    | (go_at_call 53; refine HN8.out.mono ?_; rintro e w9 ⟨v9, rfl, hv9, hb9⟩; obtain ⟨s9, p9, n9, c9, rfl⟩ := hv9.opened; replace hb9 := HB8.out.trans (hb9.mono HB8.out.size); obtain ⟨e00, e01⟩ := Z0.out.keep hb9; obtain ⟨e10, e11⟩ := Z1.out.keep hb9; obtain ⟨e20, e21⟩ := Y8.out.keep hb9; have HA9 := hid (HAD.out _ _ hb9 hv9); have HB9 := hid hb9; clear hv9; clear hb9)
    | (go_at_call 26; refine HA9.out.mono ?_; rintro e w10 ⟨v10, rfl, hv10, hb10⟩; obtain ⟨s10, p10, n10, c10, rfl⟩ := hv10.opened; replace hb10 := HB9.out.trans (hb10.mono HB9.out.size);
       have y1 := Z0.out.below hb10 Z0.out.lt; have y2 := Z1.out.below hb10 Z1.out.lt; have y3 := Y8.out.below hb10 Y8.out.lt;
       have i0 := y1.cell0; have i1 := y1.cell1; have i2 := y2.cell0; have i3 := y2.cell1; have i4 := y3.cell0; have i5 := y3.cell1;
       obtain ⟨m0, m1, m2, m3, _, _⟩ := y1.past (w.heap.size + 1 + 1) (w.heap.size + 1 + 1 + 1) (w.heap.size + 1 + 1 + 1) (by have := L4.out; have := L6.out; omega) (by have := L4.out; have := L6.out; omega) (by have := L4.out; have := L6.out; omega);
       obtain ⟨m10, m11, m12, m13, _, _⟩ := y2.past (w.heap.size + 1 + 1) (w.heap.size + 1 + 1 + 1) (w.heap.size + 1 + 1 + 1) (by have := L4.out; have := L6.out; omega) (by have := L4.out; have := L6.out; omega) (by have := L4.out; have := L6.out; omega);
       obtain ⟨m20, m21, m22, m23, _, _⟩ := y3.past (w.heap.size + 1 + 1) (w.heap.size + 1 + 1 + 1) (w.heap.size + 1 + 1 + 1) (by have := L4.out; have := L6.out; omega) (by have := L4.out; have := L6.out; omega) (by have := L4.out; have := L6.out; omega);
       have x2' := (X2.out.below B7.out X2.out.lt).below hb10 (X2.out.below B7.out X2.out.lt).lt; have x3' := (X3.out.below B7.out X3.out.lt).below hb10 (X3.out.below B7.out X3.out.lt).lt;
       obtain ⟨⟨q0, g0, q1, g1⟩, q2, g2, q3, g3⟩ := x2'.stores2 x3'; have HLL := hid (x2'.last2 x3' ((BW.out.trans (B7.out.mono BW.out.size)).trans (hb10.mono (Nat.le_trans BW.out.size B7.out.size))) (show w.heap.size ≤ w.heap.size + 1 + 1 by omega) s3 s10 p3 p10 n3 n10 c3 c10);
       have HV10 := hid hv10; have HB10 := hid hb10; clear hb10; clear hv10; clear x2'; clear x3'; clear y1; clear y2; clear y3))
  go_wp2_with fail
  obtain ⟨r1, r2, r3, r4⟩ := HLL.out
  refine bodyPost_ret (res_tmp_twocells rfl rfl rfl rfl r1 r2) rfl ?_
  refine ⟨_, _, _, rfl, ?_, ?_, ?_, r3⟩
  · rw [zg_step a b B0.out]; exact r4 (HG.out.on HB10.out)
  · rw [zg_step a b B0.out]; exact r4 (HY.out.on HB10.out)
  · have h := r4 HV10.out
    rw [← Int.sub_eq_add_neg] at h
    rw [zg_step a b B0.out] at HYB ⊢
    exact h.fit K HYB.out

theorem rgcdz (K : Nat) (hK1 : 1 ≤ K) (hK : K ≤ 1073741824) (a b : Int) : ∀ (w : World) (v u : Value), WhlR w v a K → WhlR w u b K → Calls Tryd.prog 24 #[v, u] w (GcdsR w a b K) := by
  refine zg_ind (P := fun a b => ∀ (w : World) (v u : Value), WhlR w v a K → WhlR w u b K → Calls Tryd.prog 24 #[v, u] w (GcdsR w a b K)) ?_ ?_ a b
  · intro a w v u h h'; exact rgcdz_zero h h' hK1
  · intro a b hb ih w v u h h'; exact rgcdz_step h h' hb hK1 hK ih



end Go.Proofs.YtckkbjnipacodaaDoor

/-
  THE REFERENCE's WholeOf OF ANY TEXT.
-/
namespace Go.Proofs.YtckkbjnipacodaaDoor
open Go.RowKit
open Num4
open Num (dg isNat dval zg zg_zero zg_step zg_ind zg_small)
set_option linter.unusedVariables false
set_option maxRecDepth 100000
set_option linter.unusedSimpArgs false

set_option maxHeartbeats 1000000 in
theorem rwholeof_bad {s : ByteArray} {k : Int} (h : BadZ s k) (w : World) (hs : s.size ≤ maxLen) :
    Calls Tryd.prog 22 #[.string s] w fun e w' => ∃ t p n c, e = .returned (.tuple #[.agg #[.bool t, .slice p n c], .int .i64 k]) ∧ Below w.heap.size w w' := by
  obtain ⟨x0, bw, sz⟩ := rboxes1 w false (.slice none 0 0) ⟨_, _, _, rfl⟩
  have X0 := hid x0
  have BW := hid bw
  unfold maxLen at hs
  rcases h with ⟨h, rfl⟩ | ⟨h, hn, rfl⟩
  · have h' : (100 : Int) < (s.size : Int) := by omega
    clear x0 bw sz h
    go_enter Tryd.func22, Tryd.ntmps22
    go_wp2_with fail
    refine bodyPost_ret (res_cell_tmpR rfl rfl rfl X0.out) rfl ?_
    exact ⟨_, _, _, _, rfl, BW.out⟩
  · have h' : (s.size : Int) ≤ 100 := by omega
    have fin : ∀ (w1 : World) (a : Bool) (p : Option Addr) (n c : Nat), Below (w.alloc (.cells #[.bool false, .slice none 0 0] 46)).heap.size (w.alloc (.cells #[.bool false, .slice none 0 0] 46)) w1 → BoxR ((w1.setCell ⟨w.heap.size, 0, none⟩ (.bool a)).setCell ⟨w.heap.size, 1, none⟩ (.slice p n c)) w.heap.size a (.slice p n c) ∧ Below w.heap.size w ((w1.setCell ⟨w.heap.size, 0, none⟩ (.bool a)).setCell ⟨w.heap.size, 1, none⟩ (.slice p n c)) := by
      intro w1 a p n c hb
      obtain ⟨r1, r2, r3⟩ := (X0.out.below hb X0.out.lt).last (BW.out.trans (hb.mono BW.out.size)) (Nat.le_refl _) a p n c
      exact ⟨r1, r2⟩
    have FIN := hid fin
    have sto : ∀ (w1 : World), Below (w.alloc (.cells #[.bool false, .slice none 0 0] 46)).heap.size (w.alloc (.cells #[.bool false, .slice none 0 0] 46)) w1 → _ := fun w1 hb => (X0.out.below hb X0.out.lt).stores
    have STO := hid sto
    clear x0 bw sz fin sto
    by_cases hp : (0 : Int) < (s.size : Int)
    · have hpos : 0 < s.size := by omega
      have hh := head_at s hpos
      by_cases hm : (s[0].toNat : Int) = 45
      · have hb : (s.data.toList.head? == some 45) = true := by
          rw [hh, (u8_eq (n := 45) (by omega)).2 hm]; rfl
        obtain ⟨hc1, hc2⟩ := tail_cut hb
        have hcz : cutZ 45 s = s.extract 1 s.size := by rw [cutZ, hb]; rfl
        have h1 : (1 : Int) ≤ (s.size : Int) := by omega
        by_cases h2 : isNat s.data.toList.tail = true
        · have h3 : dval s.data.toList.tail = 0 := by
            rw [isWhl, hb] at hn
            simpa [h2] using hn
          have HN := natof_num (s := cutZ 45 s) ⟨by omega, by rw [hc1]; exact h2⟩
          have hd0 : num (cutZ 45 s) = 0 := by unfold num; rw [hc1]; exact h3
          rw [hcz] at HN hd0
          have HN := hid HN
          have HD := hid hd0
          clear hb h2 hc1 hc2 hcz hn h3 hd0 hh h
          go_enter Tryd.func22, Tryd.ntmps22
          go_wp2_with fail
          refine (HN.out _).mono ?_
          rintro e w1 ⟨v, xs, rfl, hl, ht, hv, hle, hb⟩
          have h4 : xs = [] := ht.zero_iff.1 (by rw [hv, HD.out])
          subst h4
          obtain ⟨p, c, rfl, _⟩ := limR_parts hl
          obtain ⟨c0, f0, c1, f1⟩ := STO.out w1 hb
          have HF := hid (FIN.out w1 true p 0 c hb)
          clear hl ht hv hle hb HN STO FIN
          simp only [List.length_nil]
          go_wp2_with fail
          refine bodyPost_ret (res_cell_tmpR rfl rfl rfl HF.out.1) rfl ?_
          exact ⟨_, _, _, _, rfl, HF.out.2⟩
        · have h2' : isNat (cutZ 45 s).data.toList = false := by rw [hc1]; simpa using h2
          have HN := fun w => natof_bad (s := cutZ 45 s) (k := 1) w (by unfold maxLen; omega) (.inr ⟨by omega, h2', rfl⟩)
          rw [hcz] at HN
          have HN := hid HN
          clear hb h2 hc1 hc2 hcz hn h2' hh h
          go_enter Tryd.func22, Tryd.ntmps22
          go_wp2_with fail
          refine (HN.out _).mono ?_
          rintro e w1 ⟨rfl, hb⟩
          obtain ⟨c0, f0, c1, f1⟩ := STO.out w1 hb
          have HF := hid (FIN.out w1 true none 0 0 hb)
          clear hb HN STO FIN
          go_wp2_with fail
          refine bodyPost_ret (res_cell_tmpR rfl rfl rfl HF.out.1) rfl ?_
          exact ⟨_, _, _, _, rfl, HF.out.2⟩
      · have hb : (s.data.toList.head? == some 45) = false := by
          rw [hh, beq_eq_false_iff_ne]
          intro e
          simp only [Option.some.injEq] at e
          exact hm (by rw [e]; rfl)
        have h2 : isNat s.data.toList = false := by rw [isWhl, hb] at hn; simpa using hn
        have HN := hid (fun w => natof_bad (s := s) (k := 1) w (by unfold maxLen; omega) (.inr ⟨h, h2, rfl⟩))
        clear hb h2 hn hh h
        go_enter Tryd.func22, Tryd.ntmps22
        go_wp2_with fail
        refine (HN.out _).mono ?_
        rintro e w1 ⟨rfl, hb⟩
        obtain ⟨c0, f0, c1, f1⟩ := STO.out w1 hb
        have HF := hid (FIN.out w1 false none 0 0 hb)
        clear hb HN STO FIN
        go_wp2_with fail
        refine bodyPost_ret (res_cell_tmpR rfl rfl rfl HF.out.1) rfl ?_
        exact ⟨_, _, _, _, rfl, HF.out.2⟩
    · have hb : (s.data.toList.head? == some 45) = false := by
        have hl : s.data.toList.length = s.size := rfl
        cases hd : s.data.toList with
        | nil => rfl
        | cons a l => rw [hd] at hl; simp at hl; omega
      have h2 : isNat s.data.toList = false := by rw [isWhl, hb] at hn; simpa using hn
      have HN := hid (fun w => natof_bad (s := s) (k := 1) w (by unfold maxLen; omega) (.inr ⟨h, h2, rfl⟩))
      clear hb h2 hn h
      go_enter Tryd.func22, Tryd.ntmps22
      go_wp2_with fail
      refine (HN.out _).mono ?_
      rintro e w1 ⟨rfl, hb⟩
      obtain ⟨c0, f0, c1, f1⟩ := STO.out w1 hb
      have HF := hid (FIN.out w1 false none 0 0 hb)
      clear hb HN STO FIN
      go_wp2_with fail
      refine bodyPost_ret (res_cell_tmpR rfl rfl rfl HF.out.1) rfl ?_
      exact ⟨_, _, _, _, rfl, HF.out.2⟩

theorem rtextn {w : World} {v : Value} {z : Int} {k : Nat} (h : WhlR w (.agg #[.bool false, v]) z k) (hk : k ≤ 68719476736) :
    Calls Tryd.prog 10 #[v] w fun e w' => e = .returned (.string (ztxt z)) ∧ Below w.heap.size w w' := by
  obtain ⟨s, sv, xs, he, hl, ht, hle, _, hz⟩ := h
  simp only [Value.agg.injEq, Array.mk.injEq, List.cons.injEq, Value.bool.injEq, and_true] at he
  obtain ⟨rfl, rfl⟩ := he
  have e : ztxt z = txt (val xs) := by
    rw [← hz]
    show ztxt ((val xs : Nat) : Int) = _
    rw [ztxt, if_neg (by omega)]; rfl
  rw [e]
  exact rtext_lim hl (by omega)

theorem rwholeof_any {s : ByteArray} {k : Int} (h : (GoodZ s ∧ k = 0) ∨ BadZ s k) (w : World) (hs : s.size ≤ maxLen) :
    Calls Tryd.prog 22 #[.string s] w fun e w' => ∃ t p n c, e = .returned (.tuple #[.agg #[.bool t, .slice p n c], .int .i64 k]) ∧ Below w.heap.size w w' := by
  rcases h with ⟨h, rfl⟩ | h
  · refine (rwholeof_good h w).mono ?_
    rintro e w' ⟨v, rfl, hv, hb⟩
    obtain ⟨t, p, n, c, rfl⟩ := hv.opened
    exact ⟨t, p, n, c, rfl, hb⟩
  · exact rwholeof_bad h w hs

theorem WhlR.len_zero {w : World} {s : Bool} {p : Option Addr} {n c : Nat} {z : Int} {k : Nat} (h : WhlR w (.agg #[.bool s, .slice p n c]) z k) : n = 0 ↔ z = 0 := by
  obtain ⟨s', sv, xs, he, hl, ht, hle, hs, hz⟩ := h
  simp only [Value.agg.injEq, Array.mk.injEq, List.cons.injEq, Value.bool.injEq, and_true] at he
  obtain ⟨rfl, rfl⟩ := he
  obtain ⟨p', c', e, _⟩ := limR_parts hl
  obtain ⟨_, rfl, _⟩ := Value.slice.inj e
  have h1 := ht.zero_iff
  have h2 : z = 0 ↔ val xs = 0 := by
    rw [← hz]
    cases s <;> simp [zof]
  rw [h2, h1]
  exact List.length_eq_zero_iff

end Go.Proofs.YtckkbjnipacodaaDoor

/-
  WholeTells: WHAT ITS WALKS SHARE: WholeOf of a wrong text, an array of seven texts, what calls and stores leave.
-/
namespace Go.Proofs.YtckkbjnipacodaaDoor
open Go.RowKit
open Num4
open Num (dg isNat dval zg zg_zero zg_step zg_ind zg_small)
set_option linter.unusedVariables false
set_option maxRecDepth 100000
set_option linter.unusedSimpArgs false

/-- A block of texts: an array's. -/
def Arr (w : World) (g : Nat) (l : List ByteArray) : Prop := w.heap[g]? = some (.cells (l.map Value.string).toArray 49 (0, 0))
theorem Arr.lt {w : World} {g : Nat} {l : List ByteArray} (h : Arr w g l) : g < w.heap.size := lt_of_block h
theorem Arr.cell {w : World} {g : Nat} {l : List ByteArray} (h : Arr w g l) (i : Nat) (s : ByteArray) (hi : l[i]? = some s) : w.cell? ⟨g, i, none⟩ = some (.string s) := by
  have : w.heap[g]? = some (.cells (l.map Value.string).toArray 49 (0, 0)) := h
  simp [World.cell?, this, hi]
theorem Arr.free {w : World} {g : Nat} {l : List ByteArray} (h : Arr w g l) (i : Nat) : w.frozen? ⟨g, i, none⟩ = false := by
  have : w.heap[g]? = some (.cells (l.map Value.string).toArray 49 (0, 0)) := h
  simp [World.frozen?, this]
theorem Arr.set {w : World} {g : Nat} {l : List ByteArray} (h : Arr w g l) (i : Nat) (s : ByteArray) : Arr (w.setCell ⟨g, i, none⟩ (.string s)) g (l.set i s) := by
  have h0 : w.heap[g]? = some (.cells (l.map Value.string).toArray 49 (0, 0)) := h
  show (w.setCell ⟨g, i, none⟩ (.string s)).heap[g]? = _
  simp only [World.setCell, Array.getElem?_modify, h0]
  simp [List.map_set]
theorem Arr.below {w w' : World} {g : Nat} {l : List ByteArray} (h : Arr w g l) (hb : Below w.heap.size w w') : Arr w' g l := (hb.block g h.lt).trans h
theorem Arr.other {w : World} {g g2 : Nat} {l : List ByteArray} (h : Arr w g l) (hne : g ≠ g2) (i : Nat) (v : Value) : Arr (w.setCell ⟨g2, i, none⟩ v) g l := by
  show (w.setCell ⟨g2, i, none⟩ v).heap[g]? = _
  rw [Below.heap_setCell _ _ _ _ (by exact hne)]; exact h
theorem Arr.new (w : World) (l : List ByteArray) : Arr (w.alloc (.cells (l.map Value.string).toArray 49)) w.heap.size l := by
  show (w.heap.push _)[w.heap.size]? = _
  simp

/-- Calls, and stores into block g. -/
def Past (g : Nat) (w w' : World) : Prop := w.heap.size ≤ w'.heap.size ∧ ∀ k, k < w.heap.size → k ≠ g → w'.heap[k]? = w.heap[k]?
theorem Past.refl (g : Nat) (w : World) : Past g w w := ⟨Nat.le_refl _, fun _ _ _ => rfl⟩
theorem Past.call {g : Nat} {w w1 w2 : World} (h : Past g w w1) (hb : Below w1.heap.size w1 w2) : Past g w w2 :=
  ⟨Nat.le_trans h.1 hb.size, fun k hk hn => (hb.block k (Nat.lt_of_lt_of_le hk h.1)).trans (h.2 k hk hn)⟩
theorem Past.store {g : Nat} {w w1 : World} (h : Past g w w1) (i : Nat) (v : Value) : Past g w (w1.setCell ⟨g, i, none⟩ v) :=
  ⟨by simpa [World.setCell] using h.1, fun k hk hn => (Below.heap_setCell _ _ _ _ (by exact hn)).trans (h.2 k hk hn)⟩
theorem BoxR.walk {g x : Nat} {w w' : World} {s : Bool} {sv : Value} (h : BoxR w x s sv) (hp : Past g w w') (hne : x ≠ g) : BoxR w' x s sv := ⟨(hp.2 x h.lt hne).trans h.1, h.2⟩
theorem BoxR.cells {w : World} {x : Nat} {s : Bool} {sv : Value} (h : BoxR w x s sv) : w.cell? ⟨x, 0, none⟩ = some (.bool s) ∧ w.cell? ⟨x, 1, none⟩ = some sv := ⟨h.cell0, h.cell1⟩
theorem WhlR.walk {g : Nat} {w w' : World} {v : Value} {z : Int} {k : Nat} {l : List ByteArray} (h : WhlR w v z k) (ha : Arr w g l) (hp : Past g w w') : WhlR w' v z k := by
  obtain ⟨s, sv, xs, h1, ⟨f, p, c, e, h3, h4, h5⟩, h2⟩ := h
  refine ⟨s, sv, xs, h1, ⟨f, p, c, e, h3, h4, ?_⟩, h2⟩
  rcases h5 with h5 | ⟨b, off, h6, h7, h8⟩
  · exact .inl h5
  · refine .inr ⟨b, off, h6, Nat.lt_of_lt_of_le h7 hp.1, fun i hi => ?_⟩
    have h9 := h8 i hi
    by_cases hb : b = g
    · subst hb
      have ha' : w.heap[b]? = some (.cells (l.map Value.string).toArray 49 (0, 0)) := ha
      simp only [World.cell?, ha'] at h9
      simp at h9
    · rw [← h9]
      exact World.cell?_of_block (hp.2 b h7 hb)

end Go.Proofs.YtckkbjnipacodaaDoor

namespace Go.Proofs.YtckkbjnipacodaaDoor
open Go.RowKit
open Num4
open Num (zg)
set_option linter.unusedVariables false
set_option maxRecDepth 100000
set_option linter.unusedSimpArgs false

set_option maxHeartbeats 400000 in
theorem divided_d (w : World) :
    Calls Tryd.prog 21 #[] w fun e w' => e = .returned (.bool true) ∧ Below w.heap.size w w' := by
  have H := hid (minus7 w)
  go_enter Tryd.func21, Tryd.ntmps21
  go_wp2_with fail
  refine H.out.mono ?_
  rintro e w' ⟨rfl, hb⟩
  go_wp2_with fail
  go_ret
  exact ⟨rfl, hb⟩

theorem eq_seven (s0 s1 s2 s3 s4 s5 s6 : ByteArray) (w : World) :
    (Op.equalIn 10000 49 (.agg #[.string s0, .string s1, .string s2, .string s3, .string s4, .string s5, .string s6]) (.agg #[.string s0, .string s1, .string s2, .string s3, .string s4, .string s5, .string s6])).run Tryd.prog w = .ok true w := by
  obtain ⟨i, hi⟩ : ∃ i, Tryd.prog.info? 9 = some i := ⟨_, rfl⟩
  have hu : Tryd.prog.underlying 49 = some (.array 7 9) := by kernel_rfl
  have hc : Tryd.prog.cellsOf 9 = 1 := by kernel_rfl
  have he := fun (s : ByteArray) (w : World) => run_equalIn_string (P := Tryd.prog) w 9998 9 s s Tryd.underlying9
  have hp := fun (s : ByteArray) (cs : Array Value) (k : Nat) (hk : cs[k]? = some (.string s)) => (show (part 9 cs k).run Tryd.prog w = .ok (.string s) w by simp [go_sem, part, hk])
  rw [show (10000 : Nat) = 9999 + 1 from rfl, run_equalIn_array w 9999 _ _ hu hi, hc]
  simp only [show List.range 7 = [0, 1, 2, 3, 4, 5, 6] from rfl, Op.eqItems, Sem.run_bind, Nat.mul_one, Nat.zero_mul]
  generalize hcs : (#[.string s0, .string s1, .string s2, .string s3, .string s4, .string s5, .string s6] : Array Value) = cs
  have q0 := hp s0 cs 0 (by rw [← hcs]; rfl)
  have q1 := hp s1 cs 1 (by rw [← hcs]; rfl)
  have q2 := hp s2 cs 2 (by rw [← hcs]; rfl)
  have q3 := hp s3 cs 3 (by rw [← hcs]; rfl)
  have q4 := hp s4 cs 4 (by rw [← hcs]; rfl)
  have q5 := hp s5 cs 5 (by rw [← hcs]; rfl)
  have q6 := hp s6 cs 6 (by rw [← hcs]; rfl)
  simp [q0, q1, q2, q3, q4, q5, q6, he]

end Go.Proofs.YtckkbjnipacodaaDoor

namespace Go.Proofs.YtckkbjnipacodaaDoor
open Go.RowKit
open Num4
open Num (zg)
set_option linter.unusedVariables false
set_option maxRecDepth 100000
set_option linter.unusedSimpArgs false

set_option maxHeartbeats 32000000 in
theorem ztells_good (a b : ByteArray) (ha : GoodZ a) (hb : GoodZ b) (h0 : znum b ≠ 0) (w : World) (hd : Door w) :
    Calls Tryd.prog 4 #[.string a, .string b] w fun e w' => e = .returned (.bool true) ∧ Below w.heap.size w w' := by
  have GA := hid ha
  have GB := hid hb
  have HD := hid hd
  have H0 := hid h0
  clear ha hb hd h0
  go_enter Tryd.func4, Tryd.ntmps4
  go_wp2_with fail
  refine (divided_d w).mono ?_
  rintro e w1 ⟨rfl, hb⟩
  have B := hid hb
  clear hb
  go_wp2_with fail
  refine (rwholeof_good GA.out w1).mono ?_
  rintro e w2 ⟨v, rfl, hX, hb⟩
  obtain ⟨sx, px, nx, cx, rfl⟩ := hX.opened
  have XW := hid hX
  clear hX
  replace B := hid (B.out.trans (hb.mono B.out.size))
  clear hb
  obtain ⟨y0, hb, hsz⟩ := rboxes1 w2 sx (.slice px nx cx) ⟨_, _, _, rfl⟩
  have XB := hid y0
  clear y0 hsz
  replace XW := hid (XW.out.on hb)
  replace B := hid (B.out.trans (hb.mono B.out.size))
  clear hb
  generalize hW3 : (w2.alloc (.cells #[.bool sx, .slice px nx cx] 46)) = w3 at *
  go_wp2_with fail
  clear hW3
  refine (zcheck_good GA.out w3).mono ?_
  rintro e w4 ⟨rfl, hb⟩
  replace XB := hid (XB.out.below hb XB.out.lt)
  replace XW := hid (XW.out.on hb)
  replace B := hid (B.out.trans (hb.mono B.out.size))
  clear hb
  go_wp2_with fail
  refine (same_nil w4 (HD.out.below B.out)).mono ?_
  rintro e w5 ⟨rfl, hb⟩
  replace XB := hid (XB.out.below hb XB.out.lt)
  replace XW := hid (XW.out.on hb)
  replace B := hid (B.out.trans (hb.mono B.out.size))
  clear hb
  go_wp2_with fail
  refine (rwholeof_good GB.out w5).mono ?_
  rintro e w6 ⟨v, rfl, hY, hb⟩
  obtain ⟨sy, py, ny, cy, rfl⟩ := hY.opened
  have YW := hid hY
  clear hY
  replace XB := hid (XB.out.below hb XB.out.lt)
  replace XW := hid (XW.out.on hb)
  replace B := hid (B.out.trans (hb.mono B.out.size))
  clear hb
  obtain ⟨y0, hb, hsz⟩ := rboxes1 w6 sy (.slice py ny cy) ⟨_, _, _, rfl⟩
  have YB := hid y0
  clear y0 hsz
  replace XB := hid (XB.out.below hb XB.out.lt)
  replace XW := hid (XW.out.on hb)
  replace YW := hid (YW.out.on hb)
  replace B := hid (B.out.trans (hb.mono B.out.size))
  clear hb
  generalize hW7 : (w6.alloc (.cells #[.bool sy, .slice py ny cy] 46)) = w7 at *
  go_wp2_with fail
  clear hW7
  refine (two_zero 0 w7).mono ?_
  rintro e w' ⟨rfl, rfl⟩
  have HgA := hid B.out.size
  have NX := hid (Nat.ne_of_lt XB.out.lt)
  have NY := hid (Nat.ne_of_lt YB.out.lt)
  have A := hid (show Arr (w7.alloc (.cells #[.string ⟨#[]⟩, .string ⟨#[]⟩, .string ⟨#[]⟩, .string ⟨#[]⟩, .string ⟨#[]⟩, .string ⟨#[]⟩, .string ⟨#[]⟩] 49)) w7.heap.size [⟨#[]⟩, ⟨#[]⟩, ⟨#[]⟩, ⟨#[]⟩, ⟨#[]⟩, ⟨#[]⟩, ⟨#[]⟩] from Arr.new w7 [⟨#[]⟩, ⟨#[]⟩, ⟨#[]⟩, ⟨#[]⟩, ⟨#[]⟩, ⟨#[]⟩, ⟨#[]⟩])
  have hb := (Below.refl _ _).alloc (Nat.le_refl w7.heap.size) (.cells #[.string ⟨#[]⟩, .string ⟨#[]⟩, .string ⟨#[]⟩, .string ⟨#[]⟩, .string ⟨#[]⟩, .string ⟨#[]⟩, .string ⟨#[]⟩] 49)
  replace XB := hid (XB.out.below hb XB.out.lt)
  replace YB := hid (YB.out.below hb YB.out.lt)
  replace XW := hid (XW.out.on hb)
  replace YW := hid (YW.out.on hb)
  replace B := hid (B.out.trans (hb.mono B.out.size))
  clear hb
  generalize hW8 : (w7.alloc (.cells #[.string ⟨#[]⟩, .string ⟨#[]⟩, .string ⟨#[]⟩, .string ⟨#[]⟩, .string ⟨#[]⟩, .string ⟨#[]⟩, .string ⟨#[]⟩] 49)) = w8 at *
  have A0 := hid A.out
  have P := hid (Past.refl w7.heap.size w8)
  obtain ⟨cxb0, cxb1⟩ := (XB.out.walk P.out NX.out).cells
  obtain ⟨cyb0, cyb1⟩ := (YB.out.walk P.out NY.out).cells
  go_wp2_with fail
  clear hW8 cxb0 cxb1 cyb0 cyb1
  refine (rgcdz 100 (by omega) (by omega) (znum a) (znum b) w8 _ _ XW.out YW.out).mono ?_
  rintro e w9 ⟨vg, v2, v3, rfl, h1, h2, h3, hb⟩
  obtain ⟨su, pu, nu, cu, rfl⟩ := h2.opened
  obtain ⟨sv, pv, nv, cv, rfl⟩ := h3.opened
  have GW := hid h1
  have UW := hid h2
  have VW := hid h3
  clear h1 h2 h3
  replace P := hid (P.out.call hb)
  replace A := hid (A.out.below hb)
  replace B := hid (B.out.trans (hb.mono B.out.size))
  clear hb
  have NU := hid (show w9.heap.size ≠ w7.heap.size by have := A.out.lt; omega)
  have NV := hid (show w9.heap.size + 1 ≠ w7.heap.size by have := A.out.lt; omega)
  obtain ⟨y0, y1, hb, hsz⟩ := rboxes2 w9 su sv (.slice pu nu cu) (.slice pv nv cv) ⟨_, _, _, rfl⟩ ⟨_, _, _, rfl⟩
  have UB := hid y0
  have VB := hid y1
  clear y0 y1 hsz
  replace GW := hid (GW.out.on hb)
  replace UW := hid (UW.out.on hb)
  replace VW := hid (VW.out.on hb)
  replace P := hid (P.out.call hb)
  replace A := hid (A.out.below hb)
  replace B := hid (B.out.trans (hb.mono B.out.size))
  clear hb
  generalize hW10 : ((w9.alloc (.cells #[.bool su, .slice pu nu cu] 46)).alloc (.cells #[.bool sv, .slice pv nv cv] 46)) = w10 at *
  replace XB := hid (XB.out.walk P.out NX.out)
  replace YB := hid (YB.out.walk P.out NY.out)
  replace XW := hid (XW.out.walk A0.out P.out)
  replace YW := hid (YW.out.walk A0.out P.out)
  replace A0 := hid A.out
  replace P := hid (Past.refl w7.heap.size w10)
  obtain ⟨cxb0, cxb1⟩ := (XB.out.walk P.out NX.out).cells
  obtain ⟨cyb0, cyb1⟩ := (YB.out.walk P.out NY.out).cells
  go_wp2_with fail
  clear hW10 cxb0 cxb1 cyb0 cyb1
  refine (raddz (XW.out.walk A0.out P.out) (YW.out.walk A0.out P.out) (by omega) (by omega)).mono ?_
  rintro e w11 ⟨v, rfl, hv, hb⟩
  have TW := hid hv
  clear hv
  replace P := hid (P.out.call hb)
  replace A := hid (A.out.below hb)
  replace B := hid (B.out.trans (hb.mono B.out.size))
  clear hb
  go_wp2_with fail
  refine (rtextz TW.out (by omega)).mono ?_
  rintro e w12 ⟨rfl, hb⟩
  clear TW
  replace P := hid (P.out.call hb)
  replace A := hid (A.out.below hb)
  replace B := hid (B.out.trans (hb.mono B.out.size))
  clear hb
  have cc13 := A.out.cell 0 ⟨#[]⟩ rfl
  have ff13 := A.out.free 0
  replace P := hid (P.out.store 0 (.string (ztxt (znum a + znum b))))
  replace B := hid (B.out.setCell (p := ⟨w7.heap.size, 0, none⟩) HgA.out (.string (ztxt (znum a + znum b))))
  replace A := hid (show Arr _ (w7.heap.size) [(ztxt (znum a + znum b)), ⟨#[]⟩, ⟨#[]⟩, ⟨#[]⟩, ⟨#[]⟩, ⟨#[]⟩, ⟨#[]⟩] from A.out.set 0 (ztxt (znum a + znum b)))
  generalize hW13 : (w12.setCell ⟨w7.heap.size, 0, none⟩ (.string (ztxt (znum a + znum b)))) = w13 at *
  obtain ⟨cxb0, cxb1⟩ := (XB.out.walk P.out NX.out).cells
  obtain ⟨cyb0, cyb1⟩ := (YB.out.walk P.out NY.out).cells
  go_wp2_with fail
  clear cc13 ff13 hW13 cxb0 cxb1 cyb0 cyb1
  refine (rmulz (XW.out.walk A0.out P.out) (YW.out.walk A0.out P.out) (by omega) (by omega)).mono ?_
  rintro e w14 ⟨v, rfl, hv, hb⟩
  have TW := hid hv
  clear hv
  replace P := hid (P.out.call hb)
  replace A := hid (A.out.below hb)
  replace B := hid (B.out.trans (hb.mono B.out.size))
  clear hb
  go_wp2_with fail
  refine (rtextz TW.out (by omega)).mono ?_
  rintro e w15 ⟨rfl, hb⟩
  clear TW
  replace P := hid (P.out.call hb)
  replace A := hid (A.out.below hb)
  replace B := hid (B.out.trans (hb.mono B.out.size))
  clear hb
  have cc16 := A.out.cell 1 ⟨#[]⟩ rfl
  have ff16 := A.out.free 1
  replace P := hid (P.out.store 1 (.string (ztxt (znum a * znum b))))
  replace B := hid (B.out.setCell (p := ⟨w7.heap.size, 1, none⟩) HgA.out (.string (ztxt (znum a * znum b))))
  replace A := hid (show Arr _ (w7.heap.size) [(ztxt (znum a + znum b)), (ztxt (znum a * znum b)), ⟨#[]⟩, ⟨#[]⟩, ⟨#[]⟩, ⟨#[]⟩, ⟨#[]⟩] from A.out.set 1 (ztxt (znum a * znum b)))
  generalize hW16 : (w15.setCell ⟨w7.heap.size, 1, none⟩ (.string (ztxt (znum a * znum b)))) = w16 at *
  go_wp2_with fail
  clear cc16 ff16 hW16
  refine (rtextn (GW.out.walk A0.out P.out) (by omega)).mono ?_
  rintro e w17 ⟨rfl, hb⟩
  replace P := hid (P.out.call hb)
  replace A := hid (A.out.below hb)
  replace B := hid (B.out.trans (hb.mono B.out.size))
  clear hb
  have cc18 := A.out.cell 2 ⟨#[]⟩ rfl
  have ff18 := A.out.free 2
  replace P := hid (P.out.store 2 (.string (ztxt (zg (znum a) (znum b)).1)))
  replace B := hid (B.out.setCell (p := ⟨w7.heap.size, 2, none⟩) HgA.out (.string (ztxt (zg (znum a) (znum b)).1)))
  replace A := hid (show Arr _ (w7.heap.size) [(ztxt (znum a + znum b)), (ztxt (znum a * znum b)), (ztxt (zg (znum a) (znum b)).1), ⟨#[]⟩, ⟨#[]⟩, ⟨#[]⟩, ⟨#[]⟩] from A.out.set 2 (ztxt (zg (znum a) (znum b)).1))
  generalize hW18 : (w17.setCell ⟨w7.heap.size, 2, none⟩ (.string (ztxt (zg (znum a) (znum b)).1))) = w18 at *
  obtain ⟨cub0, cub1⟩ := (UB.out.walk P.out NU.out).cells
  go_wp2_with fail
  clear cc18 ff18 hW18 cub0 cub1
  refine (rtextz (UW.out.walk A0.out P.out) (by omega)).mono ?_
  rintro e w19 ⟨rfl, hb⟩
  replace P := hid (P.out.call hb)
  replace A := hid (A.out.below hb)
  replace B := hid (B.out.trans (hb.mono B.out.size))
  clear hb
  have cc20 := A.out.cell 3 ⟨#[]⟩ rfl
  have ff20 := A.out.free 3
  replace P := hid (P.out.store 3 (.string (ztxt (zg (znum a) (znum b)).2.1)))
  replace B := hid (B.out.setCell (p := ⟨w7.heap.size, 3, none⟩) HgA.out (.string (ztxt (zg (znum a) (znum b)).2.1)))
  replace A := hid (show Arr _ (w7.heap.size) [(ztxt (znum a + znum b)), (ztxt (znum a * znum b)), (ztxt (zg (znum a) (znum b)).1), (ztxt (zg (znum a) (znum b)).2.1), ⟨#[]⟩, ⟨#[]⟩, ⟨#[]⟩] from A.out.set 3 (ztxt (zg (znum a) (znum b)).2.1))
  generalize hW20 : (w19.setCell ⟨w7.heap.size, 3, none⟩ (.string (ztxt (zg (znum a) (znum b)).2.1))) = w20 at *
  obtain ⟨cvb0, cvb1⟩ := (VB.out.walk P.out NV.out).cells
  go_wp2_with fail
  clear cc20 ff20 hW20 cvb0 cvb1
  refine (rtextz (VW.out.walk A0.out P.out) (by omega)).mono ?_
  rintro e w21 ⟨rfl, hb⟩
  replace P := hid (P.out.call hb)
  replace A := hid (A.out.below hb)
  replace B := hid (B.out.trans (hb.mono B.out.size))
  clear hb
  have cc22 := A.out.cell 4 ⟨#[]⟩ rfl
  have ff22 := A.out.free 4
  replace P := hid (P.out.store 4 (.string (ztxt (zg (znum a) (znum b)).2.2)))
  replace B := hid (B.out.setCell (p := ⟨w7.heap.size, 4, none⟩) HgA.out (.string (ztxt (zg (znum a) (znum b)).2.2)))
  replace A := hid (show Arr _ (w7.heap.size) [(ztxt (znum a + znum b)), (ztxt (znum a * znum b)), (ztxt (zg (znum a) (znum b)).1), (ztxt (zg (znum a) (znum b)).2.1), (ztxt (zg (znum a) (znum b)).2.2), ⟨#[]⟩, ⟨#[]⟩] from A.out.set 4 (ztxt (zg (znum a) (znum b)).2.2))
  generalize hW22 : (w21.setCell ⟨w7.heap.size, 4, none⟩ (.string (ztxt (zg (znum a) (znum b)).2.2))) = w22 at *
  have hny : (ny : Int) ≠ 0 := by
    have := YW.out.len_zero
    have := H0.out
    omega
  obtain ⟨cyb0, cyb1⟩ := (YB.out.walk P.out NY.out).cells
  obtain ⟨cxb0, cxb1⟩ := (XB.out.walk P.out NX.out).cells
  go_wp2_with fail
  clear cc22 ff22 hW22 cyb0 cyb1 cxb0 cxb1
  refine (rdivz (XW.out.walk A0.out P.out) (YW.out.walk A0.out P.out) H0.out (by omega) (by omega) (by omega)).mono ?_
  rintro e w23 ⟨v2, v3, rfl, h2, h3, hb⟩
  obtain ⟨sq, pq, nq, cq, rfl⟩ := h2.opened
  obtain ⟨sr, pr, nr, cr, rfl⟩ := h3.opened
  have QW := hid h2
  have RW := hid h3
  clear h2 h3
  replace P := hid (P.out.call hb)
  replace A := hid (A.out.below hb)
  replace B := hid (B.out.trans (hb.mono B.out.size))
  clear hb
  have NQ := hid (show w23.heap.size ≠ w7.heap.size by have := A.out.lt; omega)
  have NR := hid (show w23.heap.size + 1 ≠ w7.heap.size by have := A.out.lt; omega)
  obtain ⟨y0, y1, hb, hsz⟩ := rboxes2 w23 sq sr (.slice pq nq cq) (.slice pr nr cr) ⟨_, _, _, rfl⟩ ⟨_, _, _, rfl⟩
  have QB := hid y0
  have RB := hid y1
  clear y0 y1 hsz
  replace QW := hid (QW.out.on hb)
  replace RW := hid (RW.out.on hb)
  replace P := hid (P.out.call hb)
  replace A := hid (A.out.below hb)
  replace B := hid (B.out.trans (hb.mono B.out.size))
  clear hb
  generalize hW24 : ((w23.alloc (.cells #[.bool sq, .slice pq nq cq] 46)).alloc (.cells #[.bool sr, .slice pr nr cr] 46)) = w24 at *
  replace A0 := hid A.out
  replace P := hid (Past.refl w7.heap.size w24)
  obtain ⟨cqb0, cqb1⟩ := (QB.out.walk P.out NQ.out).cells
  go_wp2_with fail
  clear hW24 cqb0 cqb1
  refine (rtextz (QW.out.walk A0.out P.out) (by omega)).mono ?_
  rintro e w25 ⟨rfl, hb⟩
  replace P := hid (P.out.call hb)
  replace A := hid (A.out.below hb)
  replace B := hid (B.out.trans (hb.mono B.out.size))
  clear hb
  have cc26 := A.out.cell 5 ⟨#[]⟩ rfl
  have ff26 := A.out.free 5
  replace P := hid (P.out.store 5 (.string (ztxt (znum a / znum b))))
  replace B := hid (B.out.setCell (p := ⟨w7.heap.size, 5, none⟩) HgA.out (.string (ztxt (znum a / znum b))))
  replace A := hid (show Arr _ (w7.heap.size) [(ztxt (znum a + znum b)), (ztxt (znum a * znum b)), (ztxt (zg (znum a) (znum b)).1), (ztxt (zg (znum a) (znum b)).2.1), (ztxt (zg (znum a) (znum b)).2.2), (ztxt (znum a / znum b)), ⟨#[]⟩] from A.out.set 5 (ztxt (znum a / znum b)))
  generalize hW26 : (w25.setCell ⟨w7.heap.size, 5, none⟩ (.string (ztxt (znum a / znum b)))) = w26 at *
  obtain ⟨crb0, crb1⟩ := (RB.out.walk P.out NR.out).cells
  go_wp2_with fail
  clear cc26 ff26 hW26 crb0 crb1
  refine (rtextz (RW.out.walk A0.out P.out) (by omega)).mono ?_
  rintro e w27 ⟨rfl, hb⟩
  replace P := hid (P.out.call hb)
  replace A := hid (A.out.below hb)
  replace B := hid (B.out.trans (hb.mono B.out.size))
  clear hb
  have cc28 := A.out.cell 6 ⟨#[]⟩ rfl
  have ff28 := A.out.free 6
  replace P := hid (P.out.store 6 (.string (ztxt (znum a % znum b))))
  replace B := hid (B.out.setCell (p := ⟨w7.heap.size, 6, none⟩) HgA.out (.string (ztxt (znum a % znum b))))
  replace A := hid (show Arr _ (w7.heap.size) [(ztxt (znum a + znum b)), (ztxt (znum a * znum b)), (ztxt (zg (znum a) (znum b)).1), (ztxt (zg (znum a) (znum b)).2.1), (ztxt (zg (znum a) (znum b)).2.2), (ztxt (znum a / znum b)), (ztxt (znum a % znum b))] from A.out.set 6 (ztxt (znum a % znum b)))
  generalize hW28 : (w27.setCell ⟨w7.heap.size, 6, none⟩ (.string (ztxt (znum a % znum b)))) = w28 at *
  clear XB YB XW YW GW UW VW UB VB P A0 QB RB QW RW
  have HgB := hid B.out.size
  have HAB := hid (Nat.ne_of_lt A.out.lt)
  have A2 := hid (show Arr (w28.alloc (.cells #[.string ⟨#[]⟩, .string ⟨#[]⟩, .string ⟨#[]⟩, .string ⟨#[]⟩, .string ⟨#[]⟩, .string ⟨#[]⟩, .string ⟨#[]⟩] 49)) w28.heap.size [⟨#[]⟩, ⟨#[]⟩, ⟨#[]⟩, ⟨#[]⟩, ⟨#[]⟩, ⟨#[]⟩, ⟨#[]⟩] from Arr.new w28 [⟨#[]⟩, ⟨#[]⟩, ⟨#[]⟩, ⟨#[]⟩, ⟨#[]⟩, ⟨#[]⟩, ⟨#[]⟩])
  have hb := (Below.refl _ _).alloc (Nat.le_refl w28.heap.size) (.cells #[.string ⟨#[]⟩, .string ⟨#[]⟩, .string ⟨#[]⟩, .string ⟨#[]⟩, .string ⟨#[]⟩, .string ⟨#[]⟩, .string ⟨#[]⟩] 49)
  replace A := hid (A.out.below hb)
  replace B := hid (B.out.trans (hb.mono B.out.size))
  clear hb
  generalize hW29 : (w28.alloc (.cells #[.string ⟨#[]⟩, .string ⟨#[]⟩, .string ⟨#[]⟩, .string ⟨#[]⟩, .string ⟨#[]⟩, .string ⟨#[]⟩, .string ⟨#[]⟩] 49)) = w29 at *
  go_wp2_with fail
  clear cc28 ff28 hW28 hW29
  refine (zadd_good GA.out GB.out w29).mono ?_
  rintro e w30 ⟨rfl, hb⟩
  replace A := hid (A.out.below hb)
  replace A2 := hid (A2.out.below hb)
  replace B := hid (B.out.trans (hb.mono B.out.size))
  clear hb
  go_wp2_with fail
  refine (same_nil w30 (HD.out.below B.out)).mono ?_
  rintro e w31 ⟨rfl, hb⟩
  replace A := hid (A.out.below hb)
  replace A2 := hid (A2.out.below hb)
  replace B := hid (B.out.trans (hb.mono B.out.size))
  clear hb
  have cc32 := A2.out.cell 0 ⟨#[]⟩ rfl
  have ff32 := A2.out.free 0
  replace B := hid (B.out.setCell (p := ⟨w28.heap.size, 0, none⟩) HgB.out (.string (ztxt (znum a + znum b))))
  replace A := hid (A.out.other HAB.out 0 (.string (ztxt (znum a + znum b))))
  replace A2 := hid (show Arr _ (w28.heap.size) [(ztxt (znum a + znum b)), ⟨#[]⟩, ⟨#[]⟩, ⟨#[]⟩, ⟨#[]⟩, ⟨#[]⟩, ⟨#[]⟩] from A2.out.set 0 (ztxt (znum a + znum b)))
  generalize hW32 : (w31.setCell ⟨w28.heap.size, 0, none⟩ (.string (ztxt (znum a + znum b)))) = w32 at *
  go_wp2_with fail
  clear cc32 ff32 hW32
  refine (zmul_good GA.out GB.out w32).mono ?_
  rintro e w33 ⟨rfl, hb⟩
  replace A := hid (A.out.below hb)
  replace A2 := hid (A2.out.below hb)
  replace B := hid (B.out.trans (hb.mono B.out.size))
  clear hb
  go_wp2_with fail
  refine (same_nil w33 (HD.out.below B.out)).mono ?_
  rintro e w34 ⟨rfl, hb⟩
  replace A := hid (A.out.below hb)
  replace A2 := hid (A2.out.below hb)
  replace B := hid (B.out.trans (hb.mono B.out.size))
  clear hb
  have cc35 := A2.out.cell 1 ⟨#[]⟩ rfl
  have ff35 := A2.out.free 1
  replace B := hid (B.out.setCell (p := ⟨w28.heap.size, 1, none⟩) HgB.out (.string (ztxt (znum a * znum b))))
  replace A := hid (A.out.other HAB.out 1 (.string (ztxt (znum a * znum b))))
  replace A2 := hid (show Arr _ (w28.heap.size) [(ztxt (znum a + znum b)), (ztxt (znum a * znum b)), ⟨#[]⟩, ⟨#[]⟩, ⟨#[]⟩, ⟨#[]⟩, ⟨#[]⟩] from A2.out.set 1 (ztxt (znum a * znum b)))
  generalize hW35 : (w34.setCell ⟨w28.heap.size, 1, none⟩ (.string (ztxt (znum a * znum b)))) = w35 at *
  go_wp2_with fail
  clear cc35 ff35 hW35
  refine (zgcd_good GA.out GB.out w35).mono ?_
  rintro e w36 ⟨rfl, hb⟩
  replace A := hid (A.out.below hb)
  replace A2 := hid (A2.out.below hb)
  replace B := hid (B.out.trans (hb.mono B.out.size))
  clear hb
  go_wp2_with fail
  refine (same_nil w36 (HD.out.below B.out)).mono ?_
  rintro e w37 ⟨rfl, hb⟩
  replace A := hid (A.out.below hb)
  replace A2 := hid (A2.out.below hb)
  replace B := hid (B.out.trans (hb.mono B.out.size))
  clear hb
  have cc38 := A2.out.cell 2 ⟨#[]⟩ rfl
  have ff38 := A2.out.free 2
  replace B := hid (B.out.setCell (p := ⟨w28.heap.size, 2, none⟩) HgB.out (.string (ztxt (zg (znum a) (znum b)).1)))
  replace A := hid (A.out.other HAB.out 2 (.string (ztxt (zg (znum a) (znum b)).1)))
  replace A2 := hid (show Arr _ (w28.heap.size) [(ztxt (znum a + znum b)), (ztxt (znum a * znum b)), (ztxt (zg (znum a) (znum b)).1), ⟨#[]⟩, ⟨#[]⟩, ⟨#[]⟩, ⟨#[]⟩] from A2.out.set 2 (ztxt (zg (znum a) (znum b)).1))
  generalize hW38 : (w37.setCell ⟨w28.heap.size, 2, none⟩ (.string (ztxt (zg (znum a) (znum b)).1))) = w38 at *
  have cc39 := A2.out.cell 3 ⟨#[]⟩ rfl
  have ff39 := A2.out.free 3
  replace B := hid (B.out.setCell (p := ⟨w28.heap.size, 3, none⟩) HgB.out (.string (ztxt (zg (znum a) (znum b)).2.1)))
  replace A := hid (A.out.other HAB.out 3 (.string (ztxt (zg (znum a) (znum b)).2.1)))
  replace A2 := hid (show Arr _ (w28.heap.size) [(ztxt (znum a + znum b)), (ztxt (znum a * znum b)), (ztxt (zg (znum a) (znum b)).1), (ztxt (zg (znum a) (znum b)).2.1), ⟨#[]⟩, ⟨#[]⟩, ⟨#[]⟩] from A2.out.set 3 (ztxt (zg (znum a) (znum b)).2.1))
  generalize hW39 : (w38.setCell ⟨w28.heap.size, 3, none⟩ (.string (ztxt (zg (znum a) (znum b)).2.1))) = w39 at *
  have cc40 := A2.out.cell 4 ⟨#[]⟩ rfl
  have ff40 := A2.out.free 4
  replace B := hid (B.out.setCell (p := ⟨w28.heap.size, 4, none⟩) HgB.out (.string (ztxt (zg (znum a) (znum b)).2.2)))
  replace A := hid (A.out.other HAB.out 4 (.string (ztxt (zg (znum a) (znum b)).2.2)))
  replace A2 := hid (show Arr _ (w28.heap.size) [(ztxt (znum a + znum b)), (ztxt (znum a * znum b)), (ztxt (zg (znum a) (znum b)).1), (ztxt (zg (znum a) (znum b)).2.1), (ztxt (zg (znum a) (znum b)).2.2), ⟨#[]⟩, ⟨#[]⟩] from A2.out.set 4 (ztxt (zg (znum a) (znum b)).2.2))
  generalize hW40 : (w39.setCell ⟨w28.heap.size, 4, none⟩ (.string (ztxt (zg (znum a) (znum b)).2.2))) = w40 at *
  go_wp2_with fail
  clear cc38 ff38 hW38 cc39 ff39 hW39 cc40 ff40 hW40
  refine (zdiv_good GA.out GB.out H0.out w40).mono ?_
  rintro e w41 ⟨rfl, hb⟩
  replace A := hid (A.out.below hb)
  replace A2 := hid (A2.out.below hb)
  replace B := hid (B.out.trans (hb.mono B.out.size))
  clear hb
  go_wp2_with fail
  refine (same_nil w41 (HD.out.below B.out)).mono ?_
  rintro e w42 ⟨rfl, hb⟩
  replace A := hid (A.out.below hb)
  replace A2 := hid (A2.out.below hb)
  replace B := hid (B.out.trans (hb.mono B.out.size))
  clear hb
  have cc43 := A2.out.cell 5 ⟨#[]⟩ rfl
  have ff43 := A2.out.free 5
  replace B := hid (B.out.setCell (p := ⟨w28.heap.size, 5, none⟩) HgB.out (.string (ztxt (znum a / znum b))))
  replace A := hid (A.out.other HAB.out 5 (.string (ztxt (znum a / znum b))))
  replace A2 := hid (show Arr _ (w28.heap.size) [(ztxt (znum a + znum b)), (ztxt (znum a * znum b)), (ztxt (zg (znum a) (znum b)).1), (ztxt (zg (znum a) (znum b)).2.1), (ztxt (zg (znum a) (znum b)).2.2), (ztxt (znum a / znum b)), ⟨#[]⟩] from A2.out.set 5 (ztxt (znum a / znum b)))
  generalize hW43 : (w42.setCell ⟨w28.heap.size, 5, none⟩ (.string (ztxt (znum a / znum b)))) = w43 at *
  have cc44 := A2.out.cell 6 ⟨#[]⟩ rfl
  have ff44 := A2.out.free 6
  replace B := hid (B.out.setCell (p := ⟨w28.heap.size, 6, none⟩) HgB.out (.string (ztxt (znum a % znum b))))
  replace A := hid (A.out.other HAB.out 6 (.string (ztxt (znum a % znum b))))
  replace A2 := hid (show Arr _ (w28.heap.size) [(ztxt (znum a + znum b)), (ztxt (znum a * znum b)), (ztxt (zg (znum a) (znum b)).1), (ztxt (zg (znum a) (znum b)).2.1), (ztxt (zg (znum a) (znum b)).2.2), (ztxt (znum a / znum b)), (ztxt (znum a % znum b))] from A2.out.set 6 (ztxt (znum a % znum b)))
  generalize hW44 : (w43.setCell ⟨w28.heap.size, 6, none⟩ (.string (ztxt (znum a % znum b)))) = w44 at *
  have ca0 := A.out.cell 0 (ztxt (znum a + znum b)) rfl
  have cb0 := A2.out.cell 0 (ztxt (znum a + znum b)) rfl
  have ca1 := A.out.cell 1 (ztxt (znum a * znum b)) rfl
  have cb1 := A2.out.cell 1 (ztxt (znum a * znum b)) rfl
  have ca2 := A.out.cell 2 (ztxt (zg (znum a) (znum b)).1) rfl
  have cb2 := A2.out.cell 2 (ztxt (zg (znum a) (znum b)).1) rfl
  have ca3 := A.out.cell 3 (ztxt (zg (znum a) (znum b)).2.1) rfl
  have cb3 := A2.out.cell 3 (ztxt (zg (znum a) (znum b)).2.1) rfl
  have ca4 := A.out.cell 4 (ztxt (zg (znum a) (znum b)).2.2) rfl
  have cb4 := A2.out.cell 4 (ztxt (zg (znum a) (znum b)).2.2) rfl
  have ca5 := A.out.cell 5 (ztxt (znum a / znum b)) rfl
  have cb5 := A2.out.cell 5 (ztxt (znum a / znum b)) rfl
  have ca6 := A.out.cell 6 (ztxt (znum a % znum b)) rfl
  have cb6 := A2.out.cell 6 (ztxt (znum a % znum b)) rfl
  have heq := eq_seven (ztxt (znum a + znum b)) (ztxt (znum a * znum b)) (ztxt (zg (znum a) (znum b)).1) (ztxt (zg (znum a) (znum b)).2.1) (ztxt (zg (znum a) (znum b)).2.2) (ztxt (znum a / znum b)) (ztxt (znum a % znum b))
  go_wp2_with fail
  clear cc43 ff43 hW43 cc44 ff44 hW44
  go_ret
  exact ⟨rfl, B.out⟩

end Go.Proofs.YtckkbjnipacodaaDoor

namespace Go.Proofs.YtckkbjnipacodaaDoor
open Go.RowKit
open Num4
open Num (zg)
set_option linter.unusedVariables false
set_option maxRecDepth 100000
set_option linter.unusedSimpArgs false

set_option maxHeartbeats 32000000 in
theorem ztells_zero (a b : ByteArray) (ha : GoodZ a) (hb : GoodZ b) (h0 : znum b = 0) (w : World) (hd : Door w) :
    Calls Tryd.prog 4 #[.string a, .string b] w fun e w' => e = .returned (.bool true) ∧ Below w.heap.size w w' := by
  have GA := hid ha
  have GB := hid hb
  have HD := hid hd
  have H0 := hid h0
  clear ha hb hd h0
  go_enter Tryd.func4, Tryd.ntmps4
  go_wp2_with fail
  refine (divided_d w).mono ?_
  rintro e w1 ⟨rfl, hb⟩
  have B := hid hb
  clear hb
  go_wp2_with fail
  refine (rwholeof_good GA.out w1).mono ?_
  rintro e w2 ⟨v, rfl, hX, hb⟩
  obtain ⟨sx, px, nx, cx, rfl⟩ := hX.opened
  have XW := hid hX
  clear hX
  replace B := hid (B.out.trans (hb.mono B.out.size))
  clear hb
  obtain ⟨y0, hb, hsz⟩ := rboxes1 w2 sx (.slice px nx cx) ⟨_, _, _, rfl⟩
  have XB := hid y0
  clear y0 hsz
  replace XW := hid (XW.out.on hb)
  replace B := hid (B.out.trans (hb.mono B.out.size))
  clear hb
  generalize hW3 : (w2.alloc (.cells #[.bool sx, .slice px nx cx] 46)) = w3 at *
  go_wp2_with fail
  clear hW3
  refine (zcheck_good GA.out w3).mono ?_
  rintro e w4 ⟨rfl, hb⟩
  replace XB := hid (XB.out.below hb XB.out.lt)
  replace XW := hid (XW.out.on hb)
  replace B := hid (B.out.trans (hb.mono B.out.size))
  clear hb
  go_wp2_with fail
  refine (same_nil w4 (HD.out.below B.out)).mono ?_
  rintro e w5 ⟨rfl, hb⟩
  replace XB := hid (XB.out.below hb XB.out.lt)
  replace XW := hid (XW.out.on hb)
  replace B := hid (B.out.trans (hb.mono B.out.size))
  clear hb
  go_wp2_with fail
  refine (rwholeof_good GB.out w5).mono ?_
  rintro e w6 ⟨v, rfl, hY, hb⟩
  obtain ⟨sy, py, ny, cy, rfl⟩ := hY.opened
  have YW := hid hY
  clear hY
  replace XB := hid (XB.out.below hb XB.out.lt)
  replace XW := hid (XW.out.on hb)
  replace B := hid (B.out.trans (hb.mono B.out.size))
  clear hb
  obtain ⟨y0, hb, hsz⟩ := rboxes1 w6 sy (.slice py ny cy) ⟨_, _, _, rfl⟩
  have YB := hid y0
  clear y0 hsz
  replace XB := hid (XB.out.below hb XB.out.lt)
  replace XW := hid (XW.out.on hb)
  replace YW := hid (YW.out.on hb)
  replace B := hid (B.out.trans (hb.mono B.out.size))
  clear hb
  generalize hW7 : (w6.alloc (.cells #[.bool sy, .slice py ny cy] 46)) = w7 at *
  go_wp2_with fail
  clear hW7
  refine (two_zero 0 w7).mono ?_
  rintro e w' ⟨rfl, rfl⟩
  have HgA := hid B.out.size
  have NX := hid (Nat.ne_of_lt XB.out.lt)
  have NY := hid (Nat.ne_of_lt YB.out.lt)
  have A := hid (show Arr (w7.alloc (.cells #[.string ⟨#[]⟩, .string ⟨#[]⟩, .string ⟨#[]⟩, .string ⟨#[]⟩, .string ⟨#[]⟩, .string ⟨#[]⟩, .string ⟨#[]⟩] 49)) w7.heap.size [⟨#[]⟩, ⟨#[]⟩, ⟨#[]⟩, ⟨#[]⟩, ⟨#[]⟩, ⟨#[]⟩, ⟨#[]⟩] from Arr.new w7 [⟨#[]⟩, ⟨#[]⟩, ⟨#[]⟩, ⟨#[]⟩, ⟨#[]⟩, ⟨#[]⟩, ⟨#[]⟩])
  have hb := (Below.refl _ _).alloc (Nat.le_refl w7.heap.size) (.cells #[.string ⟨#[]⟩, .string ⟨#[]⟩, .string ⟨#[]⟩, .string ⟨#[]⟩, .string ⟨#[]⟩, .string ⟨#[]⟩, .string ⟨#[]⟩] 49)
  replace XB := hid (XB.out.below hb XB.out.lt)
  replace YB := hid (YB.out.below hb YB.out.lt)
  replace XW := hid (XW.out.on hb)
  replace YW := hid (YW.out.on hb)
  replace B := hid (B.out.trans (hb.mono B.out.size))
  clear hb
  generalize hW8 : (w7.alloc (.cells #[.string ⟨#[]⟩, .string ⟨#[]⟩, .string ⟨#[]⟩, .string ⟨#[]⟩, .string ⟨#[]⟩, .string ⟨#[]⟩, .string ⟨#[]⟩] 49)) = w8 at *
  have A0 := hid A.out
  have P := hid (Past.refl w7.heap.size w8)
  obtain ⟨cxb0, cxb1⟩ := (XB.out.walk P.out NX.out).cells
  obtain ⟨cyb0, cyb1⟩ := (YB.out.walk P.out NY.out).cells
  go_wp2_with fail
  clear hW8 cxb0 cxb1 cyb0 cyb1
  refine (rgcdz 100 (by omega) (by omega) (znum a) (znum b) w8 _ _ XW.out YW.out).mono ?_
  rintro e w9 ⟨vg, v2, v3, rfl, h1, h2, h3, hb⟩
  obtain ⟨su, pu, nu, cu, rfl⟩ := h2.opened
  obtain ⟨sv, pv, nv, cv, rfl⟩ := h3.opened
  have GW := hid h1
  have UW := hid h2
  have VW := hid h3
  clear h1 h2 h3
  replace P := hid (P.out.call hb)
  replace A := hid (A.out.below hb)
  replace B := hid (B.out.trans (hb.mono B.out.size))
  clear hb
  have NU := hid (show w9.heap.size ≠ w7.heap.size by have := A.out.lt; omega)
  have NV := hid (show w9.heap.size + 1 ≠ w7.heap.size by have := A.out.lt; omega)
  obtain ⟨y0, y1, hb, hsz⟩ := rboxes2 w9 su sv (.slice pu nu cu) (.slice pv nv cv) ⟨_, _, _, rfl⟩ ⟨_, _, _, rfl⟩
  have UB := hid y0
  have VB := hid y1
  clear y0 y1 hsz
  replace GW := hid (GW.out.on hb)
  replace UW := hid (UW.out.on hb)
  replace VW := hid (VW.out.on hb)
  replace P := hid (P.out.call hb)
  replace A := hid (A.out.below hb)
  replace B := hid (B.out.trans (hb.mono B.out.size))
  clear hb
  generalize hW10 : ((w9.alloc (.cells #[.bool su, .slice pu nu cu] 46)).alloc (.cells #[.bool sv, .slice pv nv cv] 46)) = w10 at *
  replace XB := hid (XB.out.walk P.out NX.out)
  replace YB := hid (YB.out.walk P.out NY.out)
  replace XW := hid (XW.out.walk A0.out P.out)
  replace YW := hid (YW.out.walk A0.out P.out)
  replace A0 := hid A.out
  replace P := hid (Past.refl w7.heap.size w10)
  obtain ⟨cxb0, cxb1⟩ := (XB.out.walk P.out NX.out).cells
  obtain ⟨cyb0, cyb1⟩ := (YB.out.walk P.out NY.out).cells
  go_wp2_with fail
  clear hW10 cxb0 cxb1 cyb0 cyb1
  refine (raddz (XW.out.walk A0.out P.out) (YW.out.walk A0.out P.out) (by omega) (by omega)).mono ?_
  rintro e w11 ⟨v, rfl, hv, hb⟩
  have TW := hid hv
  clear hv
  replace P := hid (P.out.call hb)
  replace A := hid (A.out.below hb)
  replace B := hid (B.out.trans (hb.mono B.out.size))
  clear hb
  go_wp2_with fail
  refine (rtextz TW.out (by omega)).mono ?_
  rintro e w12 ⟨rfl, hb⟩
  clear TW
  replace P := hid (P.out.call hb)
  replace A := hid (A.out.below hb)
  replace B := hid (B.out.trans (hb.mono B.out.size))
  clear hb
  have cc13 := A.out.cell 0 ⟨#[]⟩ rfl
  have ff13 := A.out.free 0
  replace P := hid (P.out.store 0 (.string (ztxt (znum a + znum b))))
  replace B := hid (B.out.setCell (p := ⟨w7.heap.size, 0, none⟩) HgA.out (.string (ztxt (znum a + znum b))))
  replace A := hid (show Arr _ (w7.heap.size) [(ztxt (znum a + znum b)), ⟨#[]⟩, ⟨#[]⟩, ⟨#[]⟩, ⟨#[]⟩, ⟨#[]⟩, ⟨#[]⟩] from A.out.set 0 (ztxt (znum a + znum b)))
  generalize hW13 : (w12.setCell ⟨w7.heap.size, 0, none⟩ (.string (ztxt (znum a + znum b)))) = w13 at *
  obtain ⟨cxb0, cxb1⟩ := (XB.out.walk P.out NX.out).cells
  obtain ⟨cyb0, cyb1⟩ := (YB.out.walk P.out NY.out).cells
  go_wp2_with fail
  clear cc13 ff13 hW13 cxb0 cxb1 cyb0 cyb1
  refine (rmulz (XW.out.walk A0.out P.out) (YW.out.walk A0.out P.out) (by omega) (by omega)).mono ?_
  rintro e w14 ⟨v, rfl, hv, hb⟩
  have TW := hid hv
  clear hv
  replace P := hid (P.out.call hb)
  replace A := hid (A.out.below hb)
  replace B := hid (B.out.trans (hb.mono B.out.size))
  clear hb
  go_wp2_with fail
  refine (rtextz TW.out (by omega)).mono ?_
  rintro e w15 ⟨rfl, hb⟩
  clear TW
  replace P := hid (P.out.call hb)
  replace A := hid (A.out.below hb)
  replace B := hid (B.out.trans (hb.mono B.out.size))
  clear hb
  have cc16 := A.out.cell 1 ⟨#[]⟩ rfl
  have ff16 := A.out.free 1
  replace P := hid (P.out.store 1 (.string (ztxt (znum a * znum b))))
  replace B := hid (B.out.setCell (p := ⟨w7.heap.size, 1, none⟩) HgA.out (.string (ztxt (znum a * znum b))))
  replace A := hid (show Arr _ (w7.heap.size) [(ztxt (znum a + znum b)), (ztxt (znum a * znum b)), ⟨#[]⟩, ⟨#[]⟩, ⟨#[]⟩, ⟨#[]⟩, ⟨#[]⟩] from A.out.set 1 (ztxt (znum a * znum b)))
  generalize hW16 : (w15.setCell ⟨w7.heap.size, 1, none⟩ (.string (ztxt (znum a * znum b)))) = w16 at *
  go_wp2_with fail
  clear cc16 ff16 hW16
  refine (rtextn (GW.out.walk A0.out P.out) (by omega)).mono ?_
  rintro e w17 ⟨rfl, hb⟩
  replace P := hid (P.out.call hb)
  replace A := hid (A.out.below hb)
  replace B := hid (B.out.trans (hb.mono B.out.size))
  clear hb
  have cc18 := A.out.cell 2 ⟨#[]⟩ rfl
  have ff18 := A.out.free 2
  replace P := hid (P.out.store 2 (.string (ztxt (zg (znum a) (znum b)).1)))
  replace B := hid (B.out.setCell (p := ⟨w7.heap.size, 2, none⟩) HgA.out (.string (ztxt (zg (znum a) (znum b)).1)))
  replace A := hid (show Arr _ (w7.heap.size) [(ztxt (znum a + znum b)), (ztxt (znum a * znum b)), (ztxt (zg (znum a) (znum b)).1), ⟨#[]⟩, ⟨#[]⟩, ⟨#[]⟩, ⟨#[]⟩] from A.out.set 2 (ztxt (zg (znum a) (znum b)).1))
  generalize hW18 : (w17.setCell ⟨w7.heap.size, 2, none⟩ (.string (ztxt (zg (znum a) (znum b)).1))) = w18 at *
  obtain ⟨cub0, cub1⟩ := (UB.out.walk P.out NU.out).cells
  go_wp2_with fail
  clear cc18 ff18 hW18 cub0 cub1
  refine (rtextz (UW.out.walk A0.out P.out) (by omega)).mono ?_
  rintro e w19 ⟨rfl, hb⟩
  replace P := hid (P.out.call hb)
  replace A := hid (A.out.below hb)
  replace B := hid (B.out.trans (hb.mono B.out.size))
  clear hb
  have cc20 := A.out.cell 3 ⟨#[]⟩ rfl
  have ff20 := A.out.free 3
  replace P := hid (P.out.store 3 (.string (ztxt (zg (znum a) (znum b)).2.1)))
  replace B := hid (B.out.setCell (p := ⟨w7.heap.size, 3, none⟩) HgA.out (.string (ztxt (zg (znum a) (znum b)).2.1)))
  replace A := hid (show Arr _ (w7.heap.size) [(ztxt (znum a + znum b)), (ztxt (znum a * znum b)), (ztxt (zg (znum a) (znum b)).1), (ztxt (zg (znum a) (znum b)).2.1), ⟨#[]⟩, ⟨#[]⟩, ⟨#[]⟩] from A.out.set 3 (ztxt (zg (znum a) (znum b)).2.1))
  generalize hW20 : (w19.setCell ⟨w7.heap.size, 3, none⟩ (.string (ztxt (zg (znum a) (znum b)).2.1))) = w20 at *
  obtain ⟨cvb0, cvb1⟩ := (VB.out.walk P.out NV.out).cells
  go_wp2_with fail
  clear cc20 ff20 hW20 cvb0 cvb1
  refine (rtextz (VW.out.walk A0.out P.out) (by omega)).mono ?_
  rintro e w21 ⟨rfl, hb⟩
  replace P := hid (P.out.call hb)
  replace A := hid (A.out.below hb)
  replace B := hid (B.out.trans (hb.mono B.out.size))
  clear hb
  have cc22 := A.out.cell 4 ⟨#[]⟩ rfl
  have ff22 := A.out.free 4
  replace P := hid (P.out.store 4 (.string (ztxt (zg (znum a) (znum b)).2.2)))
  replace B := hid (B.out.setCell (p := ⟨w7.heap.size, 4, none⟩) HgA.out (.string (ztxt (zg (znum a) (znum b)).2.2)))
  replace A := hid (show Arr _ (w7.heap.size) [(ztxt (znum a + znum b)), (ztxt (znum a * znum b)), (ztxt (zg (znum a) (znum b)).1), (ztxt (zg (znum a) (znum b)).2.1), (ztxt (zg (znum a) (znum b)).2.2), ⟨#[]⟩, ⟨#[]⟩] from A.out.set 4 (ztxt (zg (znum a) (znum b)).2.2))
  generalize hW22 : (w21.setCell ⟨w7.heap.size, 4, none⟩ (.string (ztxt (zg (znum a) (znum b)).2.2))) = w22 at *
  have hny : (ny : Int) = 0 := by
    have := YW.out.len_zero
    have := H0.out
    omega
  obtain ⟨cyb0, cyb1⟩ := (YB.out.walk P.out NY.out).cells
  clear XB YB XW YW GW UW VW UB VB P A0
  have HgB := hid B.out.size
  have HAB := hid (Nat.ne_of_lt A.out.lt)
  have A2 := hid (show Arr (w22.alloc (.cells #[.string ⟨#[]⟩, .string ⟨#[]⟩, .string ⟨#[]⟩, .string ⟨#[]⟩, .string ⟨#[]⟩, .string ⟨#[]⟩, .string ⟨#[]⟩] 49)) w22.heap.size [⟨#[]⟩, ⟨#[]⟩, ⟨#[]⟩, ⟨#[]⟩, ⟨#[]⟩, ⟨#[]⟩, ⟨#[]⟩] from Arr.new w22 [⟨#[]⟩, ⟨#[]⟩, ⟨#[]⟩, ⟨#[]⟩, ⟨#[]⟩, ⟨#[]⟩, ⟨#[]⟩])
  have hb := (Below.refl _ _).alloc (Nat.le_refl w22.heap.size) (.cells #[.string ⟨#[]⟩, .string ⟨#[]⟩, .string ⟨#[]⟩, .string ⟨#[]⟩, .string ⟨#[]⟩, .string ⟨#[]⟩, .string ⟨#[]⟩] 49)
  replace A := hid (A.out.below hb)
  replace B := hid (B.out.trans (hb.mono B.out.size))
  clear hb
  generalize hW23 : (w22.alloc (.cells #[.string ⟨#[]⟩, .string ⟨#[]⟩, .string ⟨#[]⟩, .string ⟨#[]⟩, .string ⟨#[]⟩, .string ⟨#[]⟩, .string ⟨#[]⟩] 49)) = w23 at *
  go_wp2_with fail
  clear cc22 ff22 hW22 cyb0 cyb1 hW23
  refine (zadd_good GA.out GB.out w23).mono ?_
  rintro e w24 ⟨rfl, hb⟩
  replace A := hid (A.out.below hb)
  replace A2 := hid (A2.out.below hb)
  replace B := hid (B.out.trans (hb.mono B.out.size))
  clear hb
  go_wp2_with fail
  refine (same_nil w24 (HD.out.below B.out)).mono ?_
  rintro e w25 ⟨rfl, hb⟩
  replace A := hid (A.out.below hb)
  replace A2 := hid (A2.out.below hb)
  replace B := hid (B.out.trans (hb.mono B.out.size))
  clear hb
  have cc26 := A2.out.cell 0 ⟨#[]⟩ rfl
  have ff26 := A2.out.free 0
  replace B := hid (B.out.setCell (p := ⟨w22.heap.size, 0, none⟩) HgB.out (.string (ztxt (znum a + znum b))))
  replace A := hid (A.out.other HAB.out 0 (.string (ztxt (znum a + znum b))))
  replace A2 := hid (show Arr _ (w22.heap.size) [(ztxt (znum a + znum b)), ⟨#[]⟩, ⟨#[]⟩, ⟨#[]⟩, ⟨#[]⟩, ⟨#[]⟩, ⟨#[]⟩] from A2.out.set 0 (ztxt (znum a + znum b)))
  generalize hW26 : (w25.setCell ⟨w22.heap.size, 0, none⟩ (.string (ztxt (znum a + znum b)))) = w26 at *
  go_wp2_with fail
  clear cc26 ff26 hW26
  refine (zmul_good GA.out GB.out w26).mono ?_
  rintro e w27 ⟨rfl, hb⟩
  replace A := hid (A.out.below hb)
  replace A2 := hid (A2.out.below hb)
  replace B := hid (B.out.trans (hb.mono B.out.size))
  clear hb
  go_wp2_with fail
  refine (same_nil w27 (HD.out.below B.out)).mono ?_
  rintro e w28 ⟨rfl, hb⟩
  replace A := hid (A.out.below hb)
  replace A2 := hid (A2.out.below hb)
  replace B := hid (B.out.trans (hb.mono B.out.size))
  clear hb
  have cc29 := A2.out.cell 1 ⟨#[]⟩ rfl
  have ff29 := A2.out.free 1
  replace B := hid (B.out.setCell (p := ⟨w22.heap.size, 1, none⟩) HgB.out (.string (ztxt (znum a * znum b))))
  replace A := hid (A.out.other HAB.out 1 (.string (ztxt (znum a * znum b))))
  replace A2 := hid (show Arr _ (w22.heap.size) [(ztxt (znum a + znum b)), (ztxt (znum a * znum b)), ⟨#[]⟩, ⟨#[]⟩, ⟨#[]⟩, ⟨#[]⟩, ⟨#[]⟩] from A2.out.set 1 (ztxt (znum a * znum b)))
  generalize hW29 : (w28.setCell ⟨w22.heap.size, 1, none⟩ (.string (ztxt (znum a * znum b)))) = w29 at *
  go_wp2_with fail
  clear cc29 ff29 hW29
  refine (zgcd_good GA.out GB.out w29).mono ?_
  rintro e w30 ⟨rfl, hb⟩
  replace A := hid (A.out.below hb)
  replace A2 := hid (A2.out.below hb)
  replace B := hid (B.out.trans (hb.mono B.out.size))
  clear hb
  go_wp2_with fail
  refine (same_nil w30 (HD.out.below B.out)).mono ?_
  rintro e w31 ⟨rfl, hb⟩
  replace A := hid (A.out.below hb)
  replace A2 := hid (A2.out.below hb)
  replace B := hid (B.out.trans (hb.mono B.out.size))
  clear hb
  have cc32 := A2.out.cell 2 ⟨#[]⟩ rfl
  have ff32 := A2.out.free 2
  replace B := hid (B.out.setCell (p := ⟨w22.heap.size, 2, none⟩) HgB.out (.string (ztxt (zg (znum a) (znum b)).1)))
  replace A := hid (A.out.other HAB.out 2 (.string (ztxt (zg (znum a) (znum b)).1)))
  replace A2 := hid (show Arr _ (w22.heap.size) [(ztxt (znum a + znum b)), (ztxt (znum a * znum b)), (ztxt (zg (znum a) (znum b)).1), ⟨#[]⟩, ⟨#[]⟩, ⟨#[]⟩, ⟨#[]⟩] from A2.out.set 2 (ztxt (zg (znum a) (znum b)).1))
  generalize hW32 : (w31.setCell ⟨w22.heap.size, 2, none⟩ (.string (ztxt (zg (znum a) (znum b)).1))) = w32 at *
  have cc33 := A2.out.cell 3 ⟨#[]⟩ rfl
  have ff33 := A2.out.free 3
  replace B := hid (B.out.setCell (p := ⟨w22.heap.size, 3, none⟩) HgB.out (.string (ztxt (zg (znum a) (znum b)).2.1)))
  replace A := hid (A.out.other HAB.out 3 (.string (ztxt (zg (znum a) (znum b)).2.1)))
  replace A2 := hid (show Arr _ (w22.heap.size) [(ztxt (znum a + znum b)), (ztxt (znum a * znum b)), (ztxt (zg (znum a) (znum b)).1), (ztxt (zg (znum a) (znum b)).2.1), ⟨#[]⟩, ⟨#[]⟩, ⟨#[]⟩] from A2.out.set 3 (ztxt (zg (znum a) (znum b)).2.1))
  generalize hW33 : (w32.setCell ⟨w22.heap.size, 3, none⟩ (.string (ztxt (zg (znum a) (znum b)).2.1))) = w33 at *
  have cc34 := A2.out.cell 4 ⟨#[]⟩ rfl
  have ff34 := A2.out.free 4
  replace B := hid (B.out.setCell (p := ⟨w22.heap.size, 4, none⟩) HgB.out (.string (ztxt (zg (znum a) (znum b)).2.2)))
  replace A := hid (A.out.other HAB.out 4 (.string (ztxt (zg (znum a) (znum b)).2.2)))
  replace A2 := hid (show Arr _ (w22.heap.size) [(ztxt (znum a + znum b)), (ztxt (znum a * znum b)), (ztxt (zg (znum a) (znum b)).1), (ztxt (zg (znum a) (znum b)).2.1), (ztxt (zg (znum a) (znum b)).2.2), ⟨#[]⟩, ⟨#[]⟩] from A2.out.set 4 (ztxt (zg (znum a) (znum b)).2.2))
  generalize hW34 : (w33.setCell ⟨w22.heap.size, 4, none⟩ (.string (ztxt (zg (znum a) (znum b)).2.2))) = w34 at *
  go_wp2_with fail
  clear cc32 ff32 hW32 cc33 ff33 hW33 cc34 ff34 hW34
  refine (zdiv_zero GA.out GB.out H0.out w34).mono ?_
  rintro e w35 ⟨rfl, hb⟩
  replace A := hid (A.out.below hb)
  replace A2 := hid (A2.out.below hb)
  replace B := hid (B.out.trans (hb.mono B.out.size))
  clear hb
  go_wp2_with fail
  refine (same_no 5 (by decide) w35 (HD.out.below B.out)).mono ?_
  rintro e w36 ⟨rfl, hb⟩
  replace A := hid (A.out.below hb)
  replace A2 := hid (A2.out.below hb)
  replace B := hid (B.out.trans (hb.mono B.out.size))
  clear hb
  have cc37 := A2.out.cell 5 ⟨#[]⟩ rfl
  have ff37 := A2.out.free 5
  replace B := hid (B.out.setCell (p := ⟨w22.heap.size, 5, none⟩) HgB.out (.string ⟨#[]⟩))
  replace A := hid (A.out.other HAB.out 5 (.string ⟨#[]⟩))
  replace A2 := hid (show Arr _ (w22.heap.size) [(ztxt (znum a + znum b)), (ztxt (znum a * znum b)), (ztxt (zg (znum a) (znum b)).1), (ztxt (zg (znum a) (znum b)).2.1), (ztxt (zg (znum a) (znum b)).2.2), ⟨#[]⟩, ⟨#[]⟩] from A2.out.set 5 ⟨#[]⟩)
  generalize hW37 : (w36.setCell ⟨w22.heap.size, 5, none⟩ (.string ⟨#[]⟩)) = w37 at *
  have cc38 := A2.out.cell 6 ⟨#[]⟩ rfl
  have ff38 := A2.out.free 6
  replace B := hid (B.out.setCell (p := ⟨w22.heap.size, 6, none⟩) HgB.out (.string ⟨#[]⟩))
  replace A := hid (A.out.other HAB.out 6 (.string ⟨#[]⟩))
  replace A2 := hid (show Arr _ (w22.heap.size) [(ztxt (znum a + znum b)), (ztxt (znum a * znum b)), (ztxt (zg (znum a) (znum b)).1), (ztxt (zg (znum a) (znum b)).2.1), (ztxt (zg (znum a) (znum b)).2.2), ⟨#[]⟩, ⟨#[]⟩] from A2.out.set 6 ⟨#[]⟩)
  generalize hW38 : (w37.setCell ⟨w22.heap.size, 6, none⟩ (.string ⟨#[]⟩)) = w38 at *
  have ca0 := A.out.cell 0 (ztxt (znum a + znum b)) rfl
  have cb0 := A2.out.cell 0 (ztxt (znum a + znum b)) rfl
  have ca1 := A.out.cell 1 (ztxt (znum a * znum b)) rfl
  have cb1 := A2.out.cell 1 (ztxt (znum a * znum b)) rfl
  have ca2 := A.out.cell 2 (ztxt (zg (znum a) (znum b)).1) rfl
  have cb2 := A2.out.cell 2 (ztxt (zg (znum a) (znum b)).1) rfl
  have ca3 := A.out.cell 3 (ztxt (zg (znum a) (znum b)).2.1) rfl
  have cb3 := A2.out.cell 3 (ztxt (zg (znum a) (znum b)).2.1) rfl
  have ca4 := A.out.cell 4 (ztxt (zg (znum a) (znum b)).2.2) rfl
  have cb4 := A2.out.cell 4 (ztxt (zg (znum a) (znum b)).2.2) rfl
  have ca5 := A.out.cell 5 ⟨#[]⟩ rfl
  have cb5 := A2.out.cell 5 ⟨#[]⟩ rfl
  have ca6 := A.out.cell 6 ⟨#[]⟩ rfl
  have cb6 := A2.out.cell 6 ⟨#[]⟩ rfl
  have heq := eq_seven (ztxt (znum a + znum b)) (ztxt (znum a * znum b)) (ztxt (zg (znum a) (znum b)).1) (ztxt (zg (znum a) (znum b)).2.1) (ztxt (zg (znum a) (znum b)).2.2) ⟨#[]⟩ ⟨#[]⟩
  go_wp2_with fail
  clear cc37 ff37 hW37 cc38 ff38 hW38
  go_ret
  exact ⟨rfl, B.out⟩

end Go.Proofs.YtckkbjnipacodaaDoor

namespace Go.Proofs.YtckkbjnipacodaaDoor
open Go.RowKit
open Num4
open Num (zg)
set_option linter.unusedVariables false
set_option maxRecDepth 100000
set_option linter.unusedSimpArgs false

set_option maxHeartbeats 32000000 in
theorem ztells_wrong1 (a b : ByteArray) {k : Int} (ha : BadZ a k) (sa : a.size ≤ maxLen) (sb : b.size ≤ maxLen) (w : World) (hd : Door w) :
    Calls Tryd.prog 4 #[.string a, .string b] w fun e w' => e = .returned (.bool true) ∧ Below w.heap.size w w' := by
  have HD := hid hd
  have SA := hid sa
  have SB := hid sb
  have GA := hid ha
  have hk := ha.ne
  have WR := hid (show WrongZ a b k from .inl ha)
  obtain ⟨kb, hnb⟩ : ∃ kb : Int, (GoodZ b ∧ kb = 0) ∨ BadZ b kb := by
    rcases goodZ_or_bad b with h | ⟨kb, h⟩
    · exact ⟨0, .inl ⟨h, rfl⟩⟩
    · exact ⟨kb, .inr h⟩
  have GB := hid hnb
  clear ha hd sa sb hnb
  go_enter Tryd.func4, Tryd.ntmps4
  go_wp2_with fail
  refine (divided_d w).mono ?_
  rintro e w1 ⟨rfl, hb⟩
  have B := hid hb
  clear hb
  go_wp2_with fail
  refine (rwholeof_bad GA.out w1 SA.out).mono ?_
  rintro e w2 ⟨sx, px, nx, cx, rfl, hb⟩
  replace B := hid (B.out.trans (hb.mono B.out.size))
  clear hb
  have hb := (Below.refl _ _).alloc (Nat.le_refl w2.heap.size) (.cells #[.bool sx, .slice px nx cx] 46)
  replace B := hid (B.out.trans (hb.mono B.out.size))
  clear hb
  generalize hW3 : (w2.alloc (.cells #[.bool sx, .slice px nx cx] 46)) = w3 at *
  go_wp2_with fail
  clear hW3
  refine (zcheck_bad GA.out SA.out w3).mono ?_
  rintro e w4 ⟨rfl, hb⟩
  replace B := hid (B.out.trans (hb.mono B.out.size))
  clear hb
  go_wp2_with fail
  refine (same_no k hk w4 (HD.out.below B.out)).mono ?_
  rintro e w5 ⟨rfl, hb⟩
  replace B := hid (B.out.trans (hb.mono B.out.size))
  clear hb
  go_wp2_with fail
  refine (rwholeof_any GB.out w5 SB.out).mono ?_
  rintro e w6 ⟨sy, py, ny, cy, rfl, hb⟩
  replace B := hid (B.out.trans (hb.mono B.out.size))
  clear hb
  have hb := (Below.refl _ _).alloc (Nat.le_refl w6.heap.size) (.cells #[.bool sy, .slice py ny cy] 46)
  replace B := hid (B.out.trans (hb.mono B.out.size))
  clear hb
  generalize hW7 : (w6.alloc (.cells #[.bool sy, .slice py ny cy] 46)) = w7 at *
  go_wp2_with fail
  clear hW7
  refine (two_some k kb hk w7).mono ?_
  rintro e w' ⟨rfl, rfl⟩
  have HgA := hid B.out.size
  have A := hid (show Arr (w7.alloc (.cells #[.string ⟨#[]⟩, .string ⟨#[]⟩, .string ⟨#[]⟩, .string ⟨#[]⟩, .string ⟨#[]⟩, .string ⟨#[]⟩, .string ⟨#[]⟩] 49)) w7.heap.size [⟨#[]⟩, ⟨#[]⟩, ⟨#[]⟩, ⟨#[]⟩, ⟨#[]⟩, ⟨#[]⟩, ⟨#[]⟩] from Arr.new w7 [⟨#[]⟩, ⟨#[]⟩, ⟨#[]⟩, ⟨#[]⟩, ⟨#[]⟩, ⟨#[]⟩, ⟨#[]⟩])
  have hb := (Below.refl _ _).alloc (Nat.le_refl w7.heap.size) (.cells #[.string ⟨#[]⟩, .string ⟨#[]⟩, .string ⟨#[]⟩, .string ⟨#[]⟩, .string ⟨#[]⟩, .string ⟨#[]⟩, .string ⟨#[]⟩] 49)
  replace B := hid (B.out.trans (hb.mono B.out.size))
  clear hb
  generalize hW8 : (w7.alloc (.cells #[.string ⟨#[]⟩, .string ⟨#[]⟩, .string ⟨#[]⟩, .string ⟨#[]⟩, .string ⟨#[]⟩, .string ⟨#[]⟩, .string ⟨#[]⟩] 49)) = w8 at *
  have HgB := hid B.out.size
  have HAB := hid (Nat.ne_of_lt A.out.lt)
  have A2 := hid (show Arr (w8.alloc (.cells #[.string ⟨#[]⟩, .string ⟨#[]⟩, .string ⟨#[]⟩, .string ⟨#[]⟩, .string ⟨#[]⟩, .string ⟨#[]⟩, .string ⟨#[]⟩] 49)) w8.heap.size [⟨#[]⟩, ⟨#[]⟩, ⟨#[]⟩, ⟨#[]⟩, ⟨#[]⟩, ⟨#[]⟩, ⟨#[]⟩] from Arr.new w8 [⟨#[]⟩, ⟨#[]⟩, ⟨#[]⟩, ⟨#[]⟩, ⟨#[]⟩, ⟨#[]⟩, ⟨#[]⟩])
  have hb := (Below.refl _ _).alloc (Nat.le_refl w8.heap.size) (.cells #[.string ⟨#[]⟩, .string ⟨#[]⟩, .string ⟨#[]⟩, .string ⟨#[]⟩, .string ⟨#[]⟩, .string ⟨#[]⟩, .string ⟨#[]⟩] 49)
  replace A := hid (A.out.below hb)
  replace B := hid (B.out.trans (hb.mono B.out.size))
  clear hb
  generalize hW9 : (w8.alloc (.cells #[.string ⟨#[]⟩, .string ⟨#[]⟩, .string ⟨#[]⟩, .string ⟨#[]⟩, .string ⟨#[]⟩, .string ⟨#[]⟩, .string ⟨#[]⟩] 49)) = w9 at *
  go_wp2_with fail
  clear hW8 hW9
  refine (zadd_bad WR.out SA.out SB.out w9).mono ?_
  rintro e w10 ⟨rfl, hb⟩
  replace A := hid (A.out.below hb)
  replace A2 := hid (A2.out.below hb)
  replace B := hid (B.out.trans (hb.mono B.out.size))
  clear hb
  go_wp2_with fail
  refine (same_no k hk w10 (HD.out.below B.out)).mono ?_
  rintro e w11 ⟨rfl, hb⟩
  replace A := hid (A.out.below hb)
  replace A2 := hid (A2.out.below hb)
  replace B := hid (B.out.trans (hb.mono B.out.size))
  clear hb
  have cc12 := A2.out.cell 0 ⟨#[]⟩ rfl
  have ff12 := A2.out.free 0
  replace B := hid (B.out.setCell (p := ⟨w8.heap.size, 0, none⟩) HgB.out (.string ⟨#[]⟩))
  replace A := hid (A.out.other HAB.out 0 (.string ⟨#[]⟩))
  replace A2 := hid (show Arr _ (w8.heap.size) [⟨#[]⟩, ⟨#[]⟩, ⟨#[]⟩, ⟨#[]⟩, ⟨#[]⟩, ⟨#[]⟩, ⟨#[]⟩] from A2.out.set 0 ⟨#[]⟩)
  generalize hW12 : (w11.setCell ⟨w8.heap.size, 0, none⟩ (.string ⟨#[]⟩)) = w12 at *
  go_wp2_with fail
  clear cc12 ff12 hW12
  refine (zmul_bad WR.out SA.out SB.out w12).mono ?_
  rintro e w13 ⟨rfl, hb⟩
  replace A := hid (A.out.below hb)
  replace A2 := hid (A2.out.below hb)
  replace B := hid (B.out.trans (hb.mono B.out.size))
  clear hb
  go_wp2_with fail
  refine (same_no k hk w13 (HD.out.below B.out)).mono ?_
  rintro e w14 ⟨rfl, hb⟩
  replace A := hid (A.out.below hb)
  replace A2 := hid (A2.out.below hb)
  replace B := hid (B.out.trans (hb.mono B.out.size))
  clear hb
  have cc15 := A2.out.cell 1 ⟨#[]⟩ rfl
  have ff15 := A2.out.free 1
  replace B := hid (B.out.setCell (p := ⟨w8.heap.size, 1, none⟩) HgB.out (.string ⟨#[]⟩))
  replace A := hid (A.out.other HAB.out 1 (.string ⟨#[]⟩))
  replace A2 := hid (show Arr _ (w8.heap.size) [⟨#[]⟩, ⟨#[]⟩, ⟨#[]⟩, ⟨#[]⟩, ⟨#[]⟩, ⟨#[]⟩, ⟨#[]⟩] from A2.out.set 1 ⟨#[]⟩)
  generalize hW15 : (w14.setCell ⟨w8.heap.size, 1, none⟩ (.string ⟨#[]⟩)) = w15 at *
  go_wp2_with fail
  clear cc15 ff15 hW15
  refine (zgcd_bad WR.out SA.out SB.out w15).mono ?_
  rintro e w16 ⟨rfl, hb⟩
  replace A := hid (A.out.below hb)
  replace A2 := hid (A2.out.below hb)
  replace B := hid (B.out.trans (hb.mono B.out.size))
  clear hb
  go_wp2_with fail
  refine (same_no k hk w16 (HD.out.below B.out)).mono ?_
  rintro e w17 ⟨rfl, hb⟩
  replace A := hid (A.out.below hb)
  replace A2 := hid (A2.out.below hb)
  replace B := hid (B.out.trans (hb.mono B.out.size))
  clear hb
  have cc18 := A2.out.cell 2 ⟨#[]⟩ rfl
  have ff18 := A2.out.free 2
  replace B := hid (B.out.setCell (p := ⟨w8.heap.size, 2, none⟩) HgB.out (.string ⟨#[]⟩))
  replace A := hid (A.out.other HAB.out 2 (.string ⟨#[]⟩))
  replace A2 := hid (show Arr _ (w8.heap.size) [⟨#[]⟩, ⟨#[]⟩, ⟨#[]⟩, ⟨#[]⟩, ⟨#[]⟩, ⟨#[]⟩, ⟨#[]⟩] from A2.out.set 2 ⟨#[]⟩)
  generalize hW18 : (w17.setCell ⟨w8.heap.size, 2, none⟩ (.string ⟨#[]⟩)) = w18 at *
  have cc19 := A2.out.cell 3 ⟨#[]⟩ rfl
  have ff19 := A2.out.free 3
  replace B := hid (B.out.setCell (p := ⟨w8.heap.size, 3, none⟩) HgB.out (.string ⟨#[]⟩))
  replace A := hid (A.out.other HAB.out 3 (.string ⟨#[]⟩))
  replace A2 := hid (show Arr _ (w8.heap.size) [⟨#[]⟩, ⟨#[]⟩, ⟨#[]⟩, ⟨#[]⟩, ⟨#[]⟩, ⟨#[]⟩, ⟨#[]⟩] from A2.out.set 3 ⟨#[]⟩)
  generalize hW19 : (w18.setCell ⟨w8.heap.size, 3, none⟩ (.string ⟨#[]⟩)) = w19 at *
  have cc20 := A2.out.cell 4 ⟨#[]⟩ rfl
  have ff20 := A2.out.free 4
  replace B := hid (B.out.setCell (p := ⟨w8.heap.size, 4, none⟩) HgB.out (.string ⟨#[]⟩))
  replace A := hid (A.out.other HAB.out 4 (.string ⟨#[]⟩))
  replace A2 := hid (show Arr _ (w8.heap.size) [⟨#[]⟩, ⟨#[]⟩, ⟨#[]⟩, ⟨#[]⟩, ⟨#[]⟩, ⟨#[]⟩, ⟨#[]⟩] from A2.out.set 4 ⟨#[]⟩)
  generalize hW20 : (w19.setCell ⟨w8.heap.size, 4, none⟩ (.string ⟨#[]⟩)) = w20 at *
  go_wp2_with fail
  clear cc18 ff18 hW18 cc19 ff19 hW19 cc20 ff20 hW20
  refine (zdiv_bad WR.out SA.out SB.out w20).mono ?_
  rintro e w21 ⟨rfl, hb⟩
  replace A := hid (A.out.below hb)
  replace A2 := hid (A2.out.below hb)
  replace B := hid (B.out.trans (hb.mono B.out.size))
  clear hb
  go_wp2_with fail
  refine (same_no k hk w21 (HD.out.below B.out)).mono ?_
  rintro e w22 ⟨rfl, hb⟩
  replace A := hid (A.out.below hb)
  replace A2 := hid (A2.out.below hb)
  replace B := hid (B.out.trans (hb.mono B.out.size))
  clear hb
  have cc23 := A2.out.cell 5 ⟨#[]⟩ rfl
  have ff23 := A2.out.free 5
  replace B := hid (B.out.setCell (p := ⟨w8.heap.size, 5, none⟩) HgB.out (.string ⟨#[]⟩))
  replace A := hid (A.out.other HAB.out 5 (.string ⟨#[]⟩))
  replace A2 := hid (show Arr _ (w8.heap.size) [⟨#[]⟩, ⟨#[]⟩, ⟨#[]⟩, ⟨#[]⟩, ⟨#[]⟩, ⟨#[]⟩, ⟨#[]⟩] from A2.out.set 5 ⟨#[]⟩)
  generalize hW23 : (w22.setCell ⟨w8.heap.size, 5, none⟩ (.string ⟨#[]⟩)) = w23 at *
  have cc24 := A2.out.cell 6 ⟨#[]⟩ rfl
  have ff24 := A2.out.free 6
  replace B := hid (B.out.setCell (p := ⟨w8.heap.size, 6, none⟩) HgB.out (.string ⟨#[]⟩))
  replace A := hid (A.out.other HAB.out 6 (.string ⟨#[]⟩))
  replace A2 := hid (show Arr _ (w8.heap.size) [⟨#[]⟩, ⟨#[]⟩, ⟨#[]⟩, ⟨#[]⟩, ⟨#[]⟩, ⟨#[]⟩, ⟨#[]⟩] from A2.out.set 6 ⟨#[]⟩)
  generalize hW24 : (w23.setCell ⟨w8.heap.size, 6, none⟩ (.string ⟨#[]⟩)) = w24 at *
  have ca0 := A.out.cell 0 ⟨#[]⟩ rfl
  have cb0 := A2.out.cell 0 ⟨#[]⟩ rfl
  have ca1 := A.out.cell 1 ⟨#[]⟩ rfl
  have cb1 := A2.out.cell 1 ⟨#[]⟩ rfl
  have ca2 := A.out.cell 2 ⟨#[]⟩ rfl
  have cb2 := A2.out.cell 2 ⟨#[]⟩ rfl
  have ca3 := A.out.cell 3 ⟨#[]⟩ rfl
  have cb3 := A2.out.cell 3 ⟨#[]⟩ rfl
  have ca4 := A.out.cell 4 ⟨#[]⟩ rfl
  have cb4 := A2.out.cell 4 ⟨#[]⟩ rfl
  have ca5 := A.out.cell 5 ⟨#[]⟩ rfl
  have cb5 := A2.out.cell 5 ⟨#[]⟩ rfl
  have ca6 := A.out.cell 6 ⟨#[]⟩ rfl
  have cb6 := A2.out.cell 6 ⟨#[]⟩ rfl
  have heq := eq_seven ⟨#[]⟩ ⟨#[]⟩ ⟨#[]⟩ ⟨#[]⟩ ⟨#[]⟩ ⟨#[]⟩ ⟨#[]⟩
  go_wp2_with fail
  clear cc23 ff23 hW23 cc24 ff24 hW24
  go_ret
  exact ⟨rfl, B.out⟩

end Go.Proofs.YtckkbjnipacodaaDoor

namespace Go.Proofs.YtckkbjnipacodaaDoor
open Go.RowKit
open Num4
open Num (zg)
set_option linter.unusedVariables false
set_option maxRecDepth 100000
set_option linter.unusedSimpArgs false

set_option maxHeartbeats 32000000 in
theorem ztells_wrong2 (a b : ByteArray) {k : Int} (ha : GoodZ a) (hb : BadZ b k) (sa : a.size ≤ maxLen) (sb : b.size ≤ maxLen) (w : World) (hd : Door w) :
    Calls Tryd.prog 4 #[.string a, .string b] w fun e w' => e = .returned (.bool true) ∧ Below w.heap.size w w' := by
  have HD := hid hd
  have SA := hid sa
  have SB := hid sb
  have GA := hid ha
  have hk := hb.ne
  have WR := hid (show WrongZ a b k from .inr ⟨ha, hb⟩)
  have GB := hid (show (GoodZ b ∧ k = 0) ∨ BadZ b k from .inr hb)
  clear ha hb hd sa sb
  go_enter Tryd.func4, Tryd.ntmps4
  go_wp2_with fail
  refine (divided_d w).mono ?_
  rintro e w1 ⟨rfl, hb⟩
  have B := hid hb
  clear hb
  go_wp2_with fail
  refine (rwholeof_good GA.out w1).mono ?_
  rintro e w2 ⟨v, rfl, hX, hb⟩
  obtain ⟨sx, px, nx, cx, rfl⟩ := hX.opened
  clear hX
  replace B := hid (B.out.trans (hb.mono B.out.size))
  clear hb
  have hb := (Below.refl _ _).alloc (Nat.le_refl w2.heap.size) (.cells #[.bool sx, .slice px nx cx] 46)
  replace B := hid (B.out.trans (hb.mono B.out.size))
  clear hb
  generalize hW3 : (w2.alloc (.cells #[.bool sx, .slice px nx cx] 46)) = w3 at *
  go_wp2_with fail
  clear hW3
  refine (zcheck_good GA.out w3).mono ?_
  rintro e w4 ⟨rfl, hb⟩
  replace B := hid (B.out.trans (hb.mono B.out.size))
  clear hb
  go_wp2_with fail
  refine (same_nil w4 (HD.out.below B.out)).mono ?_
  rintro e w5 ⟨rfl, hb⟩
  replace B := hid (B.out.trans (hb.mono B.out.size))
  clear hb
  go_wp2_with fail
  refine (rwholeof_any GB.out w5 SB.out).mono ?_
  rintro e w6 ⟨sy, py, ny, cy, rfl, hb⟩
  replace B := hid (B.out.trans (hb.mono B.out.size))
  clear hb
  have hb := (Below.refl _ _).alloc (Nat.le_refl w6.heap.size) (.cells #[.bool sy, .slice py ny cy] 46)
  replace B := hid (B.out.trans (hb.mono B.out.size))
  clear hb
  generalize hW7 : (w6.alloc (.cells #[.bool sy, .slice py ny cy] 46)) = w7 at *
  go_wp2_with fail
  clear hW7
  refine (two_zero k w7).mono ?_
  rintro e w' ⟨rfl, rfl⟩
  have HgA := hid B.out.size
  have A := hid (show Arr (w7.alloc (.cells #[.string ⟨#[]⟩, .string ⟨#[]⟩, .string ⟨#[]⟩, .string ⟨#[]⟩, .string ⟨#[]⟩, .string ⟨#[]⟩, .string ⟨#[]⟩] 49)) w7.heap.size [⟨#[]⟩, ⟨#[]⟩, ⟨#[]⟩, ⟨#[]⟩, ⟨#[]⟩, ⟨#[]⟩, ⟨#[]⟩] from Arr.new w7 [⟨#[]⟩, ⟨#[]⟩, ⟨#[]⟩, ⟨#[]⟩, ⟨#[]⟩, ⟨#[]⟩, ⟨#[]⟩])
  have hb := (Below.refl _ _).alloc (Nat.le_refl w7.heap.size) (.cells #[.string ⟨#[]⟩, .string ⟨#[]⟩, .string ⟨#[]⟩, .string ⟨#[]⟩, .string ⟨#[]⟩, .string ⟨#[]⟩, .string ⟨#[]⟩] 49)
  replace B := hid (B.out.trans (hb.mono B.out.size))
  clear hb
  generalize hW8 : (w7.alloc (.cells #[.string ⟨#[]⟩, .string ⟨#[]⟩, .string ⟨#[]⟩, .string ⟨#[]⟩, .string ⟨#[]⟩, .string ⟨#[]⟩, .string ⟨#[]⟩] 49)) = w8 at *
  have HgB := hid B.out.size
  have HAB := hid (Nat.ne_of_lt A.out.lt)
  have A2 := hid (show Arr (w8.alloc (.cells #[.string ⟨#[]⟩, .string ⟨#[]⟩, .string ⟨#[]⟩, .string ⟨#[]⟩, .string ⟨#[]⟩, .string ⟨#[]⟩, .string ⟨#[]⟩] 49)) w8.heap.size [⟨#[]⟩, ⟨#[]⟩, ⟨#[]⟩, ⟨#[]⟩, ⟨#[]⟩, ⟨#[]⟩, ⟨#[]⟩] from Arr.new w8 [⟨#[]⟩, ⟨#[]⟩, ⟨#[]⟩, ⟨#[]⟩, ⟨#[]⟩, ⟨#[]⟩, ⟨#[]⟩])
  have hb := (Below.refl _ _).alloc (Nat.le_refl w8.heap.size) (.cells #[.string ⟨#[]⟩, .string ⟨#[]⟩, .string ⟨#[]⟩, .string ⟨#[]⟩, .string ⟨#[]⟩, .string ⟨#[]⟩, .string ⟨#[]⟩] 49)
  replace A := hid (A.out.below hb)
  replace B := hid (B.out.trans (hb.mono B.out.size))
  clear hb
  generalize hW9 : (w8.alloc (.cells #[.string ⟨#[]⟩, .string ⟨#[]⟩, .string ⟨#[]⟩, .string ⟨#[]⟩, .string ⟨#[]⟩, .string ⟨#[]⟩, .string ⟨#[]⟩] 49)) = w9 at *
  go_wp2_with fail
  clear hW8 hW9
  refine (zadd_bad WR.out SA.out SB.out w9).mono ?_
  rintro e w10 ⟨rfl, hb⟩
  replace A := hid (A.out.below hb)
  replace A2 := hid (A2.out.below hb)
  replace B := hid (B.out.trans (hb.mono B.out.size))
  clear hb
  go_wp2_with fail
  refine (same_no k hk w10 (HD.out.below B.out)).mono ?_
  rintro e w11 ⟨rfl, hb⟩
  replace A := hid (A.out.below hb)
  replace A2 := hid (A2.out.below hb)
  replace B := hid (B.out.trans (hb.mono B.out.size))
  clear hb
  have cc12 := A2.out.cell 0 ⟨#[]⟩ rfl
  have ff12 := A2.out.free 0
  replace B := hid (B.out.setCell (p := ⟨w8.heap.size, 0, none⟩) HgB.out (.string ⟨#[]⟩))
  replace A := hid (A.out.other HAB.out 0 (.string ⟨#[]⟩))
  replace A2 := hid (show Arr _ (w8.heap.size) [⟨#[]⟩, ⟨#[]⟩, ⟨#[]⟩, ⟨#[]⟩, ⟨#[]⟩, ⟨#[]⟩, ⟨#[]⟩] from A2.out.set 0 ⟨#[]⟩)
  generalize hW12 : (w11.setCell ⟨w8.heap.size, 0, none⟩ (.string ⟨#[]⟩)) = w12 at *
  go_wp2_with fail
  clear cc12 ff12 hW12
  refine (zmul_bad WR.out SA.out SB.out w12).mono ?_
  rintro e w13 ⟨rfl, hb⟩
  replace A := hid (A.out.below hb)
  replace A2 := hid (A2.out.below hb)
  replace B := hid (B.out.trans (hb.mono B.out.size))
  clear hb
  go_wp2_with fail
  refine (same_no k hk w13 (HD.out.below B.out)).mono ?_
  rintro e w14 ⟨rfl, hb⟩
  replace A := hid (A.out.below hb)
  replace A2 := hid (A2.out.below hb)
  replace B := hid (B.out.trans (hb.mono B.out.size))
  clear hb
  have cc15 := A2.out.cell 1 ⟨#[]⟩ rfl
  have ff15 := A2.out.free 1
  replace B := hid (B.out.setCell (p := ⟨w8.heap.size, 1, none⟩) HgB.out (.string ⟨#[]⟩))
  replace A := hid (A.out.other HAB.out 1 (.string ⟨#[]⟩))
  replace A2 := hid (show Arr _ (w8.heap.size) [⟨#[]⟩, ⟨#[]⟩, ⟨#[]⟩, ⟨#[]⟩, ⟨#[]⟩, ⟨#[]⟩, ⟨#[]⟩] from A2.out.set 1 ⟨#[]⟩)
  generalize hW15 : (w14.setCell ⟨w8.heap.size, 1, none⟩ (.string ⟨#[]⟩)) = w15 at *
  go_wp2_with fail
  clear cc15 ff15 hW15
  refine (zgcd_bad WR.out SA.out SB.out w15).mono ?_
  rintro e w16 ⟨rfl, hb⟩
  replace A := hid (A.out.below hb)
  replace A2 := hid (A2.out.below hb)
  replace B := hid (B.out.trans (hb.mono B.out.size))
  clear hb
  go_wp2_with fail
  refine (same_no k hk w16 (HD.out.below B.out)).mono ?_
  rintro e w17 ⟨rfl, hb⟩
  replace A := hid (A.out.below hb)
  replace A2 := hid (A2.out.below hb)
  replace B := hid (B.out.trans (hb.mono B.out.size))
  clear hb
  have cc18 := A2.out.cell 2 ⟨#[]⟩ rfl
  have ff18 := A2.out.free 2
  replace B := hid (B.out.setCell (p := ⟨w8.heap.size, 2, none⟩) HgB.out (.string ⟨#[]⟩))
  replace A := hid (A.out.other HAB.out 2 (.string ⟨#[]⟩))
  replace A2 := hid (show Arr _ (w8.heap.size) [⟨#[]⟩, ⟨#[]⟩, ⟨#[]⟩, ⟨#[]⟩, ⟨#[]⟩, ⟨#[]⟩, ⟨#[]⟩] from A2.out.set 2 ⟨#[]⟩)
  generalize hW18 : (w17.setCell ⟨w8.heap.size, 2, none⟩ (.string ⟨#[]⟩)) = w18 at *
  have cc19 := A2.out.cell 3 ⟨#[]⟩ rfl
  have ff19 := A2.out.free 3
  replace B := hid (B.out.setCell (p := ⟨w8.heap.size, 3, none⟩) HgB.out (.string ⟨#[]⟩))
  replace A := hid (A.out.other HAB.out 3 (.string ⟨#[]⟩))
  replace A2 := hid (show Arr _ (w8.heap.size) [⟨#[]⟩, ⟨#[]⟩, ⟨#[]⟩, ⟨#[]⟩, ⟨#[]⟩, ⟨#[]⟩, ⟨#[]⟩] from A2.out.set 3 ⟨#[]⟩)
  generalize hW19 : (w18.setCell ⟨w8.heap.size, 3, none⟩ (.string ⟨#[]⟩)) = w19 at *
  have cc20 := A2.out.cell 4 ⟨#[]⟩ rfl
  have ff20 := A2.out.free 4
  replace B := hid (B.out.setCell (p := ⟨w8.heap.size, 4, none⟩) HgB.out (.string ⟨#[]⟩))
  replace A := hid (A.out.other HAB.out 4 (.string ⟨#[]⟩))
  replace A2 := hid (show Arr _ (w8.heap.size) [⟨#[]⟩, ⟨#[]⟩, ⟨#[]⟩, ⟨#[]⟩, ⟨#[]⟩, ⟨#[]⟩, ⟨#[]⟩] from A2.out.set 4 ⟨#[]⟩)
  generalize hW20 : (w19.setCell ⟨w8.heap.size, 4, none⟩ (.string ⟨#[]⟩)) = w20 at *
  go_wp2_with fail
  clear cc18 ff18 hW18 cc19 ff19 hW19 cc20 ff20 hW20
  refine (zdiv_bad WR.out SA.out SB.out w20).mono ?_
  rintro e w21 ⟨rfl, hb⟩
  replace A := hid (A.out.below hb)
  replace A2 := hid (A2.out.below hb)
  replace B := hid (B.out.trans (hb.mono B.out.size))
  clear hb
  go_wp2_with fail
  refine (same_no k hk w21 (HD.out.below B.out)).mono ?_
  rintro e w22 ⟨rfl, hb⟩
  replace A := hid (A.out.below hb)
  replace A2 := hid (A2.out.below hb)
  replace B := hid (B.out.trans (hb.mono B.out.size))
  clear hb
  have cc23 := A2.out.cell 5 ⟨#[]⟩ rfl
  have ff23 := A2.out.free 5
  replace B := hid (B.out.setCell (p := ⟨w8.heap.size, 5, none⟩) HgB.out (.string ⟨#[]⟩))
  replace A := hid (A.out.other HAB.out 5 (.string ⟨#[]⟩))
  replace A2 := hid (show Arr _ (w8.heap.size) [⟨#[]⟩, ⟨#[]⟩, ⟨#[]⟩, ⟨#[]⟩, ⟨#[]⟩, ⟨#[]⟩, ⟨#[]⟩] from A2.out.set 5 ⟨#[]⟩)
  generalize hW23 : (w22.setCell ⟨w8.heap.size, 5, none⟩ (.string ⟨#[]⟩)) = w23 at *
  have cc24 := A2.out.cell 6 ⟨#[]⟩ rfl
  have ff24 := A2.out.free 6
  replace B := hid (B.out.setCell (p := ⟨w8.heap.size, 6, none⟩) HgB.out (.string ⟨#[]⟩))
  replace A := hid (A.out.other HAB.out 6 (.string ⟨#[]⟩))
  replace A2 := hid (show Arr _ (w8.heap.size) [⟨#[]⟩, ⟨#[]⟩, ⟨#[]⟩, ⟨#[]⟩, ⟨#[]⟩, ⟨#[]⟩, ⟨#[]⟩] from A2.out.set 6 ⟨#[]⟩)
  generalize hW24 : (w23.setCell ⟨w8.heap.size, 6, none⟩ (.string ⟨#[]⟩)) = w24 at *
  have ca0 := A.out.cell 0 ⟨#[]⟩ rfl
  have cb0 := A2.out.cell 0 ⟨#[]⟩ rfl
  have ca1 := A.out.cell 1 ⟨#[]⟩ rfl
  have cb1 := A2.out.cell 1 ⟨#[]⟩ rfl
  have ca2 := A.out.cell 2 ⟨#[]⟩ rfl
  have cb2 := A2.out.cell 2 ⟨#[]⟩ rfl
  have ca3 := A.out.cell 3 ⟨#[]⟩ rfl
  have cb3 := A2.out.cell 3 ⟨#[]⟩ rfl
  have ca4 := A.out.cell 4 ⟨#[]⟩ rfl
  have cb4 := A2.out.cell 4 ⟨#[]⟩ rfl
  have ca5 := A.out.cell 5 ⟨#[]⟩ rfl
  have cb5 := A2.out.cell 5 ⟨#[]⟩ rfl
  have ca6 := A.out.cell 6 ⟨#[]⟩ rfl
  have cb6 := A2.out.cell 6 ⟨#[]⟩ rfl
  have heq := eq_seven ⟨#[]⟩ ⟨#[]⟩ ⟨#[]⟩ ⟨#[]⟩ ⟨#[]⟩ ⟨#[]⟩ ⟨#[]⟩
  go_wp2_with fail
  clear cc23 ff23 hW23 cc24 ff24 hW24
  go_ret
  exact ⟨rfl, B.out⟩

end Go.Proofs.YtckkbjnipacodaaDoor

namespace Go.Proofs.YtckkbjnipacodaaDoor
open Go.RowKit

theorem ztells_walk (a b : ByteArray) (sa : a.size ≤ maxLen) (sb : b.size ≤ maxLen) (w : World) (hd : Door w) :
    Calls Tryd.prog 4 #[.string a, .string b] w fun e w' => e = .returned (.bool true) ∧ Below w.heap.size w w' := by
  rcases goodZ_or_bad a with ha | ⟨k, ha⟩
  · rcases goodZ_or_bad b with hb | ⟨k, hb⟩
    · by_cases h0 : znum b = 0
      · exact ztells_zero a b ha hb h0 w hd
      · exact ztells_good a b ha hb h0 w hd
    · exact ztells_wrong2 a b ha hb sa sb w hd
  · exact ztells_wrong1 a b ha sa sb w hd

end Go.Proofs.YtckkbjnipacodaaDoor
