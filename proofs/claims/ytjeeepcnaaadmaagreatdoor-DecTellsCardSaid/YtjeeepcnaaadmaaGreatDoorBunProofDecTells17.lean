import Derived.Test.YtjeeepcnaaadmaaGreatDoorBunProofDecTells16
import Derived.Test.YtjeeepcnaaadmaaGreatDoorBunProofDecTells13
/-
  THE REFERENCE's Z: DivZ (on), WholeOf.
-/
namespace Go.Proofs.YtjeeepcnaaadmaaGreatDoor
open Go.RowKit
open Num4
open Num (dg isNat dval)
set_option linter.unusedVariables false
set_option maxRecDepth 100000
set_option linter.unusedSimpArgs false

set_option maxHeartbeats 4000000 in
theorem rdivz_odd {w : World} {s' : Bool} {sv sv' : Value} {xs xs' : List Nat} {k l : Nat} (hl : LimR w sv xs) (hk : xs.length ≤ k) (hl' : LimR w sv' xs') (ht' : Trim xs') (hk' : xs'.length ≤ l) (h0 : 0 < val xs') (he : val xs % val xs' ≠ 0) (hs : val xs ≠ 0) (hkb : k ≤ 34359738368) (hlb : l ≤ 34359738368) :
    Calls Tryz.prog 49 #[.agg #[.bool true, sv], .agg #[.bool s', sv']] w fun e w' => ∃ v u, e = .returned (.tuple #[v, u]) ∧ WhlR w' v (zof true (val xs) / zof s' (val xs')) (k + 2) ∧ WhlR w' u (zof true (val xs) % zof s' (val xs')) l ∧ Below w.heap.size w w' := by
  obtain ⟨x0, x1, x2, x3, bw, sz⟩ := rboxes4 w true s' false false sv sv' (.slice none 0 0) (.slice none 0 0) hl.slice hl'.slice ⟨_, _, _, rfl⟩ ⟨_, _, _, rfl⟩
  have HD := hid (rdiv_words (hl.below bw (Nat.le_refl _)) (hl'.below bw (Nat.le_refl _)) (by omega) (by omega) ht' h0)
  obtain ⟨e1, e2⟩ := (div_signs true s' (val xs) (val xs') h0 (fun _ => hs)).2 rfl he
  rw [e1, e2, zof_add]
  have hb1 := few4 hl.1 hk
  have hq : val xs / val xs' < B ^ k := Nat.lt_of_le_of_lt (Nat.div_le_self _ _) hb1
  have hr : val xs' - val xs % val xs' < B ^ l := Nat.lt_of_le_of_lt (Nat.sub_le _ _) (few4 hl'.1 hk')
  have hm := Nat.mod_lt (val xs) h0
  have HQ := hid hq
  have HR := hid hr
  have HM := hid hm
  have HE := hid he
  have L2 := hid (hl'.below bw (Nat.le_refl _))
  have LB := hid (show xs'.length ≤ 1099511627776 by omega)
  have KB := hid hkb
  have X0 := hid x0
  have X1 := hid x1
  have X2 := hid x2
  have X3 := hid x3
  have BW := hid bw
  have SZ := hid sz
  obtain ⟨p', n', c', rfl⟩ := hl'.slice
  have hbn : (true != s') = !s' := by cases s' <;> rfl
  rw [hbn]
  clear hl hk hl' hk' h0 hs x0 x1 x2 x3 bw sz e1 e2 hq hr he hm hb1 ht'
  go_enter Tryz.func49, Tryz.ntmps49
  go_wp2_with fail
  refine HD.out.mono ?_
  rintro e w4 ⟨q, r, qs, rs, rfl, hq, hr, tq, tr, vq, vr, hb⟩
  obtain ⟨c00, c01⟩ := X0.out.keep hb
  obtain ⟨c10, c11⟩ := X1.out.keep hb
  have hn0 : ∃ n, rs.length = n ∧ (n : Int) ≠ 0 := by
    refine ⟨_, rfl, ?_⟩
    have h1 := HE.out
    rw [← vr] at h1
    cases rs with
    | nil => simp [val] at h1
    | cons => simp; omega
  obtain ⟨n, hn, hn0⟩ := hn0
  obtain ⟨p, c, rfl, _⟩ := limR_parts hr
  rw [hn] at *
  have hS := rsigned_lim (k := k) (!s') hq tq (length_le_of_val tq _ (by rw [vq]; exact HQ.out))
  rw [vq] at hS
  have HS := hid hS
  have HRR := hid hr
  have TR := hid tr
  have VR := hid vr
  have HB := hid hb
  clear hS hq hr tq tr vq vr hb HD hn
  go_wp2_with fail
  refine HS.out.mono ?_
  rintro e w5 ⟨v5, rfl, hv5, hb5⟩
  obtain ⟨s5, p5, n5, c5, rfl⟩ := hv5.opened
  obtain ⟨y0, by6, ys⟩ := rboxes1 w5 s5 (.slice p5 n5 c5) ⟨_, _, _, rfl⟩
  have y0c := y0.cell0
  have y1c := y0.cell1
  have hb6 := hb5.trans (by6.mono hb5.size)
  have hb7 := HB.out.trans (hb6.mono HB.out.size)
  obtain ⟨d00, d01⟩ := X0.out.keep hb7
  obtain ⟨d10, d11⟩ := X1.out.keep hb7
  have by7 := (Below.refl _ _).alloc (Nat.le_refl (w5.alloc (.cells #[.bool s5, .slice p5 n5 c5] 26)).heap.size) (.cells #[.int .i64 1] 3)
  have hl1 := limR_one (w := w5.alloc (.cells #[.bool s5, .slice p5 n5 c5] 26)) rfl
  rw [ys] at hl1
  obtain ⟨z0, by8, zs⟩ := rboxes1 ((w5.alloc (.cells #[.bool s5, .slice p5 n5 c5] 26)).alloc (.cells #[.int .i64 1] 3)) (!s') (.slice (some ⟨w5.heap.size + 1, 0, none⟩) 1 1) ⟨_, _, _, rfl⟩
  have es : ((w5.alloc (.cells #[.bool s5, .slice p5 n5 c5] 26)).alloc (.cells #[.int .i64 1] 3)).heap.size = w5.heap.size + 1 + 1 := by simp
  have b58 := by6.trans ((by7.trans (by8.mono by7.size)).mono by6.size)
  have y8 := y0.below (by7.trans (by8.mono by7.size)) y0.lt
  rw [es] at z0 zs
  have HB8 := hid (HB.out.trans ((hb5.trans (b58.mono hb5.size)).mono HB.out.size))
  have hone : WhlR _ (.agg #[.bool (!s'), .slice (some ⟨w5.heap.size + 1, 0, none⟩) 1 1]) (zof (!s') 1) 1 := ⟨!s', _, [1], rfl, hl1.below by8 (Nat.le_refl _), .inr (by decide), Nat.le_refl _, fun _ => by decide, rfl⟩
  have HAD := hid (raddz (hv5.on b58).drew hone.drew (by have := KB.out; omega) (by omega))
  generalize hW : (((w5.alloc (.cells #[.bool s5, .slice p5 n5 c5] 26)).alloc (.cells #[.int .i64 1] 3)).alloc (.cells #[.bool (!s'), .slice (some ⟨w5.heap.size + 1, 0, none⟩) 1 1] 26)) = W at *
  have X1W := hid (X1.out.below HB8.out X1.out.lt)
  have Y8 := hid y8
  have Z0 := hid z0
  have L5 := hid (show w.heap.size + 1 + 1 + 1 + 1 ≤ w5.heap.size by rw [← SZ.out]; exact Nat.le_trans HB.out.size hb5.size)
  have HSB := hid (fun w' (hb' : Below W.heap.size W w') => rsub_lim (L2.out.below (HB8.out.trans (hb'.mono HB8.out.size)) (Nat.le_refl _)) (HRR.out.below (((hb5.trans (b58.mono hb5.size))).trans (hb'.mono (Nat.le_trans hb5.size b58.size))) (Nat.le_refl _)) LB.out TR.out (by rw [VR.out]; exact Nat.le_of_lt HM.out))
  clear hb5 hv5 y0 by6 ys hb6 hb7 by7 hl1 z0 by8 zs es b58 y8 hone HB HRR TR HS
  go_wp2_with fail

  have a0 := Y8.out.drew.cell0
  have a1 := Y8.out.drew.cell1
  have b0 := Z0.out.drew.cell0
  have b1 := Z0.out.drew.cell1
  have e0 := X1W.out.drew.cell0
  have e1 := X1W.out.drew.cell1
  clear c00 c01 c10 c11 d00 d01 d10 d11 y0c y1c hW
  go_region_held3 (fun w' => w'.cell? ⟨w5.heap.size, 0, none⟩ = some (.bool s5) ∧ w'.cell? ⟨w5.heap.size, 1, none⟩ = some (.slice p5 n5 c5) ∧ w'.cell? ⟨w5.heap.size + 1 + 1, 0, none⟩ = some (.bool (!s')) ∧ w'.cell? ⟨w5.heap.size + 1 + 1, 1, none⟩ = some (.slice (some ⟨w5.heap.size + 1, 0, none⟩) 1 1) ∧ w'.cell? ⟨w.heap.size + 1, 1, none⟩ = some (.slice p' n' c')) (go_keep) (first
    | (go_at_call 52; refine HAD.out.mono ?_; rintro e w7 ⟨v7, rfl, hv7, hb7⟩; obtain ⟨s7, p7, n7, c7, rfl⟩ := hv7.opened; replace hb7 := below_undrew' hb7; obtain ⟨f00, f01⟩ := Y8.out.keep hb7; obtain ⟨f10, f11⟩ := Z0.out.keep hb7; obtain ⟨f20, f21⟩ := X1W.out.keep hb7; have HV7 := hid hv7; have HB7 := hid hb7; clear hv7; clear hb7)
    | (go_at_call 88; refine (HSB.out _ HB7.out).mono ?_; rintro e w9 ⟨v9, zs, rfl, hv9, tz, vz, hb9⟩; obtain ⟨p9, n9, c9, rfl⟩ := hv9.slice;
       have HV79 := hid (HV7.out.on hb9); have HWR := hid (show WhlR w9 (.agg #[.bool false, .slice p9 n9 c9]) ((val xs' - val xs % val xs' : Nat) : Int) l from ⟨false, _, zs, rfl, hv9, tz, length_le_of_val tz _ (by rw [vz, VR.out]; exact HR.out), fun e => by simp at e, by rw [vz, VR.out]; rfl⟩);
       replace hb9 := HB7.out.trans (hb9.mono HB7.out.size);
       have y1 := Y8.out.below hb9 Y8.out.lt; have y2 := Z0.out.below hb9 Z0.out.lt; have y3 := X1W.out.below hb9 X1W.out.lt;
       have i0 := y1.cell0; have i1 := y1.cell1; have i2 := y2.cell0; have i3 := y2.cell1; have i5 := y3.cell1;
       obtain ⟨m0, m1, m2, m3, _, _⟩ := y1.past (w.heap.size + 1 + 1) (w.heap.size + 1 + 1 + 1) (w.heap.size + 1 + 1 + 1) (by have := L5.out; omega) (by have := L5.out; omega) (by have := L5.out; omega);
       obtain ⟨m10, m11, m12, m13, _, _⟩ := y2.past (w.heap.size + 1 + 1) (w.heap.size + 1 + 1 + 1) (w.heap.size + 1 + 1 + 1) (by have := L5.out; omega) (by have := L5.out; omega) (by have := L5.out; omega);
       obtain ⟨m20, m21, m22, m23, _, _⟩ := y3.past (w.heap.size + 1 + 1) (w.heap.size + 1 + 1 + 1) (w.heap.size + 1 + 1 + 1) (by omega) (by omega) (by omega);
       have x2' := (X2.out.below HB8.out X2.out.lt).below hb9 (X2.out.below HB8.out X2.out.lt).lt; have x3' := (X3.out.below HB8.out X3.out.lt).below hb9 (X3.out.below HB8.out X3.out.lt).lt;
       obtain ⟨⟨q0, g0, q1, g1⟩, q2, g2, q3, g3⟩ := x2'.stores2 x3'; have HL := hid (x2'.last2 x3' ((BW.out.trans (HB8.out.mono BW.out.size)).trans (hb9.mono (Nat.le_trans BW.out.size HB8.out.size))) (show w.heap.size ≤ w.heap.size + 1 + 1 by omega) s7 false p7 p9 n7 n9 c7 c9); clear hb9; clear hv9; clear tz; clear vz; clear x2'; clear x3'; clear y1; clear y2; clear y3))
  go_wp2_with fail
  obtain ⟨r1, r2, r3, r4⟩ := HL.out
  refine bodyPost_ret (res_twocells rfl rfl rfl r1 r2) rfl ?_
  exact ⟨_, _, rfl, (r4 HV79.out).mono (by omega), r4 HWR.out, r3⟩

theorem rdivz {w : World} {v u : Value} {z y : Int} {k l : Nat} (h : WhlR w v z k) (h' : WhlR w u y l) (hy : y ≠ 0) (hk1 : 1 ≤ k) (hk : k ≤ 34359738368) (hl : l ≤ 34359738368) :
    Calls Tryz.prog 49 #[v, u] w fun e w' => ∃ v u, e = .returned (.tuple #[v, u]) ∧ WhlR w' v (z / y) (k + 2) ∧ WhlR w' u (z % y) l ∧ Below w.heap.size w w' := by
  obtain ⟨s, sv, xs, rfl, hl1, ht, hkk, hs, rfl⟩ := h
  obtain ⟨s', sv', xs', rfl, hl1', ht', hkk', hs', rfl⟩ := h'
  have h0 : 0 < val xs' := by
    apply Nat.pos_of_ne_zero
    intro e
    rw [e] at hy
    cases s' <;> simp [zof] at hy
  by_cases he : s = false ∨ val xs % val xs' = 0
  · exact rdivz_even hl1 hkk hl1' ht' hkk' h0 he hs (by omega) (by omega)
  · have hst : s = true := by
      cases s
      · exact absurd (.inl rfl) he
      · rfl
    subst hst
    exact rdivz_odd hl1 hkk hl1' ht' hkk' h0 (fun e => he (.inr e)) (hs rfl) (by omega) hl

/-- A text that is an integer is read. -/
theorem rwholeof_good {s : ByteArray} (h : GoodZ s) (w : World) :
    Calls Tryz.prog 19 #[.string s] w fun e w' => ∃ v, e = .returned (.tuple #[v, .int .i64 0]) ∧ WhlR w' v (znum s) 100 ∧ Below w.heap.size w w' := by
  obtain ⟨x0, bw, sz⟩ := rboxes1 w false (.slice none 0 0) ⟨_, _, _, rfl⟩
  have X0 := hid x0
  have BW := hid bw
  have hzl := znum_lt h
  obtain ⟨hs, hn⟩ := h
  have hs' : (s.size : Int) ≤ 100 := by omega
  cases hb : (s.data.toList.head? == some 45)
  · have h2 : isNat s.data.toList = true := by rw [isWhl, hb] at hn; simpa using hn
    have hne := Num.isNat_ne h2
    have hpos : 0 < s.size := List.length_pos_iff.2 hne
    have hnc : ¬ (s[0].toNat : Int) = 45 := by
      intro e
      rw [head_at s hpos, (u8_eq (n := 45) (by omega)).2 e] at hb
      exact absurd hb (by decide)
    have HN := hid (fun w => natof_num (s := s) ⟨hs, h2⟩ w)
    have HW := hid (show znum s = (num s : Int) by unfold znum num; rw [whlOf, hb]; rfl)
    have hps : (0 : Int) < (s.size : Int) := by omega
    clear hb h2 hne hn x0 bw sz hs hzl
    go_enter Tryz.func19, Tryz.ntmps19
    go_wp2_with fail
    refine (HN.out _).mono ?_
    rintro e w1 ⟨v, xs, rfl, hl, ht, hv, hle, hb⟩
    obtain ⟨p, n, c, rfl⟩ := hl.slice
    have x1 := X0.out.below hb X0.out.lt
    obtain ⟨c0, f0, c1, f1⟩ := x1.stores
    have HV := hid (show WhlR w1 (.agg #[.bool false, .slice p n c]) (znum s) 100 from ⟨false, _, xs, rfl, hl, ht, hle, fun e => by simp at e, by rw [HW.out, hv]; rfl⟩)
    have X1 := hid x1
    have HB := hid (BW.out.trans (hb.mono BW.out.size))
    clear hl ht hv hle hb x1 HN
    go_wp2_with fail
    obtain ⟨r1, r2, r3⟩ := X1.out.last HB.out (Nat.le_refl _) false p n c
    refine bodyPost_ret (res_cell_tmpR rfl rfl rfl r1) rfl ?_
    exact ⟨_, rfl, r3 HV.out, r2⟩
  · obtain ⟨hc1, hc2⟩ := tail_cut hb
    have hcz : cutZ 45 s = s.extract 1 s.size := by rw [cutZ, hb]; rfl
    have h2 : isNat s.data.toList.tail = true ∧ dval s.data.toList.tail ≠ 0 := by
      rw [isWhl, hb] at hn
      simpa using hn
    have hpos : 0 < s.size := by omega
    have hnc : (s[0].toNat : Int) = 45 := by
      have h1 := head_at s hpos
      cases hd : s.data.toList with
      | nil => rw [hd] at hb; simp at hb
      | cons a l =>
        rw [hd] at hb h1
        simp only [List.head?_cons, Option.some_beq_some, beq_iff_eq, Option.some.injEq] at hb h1
        rw [← h1, hb]; rfl
    have HN := natof_num (s := cutZ 45 s) ⟨by omega, by rw [hc1]; exact h2.1⟩
    have hw : znum s = -(num (cutZ 45 s) : Int) := by unfold znum num; rw [hc1, whlOf, hb]; rfl
    have hd0 : num (cutZ 45 s) ≠ 0 := by unfold num; rw [hc1]; exact h2.2
    rw [hcz] at HN hw hd0
    have HN := hid HN
    have HW := hid hw
    have HD := hid hd0
    have hps : (1 : Int) ≤ (s.size : Int) := by omega
    clear hb h2 hc1 hc2 hcz hn x0 bw sz hs hzl hw hd0
    go_enter Tryz.func19, Tryz.ntmps19
    go_wp2_with fail
    refine (HN.out _).mono ?_
    rintro e w1 ⟨v, xs, rfl, hl, ht, hv, hle, hb⟩
    have hn0 : ∃ n, xs.length = n ∧ (n : Int) ≠ 0 := by
      refine ⟨_, rfl, ?_⟩
      have h1 := HD.out
      rw [← hv] at h1
      cases xs with
      | nil => simp [val] at h1
      | cons => simp; omega
    obtain ⟨n, hn, hn0⟩ := hn0
    obtain ⟨p, c, rfl, _⟩ := limR_parts hl
    rw [hn] at *
    have x1 := X0.out.below hb X0.out.lt
    obtain ⟨c0, f0, c1, f1⟩ := x1.stores
    have HV := hid (show WhlR w1 (.agg #[.bool true, .slice p n c]) (znum s) 100 from ⟨true, _, xs, rfl, hl, ht, by omega, fun e => by rw [hv]; exact HD.out, by rw [HW.out, hv]; rfl⟩)
    have X1 := hid x1
    have HB := hid (BW.out.trans (hb.mono BW.out.size))
    clear hl ht hv hle hb x1 HN hn
    go_wp2_with fail
    obtain ⟨r1, r2, r3⟩ := X1.out.last HB.out (Nat.le_refl _) true p n c
    refine bodyPost_ret (res_cell_tmpR rfl rfl rfl r1) rfl ?_
    exact ⟨_, rfl, r3 HV.out, r2⟩

end Go.Proofs.YtjeeepcnaaadmaaGreatDoor

/-
  THE REFERENCE's Z: GcdZ.
-/
namespace Go.Proofs.YtjeeepcnaaadmaaGreatDoor
open Go.RowKit
open Num4
open Num (dg isNat dval zg zg_zero zg_step zg_ind zg_small)
set_option linter.unusedVariables false
set_option maxRecDepth 100000
set_option linter.unusedSimpArgs false

theorem WhlR.lt {w : World} {v : Value} {z : Int} {k : Nat} (h : WhlR w v z k) : z.natAbs < B ^ k := by
  obtain ⟨s, sv, xs, h1, h2, h3, h4, h5, h6⟩ := h
  rw [← h6, natAbs_zof]
  exact few4 h2.1 h4

/-- What GcdZ tells. -/
def GcdsR (w : World) (a b : Int) (K : Nat) (e : Ending) (w' : World) : Prop :=
  ∃ vg v2 v3, e = .returned (.tuple #[vg, v2, v3]) ∧ WhlR w' (.agg #[.bool false, vg]) (zg a b).1 K ∧ WhlR w' v2 (zg a b).2.1 K ∧ WhlR w' v3 (zg a b).2.2 K ∧ Below w.heap.size w w'

end Go.Proofs.YtjeeepcnaaadmaaGreatDoor

/-
  THE REFERENCE's WholeOf OF ANY TEXT.
-/
namespace Go.Proofs.YtjeeepcnaaadmaaGreatDoor
open Go.RowKit
open Num4
open Num (dg isNat dval zg zg_zero zg_step zg_ind zg_small)
set_option linter.unusedVariables false
set_option maxRecDepth 100000
set_option linter.unusedSimpArgs false

set_option maxHeartbeats 1000000 in
theorem rwholeof_bad {s : ByteArray} {k : Int} (h : BadZ s k) (w : World) (hs : s.size ≤ maxLen) :
    Calls Tryz.prog 19 #[.string s] w fun e w' => ∃ t p n c, e = .returned (.tuple #[.agg #[.bool t, .slice p n c], .int .i64 k]) ∧ Below w.heap.size w w' := by
  obtain ⟨x0, bw, sz⟩ := rboxes1 w false (.slice none 0 0) ⟨_, _, _, rfl⟩
  have X0 := hid x0
  have BW := hid bw
  unfold maxLen at hs
  rcases h with ⟨h, rfl⟩ | ⟨h, hn, rfl⟩
  · have h' : (100 : Int) < (s.size : Int) := by omega
    clear x0 bw sz h
    go_enter Tryz.func19, Tryz.ntmps19
    go_wp2_with fail
    refine bodyPost_ret (res_cell_tmpR rfl rfl rfl X0.out) rfl ?_
    exact ⟨_, _, _, _, rfl, BW.out⟩
  · have h' : (s.size : Int) ≤ 100 := by omega
    have fin : ∀ (w1 : World) (a : Bool) (p : Option Addr) (n c : Nat), Below (w.alloc (.cells #[.bool false, .slice none 0 0] 26)).heap.size (w.alloc (.cells #[.bool false, .slice none 0 0] 26)) w1 → BoxR ((w1.setCell ⟨w.heap.size, 0, none⟩ (.bool a)).setCell ⟨w.heap.size, 1, none⟩ (.slice p n c)) w.heap.size a (.slice p n c) ∧ Below w.heap.size w ((w1.setCell ⟨w.heap.size, 0, none⟩ (.bool a)).setCell ⟨w.heap.size, 1, none⟩ (.slice p n c)) := by
      intro w1 a p n c hb
      obtain ⟨r1, r2, r3⟩ := (X0.out.below hb X0.out.lt).last (BW.out.trans (hb.mono BW.out.size)) (Nat.le_refl _) a p n c
      exact ⟨r1, r2⟩
    have FIN := hid fin
    have sto : ∀ (w1 : World), Below (w.alloc (.cells #[.bool false, .slice none 0 0] 26)).heap.size (w.alloc (.cells #[.bool false, .slice none 0 0] 26)) w1 → _ := fun w1 hb => (X0.out.below hb X0.out.lt).stores
    have STO := hid sto
    clear x0 bw sz fin sto
    by_cases hp : (0 : Int) < (s.size : Int)
    · have hpos : 0 < s.size := by omega
      have hh := head_at s hpos
      by_cases hm : (s[0].toNat : Int) = 45
      · have hb : (s.data.toList.head? == some 45) = true := by
          rw [hh, (u8_eq (n := 45) (by omega)).2 hm]; rfl
        obtain ⟨hc1, hc2⟩ := tail_cut hb
        have hcz : cutZ 45 s = s.extract 1 s.size := by rw [cutZ, hb]; rfl
        have h1 : (1 : Int) ≤ (s.size : Int) := by omega
        by_cases h2 : isNat s.data.toList.tail = true
        · have h3 : dval s.data.toList.tail = 0 := by
            rw [isWhl, hb] at hn
            simpa [h2] using hn
          have HN := natof_num (s := cutZ 45 s) ⟨by omega, by rw [hc1]; exact h2⟩
          have hd0 : num (cutZ 45 s) = 0 := by unfold num; rw [hc1]; exact h3
          rw [hcz] at HN hd0
          have HN := hid HN
          have HD := hid hd0
          clear hb h2 hc1 hc2 hcz hn h3 hd0 hh h
          go_enter Tryz.func19, Tryz.ntmps19
          go_wp2_with fail
          refine (HN.out _).mono ?_
          rintro e w1 ⟨v, xs, rfl, hl, ht, hv, hle, hb⟩
          have h4 : xs = [] := ht.zero_iff.1 (by rw [hv, HD.out])
          subst h4
          obtain ⟨p, c, rfl, _⟩ := limR_parts hl
          obtain ⟨c0, f0, c1, f1⟩ := STO.out w1 hb
          have HF := hid (FIN.out w1 true p 0 c hb)
          clear hl ht hv hle hb HN STO FIN
          simp only [List.length_nil]
          go_wp2_with fail
          refine bodyPost_ret (res_cell_tmpR rfl rfl rfl HF.out.1) rfl ?_
          exact ⟨_, _, _, _, rfl, HF.out.2⟩
        · have h2' : isNat (cutZ 45 s).data.toList = false := by rw [hc1]; simpa using h2
          have HN := fun w => natof_bad (s := cutZ 45 s) (k := 1) w (by unfold maxLen; omega) (.inr ⟨by omega, h2', rfl⟩)
          rw [hcz] at HN
          have HN := hid HN
          clear hb h2 hc1 hc2 hcz hn h2' hh h
          go_enter Tryz.func19, Tryz.ntmps19
          go_wp2_with fail
          refine (HN.out _).mono ?_
          rintro e w1 ⟨rfl, hb⟩
          obtain ⟨c0, f0, c1, f1⟩ := STO.out w1 hb
          have HF := hid (FIN.out w1 true none 0 0 hb)
          clear hb HN STO FIN
          go_wp2_with fail
          refine bodyPost_ret (res_cell_tmpR rfl rfl rfl HF.out.1) rfl ?_
          exact ⟨_, _, _, _, rfl, HF.out.2⟩
      · have hb : (s.data.toList.head? == some 45) = false := by
          rw [hh, beq_eq_false_iff_ne]
          intro e
          simp only [Option.some.injEq] at e
          exact hm (by rw [e]; rfl)
        have h2 : isNat s.data.toList = false := by rw [isWhl, hb] at hn; simpa using hn
        have HN := hid (fun w => natof_bad (s := s) (k := 1) w (by unfold maxLen; omega) (.inr ⟨h, h2, rfl⟩))
        clear hb h2 hn hh h
        go_enter Tryz.func19, Tryz.ntmps19
        go_wp2_with fail
        refine (HN.out _).mono ?_
        rintro e w1 ⟨rfl, hb⟩
        obtain ⟨c0, f0, c1, f1⟩ := STO.out w1 hb
        have HF := hid (FIN.out w1 false none 0 0 hb)
        clear hb HN STO FIN
        go_wp2_with fail
        refine bodyPost_ret (res_cell_tmpR rfl rfl rfl HF.out.1) rfl ?_
        exact ⟨_, _, _, _, rfl, HF.out.2⟩
    · have hb : (s.data.toList.head? == some 45) = false := by
        have hl : s.data.toList.length = s.size := rfl
        cases hd : s.data.toList with
        | nil => rfl
        | cons a l => rw [hd] at hl; simp at hl; omega
      have h2 : isNat s.data.toList = false := by rw [isWhl, hb] at hn; simpa using hn
      have HN := hid (fun w => natof_bad (s := s) (k := 1) w (by unfold maxLen; omega) (.inr ⟨h, h2, rfl⟩))
      clear hb h2 hn h
      go_enter Tryz.func19, Tryz.ntmps19
      go_wp2_with fail
      refine (HN.out _).mono ?_
      rintro e w1 ⟨rfl, hb⟩
      obtain ⟨c0, f0, c1, f1⟩ := STO.out w1 hb
      have HF := hid (FIN.out w1 false none 0 0 hb)
      clear hb HN STO FIN
      go_wp2_with fail
      refine bodyPost_ret (res_cell_tmpR rfl rfl rfl HF.out.1) rfl ?_
      exact ⟨_, _, _, _, rfl, HF.out.2⟩

theorem rtextn {w : World} {v : Value} {z : Int} {k : Nat} (h : WhlR w (.agg #[.bool false, v]) z k) (hk : k ≤ 68719476736) :
    Calls Tryz.prog 48 #[v] w fun e w' => e = .returned (.string (ztxt z)) ∧ Below w.heap.size w w' := by
  obtain ⟨s, sv, xs, he, hl, ht, hle, _, hz⟩ := h
  simp only [Value.agg.injEq, Array.mk.injEq, List.cons.injEq, Value.bool.injEq, and_true] at he
  obtain ⟨rfl, rfl⟩ := he
  have e : ztxt z = txt (val xs) := by
    rw [← hz]
    show ztxt ((val xs : Nat) : Int) = _
    rw [ztxt, if_neg (by omega)]; rfl
  rw [e]
  exact rtext_lim hl (by omega)

theorem rwholeof_any {s : ByteArray} {k : Int} (h : (GoodZ s ∧ k = 0) ∨ BadZ s k) (w : World) (hs : s.size ≤ maxLen) :
    Calls Tryz.prog 19 #[.string s] w fun e w' => ∃ t p n c, e = .returned (.tuple #[.agg #[.bool t, .slice p n c], .int .i64 k]) ∧ Below w.heap.size w w' := by
  rcases h with ⟨h, rfl⟩ | h
  · refine (rwholeof_good h w).mono ?_
    rintro e w' ⟨v, rfl, hv, hb⟩
    obtain ⟨t, p, n, c, rfl⟩ := hv.opened
    exact ⟨t, p, n, c, rfl, hb⟩
  · exact rwholeof_bad h w hs

theorem WhlR.len_zero {w : World} {s : Bool} {p : Option Addr} {n c : Nat} {z : Int} {k : Nat} (h : WhlR w (.agg #[.bool s, .slice p n c]) z k) : n = 0 ↔ z = 0 := by
  obtain ⟨s', sv, xs, he, hl, ht, hle, hs, hz⟩ := h
  simp only [Value.agg.injEq, Array.mk.injEq, List.cons.injEq, Value.bool.injEq, and_true] at he
  obtain ⟨rfl, rfl⟩ := he
  obtain ⟨p', c', e, _⟩ := limR_parts hl
  obtain ⟨_, rfl, _⟩ := Value.slice.inj e
  have h1 := ht.zero_iff
  have h2 : z = 0 ↔ val xs = 0 := by
    rw [← hz]
    cases s <;> simp [zof]
  rw [h2, h1]
  exact List.length_eq_zero_iff

end Go.Proofs.YtjeeepcnaaadmaaGreatDoor
