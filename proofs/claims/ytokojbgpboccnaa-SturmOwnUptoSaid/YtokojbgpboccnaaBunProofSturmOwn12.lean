import Derived.Test.YtokojbgpboccnaaBunProofSturmOwn9
import Derived.Test.YtokojbgpboccnaaBunProofSturmOwn8
import Derived.Deep.LoopGhost
import Derived.Deep.RegionHeld3
import Derived.Test.YtokojbgpboccnaaBunProofSturmOwn11
import Derived.Test.YtokojbgpboccnaaBunProofSturmOwn4
import Derived.Deep.RegionWith
import Derived.Test.YtokojbgpboccnaaBunProofSturmOwn1
/-
  PACKAGE nat: two successive remainders; what goes into both.
-/
namespace Go.Proofs.Ytokojbgpboccnaa
open Go.RowKit
open Num
set_option linter.unusedVariables false
set_option maxRecDepth 100000
set_option linter.unusedSimpArgs false

/-- A step that is not certain. -/
theorem step_stop {w : World} {g : Nat} {a b xa ya xb yb : Nat} {o : Bool} (h : Pbx w g a b xa ya xb yb o) (hb : 0 < b) (hqm : a / b < 18446744073709551616) (hX : xa + a / b * xb < 18446744073709551616) (hY : ya + a / b * yb < 18446744073709551616)
    (hbm : b < 18446744073709551616) (hZ : ya + a / b * yb ≤ a % b → yb + (ya + a / b * yb) < 18446744073709551616) (hno : ¬ (ya + a / b * yb ≤ a % b ∧ yb + (ya + a / b * yb) ≤ b - a % b)) :
    Calls Try.prog 85 #[.pointer (some ⟨g, 0, none⟩)] w fun e w' => e = .returned (.bool false) ∧ Below w.heap.size w w' := by
  by_cases h1 : ya + a / b * yb ≤ a % b
  · exact step_no2 h hb hqm hX hY hbm (hZ h1) h1 (by omega)
  · exact step_no h hb hqm hX hY (by omega)

/-- The shares stay within words. -/
theorem Num.Leh.bounds {x y A C a b xa ya xb yb : Nat} {e : Int} (h : Leh x y A C a b xa ya xb yb e) (hb : 0 < b) (hA : A < 18446744073709551616) :
    a / b < 18446744073709551616 ∧ xa + a / b * xb < 18446744073709551616 ∧ ya + a / b * yb < 18446744073709551616 ∧ b < 18446744073709551616 ∧ (ya + a / b * yb ≤ a % b → yb + (ya + a / b * yb) < 18446744073709551616) := by
  obtain ⟨m1, m2, m3, _⟩ := h.room hb
  have h1 := h.top
  have h2 := h.low
  have h3 := Nat.div_le_self a b
  have h4 := h.fit
  have h5 : a % b < b := Nat.mod_lt _ hb
  refine ⟨by omega, by omega, by omega, by omega, fun h6 => ?_⟩
  have h7 : ya + a / b * yb < 4294967296 := by
    apply Classical.byContradiction
    intro hh
    generalize ya + a / b * yb = Y at *
    have : 4294967296 * 4294967297 ≤ Y * b := Nat.mul_le_mul (by omega) (by omega)
    omega
  omega

set_option maxHeartbeats 8000000 in
theorem descend_lim {w : World} {v u : Value} {xs ys : List Nat} (h1 : Lim w v xs) (h2 : Lim w u ys) (tx : Trim xs) (ty : Trim ys) (hn : 3 ≤ xs.length) (b1 : xs.length ≤ 1099511627776) (hle : val ys ≤ val xs) (h0 : 0 < val ys) :
    Calls Try.prog 71 #[v, u] w fun e w' => ∃ v' u' xs' ys', e = .returned (.tuple #[v', u']) ∧ Lim w' v' xs' ∧ Lim w' u' ys' ∧ Trim xs' ∧ Trim ys' ∧ val ys' ≤ val xs' ∧ val xs' ≤ val xs ∧ val ys' < val ys ∧ Nat.gcd (val xs') (val ys') = Nat.gcd (val xs) (val ys) ∧ Below w.heap.size w w' := by
  have b2 : ys.length ≤ xs.length := by
    apply Classical.byContradiction
    intro hh
    have := lt_of_length h1.1 ty (by omega)
    omega
  obtain ⟨Q, hQ⟩ : ∃ Q, xs.length = Q + 3 := ⟨xs.length - 3, by omega⟩
  have htop : 0 < dg xs (Q + 2) := by
    rcases tx with h | h
    · rw [h] at hn; simp at hn
    · rwa [hQ] at h
  obtain ⟨s, hs, hs1, hs2, hlz⟩ := lead_zeros (dg xs (Q + 2)) htop (h1.1 _) w
  obtain ⟨hla, hdt⟩ := lead_le (P := Q) (s := s) h1.1 h2.1 hs (by omega) (by omega) hle
  have hs3 : dg ys (Q + 2) * 2 ^ s < 4294967296 := Nat.lt_of_le_of_lt (Nat.mul_le_mul_right _ hdt) hs2
  obtain ⟨x0, hx0, hxx⟩ := lead_val (P := Q) h1.1 hs (by omega)
  obtain ⟨y0, hy0, hyy⟩ := lead_val (P := Q) h2.1 hs (by omega)
  have hA := lead_lt h1.1 hs hs2
  have HLX := hid (fun z (hz : z = (Q : Int) + 1) => leading_lim h1 Q s hz (by omega) hs hs2)
  have HLY := hid (fun z (hz : z = (Q : Int) + 1) => leading_lim h2 Q s hz (by omega) hs hs3)
  obtain ⟨A, hAe⟩ : ∃ A, lead xs Q s = A := ⟨_, rfl⟩
  obtain ⟨C, hCe⟩ : ∃ C, lead ys Q s = C := ⟨_, rfl⟩
  rw [hAe] at hla hxx hA HLX
  rw [hCe] at hla hyy HLY
  have HA := hid hA
  have HXX := hid hxx
  have HYY := hid hyy
  have HX0 := hid hx0
  have HY0 := hid hy0
  have L0 := hid (Leh.first hla hle)
  have H1 := hid h1
  have H2 := hid h2
  have T1 := hid tx
  have T2 := hid ty
  have HB1 := hid b1
  have HB2 := hid b2
  have HLE := hid hle
  have H0 := hid h0
  have HLZ := hid hlz
  have HQ' := hid hQ
  have HMX : Hid (max xs.length ys.length = Q + 3) := hid (by omega)
  have HMX' : Hid (max ys.length xs.length = Q + 3) := hid (by omega)
  obtain ⟨p, c, rfl, hf, hc, hm, ha⟩ := lim_parts h1
  obtain ⟨bx, ox, rfl, hbx, cx⟩ := AddrOk.at' ha rfl hc (Q + 2) (by omega)
  have hq1 : Q + 3 ≤ c := by omega
  rw [hQ] at H1 HLX ⊢
  unfold maxLen at hm
  obtain ⟨hb5, hx5, hs5⟩ := Pbx.made w A C 1 0 0 1 false
  have X5 := hid hx5
  have B5 := hid hb5
  have HS1 := hid hs1
  have HS2 := hid hs2
  clear hx5 hb5 hs5 h1 h2 tx ty b2 hle h0 hlz hQ hla hdt hx0 hxx hy0 hyy hA hAe hCe ha hc htop hs1 hs2 hs3 hf hn
  go_enter Try.func71, Try.ntmps71
  go_wp2_with fail
  refine HLZ.out.mono ?_
  rintro e w1 ⟨rfl, rfl⟩
  go_wp2_with fail
  refine (HLX.out _ (by omega)).mono ?_
  rintro e w1 ⟨rfl, rfl⟩
  go_wp2_with fail
  refine (HLY.out _ (by omega)).mono ?_
  rintro e w2 ⟨rfl, rfl⟩
  go_wp2_with fail
  generalize hg : w1.heap.size = g at *
  have HG := hid hg
  have HX1 : Hid (Lim w1 (.slice (some ⟨bx, ox, none⟩) (Q + 3) c) xs) := H1
  clear HLX HLY HLZ hg
  go_loopg [] C (fun gh wr => ∃ (a b xa ya xb yb : Nat) (o : Bool) (e : Int), Hid (Pbx wr g a b xa ya xb yb o) ∧ Hid (Leh (val xs) (val ys) A C a b xa ya xb yb e) ∧ Hid ((o = false ∧ e = 1) ∨ (o = true ∧ e = -1)) ∧ Hid (b = gh) ∧ Hid (Below g w1 wr))
  case atStart => exact ⟨A, C, 1, 0, 0, 1, false, 1, X5, L0, hid (.inl ⟨rfl, rfl⟩), hid rfl, B5⟩
  case round =>
    clear X5 L0 B5
    obtain ⟨a, b, xa, ya, xb, yb, o, e, X5, HL, HO, HB, B5⟩ := hrel
    by_cases hgo : 0 < b ∧ ya + a / b * yb ≤ a % b ∧ yb + (ya + a / b * yb) ≤ b - a % b
    · obtain ⟨hb, hc1, hc2⟩ := hgo
      obtain ⟨m1, m2, m3, m4, m5⟩ := HL.out.bounds hb HA.out
      have HS := hid (step_yes X5.out hb m1 m2 m3 m4 (m5 hc1) hc1 hc2 (Nat.le_refl g))
      have HN := hid (HL.out.step HXX.out HYY.out HX0.out HY0.out hb HA.out hc1 hc2)
      have HLT := hid (Nat.mod_lt a hb)
      have cc := X5.out.cells
      clear m1 m2 m3 m4 m5 hc1 hc2
      go_wp2_with fail
      refine HS.out.mono ?_
      rintro e1 w2 ⟨rfl, hx, hbw⟩
      have X6 := hid hx
      have B6 := hid (B5.out.trans hbw)
      clear hx hbw HS
      go_wp2_with fail
      go_roundg (a % b)
      case rel =>
        refine ⟨b, a % b, xb, yb, xa + a / b * xb, ya + a / b * yb, !o, -e, X6, HN, ?_, hid rfl, B6⟩
        rcases HO.out with ⟨rfl, rfl⟩ | ⟨rfl, rfl⟩
        · exact .inr ⟨rfl, rfl⟩
        · exact .inl ⟨rfl, rfl⟩
      case measure => rw [← HB.out]; exact HLT.out
    · have hor : b = 0 ∨ 0 < b ∧ ¬ (ya + a / b * yb ≤ a % b ∧ yb + (ya + a / b * yb) ≤ b - a % b) := by
        rcases Nat.eq_zero_or_pos b with h | h
        · exact .inl h
        · exact .inr ⟨h, fun hh => hgo ⟨h, hh⟩⟩
      clear hgo HB
      have hw : ya = 0 ∨ (1 ≤ ya ∧ o = true ∧ e = -1) ∨ (1 ≤ ya ∧ o = false ∧ e = 1) := by
        rcases Nat.eq_zero_or_pos ya with h | h
        · exact .inl h
        · rcases HO.out with h' | h'
          · exact .inr (.inr ⟨h, h'⟩)
          · exact .inr (.inl ⟨h, h'⟩)
      clear HO
      rcases hor with h0 | ⟨hb, hst⟩
      · rcases hw with hya | ⟨hya, rfl, rfl⟩ | ⟨hya, rfl, rfl⟩
        · subst hya
          subst h0
          have cc := X5.out.cells
          have X6 := X5
          have B6 := B5
          clear X5 B5
          go_wp2_with fail
          have LX := hid (HX1.out.below B6.out (Nat.le_of_eq HG.out))
          have LY := hid (H2.out.below B6.out (Nat.le_of_eq HG.out))
          refine (div_lim LX.out LY.out (by have := HB1.out; omega) (by have := HB1.out; have := HB2.out; omega) H0.out).mono ?_
          rintro e1 w3 ⟨q, r, qs, rs, rfl, hq, hr, tq, tr, vq, vr, hb3⟩
          have LY3 := hid (LY.out.below hb3 (Nat.le_refl _))
          have LR3 := hid hr
          have TR := hid tr
          have VR := hid vr
          have B7 := hid (B6.out.trans (hb3.mono (Nat.le_trans (Nat.le_of_eq HG.out.symm) B6.out.size)))
          clear hq hr tq tr vq vr hb3 cc
          go_wp2_with fail
          go_ret2
          have hlt : val rs < val ys := by rw [VR.out]; exact Nat.mod_lt _ H0.out
          exact ⟨_, _, ys, rs, rfl, LY3.out, LR3.out, T2.out, TR.out, Nat.le_of_lt hlt, HLE.out, hlt, by rw [VR.out, Nat.gcd_comm (val ys), ← Nat.gcd_rec, Nat.gcd_comm], by rw [HG.out]; exact B7.out⟩
        · subst h0
          have cc := X5.out.cells
          have X6 := X5
          have B6 := B5
          clear X5 B5
          go_wp2_with fail
          have LX := hid (HX1.out.below B6.out (Nat.le_of_eq HG.out))
          have LY := hid (H2.out.below B6.out (Nat.le_of_eq HG.out))
          obtain ⟨r, s1, hr, hs2, hr1, hr2, hr3, hr4, hr5⟩ := HL.out.odd
          have HR := hid hr
          have HS2 := hid hs2
          have HR1 := hid hr1
          have HR2 := hid hr2
          have HR4 := hid hr4
          have HR5 := hid (hr5 hya)
          have HRL : Hid (r < B ^ (Q + 3)) := hid (by have := val_lt HX1.out.1; rw [HQ'.out] at this; exact Nat.lt_of_le_of_lt hr2 this)
          have HSL : Hid (s1 < B ^ (Q + 3)) := hid (Nat.lt_of_le_of_lt hr1 HRL.out)
          have F1 := hid HL.out.fitxa
          have F2 := hid HL.out.fita
          have F3 := hid HL.out.fitxb
          have F4 := hid HL.out.fit
          clear hr hs2 hr1 hr2 hr3 hr4 hr5 HL
          replace X6 := hid X6.out.dr
          replace LX : Hid (Lim wr.drew _ xs) := hid (show Lim wr.drew _ xs from LX.out)
          replace LY : Hid (Lim wr.drew _ ys) := hid (show Lim wr.drew _ ys from LY.out)
          replace B6 := hid (Below.drew B6.out)
          have cd := X6.out.cells
          go_region_held3 (fun w' => w'.cell? ⟨g, 2, none⟩ = some (.int .u64 xa) ∧ w'.cell? ⟨g, 3, none⟩ = some (.int .u64 ya) ∧ w'.cell? ⟨g, 4, none⟩ = some (.int .u64 xb) ∧ w'.cell? ⟨g, 5, none⟩ = some (.int .u64 yb)) (go_keep) (first
            | (have hm := mk1; clear hm; go_at_call 86; refine (diff_lim LX'.out LY'.out F3.out F4.out (by have := HB1.out; have := HB2.out; omega) (by have := HB1.out; have := HB2.out; omega) HS2.out (by rw [HMX.out]; exact HSL.out)).mono ?_; rintro e2 w4 ⟨v2, zs2, rfl, hl, ht, hv, hb⟩; have D1' := hid (D1.out.below hb (Nat.le_refl _)); have X8 := hid (X7.out.below hb X7.out.lt); have B8 := hid (B7.out.trans (hb.mono (Nat.le_trans (Nat.le_of_eq HG.out.symm) B7.out.size))); have D2 := hid hl; have TD2 := hid ht; have VD2 := hid hv; clear hl ht hv hb; have ce := X8.out.cells)
            | (go_at_call 86; refine (diff_lim LY.out LX.out F2.out F1.out (by have := HB1.out; have := HB2.out; omega) (by have := HB1.out; have := HB2.out; omega) HR.out (by rw [HMX'.out]; exact HRL.out)).mono ?_; rintro e2 w3 ⟨v1, zs1, rfl, hl, ht, hv, hb⟩; have LX' := hid (LX.out.below hb (Nat.le_refl _)); have LY' := hid (LY.out.below hb (Nat.le_refl _)); have X7 := hid (X6.out.below hb X6.out.lt); have B7 := hid (B6.out.trans (hb.mono (Nat.le_trans (Nat.le_of_eq HG.out.symm) B6.out.size))); have D1 := hid hl; have TD1 := hid ht; have VD1 := hid hv; clear hl ht hv hb cc cd; have cf := X7.out.cells; have mk1 := hid True.intro))
          go_wp2_with fail
          go_ret2
          exact ⟨v1, v2, zs1, zs2, rfl, D1'.out, D2.out, TD1.out, TD2.out, by rw [VD1.out, VD2.out]; exact HR1.out, by rw [VD1.out]; exact HR2.out, by rw [VD2.out]; exact HR5.out, by rw [VD1.out, VD2.out]; exact HR4.out, by rw [HG.out]; exact B8.out⟩
        · subst h0
          have cc := X5.out.cells
          have X6 := X5
          have B6 := B5
          clear X5 B5
          go_wp2_with fail
          have LX := hid (HX1.out.below B6.out (Nat.le_of_eq HG.out))
          have LY := hid (H2.out.below B6.out (Nat.le_of_eq HG.out))
          obtain ⟨r, s1, hr, hs2, hr1, hr2, hr3, hr4, hr5⟩ := HL.out.even
          have HR := hid hr
          have HS2 := hid hs2
          have HR1 := hid hr1
          have HR2 := hid hr2
          have HR4 := hid hr4
          have HR5 := hid (hr5 hya)
          have HRL : Hid (r < B ^ (Q + 3)) := hid (by have := val_lt HX1.out.1; rw [HQ'.out] at this; exact Nat.lt_of_le_of_lt hr2 this)
          have HSL : Hid (s1 < B ^ (Q + 3)) := hid (Nat.lt_of_le_of_lt hr1 HRL.out)
          have F1 := hid HL.out.fitxa
          have F2 := hid HL.out.fita
          have F3 := hid HL.out.fitxb
          have F4 := hid HL.out.fit
          clear hr hs2 hr1 hr2 hr3 hr4 hr5 HL
          replace X6 := hid X6.out.dr
          replace LX : Hid (Lim wr.drew _ xs) := hid (show Lim wr.drew _ xs from LX.out)
          replace LY : Hid (Lim wr.drew _ ys) := hid (show Lim wr.drew _ ys from LY.out)
          replace B6 := hid (Below.drew B6.out)
          have cd := X6.out.cells
          go_region_held3 (fun w' => w'.cell? ⟨g, 2, none⟩ = some (.int .u64 xa) ∧ w'.cell? ⟨g, 3, none⟩ = some (.int .u64 ya) ∧ w'.cell? ⟨g, 4, none⟩ = some (.int .u64 xb) ∧ w'.cell? ⟨g, 5, none⟩ = some (.int .u64 yb)) (go_keep) (first
            | (have hm := mk1; clear hm; go_at_call 86; refine (diff_lim LY'.out LX'.out F4.out F3.out (by have := HB1.out; have := HB2.out; omega) (by have := HB1.out; have := HB2.out; omega) HS2.out (by rw [HMX'.out]; exact HSL.out)).mono ?_; rintro e2 w4 ⟨v2, zs2, rfl, hl, ht, hv, hb⟩; have D1' := hid (D1.out.below hb (Nat.le_refl _)); have X8 := hid (X7.out.below hb X7.out.lt); have B8 := hid (B7.out.trans (hb.mono (Nat.le_trans (Nat.le_of_eq HG.out.symm) B7.out.size))); have D2 := hid hl; have TD2 := hid ht; have VD2 := hid hv; clear hl ht hv hb; have ce := X8.out.cells)
            | (go_at_call 86; refine (diff_lim LX.out LY.out F1.out F2.out (by have := HB1.out; have := HB2.out; omega) (by have := HB1.out; have := HB2.out; omega) HR.out (by rw [HMX.out]; exact HRL.out)).mono ?_; rintro e2 w3 ⟨v1, zs1, rfl, hl, ht, hv, hb⟩; have LX' := hid (LX.out.below hb (Nat.le_refl _)); have LY' := hid (LY.out.below hb (Nat.le_refl _)); have X7 := hid (X6.out.below hb X6.out.lt); have B7 := hid (B6.out.trans (hb.mono (Nat.le_trans (Nat.le_of_eq HG.out.symm) B6.out.size))); have D1 := hid hl; have TD1 := hid ht; have VD1 := hid hv; clear hl ht hv hb cc cd; have cf := X7.out.cells; have mk1 := hid True.intro))
          go_wp2_with fail
          go_ret2
          exact ⟨v1, v2, zs1, zs2, rfl, D1'.out, D2.out, TD1.out, TD2.out, by rw [VD1.out, VD2.out]; exact HR1.out, by rw [VD1.out]; exact HR2.out, by rw [VD2.out]; exact HR5.out, by rw [VD1.out, VD2.out]; exact HR4.out, by rw [HG.out]; exact B8.out⟩
      · rcases hw with hya | ⟨hya, rfl, rfl⟩ | ⟨hya, rfl, rfl⟩
        · subst hya
          obtain ⟨m1, m2, m3, m4, m5⟩ := HL.out.bounds hb HA.out
          have HS := hid (step_stop X5.out hb m1 m2 m3 m4 m5 hst)
          have cc := X5.out.cells
          clear m1 m2 m3 m4 m5 hst
          go_wp2_with fail
          refine HS.out.mono ?_
          rintro e1 w2 ⟨rfl, hbw⟩
          have X6 := hid (X5.out.below hbw X5.out.lt)
          have B6 := hid (B5.out.trans (hbw.mono (Nat.le_trans (Nat.le_of_eq HG.out.symm) B5.out.size)))
          clear hbw HS cc
          have cc := X6.out.cells
          clear X5 B5
          go_wp2_with fail
          have LX := hid (HX1.out.below B6.out (Nat.le_of_eq HG.out))
          have LY := hid (H2.out.below B6.out (Nat.le_of_eq HG.out))
          refine (div_lim LX.out LY.out (by have := HB1.out; omega) (by have := HB1.out; have := HB2.out; omega) H0.out).mono ?_
          rintro e1 w3 ⟨q, r, qs, rs, rfl, hq, hr, tq, tr, vq, vr, hb3⟩
          have LY3 := hid (LY.out.below hb3 (Nat.le_refl _))
          have LR3 := hid hr
          have TR := hid tr
          have VR := hid vr
          have B7 := hid (B6.out.trans (hb3.mono (Nat.le_trans (Nat.le_of_eq HG.out.symm) B6.out.size)))
          clear hq hr tq tr vq vr hb3 cc
          go_wp2_with fail
          go_ret2
          have hlt : val rs < val ys := by rw [VR.out]; exact Nat.mod_lt _ H0.out
          exact ⟨_, _, ys, rs, rfl, LY3.out, LR3.out, T2.out, TR.out, Nat.le_of_lt hlt, HLE.out, hlt, by rw [VR.out, Nat.gcd_comm (val ys), ← Nat.gcd_rec, Nat.gcd_comm], by rw [HG.out]; exact B7.out⟩
        · obtain ⟨m1, m2, m3, m4, m5⟩ := HL.out.bounds hb HA.out
          have HS := hid (step_stop X5.out hb m1 m2 m3 m4 m5 hst)
          have cc := X5.out.cells
          clear m1 m2 m3 m4 m5 hst
          go_wp2_with fail
          refine HS.out.mono ?_
          rintro e1 w2 ⟨rfl, hbw⟩
          have X6 := hid (X5.out.below hbw X5.out.lt)
          have B6 := hid (B5.out.trans (hbw.mono (Nat.le_trans (Nat.le_of_eq HG.out.symm) B5.out.size)))
          clear hbw HS cc
          have cc := X6.out.cells
          clear X5 B5
          go_wp2_with fail
          have LX := hid (HX1.out.below B6.out (Nat.le_of_eq HG.out))
          have LY := hid (H2.out.below B6.out (Nat.le_of_eq HG.out))
          obtain ⟨r, s1, hr, hs2, hr1, hr2, hr3, hr4, hr5⟩ := HL.out.odd
          have HR := hid hr
          have HS2 := hid hs2
          have HR1 := hid hr1
          have HR2 := hid hr2
          have HR4 := hid hr4
          have HR5 := hid (hr5 hya)
          have HRL : Hid (r < B ^ (Q + 3)) := hid (by have := val_lt HX1.out.1; rw [HQ'.out] at this; exact Nat.lt_of_le_of_lt hr2 this)
          have HSL : Hid (s1 < B ^ (Q + 3)) := hid (Nat.lt_of_le_of_lt hr1 HRL.out)
          have F1 := hid HL.out.fitxa
          have F2 := hid HL.out.fita
          have F3 := hid HL.out.fitxb
          have F4 := hid HL.out.fit
          clear hr hs2 hr1 hr2 hr3 hr4 hr5 HL
          replace X6 := hid X6.out.dr
          replace LX : Hid (Lim w2.drew _ xs) := hid (show Lim w2.drew _ xs from LX.out)
          replace LY : Hid (Lim w2.drew _ ys) := hid (show Lim w2.drew _ ys from LY.out)
          replace B6 := hid (Below.drew B6.out)
          have cd := X6.out.cells
          go_region_held3 (fun w' => w'.cell? ⟨g, 2, none⟩ = some (.int .u64 xa) ∧ w'.cell? ⟨g, 3, none⟩ = some (.int .u64 ya) ∧ w'.cell? ⟨g, 4, none⟩ = some (.int .u64 xb) ∧ w'.cell? ⟨g, 5, none⟩ = some (.int .u64 yb)) (go_keep) (first
            | (have hm := mk1; clear hm; go_at_call 86; refine (diff_lim LX'.out LY'.out F3.out F4.out (by have := HB1.out; have := HB2.out; omega) (by have := HB1.out; have := HB2.out; omega) HS2.out (by rw [HMX.out]; exact HSL.out)).mono ?_; rintro e2 w4 ⟨v2, zs2, rfl, hl, ht, hv, hb⟩; have D1' := hid (D1.out.below hb (Nat.le_refl _)); have X8 := hid (X7.out.below hb X7.out.lt); have B8 := hid (B7.out.trans (hb.mono (Nat.le_trans (Nat.le_of_eq HG.out.symm) B7.out.size))); have D2 := hid hl; have TD2 := hid ht; have VD2 := hid hv; clear hl ht hv hb; have ce := X8.out.cells)
            | (go_at_call 86; refine (diff_lim LY.out LX.out F2.out F1.out (by have := HB1.out; have := HB2.out; omega) (by have := HB1.out; have := HB2.out; omega) HR.out (by rw [HMX'.out]; exact HRL.out)).mono ?_; rintro e2 w3 ⟨v1, zs1, rfl, hl, ht, hv, hb⟩; have LX' := hid (LX.out.below hb (Nat.le_refl _)); have LY' := hid (LY.out.below hb (Nat.le_refl _)); have X7 := hid (X6.out.below hb X6.out.lt); have B7 := hid (B6.out.trans (hb.mono (Nat.le_trans (Nat.le_of_eq HG.out.symm) B6.out.size))); have D1 := hid hl; have TD1 := hid ht; have VD1 := hid hv; clear hl ht hv hb cc cd; have cf := X7.out.cells; have mk1 := hid True.intro))
          go_wp2_with fail
          go_ret2
          exact ⟨v1, v2, zs1, zs2, rfl, D1'.out, D2.out, TD1.out, TD2.out, by rw [VD1.out, VD2.out]; exact HR1.out, by rw [VD1.out]; exact HR2.out, by rw [VD2.out]; exact HR5.out, by rw [VD1.out, VD2.out]; exact HR4.out, by rw [HG.out]; exact B8.out⟩
        · obtain ⟨m1, m2, m3, m4, m5⟩ := HL.out.bounds hb HA.out
          have HS := hid (step_stop X5.out hb m1 m2 m3 m4 m5 hst)
          have cc := X5.out.cells
          clear m1 m2 m3 m4 m5 hst
          go_wp2_with fail
          refine HS.out.mono ?_
          rintro e1 w2 ⟨rfl, hbw⟩
          have X6 := hid (X5.out.below hbw X5.out.lt)
          have B6 := hid (B5.out.trans (hbw.mono (Nat.le_trans (Nat.le_of_eq HG.out.symm) B5.out.size)))
          clear hbw HS cc
          have cc := X6.out.cells
          clear X5 B5
          go_wp2_with fail
          have LX := hid (HX1.out.below B6.out (Nat.le_of_eq HG.out))
          have LY := hid (H2.out.below B6.out (Nat.le_of_eq HG.out))
          obtain ⟨r, s1, hr, hs2, hr1, hr2, hr3, hr4, hr5⟩ := HL.out.even
          have HR := hid hr
          have HS2 := hid hs2
          have HR1 := hid hr1
          have HR2 := hid hr2
          have HR4 := hid hr4
          have HR5 := hid (hr5 hya)
          have HRL : Hid (r < B ^ (Q + 3)) := hid (by have := val_lt HX1.out.1; rw [HQ'.out] at this; exact Nat.lt_of_le_of_lt hr2 this)
          have HSL : Hid (s1 < B ^ (Q + 3)) := hid (Nat.lt_of_le_of_lt hr1 HRL.out)
          have F1 := hid HL.out.fitxa
          have F2 := hid HL.out.fita
          have F3 := hid HL.out.fitxb
          have F4 := hid HL.out.fit
          clear hr hs2 hr1 hr2 hr3 hr4 hr5 HL
          replace X6 := hid X6.out.dr
          replace LX : Hid (Lim w2.drew _ xs) := hid (show Lim w2.drew _ xs from LX.out)
          replace LY : Hid (Lim w2.drew _ ys) := hid (show Lim w2.drew _ ys from LY.out)
          replace B6 := hid (Below.drew B6.out)
          have cd := X6.out.cells
          go_region_held3 (fun w' => w'.cell? ⟨g, 2, none⟩ = some (.int .u64 xa) ∧ w'.cell? ⟨g, 3, none⟩ = some (.int .u64 ya) ∧ w'.cell? ⟨g, 4, none⟩ = some (.int .u64 xb) ∧ w'.cell? ⟨g, 5, none⟩ = some (.int .u64 yb)) (go_keep) (first
            | (have hm := mk1; clear hm; go_at_call 86; refine (diff_lim LY'.out LX'.out F4.out F3.out (by have := HB1.out; have := HB2.out; omega) (by have := HB1.out; have := HB2.out; omega) HS2.out (by rw [HMX'.out]; exact HSL.out)).mono ?_; rintro e2 w4 ⟨v2, zs2, rfl, hl, ht, hv, hb⟩; have D1' := hid (D1.out.below hb (Nat.le_refl _)); have X8 := hid (X7.out.below hb X7.out.lt); have B8 := hid (B7.out.trans (hb.mono (Nat.le_trans (Nat.le_of_eq HG.out.symm) B7.out.size))); have D2 := hid hl; have TD2 := hid ht; have VD2 := hid hv; clear hl ht hv hb; have ce := X8.out.cells)
            | (go_at_call 86; refine (diff_lim LX.out LY.out F1.out F2.out (by have := HB1.out; have := HB2.out; omega) (by have := HB1.out; have := HB2.out; omega) HR.out (by rw [HMX.out]; exact HRL.out)).mono ?_; rintro e2 w3 ⟨v1, zs1, rfl, hl, ht, hv, hb⟩; have LX' := hid (LX.out.below hb (Nat.le_refl _)); have LY' := hid (LY.out.below hb (Nat.le_refl _)); have X7 := hid (X6.out.below hb X6.out.lt); have B7 := hid (B6.out.trans (hb.mono (Nat.le_trans (Nat.le_of_eq HG.out.symm) B6.out.size))); have D1 := hid hl; have TD1 := hid ht; have VD1 := hid hv; clear hl ht hv hb cc cd; have cf := X7.out.cells; have mk1 := hid True.intro))
          go_wp2_with fail
          go_ret2
          exact ⟨v1, v2, zs1, zs2, rfl, D1'.out, D2.out, TD1.out, TD2.out, by rw [VD1.out, VD2.out]; exact HR1.out, by rw [VD1.out]; exact HR2.out, by rw [VD2.out]; exact HR5.out, by rw [VD1.out, VD2.out]; exact HR4.out, by rw [HG.out]; exact B8.out⟩

end Go.Proofs.Ytokojbgpboccnaa

/-
  PACKAGE nat: Gcd.
-/
namespace Go.Proofs.Ytokojbgpboccnaa
open Go.RowKit
open Num
set_option linter.unusedVariables false
set_option maxRecDepth 100000
set_option linter.unusedSimpArgs false

theorem val_words {xs : List Nat} (h : xs.length ≤ 2) : dg xs 0 + 4294967296 * dg xs 1 = val xs := by
  have e1 := val_take_succ xs 1
  have e2 := val_take_succ xs 0
  rw [List.take_of_length_le (by omega)] at e1
  rw [e1, e2, List.take_zero, val_nil, Nat.pow_zero, Nat.pow_one, B_eq]
  omega
theorem words_lt {xs : List Nat} (hf : Fits xs) (h : xs.length ≤ 2) : val xs < 18446744073709551616 := by
  have h0 := hf 0
  have h1 := hf 1
  have := val_words h
  omega
theorem gcd_size {xs ys zs : List Nat} {K : Nat} (tz : Trim zs) (fx : Fits xs) (fy : Fits ys) (lx : xs.length ≤ K) (ly : ys.length ≤ K) (h : val zs = Nat.gcd (val xs) (val ys)) : zs.length ≤ K := by
  refine length_le_of_val tz K ?_
  rw [h]
  have h1 := val_lt fx
  have h2 := val_lt fy
  have h3 : B ^ xs.length ≤ B ^ K := Nat.pow_le_pow_right B_pos lx
  have h4 : B ^ ys.length ≤ B ^ K := Nat.pow_le_pow_right B_pos ly
  rcases Nat.eq_zero_or_pos (val xs) with e | e
  · rw [e, Nat.gcd_zero_left]; omega
  · have := Nat.gcd_le_left (val ys) e
    omega
theorem word_all {w : World} {v : Value} {xs : List Nat} (h : Lim w v xs) (hl : xs.length ≤ 2) :
    Calls Try.prog 73 #[v, .int .i64 0] w fun e w' => e = .returned (.int .u64 ((val xs : Nat) : Int)) ∧ w = w' := by
  have := word_lim h 0 (z := 0) rfl (by omega)
  rw [show dg xs 0 + 4294967296 * dg xs (0 + 1) = val xs from val_words hl] at this
  exact this

set_option maxHeartbeats 4000000 in
theorem gcd_lim {w : World} {v u : Value} {xs ys : List Nat} {K : Nat} (h1 : Lim w v xs) (h2 : Lim w u ys) (b1 : xs.length ≤ K) (b2 : ys.length ≤ K) (hK : K ≤ 1099511627776) :
    Calls Try.prog 51 #[v, u] w fun e w' => ∃ v zs, e = .returned v ∧ Lim w' v zs ∧ Trim zs ∧ zs.length ≤ K ∧ val zs = Nat.gcd (val xs) (val ys) ∧ Below w.heap.size w w' := by
  have HT1 := hid (trim_lim h1)
  have HT2 := hid (trim_lim h2)
  have HSZ := hid (fun zs tz h => gcd_size (zs := zs) tz h1.1 h2.1 b1 b2 h)
  have HG := hid (show Nat.gcd (val (trimL xs)) (val (trimL ys)) = Nat.gcd (val xs) (val ys) by rw [val_trimL, val_trimL])
  have l1 : (trimL xs).length ≤ K := by rw [length_trimL]; exact Nat.le_trans (tlen_le xs) b1
  have l2 : (trimL ys).length ≤ K := by rw [length_trimL]; exact Nat.le_trans (tlen_le ys) b2
  have t1 := trim_trimL xs
  have t2 := trim_trimL ys
  generalize Nat.gcd (val xs) (val ys) = G at *
  generalize trimL xs = us at *
  generalize trimL ys = vs at *
  have L1 := hid l1
  have L2 := hid l2
  have T1 := hid t1
  have T2 := hid t2
  clear h1 h2 b1 b2 l1 l2 t1 t2
  go_enter Try.func51, Try.ntmps51
  go_wp2_with fail
  refine HT1.out.mono ?_
  rintro e w' ⟨v1, rfl, hL1, rfl⟩
  have HL1 := hid hL1
  clear hL1
  go_wp2_with fail
  refine HT2.out.mono ?_
  rintro e w' ⟨v2, rfl, hL2, rfl⟩
  have HL2 := hid hL2
  clear hL2
  have HLS := hid (less_lim HL1.out HL2.out)
  by_cases hlt : val us < val vs
  · have hd : decide (val us < val vs) = true := decide_eq_true hlt
    rw [hd] at HLS
    have HLE : Hid (val us ≤ val vs) := hid (by omega)
    clear hd hlt
    go_wp2_with fail
    refine HLS.out.mono ?_
    rintro e w' ⟨rfl, nd, rfl⟩
    go_wp2_with fail
    generalize hW : World.drewN _ nd = w0 at *
    have HA0 : Hid (Lim w0 v2 vs) := by rw [← hW]; exact HL2.out
    have HB0 : Hid (Lim w0 v1 us) := by rw [← hW]; exact HL1.out
    have HW0 : Hid (Below w.heap.size w w0) := by rw [← hW]; exact below_drewN (Below.refl _ _) _
    clear hW HL1 HL2 HLS HT1 HT2
    have HG0 : Hid (Nat.gcd (val vs) (val us) = G) := hid (by rw [Nat.gcd_comm]; exact HG.out)
    go_loopg [5, 6] (val us) (fun g a b wr => ∃ (as' bs : List Nat) (p q : Option Addr) (c d : Nat), a = .slice p as'.length c ∧ b = .slice q bs.length d ∧ Hid (Lim wr a as') ∧ Hid (Lim wr b bs) ∧ Hid (Trim as') ∧ Hid (Trim bs) ∧ Hid (as'.length ≤ K) ∧ Hid (val bs ≤ val as') ∧ Hid (Nat.gcd (val as') (val bs) = G) ∧ Hid (val bs = g) ∧ Hid (Below w.heap.size w wr))
    case atStart =>
      obtain ⟨p, c, rfl, _⟩ := lim_parts HA0.out
      obtain ⟨q, d, rfl, _⟩ := lim_parts HB0.out
      exact ⟨vs, us, p, q, c, d, rfl, rfl, HA0, HB0, T2, T1, L2, HLE, HG0, hid rfl, HW0⟩
    case round =>
      clear HA0 HB0 HW0 HG0 HLE HG T1 T2 L1 L2
      obtain ⟨as', bs, p, q, c, d, rfl, rfl, hA, hB, tA, tB, lA, hle, hG, hg, hbw⟩ := hrel
      have HLB : Hid (bs.length ≤ as'.length) := hid (by
        apply Classical.byContradiction
        intro hh
        have := lt_of_length hA.out.1 tB.out (by omega)
        have := hle.out
        omega)
      by_cases h2 : as'.length ≤ 2
      · have HW1 := hid (word_all hA.out h2)
        have HW2 := hid (word_all hB.out (by have := HLB.out; omega))
        have HGW := hid (words_gcd (val as') (val bs) (words_lt hA.out.1 h2) (words_lt hB.out.1 (by have := HLB.out; omega)) wr)
        generalize hN : as'.length = n at *
        clear hN
        go_wp2_with fail
        refine HW1.out.mono ?_
        rintro e w' ⟨rfl, rfl⟩
        go_wp2_with fail
        refine HW2.out.mono ?_
        rintro e w' ⟨rfl, rfl⟩
        go_wp2_with fail
        refine HGW.out.mono ?_
        rintro e w2 ⟨g0, rfl, hg0, hgl, hb2⟩
        have HG2 := hid hg0
        have HOF := hid (natof_lim g0 hgl w2)
        have HB2 := hid (hbw.out.trans (hb2.mono hbw.out.size))
        clear hg0 hgl hb2 HW1 HW2 HGW
        go_wp2_with fail
        refine HOF.out.mono ?_
        rintro e w3 ⟨v3, zs, rfl, hl, ht, _, hv, hb3⟩
        have HL3 := hid hl
        have HT3 := hid ht
        have HV3 := hid (show val zs = G by rw [hv, HG2.out]; exact hG.out)
        have HB3 := hid (HB2.out.trans (hb3.mono HB2.out.size))
        clear hl ht hv hb3 HOF
        go_wp2_with fail
        go_ret
        exact ⟨v3, zs, rfl, HL3.out, HT3.out, HSZ.out zs HT3.out HV3.out, HV3.out, HB3.out⟩
      · have h3 : 3 ≤ as'.length := by omega
        by_cases h0 : val bs = 0
        · have he : bs = [] := tB.out.zero_iff.1 h0
          have hG2 := hG.out
          rw [h0, Nat.gcd_zero_right] at hG2
          have HG2 := hid hG2
          subst he
          have HC := hid (clone_lim hA.out (Nat.le_trans lA.out hK))
          clear hG2 h0 HLB
          simp only [List.length_nil]
          generalize hN : as'.length = n at *
          have HN := hid hN
          clear hN h2
          go_wp2_with fail
          refine HC.out.mono ?_
          rintro e w2 ⟨v, rfl, hL, _, hb2⟩
          have HB2 := hid (hbw.out.trans (hb2.mono hbw.out.size))
          clear hb2 HC
          go_wp2_with fail
          go_ret
          exact ⟨v, as', rfl, hL, tA.out, by rw [HN.out]; exact lA.out, HG2.out, HB2.out⟩
        · have HD := hid (descend_lim hA.out hB.out tA.out tB.out h3 (Nat.le_trans lA.out hK) hle.out (Nat.pos_of_ne_zero h0))
          have hn : bs ≠ [] := fun e => h0 (by rw [e]; rfl)
          have hpos : (0 : Int) < (bs.length : Int) := by have := List.length_pos_iff.2 hn; omega
          have hpn : 0 < bs.length := List.length_pos_iff.2 hn
          have HSA := hid (show ∀ zs, Trim zs → val zs ≤ val as' → zs.length ≤ K from fun zs tz hz => by
            have h5 := length_le_of_val tz as'.length (Nat.lt_of_le_of_lt hz (val_lt hA.out.1))
            have := lA.out
            omega)
          generalize hM : bs.length = m at *
          generalize hN : as'.length = n at *
          clear h0 hn hM hN h2
          go_wp2_with fail
          refine HD.out.mono ?_
          rintro e w2 ⟨v3, u3, zs, ts, rfl, hz, ht, tz, tt, l1, l2, l3, l4, hb2⟩
          have HZ := hid hz
          have HTt := hid ht
          have TZ := hid tz
          have TT := hid tt
          have M1 := hid l1
          have M2 := hid l2
          have M3 := hid l3
          have M4 := hid l4
          have HB2 := hid (hbw.out.trans (hb2.mono hbw.out.size))
          clear hz ht tz tt l1 l2 l3 l4 hb2 HD
          go_wp2_with fail
          go_roundg (val ts)
          case rel =>
            obtain ⟨p', c', rfl, _⟩ := lim_parts HZ.out
            obtain ⟨q', d', rfl, _⟩ := lim_parts HTt.out
            exact ⟨zs, ts, p', q', c', d', rfl, rfl, HZ, HTt, TZ, TT, hid (HSA.out zs TZ.out M2.out), M1, hid (by rw [M4.out]; exact hG.out), hid rfl, HB2⟩
          case measure =>
            rw [← hg.out]; exact M3.out
  · have hd : decide (val us < val vs) = false := decide_eq_false hlt
    rw [hd] at HLS
    have HLE : Hid (val vs ≤ val us) := hid (by omega)
    clear hd hlt
    go_wp2_with fail
    refine HLS.out.mono ?_
    rintro e w' ⟨rfl, nd, rfl⟩
    go_wp2_with fail
    generalize hW : World.drewN _ nd = w0 at *
    have HA0 : Hid (Lim w0 v1 us) := by rw [← hW]; exact HL1.out
    have HB0 : Hid (Lim w0 v2 vs) := by rw [← hW]; exact HL2.out
    have HW0 : Hid (Below w.heap.size w w0) := by rw [← hW]; exact below_drewN (Below.refl _ _) _
    clear hW HL1 HL2 HLS HT1 HT2
    have HG0 : Hid (Nat.gcd (val us) (val vs) = G) := HG
    go_loopg [5, 6] (val vs) (fun g a b wr => ∃ (as' bs : List Nat) (p q : Option Addr) (c d : Nat), a = .slice p as'.length c ∧ b = .slice q bs.length d ∧ Hid (Lim wr a as') ∧ Hid (Lim wr b bs) ∧ Hid (Trim as') ∧ Hid (Trim bs) ∧ Hid (as'.length ≤ K) ∧ Hid (val bs ≤ val as') ∧ Hid (Nat.gcd (val as') (val bs) = G) ∧ Hid (val bs = g) ∧ Hid (Below w.heap.size w wr))
    case atStart =>
      obtain ⟨p, c, rfl, _⟩ := lim_parts HA0.out
      obtain ⟨q, d, rfl, _⟩ := lim_parts HB0.out
      exact ⟨us, vs, p, q, c, d, rfl, rfl, HA0, HB0, T1, T2, L1, HLE, HG0, hid rfl, HW0⟩
    case round =>
      clear HA0 HB0 HW0 HG0 HLE HG T1 T2 L1 L2
      obtain ⟨as', bs, p, q, c, d, rfl, rfl, hA, hB, tA, tB, lA, hle, hG, hg, hbw⟩ := hrel
      have HLB : Hid (bs.length ≤ as'.length) := hid (by
        apply Classical.byContradiction
        intro hh
        have := lt_of_length hA.out.1 tB.out (by omega)
        have := hle.out
        omega)
      by_cases h2 : as'.length ≤ 2
      · have HW1 := hid (word_all hA.out h2)
        have HW2 := hid (word_all hB.out (by have := HLB.out; omega))
        have HGW := hid (words_gcd (val as') (val bs) (words_lt hA.out.1 h2) (words_lt hB.out.1 (by have := HLB.out; omega)) wr)
        generalize hN : as'.length = n at *
        clear hN
        go_wp2_with fail
        refine HW1.out.mono ?_
        rintro e w' ⟨rfl, rfl⟩
        go_wp2_with fail
        refine HW2.out.mono ?_
        rintro e w' ⟨rfl, rfl⟩
        go_wp2_with fail
        refine HGW.out.mono ?_
        rintro e w2 ⟨g0, rfl, hg0, hgl, hb2⟩
        have HG2 := hid hg0
        have HOF := hid (natof_lim g0 hgl w2)
        have HB2 := hid (hbw.out.trans (hb2.mono hbw.out.size))
        clear hg0 hgl hb2 HW1 HW2 HGW
        go_wp2_with fail
        refine HOF.out.mono ?_
        rintro e w3 ⟨v3, zs, rfl, hl, ht, _, hv, hb3⟩
        have HL3 := hid hl
        have HT3 := hid ht
        have HV3 := hid (show val zs = G by rw [hv, HG2.out]; exact hG.out)
        have HB3 := hid (HB2.out.trans (hb3.mono HB2.out.size))
        clear hl ht hv hb3 HOF
        go_wp2_with fail
        go_ret
        exact ⟨v3, zs, rfl, HL3.out, HT3.out, HSZ.out zs HT3.out HV3.out, HV3.out, HB3.out⟩
      · have h3 : 3 ≤ as'.length := by omega
        by_cases h0 : val bs = 0
        · have he : bs = [] := tB.out.zero_iff.1 h0
          have hG2 := hG.out
          rw [h0, Nat.gcd_zero_right] at hG2
          have HG2 := hid hG2
          subst he
          have HC := hid (clone_lim hA.out (Nat.le_trans lA.out hK))
          clear hG2 h0 HLB
          simp only [List.length_nil]
          generalize hN : as'.length = n at *
          have HN := hid hN
          clear hN h2
          go_wp2_with fail
          refine HC.out.mono ?_
          rintro e w2 ⟨v, rfl, hL, _, hb2⟩
          have HB2 := hid (hbw.out.trans (hb2.mono hbw.out.size))
          clear hb2 HC
          go_wp2_with fail
          go_ret
          exact ⟨v, as', rfl, hL, tA.out, by rw [HN.out]; exact lA.out, HG2.out, HB2.out⟩
        · have HD := hid (descend_lim hA.out hB.out tA.out tB.out h3 (Nat.le_trans lA.out hK) hle.out (Nat.pos_of_ne_zero h0))
          have hn : bs ≠ [] := fun e => h0 (by rw [e]; rfl)
          have hpos : (0 : Int) < (bs.length : Int) := by have := List.length_pos_iff.2 hn; omega
          have hpn : 0 < bs.length := List.length_pos_iff.2 hn
          have HSA := hid (show ∀ zs, Trim zs → val zs ≤ val as' → zs.length ≤ K from fun zs tz hz => by
            have h5 := length_le_of_val tz as'.length (Nat.lt_of_le_of_lt hz (val_lt hA.out.1))
            have := lA.out
            omega)
          generalize hM : bs.length = m at *
          generalize hN : as'.length = n at *
          clear h0 hn hM hN h2
          go_wp2_with fail
          refine HD.out.mono ?_
          rintro e w2 ⟨v3, u3, zs, ts, rfl, hz, ht, tz, tt, l1, l2, l3, l4, hb2⟩
          have HZ := hid hz
          have HTt := hid ht
          have TZ := hid tz
          have TT := hid tt
          have M1 := hid l1
          have M2 := hid l2
          have M3 := hid l3
          have M4 := hid l4
          have HB2 := hid (hbw.out.trans (hb2.mono hbw.out.size))
          clear hz ht tz tt l1 l2 l3 l4 hb2 HD
          go_wp2_with fail
          go_roundg (val ts)
          case rel =>
            obtain ⟨p', c', rfl, _⟩ := lim_parts HZ.out
            obtain ⟨q', d', rfl, _⟩ := lim_parts HTt.out
            exact ⟨zs, ts, p', q', c', d', rfl, rfl, HZ, HTt, TZ, TT, hid (HSA.out zs TZ.out M2.out), M1, hid (by rw [M4.out]; exact hG.out), hid rfl, HB2⟩
          case measure =>
            rw [← hg.out]; exact M3.out

end Go.Proofs.Ytokojbgpboccnaa

/-
  PACKAGE whole: Of, Sign, Less, Gcd.
-/
namespace Go.Proofs.Ytokojbgpboccnaa
open Go.RowKit
open Num
set_option linter.unusedVariables false
set_option maxRecDepth 100000
set_option linter.unusedSimpArgs false

theorem Whl.lt {w : World} {v : Value} {z : Int} {k : Nat} (h : Whl w v z k) : z.natAbs < B ^ k := by
  obtain ⟨s, sv, xs, h1, h2, h3, h4, h5, h6⟩ := h
  rw [← h6, natAbs_zof]
  exact few_limbs h2.1 h4
theorem Whl.drew {w : World} {v : Value} {z : Int} {k : Nat} (h : Whl w v z k) : Whl w.drew v z k := h.on (Below.drew (Below.refl _ _))
theorem Whl.nil (w : World) (k : Nat) : Whl w (.agg #[.bool false, .slice none 0 0]) 0 k := ⟨false, _, [], rfl, Lim.nil w, .inl rfl, Nat.zero_le _, fun e => by simp at e, rfl⟩

set_option maxHeartbeats 400000 in
theorem of_plus (n : Nat) (hn : n < 9223372036854775808) (w : World) :
    Calls Try.prog 39 #[.int .i64 n] w fun e w' => ∃ v, e = .returned v ∧ Whl w' v n 2 ∧ Below w.heap.size w w' := by
  obtain ⟨x0, bw, sz⟩ := boxes1 w false (.slice none 0 0) ⟨_, _, _, rfl⟩
  have HN := hid (fun w => natof_lim n (by omega) w)
  have X0 := hid x0
  have BW := hid bw
  have h1 : IntKind.u64.wrap (n : Int) = n := IntWalk.u64_in _ (by omega)
  have h2 : (0 : Int) ≤ (n : Int) := by omega
  clear x0 bw sz hn
  go_enter Try.func39, Try.ntmps39
  go_wp2_with fail
  refine (HN.out _).mono ?_
  rintro e w1 ⟨v, zs, rfl, hL, tr, hl, hv, hb⟩
  obtain ⟨p, m, c, rfl⟩ := hL.slice
  have x0' := X0.out.below hb X0.out.lt
  obtain ⟨c0, f0, c1, f1⟩ := x0'.stores
  have X1 := hid x0'
  have B1 := hid (BW.out.trans (hb.mono BW.out.size))
  have HV := hid (show Whl w1 (.agg #[.bool false, .slice p m c]) n 2 from ⟨false, _, zs, rfl, hL, tr, hl, fun e => by simp at e, by rw [hv]; rfl⟩)
  clear hL tr hl hv hb x0' HN
  go_wp2_with fail
  obtain ⟨r1, r2, r3⟩ := X1.out.last B1.out (Nat.le_refl _) false p m c
  refine bodyPost_ret (res_one rfl rfl r1) rfl ?_
  exact ⟨_, rfl, r3 HV.out, r2⟩

set_option maxHeartbeats 400000 in
theorem of_minus (n : Nat) (h0 : 0 < n) (hn : n ≤ 9223372036854775808) (w : World) :
    Calls Try.prog 39 #[.int .i64 (-(n : Int))] w fun e w' => ∃ v, e = .returned v ∧ Whl w' v (-(n : Int)) 2 ∧ Below w.heap.size w w' := by
  obtain ⟨x0, bw, sz⟩ := boxes1 w false (.slice none 0 0) ⟨_, _, _, rfl⟩
  have HN := hid (fun w => natof_lim n (by omega) w)
  have X0 := hid x0
  have BW := hid bw
  have h1 : IntKind.u64.wrap (-(n : Int)) = 18446744073709551616 - n := by rw [IntKind.wrap_u64]; omega
  have h3 : IntKind.u64.wrap (-(18446744073709551616 - (n : Int))) = n := by rw [IntKind.wrap_u64]; omega
  have h2 : (0 : Int) < (n : Int) := by omega
  have H0 := hid h0
  clear x0 bw sz hn h0
  go_enter Try.func39, Try.ntmps39
  go_wp2_with fail
  refine (HN.out _).mono ?_
  rintro e w1 ⟨v, zs, rfl, hL, tr, hl, hv, hb⟩
  obtain ⟨p, m, c, rfl⟩ := hL.slice
  have x0' := X0.out.below hb X0.out.lt
  obtain ⟨c0, f0, c1, f1⟩ := x0'.stores
  have X1 := hid x0'
  have B1 := hid (BW.out.trans (hb.mono BW.out.size))
  have HV := hid (show Whl w1 (.agg #[.bool true, .slice p m c]) (-(n : Int)) 2 from ⟨true, _, zs, rfl, hL, tr, hl, fun e => by rw [hv]; exact Nat.ne_of_gt H0.out, by rw [hv]; rfl⟩)
  clear hL tr hl hv hb x0' HN
  go_wp2_with fail
  obtain ⟨r1, r2, r3⟩ := X1.out.last B1.out (Nat.le_refl _) true p m c
  refine bodyPost_ret (res_one rfl rfl r1) rfl ?_
  exact ⟨_, rfl, r3 HV.out, r2⟩

theorem of_whl (z : Int) (h1 : -9223372036854775808 ≤ z) (h2 : z < 9223372036854775808) (w : World) :
    Calls Try.prog 39 #[.int .i64 z] w fun e w' => ∃ v, e = .returned v ∧ Whl w' v z 2 ∧ Below w.heap.size w w' := by
  by_cases h : z < 0
  · have e : z = -((z.natAbs : Nat) : Int) := by omega
    rw [e]
    exact of_minus _ (by omega) (by omega) w
  · have e : z = ((z.natAbs : Nat) : Int) := by omega
    rw [e]
    exact of_plus _ (by omega) w
/-- One limb is enough for one digit. -/
theorem of_small (z : Int) (h : z.natAbs < 4294967296) (w : World) :
    Calls Try.prog 39 #[.int .i64 z] w fun e w' => ∃ v, e = .returned v ∧ Whl w' v z 1 ∧ Below w.heap.size w w' := by
  refine (of_whl z (by omega) (by omega) w).mono ?_
  rintro e w' ⟨v, rfl, hv, hb⟩
  exact ⟨v, rfl, hv.fit 1 (by rw [Nat.pow_one, B_eq]; exact h), hb⟩

set_option maxHeartbeats 400000 in
theorem sgn_whl {w : World} {v : Value} {z : Int} {k : Nat} (h : Whl w v z k) :
    Calls Try.prog 35 #[v] w fun e w' => e = .returned (.int .i64 z.sign) ∧ Below w.heap.size w w' := by
  obtain ⟨s, sv, xs, rfl, hl, ht, hk, hs, hz⟩ := h
  obtain ⟨p, c, rfl, _⟩ := lim_parts hl
  obtain ⟨x0, bw, sz⟩ := boxes1 w s (.slice p xs.length c) ⟨_, _, _, rfl⟩
  cases s
  · by_cases h0 : val xs = 0
    · have e : xs = [] := ht.zero_iff.1 h0
      have hz0 : z.sign = 0 := by rw [← hz, h0]; rfl
      subst e
      have BW := hid bw
      rw [hz0]
      clear hl ht hk hs hz h0 hz0 x0 bw sz
      go_enter Try.func35, Try.ntmps35
      go_wp2_with fail
      go_ret
      exact ⟨rfl, BW.out⟩
    · have hz0 : z.sign = 1 := by
        rw [← hz]
        exact Int.sign_eq_one_of_pos (by simp [zof]; omega)
      have hn0 : (0 : Int) < (xs.length : Int) := by
        cases xs with
        | nil => exact absurd rfl h0
        | cons => simp
      rw [hz0]
      generalize xs.length = n at *
      have BW := hid bw
      clear hl ht hk hs hz h0 hz0 x0 bw sz
      go_enter Try.func35, Try.ntmps35
      go_wp2_with fail
      go_ret
      exact ⟨rfl, BW.out⟩
  · have hz0 : z.sign = -1 := by
      rw [← hz]
      have := hs rfl
      exact Int.sign_eq_neg_one_of_neg (by simp [zof]; omega)
    rw [hz0]
    generalize xs.length = n at *
    have BW := hid bw
    clear hl ht hk hs hz hz0 x0 bw sz
    go_enter Try.func35, Try.ntmps35
    go_wp2_with fail
    go_ret
    exact ⟨rfl, BW.out⟩

theorem neg_field (s : Bool) (p : Option Addr) (n c : Nat) (w : World) : (Instr.field 47 (.agg #[.bool s, .slice p n c]) 0).run Try.prog w = .ok (.bool s) w := by kernel_rfl

set_option maxHeartbeats 400000 in
theorem zless_whl {w : World} {v u : Value} {z y : Int} {k l : Nat} (h : Whl w v z k) (h' : Whl w u y l) (hk : k ≤ 549755813888) (hl : l ≤ 549755813888) :
    Calls Try.prog 46 #[v, u] w fun e w' => e = .returned (.bool (decide (z < y))) ∧ Below w.heap.size w w' := by
  obtain ⟨s, p, n, c, rfl⟩ := h.opened
  obtain ⟨s', p', n', c', rfl⟩ := h'.opened
  obtain ⟨x0, x1, bw, sz⟩ := boxes2 w s s' (.slice p n c) (.slice p' n' c') ⟨_, _, _, rfl⟩ ⟨_, _, _, rfl⟩
  have HS := hid (sub_whl (h.on bw) (h'.on bw) hk hl)
  have BW := hid bw
  have SZ := hid sz
  clear h h' hk hl x0 x1 bw sz
  go_enter Try.func46, Try.ntmps46
  go_wp2_with fail
  refine HS.out.mono ?_
  rintro e w1 ⟨v, rfl, hv, hb⟩
  obtain ⟨s1, sv1, xs1, rfl, hl, ht, hk, hs, hz⟩ := hv.neg
  obtain ⟨p1, n1, c1, rfl⟩ := hl.slice
  have HB := hid (BW.out.trans (hb.mono BW.out.size))
  have HZ := hid (show s1 = decide (z < y) by rw [hs]; apply decide_eq_decide.2; omega)
  clear hl ht hk hs hz hv hb HS
  have hfd := neg_field s1 p1 n1 c1
  go_wp2_with fail
  go_ret
  exact ⟨ret_bool HZ.out, HB.out⟩

set_option maxHeartbeats 400000 in
theorem zgcd_whl {w : World} {v u : Value} {z y : Int} {k : Nat} (h : Whl w v z k) (h' : Whl w u y k) (hk : k ≤ 549755813888) :
    Calls Try.prog 34 #[v, u] w fun e w' => ∃ v, e = .returned v ∧ Whl w' v (Int.gcd z y) k ∧ Below w.heap.size w w' := by
  obtain ⟨s, sv, xs, rfl, hl, ht, hk1, hs, hz⟩ := h
  obtain ⟨s', sv', xs', rfl, hl', ht', hk1', hs', hz'⟩ := h'
  have e1 : z.natAbs = val xs := by rw [← hz, natAbs_zof]
  have e2 : y.natAbs = val xs' := by rw [← hz', natAbs_zof]
  obtain ⟨x0, x1, x2, bw, sz⟩ := boxes3 w s s' false sv sv' (.slice none 0 0) hl.slice hl'.slice ⟨_, _, _, rfl⟩
  have HG := hid (gcd_lim (hl.below bw (Nat.le_refl _)) (hl'.below bw (Nat.le_refl _)) hk1 hk1' (by omega))
  have HE := hid (show Nat.gcd (val xs) (val xs') = Int.gcd z y by rw [Int.gcd, e1, e2])
  have X2 := hid x2
  have BW := hid bw
  have SZ := hid sz
  obtain ⟨p, n, c, rfl⟩ := hl.slice
  obtain ⟨p', n', c', rfl⟩ := hl'.slice
  clear hl hl' ht ht' hk1 hk1' hs hs' hz hz' x0 x1 x2 bw sz e1 e2
  go_enter Try.func34, Try.ntmps34
  go_wp2_with fail
  refine HG.out.mono ?_
  rintro e w1 ⟨v, zs, rfl, hL, tr, hl, hv, hb⟩
  obtain ⟨p1, m1, c1, rfl⟩ := hL.slice
  have x2' := X2.out.below hb X2.out.lt
  obtain ⟨c0, f0, c1', f1⟩ := x2'.stores
  have X3 := hid x2'
  have B1 := hid (BW.out.trans (hb.mono BW.out.size))
  have HV := hid (show Whl w1 (.agg #[.bool false, .slice p1 m1 c1]) (Int.gcd z y) k from ⟨false, _, zs, rfl, hL, tr, hl, fun e => by simp at e, by rw [hv, HE.out]; rfl⟩)
  clear hL tr hl hv hb x2' HG
  go_wp2_with fail
  obtain ⟨r1, r2, r3⟩ := X3.out.last B1.out (show w.heap.size ≤ w.heap.size + 1 + 1 by omega) false p1 m1 c1
  refine bodyPost_ret (res_one rfl rfl r1) rfl ?_
  exact ⟨_, rfl, r3 HV.out, r2⟩

end Go.Proofs.Ytokojbgpboccnaa

/-
  PACKAGE rat: A Number IN MEMORY.
-/
namespace Go.Proofs.Ytokojbgpboccnaa
open Go.RowKit
open Num
set_option linter.unusedVariables false
set_option maxRecDepth 100000
set_option linter.unusedSimpArgs false

/-- A block of four cells: a Number. -/
def Nbx (w : World) (g : Nat) (s : Bool) (sv : Value) (s' : Bool) (sv' : Value) : Prop := w.heap[g]? = some (.cells #[.bool s, sv, .bool s', sv'] 49 (0, 0))
theorem Nbx.lt {w : World} {g : Nat} {s s' : Bool} {sv sv' : Value} (h : Nbx w g s sv s' sv') : g < w.heap.size := lt_of_block h
theorem Nbx.cells {w : World} {g : Nat} {s s' : Bool} {sv sv' : Value} (h : Nbx w g s sv s' sv') : w.cell? ⟨g, 0, none⟩ = some (.bool s) ∧ w.cell? ⟨g, 1, none⟩ = some sv ∧ w.cell? ⟨g, 2, none⟩ = some (.bool s') ∧ w.cell? ⟨g, 3, none⟩ = some sv' := by
  have : w.heap[g]? = some (.cells #[.bool s, sv, .bool s', sv'] 49 (0, 0)) := h
  refine ⟨?_, ?_, ?_, ?_⟩ <;> simp [World.cell?, this]
theorem Nbx.free {w : World} {g : Nat} {s s' : Bool} {sv sv' : Value} (h : Nbx w g s sv s' sv') (i : Nat) : w.frozen? ⟨g, i, none⟩ = false := by
  have : w.heap[g]? = some (.cells #[.bool s, sv, .bool s', sv'] 49 (0, 0)) := h
  simp [World.frozen?, this]
theorem Nbx.below {w w' : World} {g K : Nat} {s s' : Bool} {sv sv' : Value} (h : Nbx w g s sv s' sv') (hb : Below K w w') (hK : g < K) : Nbx w' g s sv s' sv' := (hb.block g hK).trans h
theorem Nbx.new (w : World) (s s' : Bool) (sv sv' : Value) : Nbx (w.alloc (.cells #[.bool s, sv, .bool s', sv'] 49)) w.heap.size s sv s' sv' := by
  show (w.heap.push _)[w.heap.size]? = _
  simp
theorem Nbx.made (w : World) (s s' : Bool) (sv sv' : Value) : Below w.heap.size w (w.alloc (.cells #[.bool s, sv, .bool s', sv'] 49)) ∧ Nbx (w.alloc (.cells #[.bool s, sv, .bool s', sv'] 49)) w.heap.size s sv s' sv' ∧ (w.alloc (.cells #[.bool s, sv, .bool s', sv'] 49)).heap.size = w.heap.size + 1 := ⟨(Below.refl _ _).alloc (Nat.le_refl _) _, Nbx.new w s s' sv sv', by simp⟩
theorem Nbx.kept {w w' : World} {g : Nat} {s : Bool} {sv : Value} {s' : Bool} {sv' : Value} (h : Nbx w g s sv s' sv') (e : w'.heap[g]? = w.heap[g]?) : Nbx w' g s sv s' sv' := e.trans h
theorem Nbx.other {w : World} {g g2 : Nat} {s s' : Bool} {sv sv' : Value} (h : Nbx w g s sv s' sv') (hne : g ≠ g2) (i : Nat) (v : Value) : Nbx (w.setCell ⟨g2, i, none⟩ v) g s sv s' sv' := by
  show (w.setCell ⟨g2, i, none⟩ v).heap[g]? = _
  rw [Below.heap_setCell _ _ _ _ (by exact hne)]; exact h

theorem Nbx.set0 {w : World} {g : Nat} {s s' : Bool} {sv sv' : Value} (h : Nbx w g s sv s' sv') (x : Bool) : Nbx (w.setCell ⟨g, 0, none⟩ (.bool x)) g x sv s' sv' := by
  have : w.heap[g]? = some (.cells #[.bool s, sv, .bool s', sv'] 49 (0, 0)) := h
  show (w.setCell ⟨g, 0, none⟩ (.bool x)).heap[g]? = _
  simp only [World.setCell, Array.getElem?_modify, this]
  simp
theorem Nbx.set1 {w : World} {g : Nat} {s s' : Bool} {sv sv' : Value} (h : Nbx w g s sv s' sv') (x : Value) : Nbx (w.setCell ⟨g, 1, none⟩ x) g s x s' sv' := by
  have : w.heap[g]? = some (.cells #[.bool s, sv, .bool s', sv'] 49 (0, 0)) := h
  show (w.setCell ⟨g, 1, none⟩ x).heap[g]? = _
  simp only [World.setCell, Array.getElem?_modify, this]
  simp
theorem Nbx.set2 {w : World} {g : Nat} {s s' : Bool} {sv sv' : Value} (h : Nbx w g s sv s' sv') (x : Bool) : Nbx (w.setCell ⟨g, 2, none⟩ (.bool x)) g s sv x sv' := by
  have : w.heap[g]? = some (.cells #[.bool s, sv, .bool s', sv'] 49 (0, 0)) := h
  show (w.setCell ⟨g, 2, none⟩ (.bool x)).heap[g]? = _
  simp only [World.setCell, Array.getElem?_modify, this]
  simp
theorem Nbx.set3 {w : World} {g : Nat} {s s' : Bool} {sv sv' : Value} (h : Nbx w g s sv s' sv') (x : Value) : Nbx (w.setCell ⟨g, 3, none⟩ x) g s sv s' x := by
  have : w.heap[g]? = some (.cells #[.bool s, sv, .bool s', sv'] 49 (0, 0)) := h
  show (w.setCell ⟨g, 3, none⟩ x).heap[g]? = _
  simp only [World.setCell, Array.getElem?_modify, this]
  simp
/-- What a walk needs to write all four. -/
theorem Nbx.stores {w : World} {g : Nat} {s s' : Bool} {sv sv' : Value} (h : Nbx w g s sv s' sv') :
    (w.cell? ⟨g, 0, none⟩ = some (.bool s) ∧ w.frozen? ⟨g, 0, none⟩ = false) ∧
    ((∀ x, (w.setCell ⟨g, 0, none⟩ (.bool x)).cell? ⟨g, 1, none⟩ = some sv) ∧ (∀ x, (w.setCell ⟨g, 0, none⟩ (.bool x)).frozen? ⟨g, 1, none⟩ = false)) ∧
    ((∀ x y, ((w.setCell ⟨g, 0, none⟩ (.bool x)).setCell ⟨g, 1, none⟩ y).cell? ⟨g, 2, none⟩ = some (.bool s')) ∧ (∀ x y, ((w.setCell ⟨g, 0, none⟩ (.bool x)).setCell ⟨g, 1, none⟩ y).frozen? ⟨g, 2, none⟩ = false)) ∧
    ((∀ x y z, (((w.setCell ⟨g, 0, none⟩ (.bool x)).setCell ⟨g, 1, none⟩ y).setCell ⟨g, 2, none⟩ (.bool z)).cell? ⟨g, 3, none⟩ = some sv') ∧ (∀ x y z, (((w.setCell ⟨g, 0, none⟩ (.bool x)).setCell ⟨g, 1, none⟩ y).setCell ⟨g, 2, none⟩ (.bool z)).frozen? ⟨g, 3, none⟩ = false)) :=
  ⟨⟨h.cells.1, h.free 0⟩, ⟨fun x => (h.set0 x).cells.2.1, fun x => (h.set0 x).free 1⟩, ⟨fun x y => ((h.set0 x).set1 y).cells.2.2.1, fun x y => ((h.set0 x).set1 y).free 2⟩,
    fun x y z => (((h.set0 x).set1 y).set2 z).cells.2.2.2, fun x y z => (((h.set0 x).set1 y).set2 z).free 3⟩
theorem Lim.nbx {w : World} {v : Value} {xs : List Nat} {g : Nat} {s s' : Bool} {p p' : Option Addr} {n n' c c' : Nat} (h : Lim w v xs) (hx : Nbx w g s (.slice p n c) s' (.slice p' n' c')) (i : Nat) (u : Value) : Lim (w.setCell ⟨g, i, none⟩ u) v xs := by
  have hg : w.heap[g]? = some (.cells #[.bool s, .slice p n c, .bool s', .slice p' n' c'] 49 (0, 0)) := hx
  obtain ⟨h1, q, d, h2, h3, h4, h5⟩ := h
  refine ⟨h1, q, d, h2, h3, h4, ?_⟩
  rcases h5 with h5 | ⟨b, off, h6, h7, h8⟩
  · exact .inl h5
  · refine .inr ⟨b, off, h6, by simpa [World.setCell] using h7, fun i hi => ?_⟩
    have h9 := h8 i hi
    by_cases hb : b = g
    · subst hb
      simp only [World.cell?, hg] at h9
      have hh : ∀ k : Nat, (#[Value.bool s, Value.slice p n c, Value.bool s', Value.slice p' n' c'] : Array Value)[k]? ≠ some (.int .u32 (dg xs i)) := by
        intro k
        rcases k with _ | _ | _ | _ | k <;> simp
      exact absurd h9 (hh _)
    · rw [← h9]
      exact World.cell?_of_block (Below.heap_setCell _ _ _ _ (by exact hb))
theorem Whl.nbx {w : World} {v : Value} {z : Int} {k g : Nat} {s s' : Bool} {p p' : Option Addr} {n n' c c' : Nat} (h : Whl w v z k) (hx : Nbx w g s (.slice p n c) s' (.slice p' n' c')) (i : Nat) (u : Value) : Whl (w.setCell ⟨g, i, none⟩ u) v z k := by
  obtain ⟨s', sv', xs, h1, h2, h3⟩ := h
  exact ⟨s', sv', xs, h1, h2.nbx hx i u, h3⟩
/-- The last store of four cells. -/
theorem Nbx.last {w0 w : World} {g K : Nat} {s s' : Bool} {p p' : Option Addr} {n n' c c' : Nat} (h : Nbx w g s (.slice p n c) s' (.slice p' n' c')) (hb : Below K w0 w) (hg : K ≤ g) (a b : Bool) (q q' : Option Addr) (m m' d d' : Nat) :
    Nbx ((((w.setCell ⟨g, 0, none⟩ (.bool a)).setCell ⟨g, 1, none⟩ (.slice q m d)).setCell ⟨g, 2, none⟩ (.bool b)).setCell ⟨g, 3, none⟩ (.slice q' m' d')) g a (.slice q m d) b (.slice q' m' d') ∧
    Below K w0 ((((w.setCell ⟨g, 0, none⟩ (.bool a)).setCell ⟨g, 1, none⟩ (.slice q m d)).setCell ⟨g, 2, none⟩ (.bool b)).setCell ⟨g, 3, none⟩ (.slice q' m' d')) ∧
    (∀ {v z k}, Whl w v z k → Whl ((((w.setCell ⟨g, 0, none⟩ (.bool a)).setCell ⟨g, 1, none⟩ (.slice q m d)).setCell ⟨g, 2, none⟩ (.bool b)).setCell ⟨g, 3, none⟩ (.slice q' m' d')) v z k) := by
  have h1 := h.set0 a
  have h2 := h1.set1 (.slice q m d)
  have h3 := h2.set2 b
  refine ⟨h3.set3 _, (((hb.setCell (p := ⟨g, 0, none⟩) hg _).setCell (p := ⟨g, 1, none⟩) hg _).setCell (p := ⟨g, 2, none⟩) hg _).setCell (p := ⟨g, 3, none⟩) hg _, fun hv => ?_⟩
  exact (((hv.nbx h 0 _).nbx h1 1 _).nbx h2 2 _).nbx h3 3 _

theorem load_num {w : World} {g : Nat} {s s' : Bool} {sv sv' : Value} (h2 : Nbx w g s sv s' sv') : (loadVar 49 ⟨g, 0, none⟩).run Try.prog w = .ok (.agg #[.bool s, sv, .bool s', sv']) w := by
  obtain ⟨h0, h1, h3, h4⟩ := h2.cells
  simp [go_sem, h0, h1, h3, h4]
theorem res_num_tmp {fn : Func} {t t' : Tmp} {tmps : Array Value} {w : World} {g : Nat} {s s' : Bool} {sv sv' u : Value} (hf : fn.results = #[.cell t 49, .tmp t']) (ht : tmps.getD t undef = .pointer (some ⟨g, 0, none⟩)) (hu : tmps.getD t' undef = u) (h2 : Nbx w g s sv s' sv') :
    (results fn tmps).run Try.prog w = .ok (.tuple #[.agg #[.bool s, sv, .bool s', sv'], u]) w := by
  have h1 := at_addr (P := Try.prog) (w := w) ht
  have h3 := load_num h2
  simp only [Array.getD_eq_getD_getElem?] at h1 hu
  simp [results, hf, Sem.run_bind, h1, h3, hu]

theorem res_num {fn : Func} {t : Tmp} {tmps : Array Value} {w : World} {g : Nat} {s s' : Bool} {sv sv' : Value} (hf : fn.results = #[.cell t 49]) (ht : tmps.getD t undef = .pointer (some ⟨g, 0, none⟩)) (h2 : Nbx w g s sv s' sv') :
    (results fn tmps).run Try.prog w = .ok (.agg #[.bool s, sv, .bool s', sv']) w := by
  have h1 := at_addr (P := Try.prog) (w := w) ht
  have h3 := load_num h2
  simp only [Array.getD_eq_getD_getElem?] at h1
  simp [results, hf, Sem.run_bind, h1, h3]

/-- A value reads as a fraction, both parts of k limbs or fewer. -/
def Rtl (w : World) (v : Value) (q : Rat) (k : Nat) : Prop :=
  ∃ s p n c s' p' n' c', v = .agg #[.bool s, .slice p n c, .bool s', .slice p' n' c'] ∧ Whl w (.agg #[.bool s, .slice p n c]) q.num k ∧
    ∃ d : Int, Whl w (.agg #[.bool s', .slice p' n' c']) d k ∧ (d = q.den ∨ (d = 0 ∧ q.den = 1))
theorem Rtl.below {w w' : World} {v : Value} {q : Rat} {k K : Nat} (h : Rtl w v q k) (hb : Below K w w') (hK : w.heap.size ≤ K) : Rtl w' v q k := by
  obtain ⟨s, p, n, c, s', p', n', c', h1, h2, d, h3, h4⟩ := h
  exact ⟨s, p, n, c, s', p', n', c', h1, h2.below hb hK, d, h3.below hb hK, h4⟩
theorem Rtl.on {w w' : World} {v : Value} {q : Rat} {k : Nat} (h : Rtl w v q k) (hb : Below w.heap.size w w') : Rtl w' v q k := h.below hb (Nat.le_refl _)
theorem Rtl.mono {w : World} {v : Value} {q : Rat} {k m : Nat} (h : Rtl w v q k) (hk : k ≤ m) : Rtl w v q m := by
  obtain ⟨s, p, n, c, s', p', n', c', h1, h2, d, h3, h4⟩ := h
  exact ⟨s, p, n, c, s', p', n', c', h1, h2.mono hk, d, h3.mono hk, h4⟩
theorem Rtl.opened {w : World} {v : Value} {q : Rat} {k : Nat} (h : Rtl w v q k) : ∃ s p n c s' p' n' c', v = .agg #[.bool s, .slice p n c, .bool s', .slice p' n' c'] := by
  obtain ⟨s, p, n, c, s', p', n', c', h1, _⟩ := h
  exact ⟨s, p, n, c, s', p', n', c', h1⟩

theorem Box.both {w : World} {g : Nat} {s : Bool} {sv : Value} (h : Box w g s sv) : w.cell? ⟨g, 0, none⟩ = some (.bool s) ∧ w.cell? ⟨g, 1, none⟩ = some sv := ⟨h.cell0, h.cell1⟩
theorem Box.dr {w : World} {g : Nat} {s : Bool} {sv : Value} (h : Box w g s sv) : Box w.drew g s sv := h
theorem Nbx.dr {w : World} {g : Nat} {s s' : Bool} {sv sv' : Value} (h : Nbx w g s sv s' sv') : Nbx w.drew g s sv s' sv' := h

/-- Facts that are carried past a call. -/
theorem bx {w w' : World} {g : Nat} {s : Bool} {sv : Value} (h : Hid (Box w g s sv)) (hb : Below w.heap.size w w') : Hid (Box w' g s sv) := hid (h.out.below hb h.out.lt)
theorem nx {w w' : World} {g : Nat} {s s' : Bool} {sv sv' : Value} (h : Hid (Nbx w g s sv s' sv')) (hb : Below w.heap.size w w') : Hid (Nbx w' g s sv s' sv') := hid (h.out.below hb h.out.lt)
theorem wl {w w' : World} {v : Value} {z : Int} {k : Nat} (h : Hid (Whl w v z k)) (hb : Below w.heap.size w w') : Hid (Whl w' v z k) := hid (h.out.on hb)
theorem bb {w0 w w' : World} (h : Hid (Below w0.heap.size w0 w)) (hb : Below w.heap.size w w') : Hid (Below w0.heap.size w0 w') := hid (h.out.trans (hb.mono h.out.size))

/-- What a quotient is. -/
theorem divInt_parts (z y : Int) (hy : y ≠ 0) : (Rat.divInt z y).num = z / (if y < 0 then -(Int.gcd z y : Int) else (Int.gcd z y : Int)) ∧ ((Rat.divInt z y).den : Int) = y / (if y < 0 then -(Int.gcd z y : Int) else (Int.gcd z y : Int)) := by
  have hg : Int.gcd y z = Int.gcd z y := Int.gcd_comm y z
  have hd1 : (Int.gcd z y : Int) ∣ z := Int.gcd_dvd_left z y
  have hd2 : (Int.gcd z y : Int) ∣ y := Int.gcd_dvd_right z y
  rw [Rat.num_divInt, Rat.den_divInt, hg, if_neg hy]
  by_cases h : y < 0
  · rw [if_pos h, Int.sign_eq_neg_one_of_neg h]
    constructor
    · rw [Int.neg_one_mul, Int.neg_ediv_of_dvd hd1, Int.ediv_neg]
    · rw [Int.natCast_ediv, Int.ofNat_natAbs_of_nonpos (by omega), Int.neg_ediv_of_dvd hd2, Int.ediv_neg]
  · rw [if_neg h, Int.sign_eq_one_of_pos (by omega)]
    constructor
    · rw [Int.one_mul]
    · rw [Int.natCast_ediv, Int.natAbs_of_nonneg (by omega)]

end Go.Proofs.Ytokojbgpboccnaa

/-
  A Number's cells.
-/
namespace Go.Proofs.Ytokojbgpboccnaa
open Go.RowKit
open Num
set_option linter.unusedVariables false
set_option maxRecDepth 100000
set_option linter.unusedSimpArgs false

/-- A Number's four cells. -/
abbrev Nr := Zr × Zr
def nag (r : Nr) : Value := .agg #[.bool r.1.1, .slice r.1.2.1 r.1.2.2.1 r.1.2.2.2, .bool r.2.1, .slice r.2.2.1 r.2.2.2.1 r.2.2.2.2]

end Go.Proofs.Ytokojbgpboccnaa

/-
  PACKAGE rat: reduced.
-/
namespace Go.Proofs.Ytokojbgpboccnaa
open Go.RowKit
open Num
set_option linter.unusedVariables false
set_option maxRecDepth 100000
set_option linter.unusedSimpArgs false

set_option maxHeartbeats 1000000 in
theorem reduced_plus {w : World} {v u : Value} {z y : Int} {k : Nat} (h : Whl w v z k) (h' : Whl w u y k) (hy : 0 < y) (hk : k ≤ 549755813888) :
    Calls Try.prog 43 #[v, u] w fun e w' => ∃ v, e = .returned v ∧ Rtl w' v (Rat.divInt z y) k ∧ Below w.heap.size w w' := by
  obtain ⟨s1, p1, n1, c1, rfl⟩ := h.opened
  obtain ⟨s2, p2, n2, c2, rfl⟩ := h'.opened
  have HK := hid hk
  have H0 := hid hy
  have HD := hid (divInt_parts z y (by omega))
  have YG := Int.sign_eq_one_of_pos hy
  rw [if_neg (by omega)] at HD
  have HG0 := hid (show (Int.gcd z y : Int) ≠ 0 by have := Int.gcd_pos_of_ne_zero_right z (show y ≠ 0 by omega); omega)
  have B := hid (Below.refl w.heap.size w)
  have HZ := hid h
  have HY := hid h'
  obtain ⟨hb1, hx2, hs3⟩ := Box.made w s1 p1 n1 c1
  replace HZ := wl HZ hb1
  replace HY := wl HY hb1
  replace B := bb B hb1
  have X1 := hid hx2
  clear hb1 hx2
  obtain ⟨hb4, hx5, hs6⟩ := Box.made (w.alloc (.cells #[.bool s1, .slice p1 n1 c1] 47)) s2 p2 n2 c2
  rw [hs3] at hx5 hs6
  replace X1 := bx X1 hb4
  replace HZ := wl HZ hb4
  replace HY := wl HY hb4
  replace B := bb B hb4
  have X2 := hid hx5
  clear hb4 hx5
  obtain ⟨hb7, hx8, hs9⟩ := Nbx.made ((w.alloc (.cells #[.bool s1, .slice p1 n1 c1] 47)).alloc (.cells #[.bool s2, .slice p2 n2 c2] 47)) false false (.slice none 0 0) (.slice none 0 0)
  rw [hs6] at hx8 hs9
  replace X1 := bx X1 hb7
  replace X2 := bx X2 hb7
  replace HZ := wl HZ hb7
  replace HY := wl HY hb7
  replace B := bb B hb7
  have XQ := hid hx8
  clear hb7 hx8
  clear hs9 h h' hk hy
  go_enter Try.func43, Try.ntmps43
  go_wp2_with fail
  generalize hW : ((w.alloc (.cells #[.bool s1, .slice p1 n1 c1] 47)).alloc (.cells #[.bool s2, .slice p2 n2 c2] 47)).alloc (.cells #[.bool false, .slice none 0 0, .bool false, .slice none 0 0] 49) = W10 at *
  clear hW
  refine (zgcd_whl HZ.out HY.out HK.out).mono ?_
  rintro e w11 ⟨v, rfl, hv, hb⟩
  obtain ⟨s3, p3, n3, c3, rfl⟩ := hv.opened
  replace X1 := bx X1 hb
  replace X2 := bx X2 hb
  replace XQ := nx XQ hb
  replace HZ := wl HZ hb
  replace HY := wl HY hb
  replace B := bb B hb
  have HG := hid hv
  clear hb hv
  obtain ⟨hb12, hx13, hs14⟩ := Box.made w11 s3 p3 n3 c3
  have L0 := hid XQ.out.lt
  replace X1 := bx X1 hb12
  replace X2 := bx X2 hb12
  replace XQ := nx XQ hb12
  replace HZ := wl HZ hb12
  replace HY := wl HY hb12
  replace HG := wl HG hb12
  replace B := bb B hb12
  have X3 := hid hx13
  clear hb12 hx13
  have cc15 := X1.out.both
  have cc16 := X2.out.both
  have cc17 := XQ.out.cells
  have cc18 := X3.out.both
  go_wp2_with fail
  generalize hW : w11.alloc (.cells #[.bool s3, .slice p3 n3 c3] 47) = W19 at *
  clear hW
  have HS := sgn_whl HY.out
  rw [YG] at HS
  refine (HS).mono ?_
  rintro e w20 ⟨rfl, hb⟩
  replace X1 := bx X1 hb
  replace X2 := bx X2 hb
  replace XQ := nx XQ hb
  replace X3 := bx X3 hb
  replace HZ := wl HZ hb
  replace HY := wl HY hb
  replace HG := wl HG hb
  replace B := bb B hb
  clear cc15 cc16 cc17 cc18
  clear hb 
  have cc21 := X1.out.both
  have cc22 := X2.out.both
  have cc23 := XQ.out.cells
  have cc24 := X3.out.both
  go_wp2_with fail
  refine (div_whl HZ.out HG.out (by have := HG0.out; omega) (by have := HK.out; omega) (by have := HK.out; omega)).mono ?_
  rintro e w25 ⟨v, u, rfl, hv, hu, hb⟩
  obtain ⟨s5, p5, n5, c5, rfl⟩ := hv.opened
  obtain ⟨s6, p6, n6, c6, rfl⟩ := hu.opened
  replace X1 := bx X1 hb
  replace X2 := bx X2 hb
  replace XQ := nx XQ hb
  replace X3 := bx X3 hb
  replace HZ := wl HZ hb
  replace HY := wl HY hb
  replace HG := wl HG hb
  replace B := bb B hb
  clear cc21 cc22 cc23 cc24
  have HT := hid hv
  clear hb hv hu
  have cc26 := X1.out.stores
  obtain ⟨r27a, r27b, r27c⟩ := X1.out.last B.out (by have := L0.out; omega) s5 p5 n5 c5
  replace X2 := hid (X2.out.kept (heap2 (g := w.heap.size) (by have := L0.out; omega) (.bool s5) (.slice p5 n5 c5)))
  replace XQ := hid (XQ.out.kept (heap2 (g := w.heap.size) (by have := L0.out; omega) (.bool s5) (.slice p5 n5 c5)))
  replace X3 := hid (X3.out.kept (heap2 (g := w.heap.size) (by have := L0.out; omega) (.bool s5) (.slice p5 n5 c5)))
  replace HZ := hid (r27c HZ.out)
  replace HY := hid (r27c HY.out)
  replace HG := hid (r27c HG.out)
  replace HT := hid (r27c HT.out)
  replace X1 := hid r27a
  replace B := hid r27b
  clear r27a r27b r27c
  have cc28 := X1.out.both
  have cc29 := X2.out.both
  have cc30 := XQ.out.cells
  have cc31 := X3.out.both
  go_wp2_with fail
  generalize hW : (w25.setCell ⟨w.heap.size, 0, none⟩ (.bool s5)).setCell ⟨w.heap.size, 1, none⟩ (.slice p5 n5 c5) = W32 at *
  clear hW
  refine (div_whl HY.out HG.out (by have := HG0.out; omega) (by have := HK.out; omega) (by have := HK.out; omega)).mono ?_
  rintro e w33 ⟨v, u, rfl, hv, hu, hb⟩
  obtain ⟨s7, p7, n7, c7, rfl⟩ := hv.opened
  obtain ⟨s8, p8, n8, c8, rfl⟩ := hu.opened
  replace X1 := bx X1 hb
  replace X2 := bx X2 hb
  replace XQ := nx XQ hb
  replace X3 := bx X3 hb
  replace HZ := wl HZ hb
  replace HY := wl HY hb
  replace HG := wl HG hb
  replace HT := wl HT hb
  replace B := bb B hb
  clear cc26 cc28 cc29 cc30 cc31
  have HU := hid hv
  clear hb hv hu
  have cc34 := X2.out.stores
  obtain ⟨r35a, r35b, r35c⟩ := X2.out.last B.out (by have := L0.out; omega) s7 p7 n7 c7
  replace X1 := hid (X1.out.kept (heap2 (g := w.heap.size + 1) (by have := L0.out; omega) (.bool s7) (.slice p7 n7 c7)))
  replace XQ := hid (XQ.out.kept (heap2 (g := w.heap.size + 1) (by have := L0.out; omega) (.bool s7) (.slice p7 n7 c7)))
  replace X3 := hid (X3.out.kept (heap2 (g := w.heap.size + 1) (by have := L0.out; omega) (.bool s7) (.slice p7 n7 c7)))
  replace HZ := hid (r35c HZ.out)
  replace HY := hid (r35c HY.out)
  replace HG := hid (r35c HG.out)
  replace HT := hid (r35c HT.out)
  replace HU := hid (r35c HU.out)
  replace X2 := hid r35a
  replace B := hid r35b
  clear r35a r35b r35c
  have cc36 := X1.out.both
  have cc37 := X2.out.both
  have cc38 := XQ.out.cells
  have cc39 := X3.out.both
  have cc40 := XQ.out.stores
  obtain ⟨r41a, r41b, r41c⟩ := XQ.out.last B.out (by have := L0.out; omega) s5 s7 p5 p7 n5 n7 c5 c7
  replace X1 := hid (X1.out.kept (heap4 (g := w.heap.size + 1 + 1) (by have := L0.out; omega) (.bool s5) (.slice p5 n5 c5) (.bool s7) (.slice p7 n7 c7)))
  replace X2 := hid (X2.out.kept (heap4 (g := w.heap.size + 1 + 1) (by have := L0.out; omega) (.bool s5) (.slice p5 n5 c5) (.bool s7) (.slice p7 n7 c7)))
  replace X3 := hid (X3.out.kept (heap4 (g := w.heap.size + 1 + 1) (by have := L0.out; omega) (.bool s5) (.slice p5 n5 c5) (.bool s7) (.slice p7 n7 c7)))
  replace HZ := hid (r41c HZ.out)
  replace HY := hid (r41c HY.out)
  replace HG := hid (r41c HG.out)
  replace HT := hid (r41c HT.out)
  replace HU := hid (r41c HU.out)
  replace XQ := hid r41a
  replace B := hid r41b
  clear r41a r41b r41c
  go_wp2_with fail
  refine bodyPost_ret (res_num rfl rfl XQ.out) rfl ?_
  obtain ⟨e1, e2⟩ := HD.out
  have t1 := (HT.out.fit k (Nat.lt_of_le_of_lt (natAbs_ediv_le _ _) HZ.out.lt))
  have t2 := (HU.out.fit k (Nat.lt_of_le_of_lt (natAbs_ediv_le _ _) HY.out.lt))
  rw [← e1] at t1
  rw [← e2] at t2
  exact ⟨_, rfl, ⟨_, _, _, _, _, _, _, _, rfl, t1, _, t2, .inl rfl⟩, B.out⟩

set_option maxHeartbeats 1000000 in
theorem reduced_minus {w : World} {v u : Value} {z y : Int} {k : Nat} (h : Whl w v z k) (h' : Whl w u y k) (hy : y < 0) (hk : k ≤ 549755813888) :
    Calls Try.prog 43 #[v, u] w fun e w' => ∃ v, e = .returned v ∧ Rtl w' v (Rat.divInt z y) k ∧ Below w.heap.size w w' := by
  obtain ⟨s1, p1, n1, c1, rfl⟩ := h.opened
  obtain ⟨s2, p2, n2, c2, rfl⟩ := h'.opened
  have HK := hid hk
  have H0 := hid hy
  have HD := hid (divInt_parts z y (by omega))
  have YG := Int.sign_eq_neg_one_of_neg hy
  rw [if_pos (by omega)] at HD
  have HG0 := hid (show (Int.gcd z y : Int) ≠ 0 by have := Int.gcd_pos_of_ne_zero_right z (show y ≠ 0 by omega); omega)
  have B := hid (Below.refl w.heap.size w)
  have HZ := hid h
  have HY := hid h'
  obtain ⟨hb1, hx2, hs3⟩ := Box.made w s1 p1 n1 c1
  replace HZ := wl HZ hb1
  replace HY := wl HY hb1
  replace B := bb B hb1
  have X1 := hid hx2
  clear hb1 hx2
  obtain ⟨hb4, hx5, hs6⟩ := Box.made (w.alloc (.cells #[.bool s1, .slice p1 n1 c1] 47)) s2 p2 n2 c2
  rw [hs3] at hx5 hs6
  replace X1 := bx X1 hb4
  replace HZ := wl HZ hb4
  replace HY := wl HY hb4
  replace B := bb B hb4
  have X2 := hid hx5
  clear hb4 hx5
  obtain ⟨hb7, hx8, hs9⟩ := Nbx.made ((w.alloc (.cells #[.bool s1, .slice p1 n1 c1] 47)).alloc (.cells #[.bool s2, .slice p2 n2 c2] 47)) false false (.slice none 0 0) (.slice none 0 0)
  rw [hs6] at hx8 hs9
  replace X1 := bx X1 hb7
  replace X2 := bx X2 hb7
  replace HZ := wl HZ hb7
  replace HY := wl HY hb7
  replace B := bb B hb7
  have XQ := hid hx8
  clear hb7 hx8
  clear hs9 h h' hk hy
  go_enter Try.func43, Try.ntmps43
  go_wp2_with fail
  generalize hW : ((w.alloc (.cells #[.bool s1, .slice p1 n1 c1] 47)).alloc (.cells #[.bool s2, .slice p2 n2 c2] 47)).alloc (.cells #[.bool false, .slice none 0 0, .bool false, .slice none 0 0] 49) = W10 at *
  clear hW
  refine (zgcd_whl HZ.out HY.out HK.out).mono ?_
  rintro e w11 ⟨v, rfl, hv, hb⟩
  obtain ⟨s3, p3, n3, c3, rfl⟩ := hv.opened
  replace X1 := bx X1 hb
  replace X2 := bx X2 hb
  replace XQ := nx XQ hb
  replace HZ := wl HZ hb
  replace HY := wl HY hb
  replace B := bb B hb
  have HG := hid hv
  clear hb hv
  obtain ⟨hb12, hx13, hs14⟩ := Box.made w11 s3 p3 n3 c3
  have L0 := hid XQ.out.lt
  replace X1 := bx X1 hb12
  replace X2 := bx X2 hb12
  replace XQ := nx XQ hb12
  replace HZ := wl HZ hb12
  replace HY := wl HY hb12
  replace HG := wl HG hb12
  replace B := bb B hb12
  have X3 := hid hx13
  clear hb12 hx13
  have cc15 := X1.out.both
  have cc16 := X2.out.both
  have cc17 := XQ.out.cells
  have cc18 := X3.out.both
  go_wp2_with fail
  generalize hW : w11.alloc (.cells #[.bool s3, .slice p3 n3 c3] 47) = W19 at *
  clear hW
  have HS := sgn_whl HY.out
  rw [YG] at HS
  refine (HS).mono ?_
  rintro e w20 ⟨rfl, hb⟩
  replace X1 := bx X1 hb
  replace X2 := bx X2 hb
  replace XQ := nx XQ hb
  replace X3 := bx X3 hb
  replace HZ := wl HZ hb
  replace HY := wl HY hb
  replace HG := wl HG hb
  replace B := bb B hb
  clear cc15 cc16 cc17 cc18
  clear hb 
  have cc21 := X1.out.both
  have cc22 := X2.out.both
  have cc23 := XQ.out.cells
  have cc24 := X3.out.both
  go_wp2_with fail
  refine (neg_whl HG.out).mono ?_
  rintro e w25 ⟨v, rfl, hv, hb⟩
  obtain ⟨s4, p4, n4, c4, rfl⟩ := hv.opened
  replace X1 := bx X1 hb
  replace X2 := bx X2 hb
  replace XQ := nx XQ hb
  replace X3 := bx X3 hb
  replace HZ := wl HZ hb
  replace HY := wl HY hb
  replace HG := wl HG hb
  replace B := bb B hb
  clear cc21 cc22 cc23 cc24
  have HN := hid hv
  clear hb hv
  have cc26 := X3.out.stores
  obtain ⟨r27a, r27b, r27c⟩ := X3.out.last B.out (by have := L0.out; omega) s4 p4 n4 c4
  replace X1 := hid (X1.out.kept (heap2 (g := w11.heap.size) (by have := L0.out; omega) (.bool s4) (.slice p4 n4 c4)))
  replace X2 := hid (X2.out.kept (heap2 (g := w11.heap.size) (by have := L0.out; omega) (.bool s4) (.slice p4 n4 c4)))
  replace XQ := hid (XQ.out.kept (heap2 (g := w11.heap.size) (by have := L0.out; omega) (.bool s4) (.slice p4 n4 c4)))
  replace HZ := hid (r27c HZ.out)
  replace HY := hid (r27c HY.out)
  replace HG := hid (r27c HG.out)
  replace HN := hid (r27c HN.out)
  replace X3 := hid r27a
  replace B := hid r27b
  clear r27a r27b r27c
  have cc28 := X1.out.both
  have cc29 := X2.out.both
  have cc30 := XQ.out.cells
  have cc31 := X3.out.both
  go_wp2_with fail
  generalize hW : (w25.setCell ⟨w11.heap.size, 0, none⟩ (.bool s4)).setCell ⟨w11.heap.size, 1, none⟩ (.slice p4 n4 c4) = W32 at *
  clear hW
  refine (div_whl HZ.out HN.out (by have := HG0.out; omega) (by have := HK.out; omega) (by have := HK.out; omega)).mono ?_
  rintro e w33 ⟨v, u, rfl, hv, hu, hb⟩
  obtain ⟨s5, p5, n5, c5, rfl⟩ := hv.opened
  obtain ⟨s6, p6, n6, c6, rfl⟩ := hu.opened
  replace X1 := bx X1 hb
  replace X2 := bx X2 hb
  replace XQ := nx XQ hb
  replace X3 := bx X3 hb
  replace HZ := wl HZ hb
  replace HY := wl HY hb
  replace HG := wl HG hb
  replace HN := wl HN hb
  replace B := bb B hb
  clear cc26 cc28 cc29 cc30 cc31
  have HT := hid hv
  clear hb hv hu
  have cc34 := X1.out.stores
  obtain ⟨r35a, r35b, r35c⟩ := X1.out.last B.out (by have := L0.out; omega) s5 p5 n5 c5
  replace X2 := hid (X2.out.kept (heap2 (g := w.heap.size) (by have := L0.out; omega) (.bool s5) (.slice p5 n5 c5)))
  replace XQ := hid (XQ.out.kept (heap2 (g := w.heap.size) (by have := L0.out; omega) (.bool s5) (.slice p5 n5 c5)))
  replace X3 := hid (X3.out.kept (heap2 (g := w.heap.size) (by have := L0.out; omega) (.bool s5) (.slice p5 n5 c5)))
  replace HZ := hid (r35c HZ.out)
  replace HY := hid (r35c HY.out)
  replace HG := hid (r35c HG.out)
  replace HN := hid (r35c HN.out)
  replace HT := hid (r35c HT.out)
  replace X1 := hid r35a
  replace B := hid r35b
  clear r35a r35b r35c
  have cc36 := X1.out.both
  have cc37 := X2.out.both
  have cc38 := XQ.out.cells
  have cc39 := X3.out.both
  go_wp2_with fail
  generalize hW : (w33.setCell ⟨w.heap.size, 0, none⟩ (.bool s5)).setCell ⟨w.heap.size, 1, none⟩ (.slice p5 n5 c5) = W40 at *
  clear hW
  refine (div_whl HY.out HN.out (by have := HG0.out; omega) (by have := HK.out; omega) (by have := HK.out; omega)).mono ?_
  rintro e w41 ⟨v, u, rfl, hv, hu, hb⟩
  obtain ⟨s7, p7, n7, c7, rfl⟩ := hv.opened
  obtain ⟨s8, p8, n8, c8, rfl⟩ := hu.opened
  replace X1 := bx X1 hb
  replace X2 := bx X2 hb
  replace XQ := nx XQ hb
  replace X3 := bx X3 hb
  replace HZ := wl HZ hb
  replace HY := wl HY hb
  replace HG := wl HG hb
  replace HN := wl HN hb
  replace HT := wl HT hb
  replace B := bb B hb
  clear cc34 cc36 cc37 cc38 cc39
  have HU := hid hv
  clear hb hv hu
  have cc42 := X2.out.stores
  obtain ⟨r43a, r43b, r43c⟩ := X2.out.last B.out (by have := L0.out; omega) s7 p7 n7 c7
  replace X1 := hid (X1.out.kept (heap2 (g := w.heap.size + 1) (by have := L0.out; omega) (.bool s7) (.slice p7 n7 c7)))
  replace XQ := hid (XQ.out.kept (heap2 (g := w.heap.size + 1) (by have := L0.out; omega) (.bool s7) (.slice p7 n7 c7)))
  replace X3 := hid (X3.out.kept (heap2 (g := w.heap.size + 1) (by have := L0.out; omega) (.bool s7) (.slice p7 n7 c7)))
  replace HZ := hid (r43c HZ.out)
  replace HY := hid (r43c HY.out)
  replace HG := hid (r43c HG.out)
  replace HN := hid (r43c HN.out)
  replace HT := hid (r43c HT.out)
  replace HU := hid (r43c HU.out)
  replace X2 := hid r43a
  replace B := hid r43b
  clear r43a r43b r43c
  have cc44 := X1.out.both
  have cc45 := X2.out.both
  have cc46 := XQ.out.cells
  have cc47 := X3.out.both
  have cc48 := XQ.out.stores
  obtain ⟨r49a, r49b, r49c⟩ := XQ.out.last B.out (by have := L0.out; omega) s5 s7 p5 p7 n5 n7 c5 c7
  replace X1 := hid (X1.out.kept (heap4 (g := w.heap.size + 1 + 1) (by have := L0.out; omega) (.bool s5) (.slice p5 n5 c5) (.bool s7) (.slice p7 n7 c7)))
  replace X2 := hid (X2.out.kept (heap4 (g := w.heap.size + 1 + 1) (by have := L0.out; omega) (.bool s5) (.slice p5 n5 c5) (.bool s7) (.slice p7 n7 c7)))
  replace X3 := hid (X3.out.kept (heap4 (g := w.heap.size + 1 + 1) (by have := L0.out; omega) (.bool s5) (.slice p5 n5 c5) (.bool s7) (.slice p7 n7 c7)))
  replace HZ := hid (r49c HZ.out)
  replace HY := hid (r49c HY.out)
  replace HG := hid (r49c HG.out)
  replace HN := hid (r49c HN.out)
  replace HT := hid (r49c HT.out)
  replace HU := hid (r49c HU.out)
  replace XQ := hid r49a
  replace B := hid r49b
  clear r49a r49b r49c
  go_wp2_with fail
  refine bodyPost_ret (res_num rfl rfl XQ.out) rfl ?_
  obtain ⟨e1, e2⟩ := HD.out
  have t1 := (HT.out.fit k (Nat.lt_of_le_of_lt (natAbs_ediv_le _ _) HZ.out.lt))
  have t2 := (HU.out.fit k (Nat.lt_of_le_of_lt (natAbs_ediv_le _ _) HY.out.lt))
  rw [← e1] at t1
  rw [← e2] at t2
  exact ⟨_, rfl, ⟨_, _, _, _, _, _, _, _, rfl, t1, _, t2, .inl rfl⟩, B.out⟩

theorem reduced_rtl {w : World} {v u : Value} {z y : Int} {k : Nat} (h : Whl w v z k) (h' : Whl w u y k) (hy : y ≠ 0) (hk : k ≤ 549755813888) :
    Calls Try.prog 43 #[v, u] w fun e w' => ∃ v, e = .returned v ∧ Rtl w' v (Rat.divInt z y) k ∧ Below w.heap.size w w' := by
  by_cases h0 : y < 0
  · exact reduced_minus h h' h0 hk
  · exact reduced_plus h h' (by omega) hk

end Go.Proofs.Ytokojbgpboccnaa

/-
  PACKAGE rat: parts, moreThanOne.
-/
namespace Go.Proofs.Ytokojbgpboccnaa
open Go.RowKit
open Num
set_option linter.unusedVariables false
set_option maxRecDepth 100000
set_option linter.unusedSimpArgs false

theorem res_ii {fn : Func} {t t' : Tmp} {tmps : Array Value} {w : World} {g g' : Nat} {s s' : Bool} {sv sv' : Value} (hf : fn.results = #[.cell t 47, .cell t' 47]) (ht : tmps.getD t undef = .pointer (some ⟨g, 0, none⟩)) (ht' : tmps.getD t' undef = .pointer (some ⟨g', 0, none⟩)) (h2 : Box w g s sv) (h2' : Box w g' s' sv') :
    (results fn tmps).run Try.prog w = .ok (.tuple #[.agg #[.bool s, sv], .agg #[.bool s', sv']]) w := by
  have h1 := at_addr (P := Try.prog) (w := w) ht
  have h1' := at_addr (P := Try.prog) (w := w) ht'
  have h3 := load_whl h2
  have h3' := load_whl h2'
  simp only [Array.getD_eq_getD_getElem?] at h1 h1'
  simp [results, hf, Sem.run_bind, h1, h3, h1', h3']

/-- A value of four cells reads as a fraction: its two parts. -/
theorem Rtl.two {w : World} {q : Rat} {k : Nat} {s p n c s' p' n' c'} (h : Rtl w (.agg #[.bool s, .slice p n c, .bool s', .slice p' n' c']) q k) : Whl w (.agg #[.bool s, .slice p n c]) q.num k ∧ ∃ d : Int, Whl w (.agg #[.bool s', .slice p' n' c']) d k ∧ (d = q.den ∨ (d = 0 ∧ q.den = 1)) := by
  obtain ⟨s1, p1, n1, c1, s2, p2, n2, c2, h1, h2⟩ := h
  simp only [Value.agg.injEq, Array.mk.injEq, List.cons.injEq, Value.bool.injEq, Value.slice.injEq, and_true] at h1
  obtain ⟨rfl, ⟨rfl, rfl, rfl⟩, rfl, rfl, rfl, rfl⟩ := h1
  exact h2
theorem Rtl.mk2 {w : World} {q : Rat} {k : Nat} {s p n c s' p' n' c'} {d : Int} (h1 : Whl w (.agg #[.bool s, .slice p n c]) q.num k) (h2 : Whl w (.agg #[.bool s', .slice p' n' c']) d k) (h3 : d = q.den ∨ (d = 0 ∧ q.den = 1)) : Rtl w (.agg #[.bool s, .slice p n c, .bool s', .slice p' n' c']) q k :=
  ⟨_, _, _, _, _, _, _, _, rfl, h1, d, h2, h3⟩

theorem list_dg_ext {xs ys : List Nat} (hl : xs.length = ys.length) (h : ∀ i, i < xs.length → dg xs i = dg ys i) : xs = ys := by
  apply List.ext_getElem hl
  intro i h1 h2
  have := h i h1
  rw [dg_lt h1, dg_lt h2] at this
  exact this
theorem Lim.inj {w : World} {v : Value} {xs ys : List Nat} (h : Lim w v xs) (h' : Lim w v ys) : xs = ys := by
  obtain ⟨h1, p, c, h2, h3, h4, h5⟩ := h
  obtain ⟨h1', p', c', h2', h3', h4', h5'⟩ := h'
  rw [h2] at h2'
  obtain ⟨rfl, hl, rfl⟩ := Value.slice.inj h2'
  refine list_dg_ext hl fun i hi => ?_
  rcases h5 with ⟨_, h5⟩ | ⟨b, off, h6, h7, h8⟩
  · omega
  · rcases h5' with ⟨_, h5'⟩ | ⟨b', off', h6', h7', h8'⟩
    · omega
    · rw [h6] at h6'
      simp only [Option.some.injEq, Addr.mk.injEq, and_true] at h6'
      obtain ⟨rfl, rfl⟩ := h6'
      have e1 := h8 i hi
      have e2 := h8' i (by omega)
      rw [e1] at e2
      simp only [Option.some.injEq, Value.int.injEq, true_and] at e2
      omega

set_option maxHeartbeats 1000000 in
theorem parts_zero {w : World} {v : Value} {q : Rat} {k : Nat} (h : Rtl w v q k) (hz : ∀ d : Int, ∀ {s p n c s' p' n' c'}, Whl w (.agg #[.bool s', .slice p' n' c']) d k → v = .agg #[.bool s, .slice p n c, .bool s', .slice p' n' c'] → d = 0) (hk : 1 ≤ k) :
    Calls Try.prog 42 #[v] w fun e w' => ∃ v u, e = .returned (.tuple #[v, u]) ∧ Whl w' v q.num k ∧ Whl w' u q.den k ∧ Below w.heap.size w w' := by
  obtain ⟨s1a, p1a, n1a, c1a, s1b, p1b, n1b, c1b, rfl⟩ := h.opened
  obtain ⟨h1, d, h2, h3⟩ := h.two
  have hd : d = 0 := hz d h2 rfl
  subst hd
  have hq : q.den = 1 := by rcases h3 with h3 | h3; exact absurd h3 (by have := q.den_pos; omega); exact h3.2
  have YG : (0 : Int).sign = 0 := rfl
  have HQ := hid hq
  have HK := hid hk
  have B := hid (Below.refl w.heap.size w)
  have HT := hid h1
  have HU := hid h2
  obtain ⟨hb1, hx2, hs3⟩ := Nbx.made w s1a s1b (.slice p1a n1a c1a) (.slice p1b n1b c1b)
  replace HT := wl HT hb1
  replace HU := wl HU hb1
  replace B := bb B hb1
  have XQ := hid hx2
  clear hb1 hx2
  obtain ⟨hb4, hx5, hs6⟩ := Box.made (w.alloc (.cells #[.bool s1a, .slice p1a n1a c1a, .bool s1b, .slice p1b n1b c1b] 49)) false none 0 0
  rw [hs3] at hx5 hs6
  replace XQ := nx XQ hb4
  replace HT := wl HT hb4
  replace HU := wl HU hb4
  replace B := bb B hb4
  have R1 := hid hx5
  clear hb4 hx5
  obtain ⟨hb7, hx8, hs9⟩ := Box.made ((w.alloc (.cells #[.bool s1a, .slice p1a n1a c1a, .bool s1b, .slice p1b n1b c1b] 49)).alloc (.cells #[.bool false, .slice none 0 0] 47)) false none 0 0
  rw [hs6] at hx8 hs9
  replace XQ := nx XQ hb7
  replace R1 := bx R1 hb7
  replace HT := wl HT hb7
  replace HU := wl HU hb7
  replace B := bb B hb7
  have R2 := hid hx8
  clear hb7 hx8
  clear hs9 h h1 h2 h3 hz hq hk
  go_enter Try.func42, Try.ntmps42
  have cc10 := XQ.out.cells
  have cc11 := R1.out.both
  have cc12 := R2.out.both
  go_wp2_with fail
  generalize hW : ((w.alloc (.cells #[.bool s1a, .slice p1a n1a c1a, .bool s1b, .slice p1b n1b c1b] 49)).alloc (.cells #[.bool false, .slice none 0 0] 47)).alloc (.cells #[.bool false, .slice none 0 0] 47) = W13 at *
  clear hW
  have HS := sgn_whl HU.out
  rw [YG] at HS
  refine (HS).mono ?_
  rintro e w14 ⟨rfl, hb⟩
  replace XQ := nx XQ hb
  replace R1 := bx R1 hb
  replace R2 := bx R2 hb
  replace HT := wl HT hb
  replace HU := wl HU hb
  replace B := bb B hb
  clear cc10 cc11 cc12
  clear hb 
  clear HS YG
  have cc15 := XQ.out.cells
  have cc16 := R1.out.both
  have cc17 := R2.out.both
  go_wp2_with fail
  have cc18 := XQ.out.cells
  replace XQ := hid XQ.out.dr
  replace R1 := hid R1.out.dr
  replace R2 := hid R2.out.dr
  replace HT := hid HT.out.drew
  replace HU := hid HU.out.drew
  replace B := hid (Below.drew B.out)
  have cc19 := XQ.out.cells
  go_region_held3 (fun w' => w'.cell? ⟨w.heap.size, 0, none⟩ = some (.bool s1a) ∧ w'.cell? ⟨w.heap.size, 1, none⟩ = some (.slice p1a n1a c1a) ∧ w'.cell? ⟨w.heap.size, 2, none⟩ = some (.bool s1b) ∧ w'.cell? ⟨w.heap.size, 3, none⟩ = some (.slice p1b n1b c1b)) (go_keep) (first
    | (go_at_call 39; refine (of_small 1 (by decide) _).mono ?_; rintro e w21 ⟨v, rfl, hv, hb⟩; obtain ⟨s4, p4, n4, c4, rfl⟩ := hv.opened; replace XQ := nx XQ hb; replace R1 := bx R1 hb; replace R2 := bx R2 hb; replace HT := wl HT hb; replace HU := wl HU hb; replace B := bb B hb; clear cc15 cc16 cc17 cc18 cc19; have HO := hid hv; clear hb hv; have cc22 := XQ.out.cells; have cc23 := R1.out.stores; obtain ⟨r24a, r24b, r24c⟩ := R1.out.last B.out (by omega) s1a p1a n1a c1a; replace XQ := hid (XQ.out.kept (heap2 (g := w.heap.size + 1) (by omega) (.bool s1a) (.slice p1a n1a c1a))); replace R2 := hid (R2.out.kept (heap2 (g := w.heap.size + 1) (by omega) (.bool s1a) (.slice p1a n1a c1a))); replace HT := hid (r24c HT.out); replace HU := hid (r24c HU.out); replace HO := hid (r24c HO.out); replace R1 := hid r24a; replace B := hid r24b; clear r24a r24b r24c; have cc25 := XQ.out.cells; have cc26 := R2.out.stores; obtain ⟨r27a, r27b, r27c⟩ := R2.out.last B.out (by omega) s4 p4 n4 c4; replace XQ := hid (XQ.out.kept (heap2 (g := w.heap.size + 1 + 1) (by omega) (.bool s4) (.slice p4 n4 c4))); replace R1 := hid (R1.out.kept (heap2 (g := w.heap.size + 1 + 1) (by omega) (.bool s4) (.slice p4 n4 c4))); replace HT := hid (r27c HT.out); replace HU := hid (r27c HU.out); replace HO := hid (r27c HO.out); replace R2 := hid r27a; replace B := hid r27b; clear r27a r27b r27c; have cc28 := XQ.out.cells; have mk20_0 := hid True.intro))
  go_wp2_with fail
  refine bodyPost_ret (res_ii rfl rfl rfl R1.out R2.out) rfl ?_
  exact ⟨_, _, rfl, HT.out, (show Whl _ _ (q.den : Int) _ by rw [HQ.out]; exact HO.out.mono HK.out), B.out⟩

set_option maxHeartbeats 1000000 in
theorem parts_some {w : World} {v : Value} {q : Rat} {k : Nat} (h : Rtl w v q k) (hz : ∀ d : Int, ∀ {s p n c s' p' n' c'}, Whl w (.agg #[.bool s', .slice p' n' c']) d k → v = .agg #[.bool s, .slice p n c, .bool s', .slice p' n' c'] → 0 < d) (hk : 1 ≤ k) :
    Calls Try.prog 42 #[v] w fun e w' => ∃ v u, e = .returned (.tuple #[v, u]) ∧ Whl w' v q.num k ∧ Whl w' u q.den k ∧ Below w.heap.size w w' := by
  obtain ⟨s1a, p1a, n1a, c1a, s1b, p1b, n1b, c1b, rfl⟩ := h.opened
  obtain ⟨h1, d, h2, h3⟩ := h.two
  have hd : 0 < d := hz d h2 rfl
  have hq : d = q.den := by rcases h3 with h3 | h3; exact h3; omega
  have YG := Int.sign_eq_one_of_pos hd
  have HQ := hid hq
  have HK := hid hk
  have B := hid (Below.refl w.heap.size w)
  have HT := hid h1
  have HU := hid h2
  obtain ⟨hb1, hx2, hs3⟩ := Nbx.made w s1a s1b (.slice p1a n1a c1a) (.slice p1b n1b c1b)
  replace HT := wl HT hb1
  replace HU := wl HU hb1
  replace B := bb B hb1
  have XQ := hid hx2
  clear hb1 hx2
  obtain ⟨hb4, hx5, hs6⟩ := Box.made (w.alloc (.cells #[.bool s1a, .slice p1a n1a c1a, .bool s1b, .slice p1b n1b c1b] 49)) false none 0 0
  rw [hs3] at hx5 hs6
  replace XQ := nx XQ hb4
  replace HT := wl HT hb4
  replace HU := wl HU hb4
  replace B := bb B hb4
  have R1 := hid hx5
  clear hb4 hx5
  obtain ⟨hb7, hx8, hs9⟩ := Box.made ((w.alloc (.cells #[.bool s1a, .slice p1a n1a c1a, .bool s1b, .slice p1b n1b c1b] 49)).alloc (.cells #[.bool false, .slice none 0 0] 47)) false none 0 0
  rw [hs6] at hx8 hs9
  replace XQ := nx XQ hb7
  replace R1 := bx R1 hb7
  replace HT := wl HT hb7
  replace HU := wl HU hb7
  replace B := bb B hb7
  have R2 := hid hx8
  clear hb7 hx8
  clear hs9 h h1 h2 h3 hz hq hk hd
  go_enter Try.func42, Try.ntmps42
  have cc10 := XQ.out.cells
  have cc11 := R1.out.both
  have cc12 := R2.out.both
  go_wp2_with fail
  generalize hW : ((w.alloc (.cells #[.bool s1a, .slice p1a n1a c1a, .bool s1b, .slice p1b n1b c1b] 49)).alloc (.cells #[.bool false, .slice none 0 0] 47)).alloc (.cells #[.bool false, .slice none 0 0] 47) = W13 at *
  clear hW
  have HS := sgn_whl HU.out
  rw [YG] at HS
  refine (HS).mono ?_
  rintro e w14 ⟨rfl, hb⟩
  replace XQ := nx XQ hb
  replace R1 := bx R1 hb
  replace R2 := bx R2 hb
  replace HT := wl HT hb
  replace HU := wl HU hb
  replace B := bb B hb
  clear cc10 cc11 cc12
  clear hb 
  clear HS YG
  have cc15 := XQ.out.cells
  have cc16 := R1.out.both
  have cc17 := R2.out.both
  go_wp2_with fail
  have cc18 := XQ.out.cells
  have cc19 := R1.out.stores
  obtain ⟨r20a, r20b, r20c⟩ := R1.out.last B.out (by omega) s1a p1a n1a c1a
  replace XQ := hid (XQ.out.kept (heap2 (g := w.heap.size + 1) (by omega) (.bool s1a) (.slice p1a n1a c1a)))
  replace R2 := hid (R2.out.kept (heap2 (g := w.heap.size + 1) (by omega) (.bool s1a) (.slice p1a n1a c1a)))
  replace HT := hid (r20c HT.out)
  replace HU := hid (r20c HU.out)
  replace R1 := hid r20a
  replace B := hid r20b
  clear r20a r20b r20c
  have cc21 := XQ.out.cells
  have cc22 := R2.out.stores
  obtain ⟨r23a, r23b, r23c⟩ := R2.out.last B.out (by omega) s1b p1b n1b c1b
  replace XQ := hid (XQ.out.kept (heap2 (g := w.heap.size + 1 + 1) (by omega) (.bool s1b) (.slice p1b n1b c1b)))
  replace R1 := hid (R1.out.kept (heap2 (g := w.heap.size + 1 + 1) (by omega) (.bool s1b) (.slice p1b n1b c1b)))
  replace HT := hid (r23c HT.out)
  replace HU := hid (r23c HU.out)
  replace R2 := hid r23a
  replace B := hid r23b
  clear r23a r23b r23c
  have cc24 := XQ.out.cells
  go_region_held3 (fun w' => w'.cell? ⟨w.heap.size, 0, none⟩ = some (.bool s1a) ∧ w'.cell? ⟨w.heap.size, 1, none⟩ = some (.slice p1a n1a c1a) ∧ w'.cell? ⟨w.heap.size, 2, none⟩ = some (.bool s1b) ∧ w'.cell? ⟨w.heap.size, 3, none⟩ = some (.slice p1b n1b c1b)) (go_keep) (first | fail)
  replace XQ := hid XQ.out.dr
  replace R1 := hid R1.out.dr
  replace R2 := hid R2.out.dr
  replace HT := hid HT.out.drew
  replace HU := hid HU.out.drew
  replace B := hid (Below.drew B.out)
  go_wp2_with fail
  refine bodyPost_ret (res_ii rfl rfl rfl R1.out R2.out) rfl ?_
  exact ⟨_, _, rfl, HT.out, (show Whl _ _ (q.den : Int) _ by rw [← HQ.out]; exact HU.out), B.out⟩

theorem Whl.inj {w : World} {v : Value} {z y : Int} {k l : Nat} (h : Whl w v z k) (h' : Whl w v y l) : z = y := by
  obtain ⟨s, sv, xs, h1, h2, h3, h4, h5, h6⟩ := h
  obtain ⟨s', sv', xs', h1', h2', h3', h4', h5', h6'⟩ := h'
  rw [h1] at h1'
  simp only [Value.agg.injEq, Array.mk.injEq, List.cons.injEq, Value.bool.injEq, and_true] at h1'
  obtain ⟨rfl, rfl⟩ := h1'
  have hx : xs = xs' := h2.inj h2'
  rw [← h6, ← h6', hx]
theorem parts_rtl {w : World} {v : Value} {q : Rat} {k : Nat} (h : Rtl w v q k) (hk : 1 ≤ k) :
    Calls Try.prog 42 #[v] w fun e w' => ∃ v u, e = .returned (.tuple #[v, u]) ∧ Whl w' v q.num k ∧ Whl w' u q.den k ∧ Below w.heap.size w w' := by
  obtain ⟨s1, p1, n1, c1, s2, p2, n2, c2, rfl⟩ := id h.opened
  obtain ⟨h1, d, h2, h3⟩ := h.two
  by_cases h0 : d = 0
  · refine parts_zero h (fun d' {s p n c s' p' n' c'} hw he => ?_) hk
    simp only [Value.agg.injEq, Array.mk.injEq, List.cons.injEq, Value.bool.injEq, Value.slice.injEq, and_true] at he
    obtain ⟨rfl, ⟨rfl, rfl, rfl⟩, rfl, rfl, rfl, rfl⟩ := he
    rw [hw.inj h2]; exact h0
  · refine parts_some h (fun d' {s p n c s' p' n' c'} hw he => ?_) hk
    simp only [Value.agg.injEq, Array.mk.injEq, List.cons.injEq, Value.bool.injEq, Value.slice.injEq, and_true] at he
    obtain ⟨rfl, ⟨rfl, rfl, rfl⟩, rfl, rfl, rfl, rfl⟩ := he
    rw [hw.inj h2]
    rcases h3 with h3 | h3
    · have := q.den_pos; omega
    · exact absurd h3.1 h0

set_option maxHeartbeats 1000000 in
theorem more_whl {w : World} {v : Value} {z : Int} {k : Nat} (h : Whl w v z k) (hk : k ≤ 549755813888) :
    Calls Try.prog 30 #[v] w fun e w' => e = .returned (.bool (decide (1 < z))) ∧ Below w.heap.size w w' := by
  obtain ⟨s1, p1, n1, c1, rfl⟩ := h.opened
  have HK := hid hk
  have B := hid (Below.refl w.heap.size w)
  have HZ := hid h
  obtain ⟨hb1, hx2, hs3⟩ := Box.made w s1 p1 n1 c1
  replace HZ := wl HZ hb1
  replace B := bb B hb1
  have X1 := hid hx2
  clear hb1 hx2
  clear hs3 h hk
  go_enter Try.func30, Try.ntmps30
  go_wp2_with fail
  have cc4 := X1.out.both
  replace X1 := hid X1.out.dr
  replace HZ := hid HZ.out.drew
  replace B := hid (Below.drew B.out)
  have cc5 := X1.out.both
  go_region_held3 (fun w' => w'.cell? ⟨w.heap.size, 0, none⟩ = some (.bool s1) ∧ w'.cell? ⟨w.heap.size, 1, none⟩ = some (.slice p1 n1 c1)) (go_keep) (first
    | (have hm := mk6_0; clear hm; go_at_call 46; refine (zless_whl HO.out HZ.out (by omega) HK.out).mono ?_; rintro e w9 ⟨rfl, hb⟩; replace X1 := bx X1 hb; replace B := bb B hb; clear cc8; clear hb ; have cc10 := X1.out.both; have mk6_1 := hid True.intro)
    | (go_at_call 39; refine (of_small 1 (by decide) _).mono ?_; rintro e w7 ⟨v, rfl, hv, hb⟩; obtain ⟨s2, p2, n2, c2, rfl⟩ := hv.opened; replace X1 := bx X1 hb; replace HZ := wl HZ hb; replace B := bb B hb; clear cc4 cc5; have HO := hid hv; clear hb hv; have cc8 := X1.out.both; have mk6_0 := hid True.intro))
  go_wp2_with fail
  go_ret
  exact ⟨rfl, B.out⟩

end Go.Proofs.Ytokojbgpboccnaa

/-
  PACKAGE whole: Read.
-/
namespace Go.Proofs.Ytokojbgpboccnaa
open Go.RowKit
open Num
set_option linter.unusedVariables false
set_option maxRecDepth 100000
set_option linter.unusedSimpArgs false

/-- An integer that may be handed in. -/
def GoodZ (s : ByteArray) : Prop := s.size ≤ 100 ∧ isWhl s.data.toList = true
/-- What is wrong with a text. -/
def BadZ (s : ByteArray) (k : Int) : Prop := (100 < s.size ∧ k = 4) ∨ (s.size ≤ 100 ∧ isWhl s.data.toList = false ∧ k = 1)
/-- The integer of a text. -/
def znum (s : ByteArray) : Int := whlOf s.data.toList

/-- The error of two texts. -/
def WrongZ (a b : ByteArray) (k : Int) : Prop := BadZ a k ∨ (GoodZ a ∧ BadZ b k)
end Go.Proofs.Ytokojbgpboccnaa

/-
  PACKAGE whole: Check.
-/
namespace Go.Proofs.Ytokojbgpboccnaa
open Go.RowKit
open Num
set_option linter.unusedVariables false
set_option maxRecDepth 100000
set_option linter.unusedSimpArgs false

end Go.Proofs.Ytokojbgpboccnaa

/-
  A Number's box that a region makes.
-/
namespace Go.Proofs.Ytokojbgpboccnaa
open Go.RowKit
open Num
set_option linter.unusedVariables false
set_option maxRecDepth 100000
set_option linter.unusedSimpArgs false


theorem below_next {a c d : World} (h : Below a.heap.size a c) (hb : Below c.heap.size c d) : Below a.heap.size a d := h.trans (hb.mono h.size)
/-- A Number's box that the region has made. -/
def NewN (w0 w : World) (u : Value) (b : Bool) (v : Value) : Prop := ∃ g, u = .pointer (some ⟨g, 0, none⟩) ∧ w0.heap.size ≤ g ∧ (b = false → Nbx w g false (.slice none 0 0) false (.slice none 0 0)) ∧ (b = true → ∃ s p n c s' p' n' c', v = .agg #[.bool s, .slice p n c, .bool s', .slice p' n' c'] ∧ Nbx w g s (.slice p n c) s' (.slice p' n' c'))
theorem NewN.free {w0 w : World} {u v v' : Value} {b : Bool} (h : NewN w0 w u b v) (hb : b = false) : NewN w0 w u b v' := by
  obtain ⟨g, h1, h2, h3, h4⟩ := h
  exact ⟨g, h1, h2, h3, fun e => absurd (hb.symm.trans e) (by decide)⟩
theorem NewN.on {w0 w w' : World} {u v : Value} {b : Bool} (h : NewN w0 w u b v) (hb : Below w.heap.size w w') : NewN w0 w' u b v := by
  obtain ⟨g, h1, h2, h3, h4⟩ := h
  refine ⟨g, h1, h2, fun e => (h3 e).below hb (h3 e).lt, fun e => ?_⟩
  obtain ⟨s, p, n, c, s', p', n', c', e1, e2⟩ := h4 e
  exact ⟨s, p, n, c, s', p', n', c', e1, e2.below hb e2.lt⟩

theorem NewN.lt {w0 w : World} {u v : Value} {b : Bool} (h : NewN w0 w u b v) : ∃ g, u = .pointer (some ⟨g, 0, none⟩) ∧ g < w.heap.size := by
  obtain ⟨g, h1, h2, h3, h4⟩ := h
  refine ⟨g, h1, ?_⟩
  cases b with
  | false => exact (h3 rfl).lt
  | true => obtain ⟨_, _, _, _, _, _, _, _, _, h⟩ := h4 rfl; exact h.lt
theorem NewN.set {w0 w : World} {u v : Value} {b : Bool} {g : Nat} (h : NewN w0 w u b v) (hne : u ≠ .pointer (some ⟨g, 0, none⟩)) (a1 a2 a3 a4 : Value) : NewN w0 ((((w.setCell ⟨g, 0, none⟩ a1).setCell ⟨g, 1, none⟩ a2).setCell ⟨g, 2, none⟩ a3).setCell ⟨g, 3, none⟩ a4) u b v := by
  obtain ⟨g', rfl, h2, h3, h4⟩ := h
  have hg : g' ≠ g := fun e => hne (by rw [e])
  refine ⟨g', rfl, h2, fun e => ((((h3 e).other hg _ _).other hg _ _).other hg _ _).other hg _ _, fun e => ?_⟩
  obtain ⟨s, p, n, c, s', p', n', c', e1, e2⟩ := h4 e
  exact ⟨s, p, n, c, s', p', n', c', e1, (((e2.other hg _ _).other hg _ _).other hg _ _).other hg _ _⟩
theorem Rtl.moved {w w' : World} {v : Value} {q : Rat} {k : Nat} (h : Rtl w v q k) (hm : ∀ v z k, Whl w v z k → Whl w' v z k) : Rtl w' v q k := by
  obtain ⟨s, p, n, c, s', p', n', c', h1, h2, d, h3, h4⟩ := h
  exact ⟨s, p, n, c, s', p', n', c', h1, hm _ _ _ h2, d, hm _ _ _ h3, h4⟩

end Go.Proofs.Ytokojbgpboccnaa

/-
  ROWS OF LISTS: each list's texts overwritten; compared, list by list.
-/
namespace Go.Proofs.Ytokojbgpboccnaa
open Go.RowKit
open Num
set_option linter.unusedVariables false
set_option maxRecDepth 100000
set_option linter.unusedSimpArgs false

theorem ownT_form {w : World} {K : Nat} {v : Value} {ss : List ByteArray} (h : OwnT w K v ss) : ∃ a c, v = .slice a ss.length c ∧ ss.length ≤ c ∧ c ≤ maxLen := by
  obtain ⟨p, c, e, h1, h2, _⟩ := h.txs
  exact ⟨p, c, e, h1, h2⟩
/-! ### All blocks but those of a range -/
def SpR (lo hi : Nat) (w w' : World) : Prop := w'.os = w.os ∧ w'.tape = w.tape ∧ w'.output = w.output ∧ w.heap.size ≤ w'.heap.size ∧ ∀ k, k < w.heap.size → (k < lo ∨ hi ≤ k) → w'.heap[k]? = w.heap[k]?
theorem SpR.refl (lo hi : Nat) (w : World) : SpR lo hi w w := ⟨rfl, rfl, rfl, Nat.le_refl _, fun _ _ _ => rfl⟩
theorem SpR.trans {lo hi : Nat} {a b c : World} (h : SpR lo hi a b) (h' : SpR lo hi b c) : SpR lo hi a c :=
  ⟨h'.1.trans h.1, h'.2.1.trans h.2.1, h'.2.2.1.trans h.2.2.1, Nat.le_trans h.2.2.2.1 h'.2.2.2.1, fun k hk hr => (h'.2.2.2.2 k (Nat.lt_of_lt_of_le hk h.2.2.2.1) hr).trans (h.2.2.2.2 k hk hr)⟩
theorem SpR.of_grown {lo hi : Nat} {w w' : World} {row : Option Nat} (h : w.grownBy w' row) (hr : ∀ g, row = some g → lo ≤ g ∧ g < hi) : SpR lo hi w w' :=
  ⟨h.os, h.tape, h.output, h.size, fun k hk hkr => h.block k hk (fun e => by have := hr k e.symm; omega)⟩
theorem SpR.below {lo hi K : Nat} {w0 w w' : World} (h : SpR lo hi w w') (hb : Below K w0 w) (hK : K ≤ lo) (hs : K ≤ w.heap.size) : Below K w0 w' :=
  ⟨h.1.trans hb.os, h.2.1.trans hb.tape, h.2.2.1.trans hb.output, Nat.le_trans hb.size h.2.2.2.1, fun k hk => (h.2.2.2.2 k (by omega) (.inl (by omega))).trans (hb.block k hk)⟩
theorem SpR.drewN {lo hi : Nat} {w w' : World} (h : SpR lo hi w w') (j : Nat) : SpR lo hi w (w'.drewN j) := h.trans (by
  have hb := below_drewN (Below.refl w'.heap.size w') j
  exact ⟨hb.os, hb.tape, hb.output, hb.size, fun k hk _ => hb.block k hk⟩)
theorem Txs.spr {lo hi : Nat} {w w' : World} {v : Value} {ss : List ByteArray} (h : Txs w v ss) (hs : SpR lo hi w w') (hr : ∀ g, v.ownBlock = some g → g < lo ∨ hi ≤ g) : Txs w' v ss := by
  obtain ⟨p, c, h1, h2, h3, h4⟩ := h
  refine ⟨p, c, h1, h2, h3, ?_⟩
  rcases h4 with h4 | ⟨b, off, h5, h6, h7⟩
  · exact .inl h4
  · refine .inr ⟨b, off, h5, Nat.lt_of_lt_of_le h6 hs.2.2.2.1, fun i hi => ?_⟩
    rw [← h7 i hi]
    exact World.cell?_of_block (hs.2.2.2.2 b h6 (hr b (by rw [h1, h5]; rfl)))
end Go.Proofs.Ytokojbgpboccnaa

/-
  ROWS OF LISTS: of the call's own; one appended to another one; copied, list by list.
-/
namespace Go.Proofs.Ytokojbgpboccnaa
open Go.RowKit
open Num
set_option linter.unusedVariables false
set_option maxRecDepth 100000
set_option linter.unusedSimpArgs false
theorem ownsRow_spr {w w' : World} {K s n lo hi : Nat} {T : TypeId} {v : Value} {xs : List Value} (h : w.ownsRow K T s v n xs) (hs : SpR lo hi w w') (hr : ∀ g, v.ownBlock = some g → g < lo ∨ hi ≤ g) : w'.ownsRow K T s v n xs := by
  obtain ⟨h0, h⟩ := h
  refine ⟨h0, ?_⟩
  rcases h with h | ⟨g, cap, cur, rfl, hK, h1, h2⟩
  · exact .inl h
  · exact .inr ⟨g, cap, cur, rfl, hK, (hs.2.2.2.2 g (Array.getElem?_eq_some_iff.1 h1).1 (hr g rfl)).trans h1, h2⟩
theorem OwnT.spr {w w' : World} {K lo hi : Nat} {v : Value} {ss : List ByteArray} (h : OwnT w K v ss) (hs : SpR lo hi w w') (hr : ∀ g, v.ownBlock = some g → g < lo ∨ hi ≤ g) : OwnT w' K v ss := ownsRow_spr h hs hr
theorem SpR.mono {lo hi lo' hi' : Nat} {w w' : World} (h : SpR lo hi w w') (hl : lo' ≤ lo) (hh : hi ≤ hi') : SpR lo' hi' w w' :=
  ⟨h.1, h.2.1, h.2.2.1, h.2.2.2.1, fun k hk hr => h.2.2.2.2 k hk (by omega)⟩

/-- A row of lists of the call's own: n of them, the i-th of value rv i. -/
def OwnR (w : World) (K : Nat) (v : Value) (n : Nat) (rv : Nat → Value) : Prop := ∃ rs : List Value, w.ownsRow K 22 1 v n rs ∧ ∀ i, i < n → rs[i]? = some (rv i)
theorem OwnR.nil (w : World) (K : Nat) (rv : Nat → Value) : OwnR w K (.slice none 0 0) 0 rv := ⟨[], World.ownsRow_nil w K _ 1, fun i hi => by omega⟩
theorem OwnR.on {w w' : World} {K n : Nat} {v : Value} {rv : Nat → Value} (h : OwnR w K v n rv) (hb : Below w.heap.size w w') : OwnR w' K v n rv := by
  obtain ⟨rs, ⟨h0, h⟩, h2⟩ := h
  refine ⟨rs, ⟨h0, ?_⟩, h2⟩
  rcases h with h | ⟨g, cap, cur, rfl, hK, h1, h3⟩
  · exact .inl h
  · exact .inr ⟨g, cap, cur, rfl, hK, (hb.block g (Array.getElem?_eq_some_iff.1 h1).1).trans h1, h3⟩
theorem OwnR.spr {w w' : World} {K n lo hi : Nat} {v : Value} {rv : Nat → Value} (h : OwnR w K v n rv) (hs : SpR lo hi w w') (hr : ∀ g, v.ownBlock = some g → g < lo ∨ hi ≤ g) : OwnR w' K v n rv := by
  obtain ⟨rs, h1, h2⟩ := h
  exact ⟨rs, ownsRow_spr h1 hs hr, h2⟩
theorem OwnR.congr {w : World} {K n : Nat} {v : Value} {rv rv' : Nat → Value} (h : OwnR w K v n rv) (e : ∀ i, i < n → rv i = rv' i) : OwnR w K v n rv' := by
  obtain ⟨rs, h1, h2⟩ := h
  exact ⟨rs, h1, fun i hi => by rw [h2 i hi, e i hi]⟩
theorem OwnR.lt {w : World} {K n g : Nat} {v : Value} {rv : Nat → Value} (h : OwnR w K v n rv) (hg : v.ownBlock = some g) : K ≤ g ∧ g < w.heap.size := by
  obtain ⟨rs, h1, h2⟩ := h
  exact World.ownsRow.lt h1 g hg
theorem OwnR.opened {w : World} {K n : Nat} {v : Value} {rv : Nat → Value} (h : OwnR w K v n rv) : (v = .slice none 0 0 ∧ n = 0) ∨ ∃ g c, v = .slice (some ⟨g, 0, none⟩) n c ∧ K ≤ g ∧ g < w.heap.size ∧ n ≤ c ∧ c ≤ maxLen ∧ ∀ i, i < n → w.cell? ⟨g, i, none⟩ = some (rv i) := by
  obtain ⟨rs, h1, h2⟩ := h
  have h1' := h1
  rcases h1.2 with h | ⟨g, cap, cur, rfl, hK, h3, h4, h5, _⟩
  · exact .inl h
  · refine .inr ⟨g, cap, rfl, hK, (Array.getElem?_eq_some_iff.1 h3).1, h4, h5, fun i hi => ?_⟩
    rw [World.ownsRow.cellAt h1' i (by omega), h2 i hi]
theorem OwnR.full {w : World} {K n : Nat} {v : Value} {rv : Nat → Value} (h : OwnR w K v n rv) (hn : 0 < n) : ∃ g c, v = .slice (some ⟨g, 0, none⟩) n c ∧ K ≤ g ∧ g < w.heap.size ∧ n ≤ c ∧ c ≤ maxLen ∧ ∀ i, i < n → w.cell? ⟨g, i, none⟩ = some (rv i) := by
  rcases h.opened with ⟨_, h0⟩ | h
  · omega
  · exact h
/-- A row that is written out. -/
theorem OwnR.lit (w : World) {K n : Nat} (cs : Array Value) (rv : Nat → Value) (hK : K ≤ w.heap.size) (hn : cs.size = n) (hm : n ≤ maxLen) (hc : ∀ i, i < n → cs[i]? = some (rv i)) : OwnR (w.alloc (.cells cs 22)) K (.slice (some ⟨w.heap.size, 0, none⟩) n n) n rv :=
  ⟨cs.toList, World.ownsRow_lit w cs n hK hm (by omega), fun i hi => by rw [Array.getElem?_toList]; exact hc i hi⟩
theorem OwnR.ne {w : World} {K L n g : Nat} {v u : Value} {rv : Nat → Value} {ss : List ByteArray} (h : OwnR w K v n rv) (h' : OwnT w L u ss) (hg : v.ownBlock = some g) : u.ownBlock ≠ some g := by
  intro e
  obtain ⟨rs, ⟨_, h1⟩, _⟩ := h
  rcases h1 with ⟨rfl, _⟩ | ⟨g1, _, _, rfl, _, h1, _⟩
  · simp [Value.ownBlock] at hg
  · rcases h'.2 with ⟨rfl, _⟩ | ⟨g2, _, _, rfl, _, h2, _⟩
    · simp [Value.ownBlock] at e
    · simp [Value.ownBlock] at hg e
      subst hg
      subst e
      rw [h1] at h2
      cases h2
end Go.Proofs.Ytokojbgpboccnaa
