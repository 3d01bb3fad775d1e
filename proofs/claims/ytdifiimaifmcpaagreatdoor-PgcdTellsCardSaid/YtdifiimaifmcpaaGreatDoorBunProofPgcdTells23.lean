import Derived.Test.YtdifiimaifmcpaaGreatDoorBunProofPgcdTells22
import Derived.Test.YtdifiimaifmcpaaGreatDoorBunProofPgcdTells20
import Derived.Test.YtdifiimaifmcpaaGreatDoorBunProofPgcdTells5
import Derived.Test.YtdifiimaifmcpaaGreatDoorBunProofPgcdTells13
import Derived.Test.YtdifiimaifmcpaaGreatDoorBunProofPgcdTells19
/-
  THE REFERENCE: MulP.
-/
namespace Go.Proofs.YtdifiimaifmcpaaGreatDoor
open Go.RowKit
open Num4
open Num (dg isNat dval)
set_option linter.unusedVariables false
set_option maxRecDepth 100000
set_option linter.unusedSimpArgs false

theorem OwnP.kept {w w' : World} {K : Nat} {v : Value} {l : List Rat} (h : OwnP w K v l) (hb : ∀ g, v.ownBlock = some g → w'.heap[g]? = w.heap[g]?) (hw : ∀ v z k, WhlR w v z k → WhlR w' v z k) : OwnP w' K v l := by
  obtain ⟨vs, h0, h1, h2, h3⟩ := h
  refine ⟨vs, h0, ⟨h1.1, ?_⟩, fun g hg => ?_, fun i hi => (h3 i hi).moved hw⟩
  · rcases h1.2 with h | ⟨g, cap, cur, rfl, hK, h4, h5⟩
    · exact .inl h
    · exact .inr ⟨g, cap, cur, rfl, hK, (hb g rfl).trans h4, h5⟩
  · intro cur T f e
    rw [hb g hg] at e
    exact h2 g hg cur T f e
theorem sumN_succ (f : Nat → Rat) (n : Nat) : sumN f (n + 1) = sumN f n + f n := rfl
set_option maxHeartbeats 8000000 in
theorem rmul_p {w : World} {v u : Value} {l r : List Rat} {m n : Nat} (h : PF w v l) (h' : PF w u r) (hs : Sml l m) (hs' : Sml r n) (hm : 200 * (m + n + 1) + 1 ≤ 1073741824) (hl : l.length ≤ 100) (hr : r.length ≤ 100) :
    Calls Tryz.prog 35 #[v, u] w fun e w' => ∃ v', e = .returned v' ∧ PF w' v' (mulp l r) ∧ Below w.heap.size w w' := by
  have HP := hid h
  have HP' := hid h'
  have HS := hid hs
  have HS' := hid hs'
  have HM := hid hm
  obtain ⟨a, c, rfl, hn, hc⟩ := h.opened
  obtain ⟨a', c', rfl, hn', hc'⟩ := h'.opened
  obtain ⟨N, hN⟩ : ∃ N, l.length = N := ⟨_, rfl⟩
  obtain ⟨N', hN'⟩ : ∃ N', r.length = N' := ⟨_, rfl⟩
  rw [hN] at hn HP hl ⊢
  rw [hN'] at hn' HP' hr ⊢
  have HN := hid hN
  have HN' := hid hN'
  have HL := hid (And.intro hl hr)
  unfold maxLen at hc hc'
  have HSK : Hid (∀ i k, k ≤ 200 → Sm (sumN (fun t => co l t * co r (i - t)) k) (200 * (m + n + 1) + 1)) := hid (fun i k hk => (HS.out.part HS'.out i k).mono (by have := Nat.mul_le_mul_right (m + n + 1) hk; omega))
  have HSM : Hid (Sml (lof (N + N' - 1) (cnv l r)) (200 * (m + n + 1) + 1)) := hid (Sml.lof (by omega) fun i hi => HSK.out i (i + 1) (by have := HL.out; omega))
  have B := hid (Below.refl w.heap.size w)
  clear h h' hs hs' hm hN hN'
  go_enter Tryz.func35, Tryz.ntmps35
  go_wp2_with fail
  go_loopw [6, 5] (fun i zv wr => ∃ j : Nat, j ≤ N + N' - 1 ∧ i = .int .i64 j ∧ Hid (OwnP wr w.heap.size zv (lof j (cnv l r))) ∧ Hid (Below w.heap.size w wr)) (fun i _ _ => N + N' - 1 - (intOf i).toNat)
  case atStart => exact ⟨0, by omega, rfl, hid (OwnP.nil _ _), B⟩
  case round =>
    clear B
    obtain ⟨j, hj, rfl, HO, B⟩ := hrel
    by_cases hlt : j < N + N' - 1
    · have hlt2 : (j : Int) < (N : Int) + (N' : Int) - 1 := by omega
      go_wp2_with fail
      refine (rint_f 0 (by decide) (by decide) _).mono ?_
      rintro e w3 ⟨v3, rfl, hv3, hb4⟩
      obtain ⟨s5, p5, n5, c5, p5', n5', c5', rfl⟩ := hv3.opened
      replace HO := hid (HO.out.on hb4)
      replace B := bb B hb4
      have HV := hid (hv3.cast (show ((0 : Int) : Rat) = sumN (fun t => co l t * co r (j - t)) 0 from rfl))
      have LG := hid B.out.size
      have LW : Hid (∀ g, u5.ownBlock = some g → g < w3.heap.size) := hid (fun g hg => (HO.out.lt hg).2)
      clear hb4 hv3
      have hb2 := (Below.refl _ _).alloc (Nat.le_refl w3.heap.size) (.cells #[.bool s5, .slice p5 n5 c5, .slice p5' n5' c5'] 45)
      have XG := hid (Qbx.new w3 s5 p5 n5 c5 p5' n5' c5')
      replace HO := hid (HO.out.on hb2)
      replace HV := hid (HV.out.on hb2)
      replace B := bb B hb2
      clear hb2
      go_wp2_with fail
      go_loopw [8] (fun kv wi => ∃ (k : Nat) (s : Bool) (p : Option Addr) (n c : Nat) (p' : Option Addr) (n' c' : Nat), k ≤ j + 1 ∧ kv = .int .i64 k ∧ Hid (Qbx wi w3.heap.size s (.slice p n c) (.slice p' n' c')) ∧ Hid (QF wi (.agg #[.bool s, .slice p n c, .slice p' n' c']) (sumN (fun t => co l t * co r (j - t)) k)) ∧ Hid (OwnP wi w.heap.size u5 (lof j (cnv l r))) ∧ Hid (Below w.heap.size w wi)) (fun kv _ => j + 1 - (intOf kv).toNat)
      case atStart => exact ⟨0, _, _, _, _, _, _, _, by omega, rfl, XG, HV, HO, B⟩
      case round =>
        clear XG HV HO B
        obtain ⟨k, s6, p6, n6, c6, p6', n6', c6', hk, rfl, XG, HV, HO, B⟩ := hrel
        by_cases hkj : k < j + 1
        · have hkj2 : (k : Int) ≤ (j : Int) := by omega
          have hLL := HL.out
          obtain ⟨d, hd⟩ : ∃ d : Nat, (j : Int) - (k : Int) = (d : Int) := ⟨j - k, by omega⟩
          have hw : IntKind.i64.wrap ((j : Int) - (k : Int)) = (d : Int) := by rw [hd]; exact IntWalk.i64_in _ (by omega)
          obtain rfl : d = j - k := by omega
          obtain ⟨d, hdn⟩ : ∃ d : Nat, j - k = d := ⟨_, rfl⟩
          rw [hdn] at hd hw
          have HDN := hid hdn
          clear hdn hLL
          by_cases h1 : k < N
          · by_cases h2 : d < N'
            · obtain ⟨b1, s7, p7, n7, c7, p7', n7', c7', rfl, hb1, cc, hq1⟩ := pf_at HP.out B.out (i := k) (by rw [HN.out]; exact h1)
              obtain ⟨b2, s8, p8, n8, c8, p8', n8', c8', rfl, hb2, cd, hq2⟩ := pf_at HP'.out B.out (i := d) (by rw [HN'.out]; exact h2)
              have HB1 := hid hb1
              have HB2 := hid hb2
              have HQ1 := hid (hq1.on (Below.drew (Below.refl _ _)))
              have HQ2 := hid (hq2.on (Below.drew (Below.refl _ _)))
              clear hq1 hq2 hb1 hb2
              go_wp2_with fail
              have LS := hid B.out.size
              have L3 := hid XG.out.lt
              replace HV := hid (HV.out.on (Below.drew (Below.refl _ _)))
              replace HO := hid (HO.out.on (Below.drew (Below.refl _ _)))
              replace B := hid (Below.drew B.out)
              replace XG := hid XG.out.dr
              have cg := XG.out.cells
              obtain ⟨y0, y1, y2⟩ := cc
              obtain ⟨z0, z1, z2⟩ := cd
              have hx1 : (0 : Int) ≤ (j : Int) - (k : Int) := by omega
              have hx2 : (j : Int) - (k : Int) < (N' : Int) := by omega
              have hx3 : ((j : Int) - (k : Int)).toNat = d := by omega
              have hx4 : IntKind.i64.wrap ((j : Int) - (k : Int)) = (j : Int) - (k : Int) := by rw [hw, hd]
              clear hw hd
              replace y0 := (show wr.drew.cell? ⟨b1, k * 3, none⟩ = some (.bool s7) from y0)
              replace y1 := (show wr.drew.cell? ⟨b1, k * 3 + 1, none⟩ = some (.slice p7 n7 c7) from y1)
              replace y2 := (show wr.drew.cell? ⟨b1, k * 3 + 2, none⟩ = some (.slice p7' n7' c7') from y2)
              replace z0 := (show wr.drew.cell? ⟨b2, d * 3, none⟩ = some (.bool s8) from z0)
              replace z1 := (show wr.drew.cell? ⟨b2, d * 3 + 1, none⟩ = some (.slice p8 n8 c8) from z1)
              replace z2 := (show wr.drew.cell? ⟨b2, d * 3 + 2, none⟩ = some (.slice p8' n8' c8') from z2)
              go_region_with (first
                | (have hm := mk0; clear hm; go_at_call 55; refine (radd_f HV.out HV1.out (HSK.out j k (by have := HL.out; omega)) ((HS.out.2 k).mul (HS'.out.2 d)) (by have := HM.out; omega) (by have := HM.out; omega)).mono ?_; rintro e w5 ⟨v5, rfl, hv5, hb⟩; obtain ⟨s9, p9, n9, c9, p9', n9', c9', rfl⟩ := hv5.opened; replace y0 := (World.cell?_of_block (a := ⟨b1, k * 3, none⟩) (hb.block b1 (Nat.lt_of_lt_of_le HB1.out LS.out))).trans y0; replace y1 := (World.cell?_of_block (a := ⟨b1, k * 3 + 1, none⟩) (hb.block b1 (Nat.lt_of_lt_of_le HB1.out LS.out))).trans y1; replace y2 := (World.cell?_of_block (a := ⟨b1, k * 3 + 2, none⟩) (hb.block b1 (Nat.lt_of_lt_of_le HB1.out LS.out))).trans y2; replace z0 := (World.cell?_of_block (a := ⟨b2, d * 3, none⟩) (hb.block b2 (Nat.lt_of_lt_of_le HB2.out LS.out))).trans z0; replace z1 := (World.cell?_of_block (a := ⟨b2, d * 3 + 1, none⟩) (hb.block b2 (Nat.lt_of_lt_of_le HB2.out LS.out))).trans z1; replace z2 := (World.cell?_of_block (a := ⟨b2, d * 3 + 2, none⟩) (hb.block b2 (Nat.lt_of_lt_of_le HB2.out LS.out))).trans z2; replace XG := qx XG hb; replace cg := XG.out.cells; replace HV := hid (HV.out.on hb); replace HO := hid (HO.out.on hb); replace B := bb B hb; replace LS := hid B.out.size; have HV2 := hid hv5; clear hv5 hb; obtain ⟨⟨t1, t2⟩, ⟨t3, t4⟩, t5, t6⟩ := XG.out.stores)
                | (go_at_call 36; refine (rmul_f HQ1.out HQ2.out (HS.out.2 k) (HS'.out.2 d) (by have := HM.out; omega) (by have := HM.out; omega)).mono ?_; rintro e w4 ⟨v4, rfl, hv4, hb⟩; replace y0 := (World.cell?_of_block (a := ⟨b1, k * 3, none⟩) (hb.block b1 (Nat.lt_of_lt_of_le HB1.out LS.out))).trans y0; replace y1 := (World.cell?_of_block (a := ⟨b1, k * 3 + 1, none⟩) (hb.block b1 (Nat.lt_of_lt_of_le HB1.out LS.out))).trans y1; replace y2 := (World.cell?_of_block (a := ⟨b1, k * 3 + 2, none⟩) (hb.block b1 (Nat.lt_of_lt_of_le HB1.out LS.out))).trans y2; replace z0 := (World.cell?_of_block (a := ⟨b2, d * 3, none⟩) (hb.block b2 (Nat.lt_of_lt_of_le HB2.out LS.out))).trans z0; replace z1 := (World.cell?_of_block (a := ⟨b2, d * 3 + 1, none⟩) (hb.block b2 (Nat.lt_of_lt_of_le HB2.out LS.out))).trans z1; replace z2 := (World.cell?_of_block (a := ⟨b2, d * 3 + 2, none⟩) (hb.block b2 (Nat.lt_of_lt_of_le HB2.out LS.out))).trans z2; replace XG := qx XG hb; replace cg := XG.out.cells; replace HV := hid (HV.out.on hb); replace HO := hid (HO.out.on hb); replace B := bb B hb; replace LS := hid B.out.size; have HV1 := hid hv4; clear hv4 hb; have mk0 := hid True.intro)
                | fail)
              all_goals
                have hlst := XG.out.last B.out (by have := LG.out; omega) s9 p9 n9 c9 p9' n9' c9'
                replace XG := hid hlst.1
                replace B := hid hlst.2.1
                replace HV := hid (QF.cast (HV2.out.moved (fun v z k hu => hlst.2.2 hu)) (show _ = sumN (fun t => co l t * co r (j - t)) (k + 1) by rw [sumN_succ, HDN.out]))
                replace HO := hid (HO.out.kept (fun g hg => heap3 (by have := LW.out g hg; omega) _ _ _) (fun v z k hu => hlst.2.2 hu))
                go_wp2_with fail
                go_roundw
                case rel => exact ⟨k + 1, _, _, _, _, _, _, _, by omega, by go_num, XG, HV, HO, B⟩
                case measure => simp [intOf]; omega
            · have hz : co r (j - k) = 0 := co_ge (by rw [HN'.out, HDN.out]; omega)
              replace HV := hid (HV.out.cast (show _ = sumN (fun t => co l t * co r (j - t)) (k + 1) by rw [sumN_succ, hz]; grind))
              clear hz
              go_wp2_with fail
              go_roundw
              case rel => exact ⟨k + 1, _, _, _, _, _, _, _, by omega, by go_num, XG, HV, HO, B⟩
              case measure => simp [intOf]; omega
          · have hz : co l k = 0 := co_ge (by rw [HN.out]; omega)
            replace HV := hid (HV.out.cast (show _ = sumN (fun t => co l t * co r (j - t)) (k + 1) by rw [sumN_succ, hz]; grind))
            clear hz
            go_wp2_with fail
            go_roundw
            case rel => exact ⟨k + 1, _, _, _, _, _, _, _, by omega, by go_num, XG, HV, HO, B⟩
            case measure => simp [intOf]; omega
        · obtain rfl : k = j + 1 := by omega
          have hkj2 : ¬ ((j + 1 : Nat) : Int) ≤ (j : Int) := by omega
          obtain ⟨cg0, cg1, cg2⟩ := XG.out.cells
          replace HV := hid (HV.out.cast (show _ = cnv l r j from rfl))
          have hb3 := (Below.refl _ _).alloc (Nat.le_refl wr.heap.size) (.cells #[.bool s6, .slice p6 n6 c6, .slice p6' n6' c6'] 45)
          have XR := hid (Qbx.new wr s6 p6 n6 c6 p6' n6' c6')
          replace HO := hid (HO.out.on hb3)
          replace HV := hid (HV.out.on hb3)
          replace B := bb B hb3
          clear hb3
          obtain ⟨cd0, cd1, cd2⟩ := XR.out.cells
          have hKK : w.heap.size ≤ (wr.alloc (.cells #[.bool s6, .slice p6 n6 c6, .slice p6' n6' c6'] 45)).heap.size := B.out.size
          have hll : (lof j (cnv l r)).length ≤ 1000 := by rw [lof_len]; have := HL.out; omega
          go_wp2_with (at_builtin; refine wpList_append_p rfl _ _ rfl w.heap.size _ (lof j (cnv l r)) rfl HO.out hKK hll wr.heap.size 1 rfl cd0 cd1 cd2 HV.out (Nat.le_refl _) B.out ?_)
          intro v' wa hown hB2 _ _ _
          replace HO := hid (lof_succ (cnv l r) j ▸ hown)
          replace B := hid hB2
          clear hown hB2 hKK hll cd0 cd1 cd2 cg0 cg1 cg2 HV XR XG
          go_wp2_with fail
          go_roundw
          case rel => exact ⟨j + 1, by omega, by go_num, HO, B⟩
          case measure => simp [intOf]; omega
    · have hlt2 : ¬ (j : Int) < (N : Int) + (N' : Int) - 1 := by omega
      obtain ⟨J, hJ⟩ : ∃ J : Nat, N + N' - 1 = J := ⟨_, rfl⟩
      obtain rfl : j = J := by omega
      have HJ := hid hJ
      clear hj hlt hJ
      go_wp2_with fail
      refine (rtrim_p HO.out.pf (HJ.out ▸ HSM.out) HM.out).mono ?_
      rintro e w1 ⟨v1, rfl, hv1, hb1⟩
      replace B := bb B hb1
      have HV1 := hid hv1
      clear hb1 hv1
      go_wp2_with fail
      go_ret
      refine ⟨_, rfl, ?_, B.out⟩
      unfold mulp
      rw [HN.out, HN'.out, HJ.out]
      exact HV1.out

end Go.Proofs.YtdifiimaifmcpaaGreatDoor

/-
  THE REFERENCE: ScaleP.
-/
namespace Go.Proofs.YtdifiimaifmcpaaGreatDoor
open Go.RowKit
open Num4
open Num (dg isNat dval)
set_option linter.unusedVariables false
set_option maxRecDepth 100000
set_option linter.unusedSimpArgs false

theorem PF.one {w : World} {g : Nat} {s : Bool} {p : Option Addr} {n c : Nat} {p' : Option Addr} {n' c' : Nat} {q : Rat} (hx : Qbx w g s (.slice p n c) (.slice p' n' c')) (h : QF w (.agg #[.bool s, .slice p n c, .slice p' n' c']) q) : PF w (.slice (some ⟨g, 0, none⟩) 1 1) [q] := by
  refine ⟨some ⟨g, 0, none⟩, 1, rfl, Nat.le_refl _, by decide, fun i hi => ?_⟩
  obtain rfl : i = 0 := by simp at hi; exact hi
  obtain ⟨h0, h1, h2⟩ := hx.cells
  exact ⟨g, s, p, n, c, p', n', c', rfl, hx.lt, h0, h1, h2, h.cast (by rw [co_zero])⟩
set_option maxHeartbeats 1000000 in
theorem rscale_p {w : World} {v u : Value} {l : List Rat} {q : Rat} {m n : Nat} (h : PF w v l) (h' : QF w u q) (hs : Sml l m) (hq : Sm q n) (hm : 200 * (m + n + 1) + 1 ≤ 1073741824) (hl : l.length ≤ 100) :
    Calls Tryz.prog 19 #[v, u] w fun e w' => ∃ v', e = .returned v' ∧ PF w' v' (mulp l (trimQ [q])) ∧ Below w.heap.size w w' := by
  obtain ⟨s5, p5, n5, c5, p5', n5', c5', rfl⟩ := h'.opened
  have hb1 := (Below.refl w.heap.size w).alloc (Nat.le_refl _) (.cells #[.bool s5, .slice p5 n5 c5, .slice p5' n5' c5'] 45)
  have hb2 := (Below.refl (w.alloc (.cells #[.bool s5, .slice p5 n5 c5, .slice p5' n5' c5'] 45)).heap.size _).alloc (Nat.le_refl _) (.cells #[.bool s5, .slice p5 n5 c5, .slice p5' n5' c5'] 45)
  have XB := Qbx.new w s5 p5 n5 c5 p5' n5' c5'
  have XL := Qbx.new (w.alloc (.cells #[.bool s5, .slice p5 n5 c5, .slice p5' n5' c5'] 45)) s5 p5 n5 c5 p5' n5' c5'
  have hsz : (w.alloc (.cells #[.bool s5, .slice p5 n5 c5, .slice p5' n5' c5'] 45)).heap.size = w.heap.size + 1 := by simp
  have HB := hid (hb1.trans (hb2.mono hb1.size))
  have HT := rtrim_p (PF.one XL ((h'.on hb1).on hb2)) (Sml.one hq) (by omega)
  rw [hsz] at HT
  have HT := hid HT
  obtain ⟨cc0, cc1, cc2⟩ := XB.cells
  have HP := hid h
  have HS := hid hs
  have HQ := hid hq
  have HM := hid (And.intro hm hl)
  clear hb1 hb2 XB XL hsz h h' hs hq hm hl
  go_enter Tryz.func19, Tryz.ntmps19
  go_wp2_with fail
  refine HT.out.mono ?_
  rintro e w3 ⟨v3, rfl, hv3, hb3⟩
  have B := hid (HB.out.trans (hb3.mono HB.out.size))
  have HV := hid hv3
  clear hb3 hv3 HB HT cc0 cc1 cc2
  go_wp2_with fail
  refine (rmul_p (HP.out.on B.out) HV.out HS.out (Sml.one HQ.out).trim HM.out.1 HM.out.2 (Nat.le_trans (trim_len _) (by simp))).mono ?_
  rintro e w4 ⟨v4, rfl, hv4, hb4⟩
  replace B := bb B hb4
  have HV4 := hid hv4
  clear hb4 hv4
  go_wp2_with fail
  go_ret
  exact ⟨_, rfl, HV4.out, B.out⟩

end Go.Proofs.YtdifiimaifmcpaaGreatDoor

/-
  THE REFERENCE: Monic.
-/
namespace Go.Proofs.YtdifiimaifmcpaaGreatDoor
open Go.RowKit
open Num4
open Num (dg isNat dval)
set_option linter.unusedVariables false
set_option maxRecDepth 100000
set_option linter.unusedSimpArgs false

set_option maxHeartbeats 4000000 in
theorem rmonic_p {w : World} {v : Value} {l : List Rat} {m : Nat} (h : PF w v l) (ht : Trm l) (hs : Cml l m) (hm : m ≤ 2000000) (hl : l.length ≤ 9) :
    Calls Tryz.prog 7 #[v] w fun e w' => ∃ v', e = .returned v' ∧ PF w' v' (mnc l) ∧ Below w.heap.size w w' := by
  by_cases h0 : l = []
  · subst h0
    obtain ⟨a, c, rfl, hn, hc⟩ := h.opened
    clear h ht hs hm hl
    have B := hid (Below.refl w.heap.size w)
    go_enter Tryz.func7, Tryz.ntmps7
    go_wp2_with fail
    go_ret
    exact ⟨_, rfl, PF.nil _ (by decide), B.out⟩
  · obtain ⟨d, hd⟩ : ∃ d, l.length = d + 1 := ⟨l.length - 1, by have := List.length_pos_iff.2 h0; omega⟩
    have HP := hid h
    have SL := hid hs.sml
    have HM := hid hm
    have HL := hid hl
    have HD := hid hd
    have hc0 : co l d ≠ 0 := by have := trm_last ht h0; rwa [hd] at this
    have H0 := hid hc0
    have HS1 : Hid (Sm ((1 : Int) : Rat) 1) := hid (Sm.int (by decide) (by decide))
    have HSD : Hid (Sm (((1 : Int) : Rat) / co l d) (1 + m)) := hid (HS1.out.div (SL.out.2 d))
    have HE : Hid (mulp l (trimQ [((1 : Int) : Rat) / co l d]) = mnc l) := hid (by
      rw [← mulp_mnc, top, hd]; rfl)
    obtain ⟨a, c, rfl, hn, hc⟩ := h.opened
    obtain ⟨b1, s7, p7, n7, c7, p7', n7', c7', rfl, hb1, cc, hq1⟩ := pf_at h (Below.refl _ _) (i := d) (by omega)
    have HQ := hid hq1
    have LB1 := hid hb1
    have CC := hid cc
    rw [hd] at hn HP ⊢
    have hne : ((d : Int) + 1 == 0) = false := by rw [beq_eq_false_iff_ne]; omega
    have hd0 : (0 : Int) ≤ (d : Int) := by omega
    have hd1 : (d : Int) < (d : Int) + 1 := by omega
    have B := hid (Below.refl w.heap.size w)
    unfold maxLen at hc
    clear h ht hs hm hl h0 hd hc0 hq1 hb1 cc
    go_enter Tryz.func7, Tryz.ntmps7
    go_wp2_with fail
    obtain ⟨W, hW⟩ : ∃ W, w = W := ⟨_, rfl⟩
    subst hW
    refine region_ops (by kernel_rfl) (by kernel_rfl) (fun a f a' w' => ∃ u2 u6 u7 u8 u9 u10 u11 u12 u13 u14 u15 : Value, a' = { tmps := (((((((((((a.tmps.setIfInBounds 2 u2).setIfInBounds 6 u6).setIfInBounds 7 u7).setIfInBounds 8 u8).setIfInBounds 9 u9).setIfInBounds 10 u10).setIfInBounds 11 u11).setIfInBounds 12 u12).setIfInBounds 13 u13).setIfInBounds 14 u14).setIfInBounds 15 u15), defers := a.defers } ∧ Hid (Below w.heap.size w w') ∧ Hid (f 0 = true → u6 = .slice (some ⟨b1, 0, none⟩) (d + 1) c) ∧ Hid (f 1 = true → QF w' u7 ((1 : Int) : Rat)) ∧ Hid (f 2 = true → u8 = .slice (some ⟨b1, 0, none⟩) (d + 1) c) ∧ Hid (f 3 = true → u9 = .slice (some ⟨b1, 0, none⟩) (d + 1) c) ∧ Hid (f 4 = true → u10 = .int .i64 ((d : Int) + 1)) ∧ Hid (f 5 = true → u11 = .int .i64 (d : Int)) ∧ Hid (f 6 = true → u12 = .pointer (some ⟨b1, d * 3, none⟩)) ∧ Hid (f 7 = true → u13 = .agg #[.bool s7, .slice p7 n7 c7, .slice p7' n7' c7']) ∧ Hid (f 8 = true → QF w' u14 (((1 : Int) : Rat) / co l d)) ∧ Hid (f 9 = true → PF w' u15 (mulp l (trimQ [((1 : Int) : Rat) / co l d]))) ∧ Hid (f 10 = true → PF w' u2 (mulp l (trimQ [((1 : Int) : Rat) / co l d])))) ?h0 ⟨?s0, ?s1, ?s2, ?s3, ?s4, ?s5, ?s6, ?s7, ?s8, ?s9, ?s10, trivial⟩ ?hend
    case h0 =>
      simp only [List.setIfInBounds_toArray, List.set_cons_zero, List.set_cons_succ]
      exact ⟨_, _, _, _, _, _, _, _, _, _, _, rfl, hid (Below.drew (Below.refl _ _)), hid (fun h => by cases h), hid (fun h => by cases h), hid (fun h => by cases h), hid (fun h => by cases h), hid (fun h => by cases h), hid (fun h => by cases h), hid (fun h => by cases h), hid (fun h => by cases h), hid (fun h => by cases h), hid (fun h => by cases h), hid (fun h => by cases h)⟩
    case s0 =>
      rintro f a1 w1 ⟨u2, u6, u7, u8, u9, u10, u11, u12, u13, u14, u15, rfl, HBW, h0, h1, h2, h3, h4, h5, h6, h7, h8, h9, h10⟩ hf hd K hK
      simp only [List.setIfInBounds_toArray, List.set_cons_zero, List.set_cons_succ] at hK ⊢
      replace hK := hid hK
      go_simp
      exact hK.out _ _ ⟨_, _, _, _, _, _, _, _, _, _, _, rfl, HBW, hid (fun h => rfl), hid (fun h => h1.out h), hid (fun h => h2.out h), hid (fun h => h3.out h), hid (fun h => h4.out h), hid (fun h => h5.out h), hid (fun h => h6.out h), hid (fun h => h7.out h), hid (fun h => h8.out h), hid (fun h => h9.out h), hid (fun h => h10.out h)⟩
    case s1 =>
      rintro f a1 w1 ⟨u2, u6, u7, u8, u9, u10, u11, u12, u13, u14, u15, rfl, HBW, h0, h1, h2, h3, h4, h5, h6, h7, h8, h9, h10⟩ hf hd K hK
      simp only [List.setIfInBounds_toArray, List.set_cons_zero, List.set_cons_succ] at hK ⊢
      replace hK := hid hK
      go_simp
      refine (rint_f 1 (by decide) (by decide) _).mono ?_
      rintro e w2 ⟨v, rfl, hv, hb⟩
      go_wp2_with fail
      exact hK.out _ _ ⟨_, _, _, _, _, _, _, _, _, _, _, rfl, hid (below_next HBW.out hb), hid (fun h => h0.out h), hid (fun h => hv), hid (fun h => h2.out h), hid (fun h => h3.out h), hid (fun h => h4.out h), hid (fun h => h5.out h), hid (fun h => h6.out h), hid (fun h => h7.out h), hid (fun h => (h8.out h).on hb), hid (fun h => (h9.out h).on hb), hid (fun h => (h10.out h).on hb)⟩
    case s2 =>
      rintro f a1 w1 ⟨u2, u6, u7, u8, u9, u10, u11, u12, u13, u14, u15, rfl, HBW, h0, h1, h2, h3, h4, h5, h6, h7, h8, h9, h10⟩ hf hd K hK
      simp only [List.setIfInBounds_toArray, List.set_cons_zero, List.set_cons_succ] at hK ⊢
      replace hK := hid hK
      go_simp
      exact hK.out _ _ ⟨_, _, _, _, _, _, _, _, _, _, _, rfl, HBW, hid (fun h => h0.out h), hid (fun h => h1.out h), hid (fun h => rfl), hid (fun h => h3.out h), hid (fun h => h4.out h), hid (fun h => h5.out h), hid (fun h => h6.out h), hid (fun h => h7.out h), hid (fun h => h8.out h), hid (fun h => h9.out h), hid (fun h => h10.out h)⟩
    case s3 =>
      rintro f a1 w1 ⟨u2, u6, u7, u8, u9, u10, u11, u12, u13, u14, u15, rfl, HBW, h0, h1, h2, h3, h4, h5, h6, h7, h8, h9, h10⟩ hf hd K hK
      simp only [List.setIfInBounds_toArray, List.set_cons_zero, List.set_cons_succ] at hK ⊢
      replace hK := hid hK
      go_simp
      exact hK.out _ _ ⟨_, _, _, _, _, _, _, _, _, _, _, rfl, HBW, hid (fun h => h0.out h), hid (fun h => h1.out h), hid (fun h => h2.out h), hid (fun h => rfl), hid (fun h => h4.out h), hid (fun h => h5.out h), hid (fun h => h6.out h), hid (fun h => h7.out h), hid (fun h => h8.out h), hid (fun h => h9.out h), hid (fun h => h10.out h)⟩
    case s4 =>
      rintro f a1 w1 ⟨u2, u6, u7, u8, u9, u10, u11, u12, u13, u14, u15, rfl, HBW, h0, h1, h2, h3, h4, h5, h6, h7, h8, h9, h10⟩ hf hd K hK
      simp only [List.setIfInBounds_toArray, List.set_cons_zero, List.set_cons_succ] at hK ⊢
      replace hK := hid hK
      simp [Region.binds] at hd
      obtain rfl := h3.out (by simp only [hd])
      go_simp
      exact hK.out _ _ ⟨_, _, _, _, _, _, _, _, _, _, _, rfl, HBW, hid (fun h => h0.out h), hid (fun h => h1.out h), hid (fun h => h2.out h), hid (fun h => rfl), hid (fun h => rfl), hid (fun h => h5.out h), hid (fun h => h6.out h), hid (fun h => h7.out h), hid (fun h => h8.out h), hid (fun h => h9.out h), hid (fun h => h10.out h)⟩
    case s5 =>
      rintro f a1 w1 ⟨u2, u6, u7, u8, u9, u10, u11, u12, u13, u14, u15, rfl, HBW, h0, h1, h2, h3, h4, h5, h6, h7, h8, h9, h10⟩ hf hd K hK
      simp only [List.setIfInBounds_toArray, List.set_cons_zero, List.set_cons_succ] at hK ⊢
      replace hK := hid hK
      simp [Region.binds] at hd
      obtain rfl := h4.out (by simp only [hd])
      have hw : IntKind.i64.wrap (d : Int) = (d : Int) := IntWalk.i64_in _ (by omega)
      go_simp
      exact hK.out _ _ ⟨_, _, _, _, _, _, _, _, _, _, _, rfl, HBW, hid (fun h => h0.out h), hid (fun h => h1.out h), hid (fun h => h2.out h), hid (fun h => h3.out h), hid (fun h => rfl), hid (fun h => rfl), hid (fun h => h6.out h), hid (fun h => h7.out h), hid (fun h => h8.out h), hid (fun h => h9.out h), hid (fun h => h10.out h)⟩
    case s6 =>
      rintro f a1 w1 ⟨u2, u6, u7, u8, u9, u10, u11, u12, u13, u14, u15, rfl, HBW, h0, h1, h2, h3, h4, h5, h6, h7, h8, h9, h10⟩ hf hd K hK
      simp only [List.setIfInBounds_toArray, List.set_cons_zero, List.set_cons_succ] at hK ⊢
      replace hK := hid hK
      simp [Region.binds] at hd
      obtain rfl := h2.out (by simp only [hd])
      obtain rfl := h5.out (by simp only [hd])
      have hdd : (d : Int) < (d : Int) + 1 := by omega
      go_simp
      exact hK.out _ _ ⟨_, _, _, _, _, _, _, _, _, _, _, rfl, HBW, hid (fun h => h0.out h), hid (fun h => h1.out h), hid (fun h => rfl), hid (fun h => h3.out h), hid (fun h => h4.out h), hid (fun h => rfl), hid (fun h => rfl), hid (fun h => h7.out h), hid (fun h => h8.out h), hid (fun h => h9.out h), hid (fun h => h10.out h)⟩
    case s7 =>
      rintro f a1 w1 ⟨u2, u6, u7, u8, u9, u10, u11, u12, u13, u14, u15, rfl, HBW, h0, h1, h2, h3, h4, h5, h6, h7, h8, h9, h10⟩ hf hd K hK
      simp only [List.setIfInBounds_toArray, List.set_cons_zero, List.set_cons_succ] at hK ⊢
      replace hK := hid hK
      simp [Region.binds] at hd
      obtain rfl := h6.out (by simp only [hd])
      have y0 := (World.cell?_of_block (HBW.out.block b1 LB1.out)).trans CC.out.1
      have y1 := (World.cell?_of_block (HBW.out.block b1 LB1.out)).trans CC.out.2.1
      have y2 := (World.cell?_of_block (HBW.out.block b1 LB1.out)).trans CC.out.2.2
      go_simp
      exact hK.out _ _ ⟨_, _, _, _, _, _, _, _, _, _, _, rfl, HBW, hid (fun h => h0.out h), hid (fun h => h1.out h), hid (fun h => h2.out h), hid (fun h => h3.out h), hid (fun h => h4.out h), hid (fun h => h5.out h), hid (fun h => rfl), hid (fun h => rfl), hid (fun h => h8.out h), hid (fun h => h9.out h), hid (fun h => h10.out h)⟩
    case s8 =>
      rintro f a1 w1 ⟨u2, u6, u7, u8, u9, u10, u11, u12, u13, u14, u15, rfl, HBW, h0, h1, h2, h3, h4, h5, h6, h7, h8, h9, h10⟩ hf hd K hK
      simp only [List.setIfInBounds_toArray, List.set_cons_zero, List.set_cons_succ] at hK ⊢
      replace hK := hid hK
      simp [Region.binds] at hd
      have h1a := h1.out (by simp only [hd])
      obtain rfl := h7.out (by simp only [hd])
      go_simp
      refine (rdiv_f h1a (HQ.out.on HBW.out) HS1.out (SL.out.2 d) H0.out (by decide) (by have := HM.out; omega)).mono ?_
      rintro e w2 ⟨v, rfl, hv, hb⟩
      go_wp2_with fail
      exact hK.out _ _ ⟨_, _, _, _, _, _, _, _, _, _, _, rfl, hid (below_next HBW.out hb), hid (fun h => h0.out h), hid (fun h => (h1.out h).on hb), hid (fun h => h2.out h), hid (fun h => h3.out h), hid (fun h => h4.out h), hid (fun h => h5.out h), hid (fun h => h6.out h), hid (fun h => rfl), hid (fun h => hv), hid (fun h => (h9.out h).on hb), hid (fun h => (h10.out h).on hb)⟩
    case s9 =>
      rintro f a1 w1 ⟨u2, u6, u7, u8, u9, u10, u11, u12, u13, u14, u15, rfl, HBW, h0, h1, h2, h3, h4, h5, h6, h7, h8, h9, h10⟩ hf hd K hK
      simp only [List.setIfInBounds_toArray, List.set_cons_zero, List.set_cons_succ] at hK ⊢
      replace hK := hid hK
      simp [Region.binds] at hd
      obtain rfl := h0.out (by simp only [hd])
      have h8a := h8.out (by simp only [hd])
      go_simp
      refine (rscale_p (HP.out.on HBW.out) h8a SL.out HSD.out (by have := HM.out; omega) (by have := HL.out; omega)).mono ?_
      rintro e w2 ⟨v, rfl, hv, hb⟩
      go_wp2_with fail
      exact hK.out _ _ ⟨_, _, _, _, _, _, _, _, _, _, _, rfl, hid (below_next HBW.out hb), hid (fun h => rfl), hid (fun h => (h1.out h).on hb), hid (fun h => h2.out h), hid (fun h => h3.out h), hid (fun h => h4.out h), hid (fun h => h5.out h), hid (fun h => h6.out h), hid (fun h => h7.out h), hid (fun h => (h8.out h).on hb), hid (fun h => hv), hid (fun h => (h10.out h).on hb)⟩
    case s10 =>
      rintro f a1 w1 ⟨u2, u6, u7, u8, u9, u10, u11, u12, u13, u14, u15, rfl, HBW, h0, h1, h2, h3, h4, h5, h6, h7, h8, h9, h10⟩ hf hd K hK
      simp only [List.setIfInBounds_toArray, List.set_cons_zero, List.set_cons_succ] at hK ⊢
      replace hK := hid hK
      simp [Region.binds] at hd
      have h9a := h9.out (by simp only [hd])
      go_simp
      exact hK.out _ _ ⟨_, _, _, _, _, _, _, _, _, _, _, rfl, HBW, hid (fun h => h0.out h), hid (fun h => h1.out h), hid (fun h => h2.out h), hid (fun h => h3.out h), hid (fun h => h4.out h), hid (fun h => h5.out h), hid (fun h => h6.out h), hid (fun h => h7.out h), hid (fun h => h8.out h), hid (fun h => h9.out h), hid (fun h => h9a)⟩
    case hend =>
      rintro f a1 w' ⟨u2, u6, u7, u8, u9, u10, u11, u12, u13, u14, u15, rfl, HBW, h0, h1, h2, h3, h4, h5, h6, h7, h8, h9, h10⟩ hall
      simp only [List.setIfInBounds_toArray, List.set_cons_zero, List.set_cons_succ]
      have hr := h10.out (hall 10 (by decide))
      have HR := hid hr
      replace B := bb B HBW.out
      clear HBW hall hr h0 h1 h2 h3 h4 h5 h6 h7 h8 h9 h10
      go_wp2_with fail
      go_ret
      exact ⟨_, rfl, by rw [← HE.out]; exact HR.out, B.out⟩

end Go.Proofs.YtdifiimaifmcpaaGreatDoor

/-
  THE REFERENCE: a row of fractions that is written; make.
-/
namespace Go.Proofs.YtdifiimaifmcpaaGreatDoor
open Go.RowKit
open Num4
open Num (dg isNat dval)
set_option linter.unusedVariables false
set_option maxRecDepth 100000
set_option linter.unusedSimpArgs false

/-! A row of fractions that is written: by a function of the place. -/
def Qz : Qt := (false, (none, 0, 0), (none, 0, 0))
def C3 (cur : Array Value) (j : Nat) (r : Qt) : Prop := cur[j]? = some (.bool r.1) ∧ cur[j + 1]? = some (.slice r.2.1.1 r.2.1.2.1 r.2.1.2.2) ∧ cur[j + 2]? = some (.slice r.2.2.1 r.2.2.2.1 r.2.2.2.2)
theorem C3.other {cur : Array Value} {j k : Nat} {r : Qt} (h : C3 cur j r) (hk : k < j ∨ j + 2 < k) (x : Value) : C3 (cur.setIfInBounds k x) j r := by
  obtain ⟨h0, h1, h2⟩ := h
  refine ⟨?_, ?_, ?_⟩
  · rw [Array.getElem?_setIfInBounds_ne (by omega)]; exact h0
  · rw [Array.getElem?_setIfInBounds_ne (by omega)]; exact h1
  · rw [Array.getElem?_setIfInBounds_ne (by omega)]; exact h2
def put3 (cur : Array Value) (j : Nat) (r : Qt) : Array Value := ((cur.setIfInBounds j (.bool r.1)).setIfInBounds (j + 1) (.slice r.2.1.1 r.2.1.2.1 r.2.1.2.2)).setIfInBounds (j + 2) (.slice r.2.2.1 r.2.2.2.1 r.2.2.2.2)
theorem C3.self (cur : Array Value) {j : Nat} (h : j + 2 < cur.size) (r : Qt) : C3 (put3 cur j r) j r := by
  unfold put3
  refine ⟨?_, ?_, ?_⟩
  · rw [Array.getElem?_setIfInBounds_ne (by omega), Array.getElem?_setIfInBounds_ne (by omega), Array.getElem?_setIfInBounds_self_of_lt (by omega)]
  · rw [Array.getElem?_setIfInBounds_ne (by omega), Array.getElem?_setIfInBounds_self_of_lt (by simp; omega)]
  · rw [Array.getElem?_setIfInBounds_self_of_lt (by simp; omega)]
theorem C3.far {cur : Array Value} {i j : Nat} {r s : Qt} (h : C3 cur (i * 3) r) (hne : i ≠ j) : C3 (put3 cur (j * 3) s) (i * 3) r :=
  ((h.other (by omega) _).other (by omega) _).other (by omega) _
theorem ni_put3 {cur : Array Value} (h : ∀ u ∈ cur.toList, NI u) (j : Nat) (r : Qt) : ∀ u ∈ (put3 cur j r).toList, NI u := by
  intro u hu
  unfold put3 at hu
  rcases mem_set hu with hu | rfl
  · rcases mem_set hu with hu | rfl
    · rcases mem_set hu with hu | rfl
      · exact h u hu
      · exact NI.bool _
    · exact NI.slc _ _ _
  · exact NI.slc _ _ _
def updq (rs : Nat → Qt) (i : Nat) (r : Qt) : Nat → Qt := fun k => if k = i then r else rs k
theorem updq_self (rs : Nat → Qt) (i : Nat) (r : Qt) : updq rs i r i = r := if_pos rfl
theorem updq_ne (rs : Nat → Qt) {i k : Nat} (r : Qt) (h : k ≠ i) : updq rs i r k = rs k := if_neg h
/-- Block b begins with n fractions, may be written, and holds no numbers of its own. -/
def QRw (w : World) (b n : Nat) (rs : Nat → Qt) : Prop := ∃ cur, w.heap[b]? = some (.cells cur 45 (0, 0)) ∧ n * 3 ≤ cur.size ∧ (∀ i, i < n → C3 cur (i * 3) (rs i)) ∧ ∀ u ∈ cur.toList, NI u
theorem QRw.lt {w : World} {b n : Nat} {rs : Nat → Qt} (h : QRw w b n rs) : b < w.heap.size := by
  obtain ⟨cur, h, _⟩ := h
  exact (Array.getElem?_eq_some_iff.1 h).1
theorem QRw.kept {w w' : World} {b n : Nat} {rs : Nat → Qt} (h : QRw w b n rs) (e : w'.heap[b]? = w.heap[b]?) : QRw w' b n rs := by
  obtain ⟨cur, h, h2⟩ := h
  exact ⟨cur, e.trans h, h2⟩
theorem QRw.on {w w' : World} {b n : Nat} {rs : Nat → Qt} (h : QRw w b n rs) (hb : Below w.heap.size w w') : QRw w' b n rs := h.kept (hb.block b h.lt)
theorem QRw.cells {w : World} {b n : Nat} {rs : Nat → Qt} (h : QRw w b n rs) {i : Nat} (hi : i < n) : w.cell? ⟨b, i * 3, none⟩ = some (.bool (rs i).1) ∧ w.cell? ⟨b, i * 3 + 1, none⟩ = some (.slice (rs i).2.1.1 (rs i).2.1.2.1 (rs i).2.1.2.2) ∧ w.cell? ⟨b, i * 3 + 2, none⟩ = some (.slice (rs i).2.2.1 (rs i).2.2.2.1 (rs i).2.2.2.2) := by
  obtain ⟨cur, h, _, h2, _⟩ := h
  obtain ⟨c0, c1, c2⟩ := h2 i hi
  refine ⟨?_, ?_, ?_⟩ <;> simp [World.cell?, h, c0, c1, c2]
theorem QRw.noint {w : World} {b n : Nat} {rs : Nat → Qt} (h : QRw w b n rs) : NoInt w b := by
  obtain ⟨cur, h, _, _, h2⟩ := h
  intro cur' T f e u hu
  rw [h] at e
  cases e
  exact h2 u hu
/-- What a walk needs to write the i-th one. -/
theorem QRw.stores {w : World} {b n : Nat} {rs : Nat → Qt} (h : QRw w b n rs) {i : Nat} (hi : i < n) :
    (w.cell? ⟨b, i * 3, none⟩ = some (.bool (rs i).1) ∧ w.frozen? ⟨b, i * 3, none⟩ = false) ∧
    ((∀ x, (w.setCell ⟨b, i * 3, none⟩ x).cell? ⟨b, i * 3 + 1, none⟩ = some (.slice (rs i).2.1.1 (rs i).2.1.2.1 (rs i).2.1.2.2)) ∧ (∀ x, (w.setCell ⟨b, i * 3, none⟩ x).frozen? ⟨b, i * 3 + 1, none⟩ = false)) ∧
    ((∀ x y, ((w.setCell ⟨b, i * 3, none⟩ x).setCell ⟨b, i * 3 + 1, none⟩ y).cell? ⟨b, i * 3 + 2, none⟩ = some (.slice (rs i).2.2.1 (rs i).2.2.2.1 (rs i).2.2.2.2)) ∧ (∀ x y, ((w.setCell ⟨b, i * 3, none⟩ x).setCell ⟨b, i * 3 + 1, none⟩ y).frozen? ⟨b, i * 3 + 2, none⟩ = false)) := by
  obtain ⟨cur, h, hs, h2, _⟩ := h
  obtain ⟨c0, c1, c2⟩ := h2 i hi
  have fr : ∀ {w : World} {cur : Array Value} {k : Nat}, w.heap[b]? = some (.cells cur 45 (0, 0)) → w.frozen? ⟨b, k, none⟩ = false := by
    intro w cur k h
    simp [World.frozen?, h]
  refine ⟨⟨by simp [World.cell?, h, c0], fr h⟩, ⟨fun x => ?_, fun x => fr (heap_set h x)⟩, fun x y => ?_, fun x y => fr (heap_set (heap_set h x) y)⟩
  · simp only [World.cell?, heap_set h x]
    rw [Array.getElem?_setIfInBounds_ne (by omega)]; exact c1
  · simp only [World.cell?, heap_set (heap_set h x) y]
    rw [Array.getElem?_setIfInBounds_ne (by omega), Array.getElem?_setIfInBounds_ne (by omega)]; exact c2
theorem set3_grown (w : World) (b i : Nat) (s1 : Bool) (p1 : Option Addr) (n1 c1 : Nat) (p2 : Option Addr) (n2 c2 : Nat) : w.grownBy (((w.setCell ⟨b, i * 3, none⟩ (.bool s1)).setCell ⟨b, i * 3 + 1, none⟩ (.slice p1 n1 c1)).setCell ⟨b, i * 3 + 2, none⟩ (.slice p2 n2 c2)) (some b) :=
  ⟨rfl, rfl, rfl, by simp [World.setCell], fun k _ hk => by
    rw [Below.heap_setCell _ _ _ _ (by intro e; exact hk (congrArg some e)), Below.heap_setCell _ _ _ _ (by intro e; exact hk (congrArg some e)), Below.heap_setCell _ _ _ _ (by intro e; exact hk (congrArg some e))]⟩
theorem QRw.put {w : World} {b n : Nat} {rs : Nat → Qt} (h : QRw w b n rs) {i : Nat} (hi : i < n) (s1 : Bool) (p1 : Option Addr) (n1 c1 : Nat) (p2 : Option Addr) (n2 c2 : Nat) :
    QRw (((w.setCell ⟨b, i * 3, none⟩ (.bool s1)).setCell ⟨b, i * 3 + 1, none⟩ (.slice p1 n1 c1)).setCell ⟨b, i * 3 + 2, none⟩ (.slice p2 n2 c2)) b n (updq rs i (s1, (p1, n1, c1), (p2, n2, c2))) := by
  obtain ⟨cur, h, hs, h2, h3⟩ := h
  refine ⟨put3 cur (i * 3) (s1, (p1, n1, c1), (p2, n2, c2)), ?_, by simpa [put3] using hs, fun k hk => ?_, ni_put3 h3 _ _⟩
  · exact heap_set (heap_set (heap_set h _) _) _
  · by_cases hki : k = i
    · subst hki
      rw [updq_self]
      exact C3.self cur (by omega) _
    · rw [updq_ne _ _ hki]
      exact (h2 k hk).far hki
theorem QRw.far {w : World} {b n g : Nat} {rs : Nat → Qt} (_h : QRw w b n rs) (i : Nat) (hne : g ≠ b) (s1 : Bool) (p1 : Option Addr) (n1 c1 : Nat) (p2 : Option Addr) (n2 c2 : Nat) : (((w.setCell ⟨b, i * 3, none⟩ (.bool s1)).setCell ⟨b, i * 3 + 1, none⟩ (.slice p1 n1 c1)).setCell ⟨b, i * 3 + 2, none⟩ (.slice p2 n2 c2)).heap[g]? = w.heap[g]? := by
  rw [Below.heap_setCell _ _ _ _ (by exact hne), Below.heap_setCell _ _ _ _ (by exact hne), Below.heap_setCell _ _ _ _ (by exact hne)]
theorem QRw.below {w0 w : World} {K b n : Nat} {rs : Nat → Qt} (_h : QRw w b n rs) (hb : Below K w0 w) (i : Nat) (hK : K ≤ b) (s1 : Bool) (p1 : Option Addr) (n1 c1 : Nat) (p2 : Option Addr) (n2 c2 : Nat) : Below K w0 (((w.setCell ⟨b, i * 3, none⟩ (.bool s1)).setCell ⟨b, i * 3 + 1, none⟩ (.slice p1 n1 c1)).setCell ⟨b, i * 3 + 2, none⟩ (.slice p2 n2 c2)) :=
  ((hb.setCell (p := ⟨b, i * 3, none⟩) hK _).setCell (p := ⟨b, i * 3 + 1, none⟩) hK _).setCell (p := ⟨b, i * 3 + 2, none⟩) hK _
theorem WhlR.put {w : World} {v : Value} {z : Int} {k b n : Nat} {rs : Nat → Qt} (h : WhlR w v z k) (hr : QRw w b n rs) (i : Nat) (s1 : Bool) (p1 : Option Addr) (n1 c1 : Nat) (p2 : Option Addr) (n2 c2 : Nat) : WhlR (((w.setCell ⟨b, i * 3, none⟩ (.bool s1)).setCell ⟨b, i * 3 + 1, none⟩ (.slice p1 n1 c1)).setCell ⟨b, i * 3 + 2, none⟩ (.slice p2 n2 c2)) v z k := h.grown hr.noint (set3_grown w b i s1 p1 n1 c1 p2 n2 c2)
theorem QF.put {w : World} {v : Value} {q : Rat} {b n : Nat} {rs : Nat → Qt} (h : QF w v q) (hr : QRw w b n rs) (i : Nat) (s1 : Bool) (p1 : Option Addr) (n1 c1 : Nat) (p2 : Option Addr) (n2 c2 : Nat) : QF (((w.setCell ⟨b, i * 3, none⟩ (.bool s1)).setCell ⟨b, i * 3 + 1, none⟩ (.slice p1 n1 c1)).setCell ⟨b, i * 3 + 2, none⟩ (.slice p2 n2 c2)) v q := h.moved fun _ _ _ hu => hu.put hr i s1 p1 n1 c1 p2 n2 c2
theorem QRw.pf {w : World} {b n c : Nat} {rs : Nat → Qt} {l : List Rat} (h : QRw w b n rs) (hl : l.length = n) (hn : n ≤ c) (hc : c ≤ maxLen) (hq : ∀ i, i < n → QF w (qag (rs i)) (co l i)) : PF w (.slice (some ⟨b, 0, none⟩) n c) l := by
  refine ⟨some ⟨b, 0, none⟩, c, by rw [hl], by omega, hc, fun i hi => ?_⟩
  obtain ⟨c0, c1, c2⟩ := h.cells (i := i) (by omega)
  exact ⟨b, _, _, _, _, _, _, _, rfl, h.lt, c0, c1, c2, hq i (by omega)⟩
theorem made3 {z : Array Value} (hz : z.size = 3) {n i k : Nat} (hi : i < n) (hk : k < 3) : (madeCells z (n * 3))[i * 3 + k]? = z[k]? := by
  have h : i * 3 + k < n * 3 := by omega
  have hm : (i * 3 + k) % 3 = k := by omega
  simp [madeCells, h, hz, hm, hk]
/-- 'make([]Q, n)'. -/
theorem wpList_make_qs (w : World) {ops : Array Oper} {rest : List Oper} {o : Oper} {a : Act} {Q : Exit → Act → World → Prop}
    (hg : o.guard = none) (l c : Operand) (t : TypeId) (hop : o.op = Op.makeSlice t l c) (h1 : Tryz.prog.underlying t = some (.slice 45))
    (n : Nat) (hl : a.eval l = .int .i64 n) (hc : a.eval c = .int .i64 n) (hb : n ≤ 1000000000000)
    (hK : ∀ w', QRw w' w.heap.size n (fun _ => Qz) → Below w.heap.size w w' → w'.heap.size = w.heap.size + 1 → wpList Tryz.prog ops Q rest (a.put o.dst (.slice (some ⟨w.heap.size, 0, none⟩) n n)) w') :
    wpList Tryz.prog ops Q (o :: rest) a w := by
  obtain ⟨i, hi, hz0, hz1, hz2⟩ := info_parts infoRQ
  refine wpList_plain hg fun K hK' => ?_
  have hr := run_make (P := Tryz.prog) w t _ i _ h1 hi hz0 .i64 .i64 (n : Int) (n : Int) (by omega) (by omega) (by rw [hz2]; omega) (by omega)
  simp only [Int.toNat_natCast] at hr
  unfold Oper.wp
  simp [execOp, hop, hl, hc, hr, Result.andThen]
  rw [hz1]
  have hcs : (Value.agg #[.bool false, .slice none 0 0, .slice none 0 0]).cells = #[.bool false, .slice none 0 0, .slice none 0 0] := by simp [Value.cells]
  rw [hcs]
  refine hK' _ _ (hK _ ⟨_, by show (w.heap.push _)[w.heap.size]? = _; simp; rfl, by simp [madeCells], fun j hj => ?_, fun u hu => ?_⟩ ((Below.refl _ _).alloc (Nat.le_refl _) _) (by simp))
  · refine ⟨?_, ?_, ?_⟩
    · exact made3 (k := 0) rfl hj (by decide)
    · exact made3 (k := 1) rfl hj (by decide)
    · exact made3 (k := 2) rfl hj (by decide)
  · simp only [madeCells, List.mem_map, Array.toList_map, Array.toList_range] at hu
    simp at hu
    obtain ⟨j, hj, rfl⟩ := hu
    have hm := Nat.mod_lt j (show 0 < 3 by omega)
    rcases (show j % 3 = 0 ∨ j % 3 = 1 ∨ j % 3 = 2 by omega) with h | h | h <;> rw [h]
    · exact NI.bool _
    · exact NI.slc _ _ _
    · exact NI.slc _ _ _

end Go.Proofs.YtdifiimaifmcpaaGreatDoor

/-
  THE REFERENCE: Moved.
-/
namespace Go.Proofs.YtdifiimaifmcpaaGreatDoor
open Go.RowKit
open Num4
open Num (dg isNat dval)
set_option linter.unusedVariables false
set_option maxRecDepth 100000
set_option linter.unusedSimpArgs false

def mvp : Nat → Nat
  | 0 => 1
  | j + 1 => mvp j + mvp j + 25 + 2
def mvs : Nat → Nat
  | 0 => 1
  | j + 1 => mvs j + (10 * (mvp j + 25 + 1) + 1) + 1
theorem mulp_len2 (l r : List Rat) : (mulp l r).length ≤ l.length + r.length - 1 := Nat.le_trans (trim_len _) (by simp [lof])
theorem addp_len2 (l r : List Rat) : (addp l r).length ≤ max l.length r.length := Nat.le_trans (trim_len _) (by simp [lof])
/-- So far. -/
def Mvd (l : List Rat) (a : Rat) (j : Nat) (lo lp : List Rat) : Prop :=
  Trm lo ∧ lo.length ≤ j + 1 ∧ lp.length ≤ j + 1 ∧ Sml lo (mvs j) ∧ Sml lp (mvp j) ∧ (∀ x, pv lo x = sumN (fun i => co l i * (x + a) ^ i) j) ∧ ∀ x, pv lp x = (x + a) ^ j
theorem Mvd.zero (l : List Rat) (a : Rat) : Mvd l a 0 [] [1] := by
  refine ⟨rfl, by simp, by simp, Sml.nil (by decide), Sml.one (Sm.int (z := 1) (by decide) (by decide)), fun x => rfl, fun x => ?_⟩
  show (1 : Rat) + x * 0 = _
  grind
theorem Mvd.next {l : List Rat} {a : Rat} {j : Nat} {lo lp : List Rat} (h : Mvd l a j lo lp) (hl : Sml l 25) (ha : Sm a 25) (hj : j ≤ 9) : Mvd l a (j + 1) (addp lo (mulp lp (trimQ [co l j]))) (mulp lp [a, 1]) := by
  obtain ⟨h1, h2, h3, h4, h5, h6, h7⟩ := h
  have hp : Sml (mulp lp (trimQ [co l j])) (10 * (mvp j + 25 + 1) + 1) := (h5.prod (Sml.one (hl.2 j)).trim).mono (by have := Nat.mul_le_mul_right (mvp j + 25 + 1) (show lp.length ≤ 10 by omega); omega)
  refine ⟨trm_addp _ _, ?_, ?_, h4.sum hp, h5.linp ha, fun x => ?_, fun x => ?_⟩
  · have e1 := addp_len2 lo (mulp lp (trimQ [co l j]))
    have e2 := mulp_len2 lp (trimQ [co l j])
    have e3 := trim_len [co l j]
    simp only [List.length_cons, List.length_nil] at e3
    omega
  · have e2 := mulp_len2 lp [a, 1]
    simp only [List.length_cons, List.length_nil] at e2
    omega
  · rw [pv_addp, pv_mulp, pv_trim, h6, h7, sumN_succ]
    show _ + (x + a) ^ j * (co l j + x * 0) = _
    grind
  · rw [pv_mulp, h7]
    show (x + a) ^ j * (a + x * (1 + x * 0)) = (x + a) ^ (j + 1)
    rw [Rat.pow_succ]
    grind
theorem Mvd.done {l : List Rat} {a : Rat} {lo lp : List Rat} (h : Mvd l a l.length lo lp) : lo = moved l a := by
  obtain ⟨h1, h2, h3, h4, h5, h6, h7⟩ := h
  exact trm_pv h1 (trm_moved l a) fun x => by rw [h6, pv_moved, pv_sum]
/-- Two in a block of their own. -/
theorem PF.two (w : World) {s : Bool} {p : Option Addr} {n c : Nat} {p' : Option Addr} {n' c' : Nat} {s2 : Bool} {p2 : Option Addr} {n2 c2 : Nat} {p2' : Option Addr} {n2' c2' : Nat} {q r : Rat}
    (h : QF w (.agg #[.bool s, .slice p n c, .slice p' n' c']) q) (h' : QF w (.agg #[.bool s2, .slice p2 n2 c2, .slice p2' n2' c2']) r) :
    PF (w.alloc (.cells #[.bool s, .slice p n c, .slice p' n' c', .bool s2, .slice p2 n2 c2, .slice p2' n2' c2'] 45)) (.slice (some ⟨w.heap.size, 0, none⟩) 2 2) [q, r] := by
  have hb := (Below.refl w.heap.size w).alloc (Nat.le_refl _) (.cells #[.bool s, .slice p n c, .slice p' n' c', .bool s2, .slice p2 n2 c2, .slice p2' n2' c2'] 45)
  refine ⟨some ⟨w.heap.size, 0, none⟩, 2, rfl, Nat.le_refl _, by decide, fun i hi => ?_⟩
  rcases (show i = 0 ∨ i = 1 by simp at hi; omega) with rfl | rfl
  · exact ⟨w.heap.size, s, p, n, c, p', n', c', rfl, by simp, by simp, by simp, by simp, (h.on hb).cast rfl⟩
  · exact ⟨w.heap.size, s2, p2, n2, c2, p2', n2', c2', rfl, by simp, by simp, by simp, by simp, (h'.on hb).cast rfl⟩
end Go.Proofs.YtdifiimaifmcpaaGreatDoor

/-
  THE REFERENCE: DivP.
-/
namespace Go.Proofs.YtdifiimaifmcpaaGreatDoor
open Go.RowKit
open Num4
open Num (dg isNat dval)
set_option linter.unusedVariables false
set_option maxRecDepth 100000
set_option linter.unusedSimpArgs false

/-- How many limbs after so many steps: what is left, what has come out. -/
def szc (m n k : Nat) : Nat := m + k * (n + 1)
def szo (m n : Nat) : Nat → Nat
  | 0 => 1
  | k + 1 => szo m n k + (szc m n k + n) + 1
theorem szc_le {m n k : Nat} (hk : k ≤ 9) (h : m + 9 * (n + 1) ≤ 3000000) : szc m n k ≤ 3000000 ∧ szc m n k ≤ m + 9 * (n + 1) ∧ n ≤ 333333 := by
  have := Nat.mul_le_mul_right (n + 1) hk
  unfold szc
  omega
theorem szo_le {m n : Nat} (h : m + 9 * (n + 1) ≤ 3000000) : ∀ k, k ≤ 9 → szo m n k ≤ 1 + k * 3333334
  | 0, _ => by unfold szo; omega
  | k + 1, hk => by
    have h1 := szo_le h k (by omega)
    have h2 := szc_le (k := k) (by omega) h
    unfold szo
    omega
/-- After so many steps. -/
def Dvd (p q : List Rat) (m n k : Nat) (cur out : List Rat) : Prop :=
  Trm cur ∧ Trm out ∧ cur.length + k ≤ p.length ∧ out.length ≤ 9 ∧ Cml cur (szc m n k) ∧ Sml out (szo m n k) ∧ (k = 0 ∨ k + q.length ≤ p.length + 1) ∧ ∀ x, pv p x = pv out x * pv q x + pv cur x
theorem Dvd.zero {p q : List Rat} {m n : Nat} (hp : Trm p) (hs : Cml p m) : Dvd p q m n 0 p [] :=
  ⟨hp, rfl, by omega, by simp, by unfold szc; rw [Nat.zero_mul]; exact hs, Sml.nil (Nat.le_refl 1), .inl rfl, fun x => by show _ = 0 * _ + _; grind⟩
theorem Dvd.next {p q cur out : List Rat} {m n k : Nat} (h : Dvd p q m n k cur out) (hl9 : p.length ≤ 9) (hq : Trm q) (hs : Cml q n) (h0 : q ≠ []) (hl : q.length ≤ cur.length) : Dvd p q m n (k + 1) (stepp cur q) (addp out (mon (cur.length - q.length) (top cur / top q))) := by
  obtain ⟨h1, h2, h3, h4, h5, h6, h8, h7⟩ := h
  have hq1 : 0 < q.length := List.length_pos_iff.2 h0
  have hls := stepp_less h1 hq h0 hl
  have hc : Sm (top cur / top q) (szc m n k + n) := (h5.sml.2 _).div (hs.sml.2 _)
  refine ⟨trm_stepp _ _, trm_addp _ _, by omega, ?_, (h5.step hs hq h0).mono (by unfold szc; rw [Nat.succ_mul]; omega), h6.sum (Sml.monom hc _), .inr (by omega), div_steps h1 hq h0 hl h7⟩
  have e := addp_len2 out (mon (cur.length - q.length) (top cur / top q))
  rw [len_mon] at e
  omega
set_option maxHeartbeats 4000000 in
theorem rdiv_p {w : World} {v u : Value} {p q : List Rat} {m n : Nat} (h : PF w v p) (h' : PF w u q) (hs : Cml p m) (hs' : Cml q n) (hmn : m + 9 * (n + 1) ≤ 3000000) (ht : Trm p) (ht' : Trm q) (h0 : q ≠ []) (hl : p.length ≤ 9) (hl' : q.length ≤ 9) :
    Calls Tryz.prog 22 #[v, u] w fun e w' => ∃ v1 v2 out cur k, e = .returned (.tuple #[v1, v2]) ∧ k ≤ 9 ∧ PF w' v1 out ∧ PF w' v2 cur ∧ Dvd p q m n k cur out ∧ cur.length < q.length ∧ Below w.heap.size w w' := by
  have HQ := hid h'
  have HSQ := hid hs'
  have HS := hid hs'.sml
  have HMN := hid hmn
  have HPL := hid hl
  have HT := hid ht'
  have H0 := hid h0
  have HD := hid (Dvd.zero (q := q) (n := n) ht hs)
  have HC := hid h
  have HO := hid (PF.nil w (a := none) (c := 0) (by decide))
  obtain ⟨aq, cq, rfl, hnq, hcq⟩ := h'.opened
  obtain ⟨ap, cp, rfl, _, _⟩ := h.opened
  obtain ⟨M, hM⟩ : ∃ M, q.length = M := ⟨_, rfl⟩
  have hM0 : 0 < M := by rw [← hM]; exact List.length_pos_iff.2 h0
  rw [hM] at hnq HQ hl' ⊢
  have HM := hid hM
  have HL := hid hl'
  unfold maxLen at hcq
  have B := hid (Below.refl w.heap.size w)
  clear h h' hs hs' hmn ht ht' h0 hM hl hl'
  go_enter Tryz.func22, Tryz.ntmps22
  go_wp2_with fail
  go_loopw [0, 6] (fun cv ov wr => ∃ (k : Nat) (cur out : List Rat), k ≤ 9 ∧ Hid (PF wr cv cur) ∧ Hid (PF wr ov out) ∧ Hid (Dvd p q m n k cur out) ∧ Hid (Below w.heap.size w wr)) (fun cv _ _ => match cv with | .slice _ m _ => m | _ => 0)
  case atStart => exact ⟨0, p, [], by omega, HC, HO, HD, B⟩
  case round =>
    clear HC HO HD B
    obtain ⟨k, cur, out, hk, HC, HO, HD, B⟩ := hrel
    rename World => w0
    obtain ⟨ac, cc, rfl, hnc, hcc⟩ := HC.out.opened
    obtain ⟨P, hP⟩ : ∃ P, cur.length = P := ⟨_, rfl⟩
    rw [hP] at hnc HC ⊢
    have HP := hid hP
    have hP9 : P + k ≤ 9 := by rw [← hP]; have := HD.out.2.2.1; have := HPL.out; omega
    unfold maxLen at hcc
    clear hP
    have HL9 := HL.out
    by_cases hge : M ≤ P
    · obtain ⟨L, hL⟩ : ∃ L : Nat, P - M + 1 = L := ⟨_, rfl⟩
      have hx1 : IntKind.i64.wrap ((P : Int) - (M : Int)) = (P : Int) - (M : Int) := IntWalk.i64_in _ (by omega)
      have hx2 : IntKind.i64.wrap ((P : Int) - (M : Int) + 1) = (P : Int) - (M : Int) + 1 := IntWalk.i64_in _ (by omega)
      have hx3 : (P : Int) - (M : Int) + 1 = (L : Int) := by omega
      have hge2 : (M : Int) ≤ (P : Int) := by omega
      have hL9 : L ≤ 9 := by omega
      have HLD := hid hL
      have HGE := hid hge
      clear hL hge
      go_wp2_with (refine wpList_make_qs _ rfl _ _ _ rfl Tryz.underlying24 L rfl rfl (by omega) ?_)
      intro w1 hrow hbm hsm
      have HQw := hid (HQ.out.on B.out)
      have QR0 := hid hrow
      have BG := hid hbm
      clear hx1 hx2 hx3 hrow hbm hsm
      go_wp2_with fail
      go_loopw [8] (fun i wi => ∃ (t : Nat) (rs : Nat → Qt), t ≤ L ∧ i = .int .i64 t ∧ Hid (QRw wi w0.heap.size L rs) ∧ Hid (∀ y, y < t → QF wi (qag (rs y)) 0) ∧ Hid (Below w0.heap.size w0 wi)) (fun i _ => L - (intOf i).toNat)
      case atStart => exact ⟨0, _, by omega, rfl, QR0, hid (fun y hy => by omega), BG⟩
      case round =>
        clear QR0 BG
        obtain ⟨t, rs, ht, rfl, QR0, HZ, BG⟩ := hrel
        by_cases htl : t < L
        · have htl2 : (t : Int) < (L : Int) := by omega
          go_wp2_with fail
          refine (rint_f 0 (by decide) (by decide) _).mono ?_
          rintro e w2 ⟨v2, rfl, hv2, hb⟩
          obtain ⟨s6, p6, n6, c6, p6', n6', c6', rfl⟩ := hv2.opened
          replace HZ : Hid (∀ y, y < t → QF w2 (qag (rs y)) 0) := hid (fun y hy => (HZ.out y hy).on hb)
          replace QR0 := hid (QR0.out.on hb)
          replace BG := hid (BG.out.trans (hb.mono BG.out.size))
          have HV := hid (hv2.cast (show ((0 : Int) : Rat) = 0 from rfl))
          clear hb hv2
          obtain ⟨⟨t1, t2⟩, ⟨t3, t4⟩, t5, t6⟩ := QR0.out.stores htl
          replace HZ : Hid (∀ y, y < t + 1 → QF _ (qag (updq rs t (s6, (p6, n6, c6), (p6', n6', c6')) y)) 0) := hid (fun y hy => by
            by_cases hyt : y = t
            · subst hyt
              rw [updq_self]
              exact HV.out.put QR0.out y s6 p6 n6 c6 p6' n6' c6'
            · rw [updq_ne _ _ hyt]
              exact (HZ.out y (by omega)).put QR0.out t s6 p6 n6 c6 p6' n6' c6')
          replace BG := hid (QR0.out.below BG.out t (Nat.le_refl _) s6 p6 n6 c6 p6' n6' c6')
          replace QR0 := hid (QR0.out.put htl s6 p6 n6 c6 p6' n6' c6')
          clear HV
          go_wp2_with fail
          go_roundw
          case rel => exact ⟨t + 1, _, by omega, by go_num, QR0, HZ, BG⟩
          case measure => simp [intOf]; omega
        · obtain rfl : t = L := by omega
          clear ht htl
          have hge := HGE.out
          have hld := HLD.out
          obtain ⟨P1, rfl⟩ : ∃ x, P = x + 1 := ⟨P - 1, by omega⟩
          obtain ⟨M1, rfl⟩ : ∃ x, M = x + 1 := ⟨M - 1, by omega⟩
          obtain ⟨L1, rfl⟩ : ∃ x, t = x + 1 := ⟨t - 1, by omega⟩
          have HLL := hid (show L1 = P1 - M1 by omega)
          clear hge hld
          obtain ⟨b1, s7, p7, n7, c7, p7', n7', c7', rfl, hb1, cc7, hq1⟩ := pf_at HC.out BG.out (i := P1) (by rw [HP.out]; omega)
          obtain ⟨b2, s8, p8, n8, c8, p8', n8', c8', rfl, hb2, cc8, hq2⟩ := pf_at HQw.out BG.out (i := M1) (by rw [HM.out]; omega)
          have HB1 := hid hb1
          have HB2 := hid hb2
          have HQ1 := hid (hq1.on (Below.drew (Below.refl _ _)))
          have HQ2 := hid (hq2.on (Below.drew (Below.refl _ _)))
          have HT1 := hid (show top cur = co cur P1 by unfold top; rw [HP.out]; rfl)
          have HT2 := hid (show top q = co q M1 by unfold top; rw [HM.out]; rfl)
          have HNZ := hid (show co q M1 ≠ 0 by rw [← HT2.out]; exact top_ne HT.out H0.out)
          clear hq1 hq2 hb1 hb2
          go_wp2_with fail
          replace HZ : Hid (∀ y, y < L1 + 1 → QF wr.drew (qag (rs y)) 0) := hid (fun y hy => (HZ.out y hy).on (Below.drew (Below.refl _ _)))
          replace QR0 := hid (show QRw wr.drew w0.heap.size (L1 + 1) rs from QR0.out)
          replace BG := hid (Below.drew BG.out)
          have haP1 : (0 : Int) ≤ (P1 : Int) := by omega
          have hbP1 : (P1 : Int) < (P1 : Int) + 1 := by omega
          have hcP1 : IntKind.i64.wrap (P1 : Int) = (P1 : Int) := IntWalk.i64_in _ (by omega)
          have hdP1 : IntKind.i64.wrap ((P1 : Int) + 1 - 1) = (P1 : Int) := by rw [show (P1 : Int) + 1 - 1 = (P1 : Int) by omega]; exact IntWalk.i64_in _ (by omega)
          have heP1 : (0 : Int) ≤ (P1 : Int) + 1 - 1 := by omega
          have hfP1 : (P1 : Int) + 1 - 1 < (P1 : Int) + 1 := by omega
          have hgP1 : ((P1 : Int) + 1 - 1).toNat = P1 := by omega
          have haM1 : (0 : Int) ≤ (M1 : Int) := by omega
          have hbM1 : (M1 : Int) < (M1 : Int) + 1 := by omega
          have hcM1 : IntKind.i64.wrap (M1 : Int) = (M1 : Int) := IntWalk.i64_in _ (by omega)
          have hdM1 : IntKind.i64.wrap ((M1 : Int) + 1 - 1) = (M1 : Int) := by rw [show (M1 : Int) + 1 - 1 = (M1 : Int) by omega]; exact IntWalk.i64_in _ (by omega)
          have heM1 : (0 : Int) ≤ (M1 : Int) + 1 - 1 := by omega
          have hfM1 : (M1 : Int) + 1 - 1 < (M1 : Int) + 1 := by omega
          have hgM1 : ((M1 : Int) + 1 - 1).toNat = M1 := by omega
          have haL1 : (0 : Int) ≤ (L1 : Int) := by omega
          have hbL1 : (L1 : Int) < (L1 : Int) + 1 := by omega
          have hcL1 : IntKind.i64.wrap (L1 : Int) = (L1 : Int) := IntWalk.i64_in _ (by omega)
          have hdL1 : IntKind.i64.wrap ((L1 : Int) + 1 - 1) = (L1 : Int) := by rw [show (L1 : Int) + 1 - 1 = (L1 : Int) by omega]; exact IntWalk.i64_in _ (by omega)
          have heL1 : (0 : Int) ≤ (L1 : Int) + 1 - 1 := by omega
          have hfL1 : (L1 : Int) + 1 - 1 < (L1 : Int) + 1 := by omega
          have hgL1 : ((L1 : Int) + 1 - 1).toNat = L1 := by omega
          obtain ⟨y0, y1, y2⟩ := cc7
          obtain ⟨z0, z1, z2⟩ := cc8
          replace y0 := (show wr.drew.cell? ⟨b1, P1 * 3, none⟩ = some (.bool s7) from y0)
          replace y1 := (show wr.drew.cell? ⟨b1, P1 * 3 + 1, none⟩ = some (.slice p7 n7 c7) from y1)
          replace y2 := (show wr.drew.cell? ⟨b1, P1 * 3 + 2, none⟩ = some (.slice p7' n7' c7') from y2)
          replace z0 := (show wr.drew.cell? ⟨b2, M1 * 3, none⟩ = some (.bool s8) from z0)
          replace z1 := (show wr.drew.cell? ⟨b2, M1 * 3 + 1, none⟩ = some (.slice p8 n8 c8) from z1)
          replace z2 := (show wr.drew.cell? ⟨b2, M1 * 3 + 2, none⟩ = some (.slice p8' n8' c8') from z2)
          have HDV := hid (rdiv_f HQ1.out HQ2.out (HD.out.2.2.2.2.1.sml.2 P1) (HS.out.2 M1) HNZ.out (by have := szc_le (k := k) (by omega) HMN.out; omega) (by have := szc_le (k := k) (by omega) HMN.out; omega))
          go_region_held3 (fun w' => w'.cell? ⟨b1, P1 * 3, none⟩ = some (.bool s7) ∧ w'.cell? ⟨b1, P1 * 3 + 1, none⟩ = some (.slice p7 n7 c7) ∧ w'.cell? ⟨b1, P1 * 3 + 2, none⟩ = some (.slice p7' n7' c7') ∧ w'.cell? ⟨b2, M1 * 3, none⟩ = some (.bool s8) ∧ w'.cell? ⟨b2, M1 * 3 + 1, none⟩ = some (.slice p8 n8 c8) ∧ w'.cell? ⟨b2, M1 * 3 + 2, none⟩ = some (.slice p8' n8' c8')) (go_keep) (first
            | (go_at_call 20; refine HDV.out.mono ?_; rintro e w5 ⟨v5, rfl, hv5, hb⟩; obtain ⟨s9, p9, n9, c9, p9', n9', c9', rfl⟩ := hv5.opened; replace y0 := (World.cell?_of_block (a := ⟨b1, P1 * 3, none⟩) (hb.block b1 (Nat.lt_of_lt_of_le HB1.out BG.out.size))).trans y0; replace y1 := (World.cell?_of_block (a := ⟨b1, P1 * 3 + 1, none⟩) (hb.block b1 (Nat.lt_of_lt_of_le HB1.out BG.out.size))).trans y1; replace y2 := (World.cell?_of_block (a := ⟨b1, P1 * 3 + 2, none⟩) (hb.block b1 (Nat.lt_of_lt_of_le HB1.out BG.out.size))).trans y2; replace z0 := (World.cell?_of_block (a := ⟨b2, M1 * 3, none⟩) (hb.block b2 (Nat.lt_of_lt_of_le HB2.out BG.out.size))).trans z0; replace z1 := (World.cell?_of_block (a := ⟨b2, M1 * 3 + 1, none⟩) (hb.block b2 (Nat.lt_of_lt_of_le HB2.out BG.out.size))).trans z1; replace z2 := (World.cell?_of_block (a := ⟨b2, M1 * 3 + 2, none⟩) (hb.block b2 (Nat.lt_of_lt_of_le HB2.out BG.out.size))).trans z2; replace HZ : Hid (∀ y, y < L1 + 1 → QF w5 (qag (rs y)) 0) := hid (fun y hy => (HZ.out y hy).on hb); replace QR0 := hid (QR0.out.on hb); replace BG := hid (BG.out.trans (hb.mono BG.out.size)); have HV := hid hv5; clear hv5 hb; obtain ⟨⟨t1, t2⟩, ⟨t3, t4⟩, t5, t6⟩ := QR0.out.stores (Nat.lt_succ_self L1); have y0' := (World.cell?_of_block (a := ⟨b1, P1 * 3, none⟩) (QR0.out.far (g := b1) L1 (by have := HB1.out; omega) s9 p9 n9 c9 p9' n9' c9')).trans y0; have y1' := (World.cell?_of_block (a := ⟨b1, P1 * 3 + 1, none⟩) (QR0.out.far (g := b1) L1 (by have := HB1.out; omega) s9 p9 n9 c9 p9' n9' c9')).trans y1; have y2' := (World.cell?_of_block (a := ⟨b1, P1 * 3 + 2, none⟩) (QR0.out.far (g := b1) L1 (by have := HB1.out; omega) s9 p9 n9 c9 p9' n9' c9')).trans y2; have z0' := (World.cell?_of_block (a := ⟨b2, M1 * 3, none⟩) (QR0.out.far (g := b2) L1 (by have := HB2.out; omega) s9 p9 n9 c9 p9' n9' c9')).trans z0; have z1' := (World.cell?_of_block (a := ⟨b2, M1 * 3 + 1, none⟩) (QR0.out.far (g := b2) L1 (by have := HB2.out; omega) s9 p9 n9 c9 p9' n9' c9')).trans z1; have z2' := (World.cell?_of_block (a := ⟨b2, M1 * 3 + 2, none⟩) (QR0.out.far (g := b2) L1 (by have := HB2.out; omega) s9 p9 n9 c9 p9' n9' c9')).trans z2)
            | fail)
          replace HZ : Hid (∀ y, y < L1 + 1 → QF _ (qag (updq rs L1 (s9, (p9, n9, c9), (p9', n9', c9')) y)) (co (mon L1 (top cur / top q)) y)) := hid (fun y hy => by
            rw [co_mon]
            by_cases hyt : y = L1
            · subst hyt
              rw [updq_self, if_pos rfl, HT1.out, HT2.out]
              exact HV.out.put QR0.out y s9 p9 n9 c9 p9' n9' c9'
            · rw [updq_ne _ _ hyt, if_neg hyt]
              exact (HZ.out y hy).put QR0.out L1 s9 p9 n9 c9 p9' n9' c9')
          replace BG := hid (QR0.out.below BG.out L1 (Nat.le_refl _) s9 p9 n9 c9 p9' n9' c9')
          replace QR0 := hid (QR0.out.put (Nat.lt_succ_self L1) s9 p9 n9 c9 p9' n9' c9')
          have HPT := hid (QR0.out.pf (c := L1 + 1) (len_mon L1 (top cur / top q)) (Nat.le_refl _) (by unfold maxLen; omega) HZ.out)
          replace HC := hid (HC.out.on BG.out)
          replace HO := hid (HO.out.on BG.out)
          replace HQw := hid (HQw.out.on BG.out)
          replace B := bb B BG.out
          clear QR0 HZ HV BG y0 y1 y2 z0 z1 z2 y0' y1' y2' z0' z1' z2' t1 t2 t3 t4 t5 t6
          have HSC := hid (show Sm (top cur / top q) (szc m n k + n) from (HD.out.2.2.2.2.1.sml.2 _).div (HS.out.2 _))
          have HF := hid (And.intro (szc_le hk HMN.out) (szo_le HMN.out k hk))
          have HE1 := hid (show ((-1 : Int) : Rat) = -1 by decide +kernel)
          have HLM := hid (show (mulp (mon L1 (top cur / top q)) q).length ≤ 20 from Nat.le_trans (mulp_len2 _ _) (by rw [len_mon, HM.out]; omega))
          go_wp2_with fail
          refine (radd_p HO.out HPT.out HD.out.2.2.2.2.2.1 (Sml.monom HSC.out L1) (by have := HF.out; omega) (by have := HD.out.2.2.2.1; omega) (by rw [len_mon]; omega)).mono ?_
          rintro e w6 ⟨v6, rfl, hv6, hb⟩
          replace HO := hid hv6
          replace HPT := hid (HPT.out.on hb)
          replace HC := hid (HC.out.on hb)
          replace HQw := hid (HQw.out.on hb)
          replace B := bb B hb
          clear hv6 hb
          go_wp2_with fail
          refine (rmul_p HPT.out HQw.out (Sml.monom HSC.out L1) HS.out (by have := HF.out; omega) (by rw [len_mon]; omega) (by rw [HM.out]; omega)).mono ?_
          rintro e w7 ⟨v7, rfl, hv7, hb⟩
          have H7 := hid hv7
          replace HO := hid (HO.out.on hb)
          replace HC := hid (HC.out.on hb)
          replace B := bb B hb
          clear hv7 hb HQw HPT
          go_wp2_with fail
          refine (rint_f (-1) (by decide) (by decide) _).mono ?_
          rintro e w8 ⟨v8, rfl, hv8, hb⟩
          have H8 := hid (hv8.cast HE1.out)
          replace H7 := hid (H7.out.on hb)
          replace HO := hid (HO.out.on hb)
          replace HC := hid (HC.out.on hb)
          replace B := bb B hb
          clear hv8 hb
          go_wp2_with fail
          refine (rscale_p H7.out H8.out (Sml.monp HSC.out HS.out L1) (HE1.out ▸ (Sm.int (z := -1) (m := 1) (by decide) (by decide))) (by have := HF.out; omega) (by have := HLM.out; omega)).mono ?_
          rintro e w9 ⟨v9, rfl, hv9, hb⟩
          have H9 := hid hv9
          replace HO := hid (HO.out.on hb)
          replace HC := hid (HC.out.on hb)
          replace B := bb B hb
          clear hv9 hb H7 H8
          go_wp2_with fail
          refine (radd_p HC.out H9.out HD.out.2.2.2.2.1.sml (((Sml.monp HSC.out HS.out L1).prod (Sml.one (HE1.out ▸ (Sm.int (z := -1) (m := 1) (by decide) (by decide)))).trim).mono (n := 20 * (szc m n k + n + n + 1 + 1) + 1) (by have := Nat.mul_le_mul_right (szc m n k + n + n + 1 + 1) HLM.out; omega)) (by have := HF.out; omega) (by rw [HP.out]; omega) (Nat.le_trans (mulp_len2 _ _) (by have := HLM.out; have := trim_len [(-1 : Rat)]; simp only [List.length_cons, List.length_nil] at this; omega))).mono ?_
          rintro e w10 ⟨v10, rfl, hv10, hb⟩
          have HST := hid (show addp cur (mulp (mulp (mon L1 (top cur / top q)) q) (trimQ [-1])) = stepp cur q by unfold stepp; rw [HP.out, HM.out, HLL.out, Nat.add_sub_add_right])
          rw [HST.out] at hv10
          have HDN := hid (HD.out.next HPL.out HT.out HSQ.out H0.out (by rw [HP.out, HM.out]; exact HGE.out))
          have HLS := hid (stepp_less HD.out.1 HT.out H0.out (by rw [HP.out, HM.out]; exact HGE.out))
          rw [HP.out, HM.out, Nat.add_sub_add_right, ← HLL.out] at HDN
          obtain ⟨a10, c10, rfl, _⟩ := hv10.opened
          replace HC := hid hv10
          replace HO := hid (HO.out.on hb)
          replace B := bb B hb
          clear hv10 hb H9
          go_wp2_with fail
          go_roundw
          case rel => exact ⟨k + 1, _, _, by omega, HC, HO, HDN, B⟩
          case measure => have := HLS.out; rw [HP.out] at this; simp only; omega
    · have hge2 : ¬ (M : Int) ≤ (P : Int) := by omega
      go_wp2_with fail
      go_ret2
      exact ⟨_, _, rfl, out, cur, k, hk, HO.out, HC.out, HD.out, by rw [HP.out]; omega, B.out⟩

end Go.Proofs.YtdifiimaifmcpaaGreatDoor

/-
  THE REFERENCE: GcdP.
-/
namespace Go.Proofs.YtdifiimaifmcpaaGreatDoor
open Go.RowKit
open Num4
open Num (dg isNat dval)
set_option linter.unusedVariables false
set_option maxRecDepth 100000
set_option linter.unusedSimpArgs false

theorem pfo {w w' : World} {v : Value} {l : List Rat} (h : Hid (PF w v l)) (hb : Below w.heap.size w w') : Hid (PF w' v l) := hid (h.out.on hb)
set_option maxHeartbeats 4000000 in
theorem rgcd_p {w : World} {v u : Value} {lp lq : List Rat} {m s : Nat} (h : PF w v lp) (h' : PF w u lq) (hst : Rst m s lp lq lp lq) (hms : (s = 10 ∧ m ≤ 227) ∨ (s = 9 ∧ m ≤ 228)) :
    Calls Tryz.prog 14 #[v, u] w fun e w' => ∃ v', e = .returned v' ∧ PF w' v' (gcdp lp lq) ∧ Below w.heap.size w w' := by
  have HP := hid h
  have HQ := hid h'
  have HST := hid hst
  have HMS := hid hms
  have B := hid (Below.refl w.heap.size w)
  clear h h' hst hms
  go_enter Tryz.func14, Tryz.ntmps14
  go_wp2_with fail
  go_loopw [0, 1] (fun x y wr => ∃ (p q : List Rat), Hid (Rst m s lp lq p q) ∧ Hid (PF wr x p) ∧ Hid (PF wr y q) ∧ Hid (Below w.heap.size w wr)) (fun x y _ => sln y)
  case atStart => exact ⟨lp, lq, HST, HP, HQ, B⟩
  case round =>
    clear HP HQ HST B
    obtain ⟨p, q, HST, HP, HQ, B⟩ := hrel
    obtain ⟨a1, c1, rfl, h11, h12⟩ := HP.out.opened
    obtain ⟨a2, c2, rfl, h21, h22⟩ := HQ.out.opened
    unfold maxLen at h12 h22
    by_cases hq0 : q = []
    · subst hq0
      obtain ⟨a, hca, ham⟩ := HST.out.2.1.top HMS.out
      have H1 := hid (rmonic_p HP.out HST.out.1.1 hca (by omega) HST.out.1.2.2.1)
      have E := hid (HST.out.2.2.trans (gcdp_end HST.out.1.1))
      clear hca ham
      go_wp2_with fail
      refine H1.out.mono ?_
      rintro e w1 ⟨v1, rfl, hp, hb⟩
      replace B := bb B hb
      have P1 := hid hp
      clear hp hb
      go_wp2_with fail
      go_ret
      exact ⟨_, rfl, by rw [E.out]; exact P1.out, B.out⟩
    · obtain ⟨d, hdl⟩ : ∃ d, q.length = d + 1 := ⟨q.length - 1, by have := List.length_pos_iff.2 hq0; omega⟩
      obtain ⟨a, b, hca, hcb, hab, hky, hnx⟩ := HST.out.2.1.next HMS.out hq0 HST.out.1.2.2.1
      have H1 := hid (rdiv_p HP.out HQ.out hca hcb hab HST.out.1.1 HST.out.1.2.1 hq0 HST.out.1.2.2.1 HST.out.1.2.2.2)
      have HNX := hid hnx
      have HDL := hid hdl
      have HQ0 := hid hq0
      have HKY := hid hky
      rw [hdl] at HQ h21 H1
      rw [hdl]
      clear hca hcb hab hky hnx hdl hq0
      go_wp2_with fail
      refine H1.out.mono ?_
      rintro e w1 ⟨v1, v2, out, cur, k, rfl, hk, hp1, hp2, hdv, hcl, hb⟩
      replace HQ := pfo HQ hb
      replace B := bb B hb
      have P2 := hid hp2
      have HDV := hid hdv
      have HCL := hid (show cur.length < q.length by have := HDL.out; omega)
      have HC9 := hid (show cur.length ≤ 9 by have := HST.out.1.2.2.2; have := HCL.out; omega)
      have HSZ : Hid (a + k * (b + 1) ≤ 1000000) := hid (HKY.out k hdv.2.2.2.2.2.2.1)
      clear hb hp1 hp2 hdv hcl hk H1
      obtain ⟨a3, c3, rfl, h31, h32⟩ := P2.out.opened
      have H2 := hid (rmonic_p P2.out HDV.out.1 (HDV.out.2.2.2.2.1) (by unfold szc; have := HSZ.out; omega) HC9.out)
      go_wp2_with fail
      refine H2.out.mono ?_
      rintro e w2 ⟨v3, rfl, hp, hb⟩
      replace HQ := pfo HQ hb
      replace B := bb B hb
      have P3 := hid hp
      clear hp hb H2
      have HN : Hid (Rst m s lp lq q (mnc cur)) := hid (HST.out.next HQ0.out HDV.out.1 HCL.out HDV.out.2.2.2.2.2.2.2 (HNX.out (mnc cur) k (by
        by_cases h : cur = []
        · rw [h, mnc_nil]; have := HDL.out; simp; omega
        · rw [mnc_len HDV.out.1 h]; exact HCL.out) HDV.out.2.2.2.2.2.2.1 (by
        have h5 : Cml cur (a + k * (b + 1)) := HDV.out.2.2.2.2.1
        by_cases h : cur = []
        · rw [h, mnc_nil, ← h]; exact h5
        · exact h5.mnc HDV.out.1 h)))
      have HLN := hid (show (mnc cur).length < d + 1 by
        have := HCL.out
        have := HDL.out
        by_cases h : cur = []
        · rw [h, mnc_nil]; simp
        · rw [mnc_len HDV.out.1 h]; omega)
      obtain ⟨a4, c4, rfl, h41, h42⟩ := P3.out.opened
      go_wp2_with fail
      go_roundw
      case rel => exact ⟨q, mnc cur, HN, HQ, P3, B⟩
      case measure => have := HLN.out; simp [sln]; omega

end Go.Proofs.YtdifiimaifmcpaaGreatDoor

/-
  THE REFERENCE: append, as it runs, at a step of a drawn region.
-/
namespace Go.Proofs.YtdifiimaifmcpaaGreatDoor
open Go.RowKit
open Num4
open Num (dg isNat dval)
set_option linter.unusedVariables false
set_option maxRecDepth 100000
set_option linter.unusedSimpArgs false

/-- 'append(out, q)', as it runs. -/
theorem append_p_run {w : World} (ty : TypeId) (K : Nat) (v : Value) (l : List Rat) (hown : OwnP w K v l) (hK : K ≤ w.heap.size) (hl : l.length ≤ 1000) (ad c : Nat)
    {s1 : Bool} {p1 : Option Addr} {n1 c1 : Nat} {p2 : Option Addr} {n2 c2 : Nat} {q : Rat}
    (q0 : w.cell? ⟨ad, 0, none⟩ = some (.bool s1)) (q1 : w.cell? ⟨ad, 1, none⟩ = some (.slice p1 n1 c1)) (q2 : w.cell? ⟨ad, 2, none⟩ = some (.slice p2 n2 c2)) (hq : QF w (.agg #[.bool s1, .slice p1 n1 c1, .slice p2 n2 c2]) q)
    {w0 : World} {K0 : Nat} (hK0 : K0 ≤ K) (hB : Below K0 w0 w) :
    ∃ v' w', (Builtin.append_ #[24, 24] ty #[v, .slice (some ⟨ad, 0, none⟩) 1 c]).run Tryz.prog w = .ok v' w' ∧ OwnP w' K v' (l ++ [q]) ∧ Below K0 w0 w' := by
  obtain ⟨i, hi, hz0, hz1, hz2⟩ := info_parts infoRQ
  have hO := hown
  obtain ⟨vs, h0, h1, h2, h3⟩ := hown
  obtain ⟨v', w', hr, g1, g2, g3⟩ := append_ni (P := Tryz.prog) w K 24 ty 45 i (.agg #[.bool false, .slice none 0 0, .slice none 0 0]) 3 56 Tryz.underlying24 hi hz0 hz1 hz2 rfl (by decide) v vs.length _ h1 h2
    (by intro u hu; simp [Value.cells] at hu; rcases hu with rfl | rfl; exact NI.bool _; exact NI.slc _ _ _) ⟨ad, 0, none⟩ 1 c [.bool s1, .slice p1 n1 c1, .slice p2 n2 c2] rfl
    (by
      intro j u hj
      match j, hj with
      | 0, hj => simp at hj; subst hj; simpa [Addr.add] using q0
      | 1, hj => simp at hj; subst hj; simpa [Addr.add] using q1
      | 2, hj => simp at hj; subst hj; simpa [Addr.add] using q2)
    (by intro u hu; simp at hu; rcases hu with rfl | rfl | rfl <;> rfl)
    (by intro u hu; simp at hu; rcases hu with rfl | rfl | rfl; exact NI.bool _; exact NI.slc _ _ _; exact NI.slc _ _ _)
    (by unfold maxLen; omega) (by omega) hK
  have hwr : ∀ {u z k}, WhlR w u z k → WhlR w' u z k := fun hu => hu.ownp hO g2
  refine ⟨v', w', hr, ⟨vs ++ [(s1, (p1, n1, c1), (p2, n2, c2))], by simp [h0], ?_, g3, fun m hm => ?_⟩, hB.grown g2 (by omega) fun g hg => Nat.le_trans hK0 (hO.lt hg).1⟩
  · rw [List.map_append, List.flatten_append, List.length_append]
    exact g1
  · rw [qrat_snoc, co_snoc, h0]
    rw [List.length_append] at hm
    by_cases hlt : m < l.length
    · rw [if_pos hlt, if_pos hlt]
      exact (h3 m hlt).moved (fun v z k hu => hwr hu)
    · obtain rfl : m = l.length := by simp at hm; omega
      rw [if_neg hlt, if_pos rfl, if_neg hlt, if_pos rfl]
      exact hq.moved (fun v z k hu => hwr hu)
/-- At a step of a region that draws. -/
theorem step_append_run {P : Program} {ops : Array Oper} {o : Oper} {a : Act} {w w' : World} {K : Act → World → Prop} {Q : Exit → Act → World → Prop} {E : Prop} (hgd : o.guard = none) (s x : Operand) (t : TypeId)
    (ho : o.op = .call { callee := .builtin .append, args := #[s, x], argTypes := #[t, t] }) (v u r : Value) (hs : a.eval s = v) (hx : a.eval x = u)
    (hr : (Builtin.append_ #[t, t] o.type #[v, u]).run P w = .ok r w') (h : K (a.put o.dst r) w') : if Region.wanted o (yielded ops a.tmps) = true then Oper.wp P o a w K Q else E := by
  have hw : Region.wanted o (yielded ops a.tmps) = true := by simp [Region.wanted, hgd]
  rw [if_pos hw]
  unfold Oper.wp execOp
  simp only [ho, resolve, invoke, builtin, Sem.run_bind, Sem.run_pure, Result.andThen_ok, List.map_toArray, List.map_cons, List.map_nil, hs, hx, hr]
  exact h

end Go.Proofs.YtdifiimaifmcpaaGreatDoor

/-
  THE REFERENCE: Slope.
-/
namespace Go.Proofs.YtdifiimaifmcpaaGreatDoor
open Go.RowKit
open Num4
open Num (dg isNat dval)
set_option linter.unusedVariables false
set_option maxRecDepth 100000
set_option linter.unusedSimpArgs false

set_option maxHeartbeats 4000000 in
theorem rslope_p {w : World} {v : Value} {l : List Rat} {m : Nat} (h : PF w v l) (hs : Sml l m) (hm : m + 1 ≤ 1073741824) (hl : l.length ≤ 100) :
    Calls Tryz.prog 23 #[v] w fun e w' => ∃ v', e = .returned v' ∧ PF w' v' (slope l) ∧ Below w.heap.size w w' := by
  have HP := hid h
  have HS := hid hs
  have HM := hid hm
  obtain ⟨a, c, rfl, hn, hc⟩ := h.opened
  obtain ⟨N, hN⟩ : ∃ N, l.length = N := ⟨_, rfl⟩
  rw [hN] at hn HP hl ⊢
  have HN := hid hN
  have HL := hid hl
  unfold maxLen at hc
  have HSN : Hid (∀ i : Nat, i ≤ 100 → Sm (((i : Nat) : Int) : Rat) 1) := hid (fun i hi => Sm.int (by show i < 10000 ^ 1; omega) (by decide))
  have HSI : Hid (∀ i : Nat, i < N - 1 → Sm (co l (i + 1) * ((i : Rat) + 1)) (m + 1)) := hid (fun i hi => by
    have h1 := (HS.out.2 (i + 1)).mul (HSN.out (i + 1) (by have := HL.out; omega))
    rw [show ((((i + 1 : Nat) : Int)) : Rat) = (i : Rat) + 1 by push_cast; rfl] at h1
    exact h1)
  have HSM : Hid (Sml (lof (N - 1) fun i => co l (i + 1) * ((i : Rat) + 1)) (m + 1)) := hid (Sml.lof (by omega) fun i hi => HSI.out i hi)
  have B := hid (Below.refl w.heap.size w)
  clear h hs hm hN hl
  go_enter Tryz.func23, Tryz.ntmps23
  go_wp2_with fail
  go_loopw [4, 3] (fun i zv wr => ∃ j : Nat, j ≤ N - 1 ∧ i = .int .i64 ((j : Int) + 1) ∧ Hid (OwnP wr w.heap.size zv (lof j fun i => co l (i + 1) * ((i : Rat) + 1))) ∧ Hid (Below w.heap.size w wr)) (fun i _ _ => N - (intOf i).toNat)
  case atStart => exact ⟨0, by omega, rfl, hid (OwnP.nil _ _), B⟩
  case round =>
    clear B
    obtain ⟨j, hj, rfl, HO, B⟩ := hrel
    by_cases hlt : j + 1 < N
    · obtain ⟨b1, s7, p7, n7, c7, p7', n7', c7', rfl, hb1, cc, hq1⟩ := pf_at HP.out B.out (i := j + 1) (by rw [HN.out]; exact hlt)
      have hlt2 : (j : Int) + 1 < (N : Int) := by omega
      have hx1 : (0 : Int) ≤ (j : Int) + 1 := by omega
      have hx3 : ((j : Int) + 1).toNat = j + 1 := by omega
      have HB1 := hid hb1
      have HQ1 := hid (hq1.on (Below.drew (Below.refl _ _)))
      clear hq1 hb1
      go_wp2_with fail
      have LS := hid B.out.size
      replace HO := hid (HO.out.on (Below.drew (Below.refl _ _)))
      replace B := hid (Below.drew B.out)
      obtain ⟨y0, y1, y2⟩ := cc
      replace y0 := (show wr.drew.cell? ⟨b1, (j + 1) * 3, none⟩ = some (.bool s7) from y0)
      replace y1 := (show wr.drew.cell? ⟨b1, (j + 1) * 3 + 1, none⟩ = some (.slice p7 n7 c7) from y1)
      replace y2 := (show wr.drew.cell? ⟨b1, (j + 1) * 3 + 2, none⟩ = some (.slice p7' n7' c7') from y2)
      have hll : (lof j fun i => co l (i + 1) * ((i : Rat) + 1)).length ≤ 1000 := by rw [lof_len]; have := HL.out; omega
      have Y0 := hid y0
      have Y1 := hid y1
      have Y2 := hid y2
      have BW := B
      go_region_held3 (fun w' => w'.cell? ⟨b1, (j + 1) * 3, none⟩ = some (.bool s7) ∧ w'.cell? ⟨b1, (j + 1) * 3 + 1, none⟩ = some (.slice p7 n7 c7) ∧ w'.cell? ⟨b1, (j + 1) * 3 + 2, none⟩ = some (.slice p7' n7' c7')) (go_keep) (first
        | (have hm := mk1; clear hm; (obtain ⟨v', wa, hr, hown, hB2⟩ := append_p_run 24 w.heap.size _ (lof j fun i => co l (i + 1) * ((i : Rat) + 1)) HO.out hKK hll w5.heap.size 1 cd0 cd1 cd2 HV.out (Nat.le_refl _) B.out); refine step_append_run (by rfl) _ _ _ (by rfl) _ _ _ (by rfl) (by rfl) hr ?_; replace y0 := (hB2.cell (p := ⟨b1, (j + 1) * 3, none⟩) HB1.out).trans ((BW.out.cell (p := ⟨b1, (j + 1) * 3, none⟩) HB1.out).symm.trans Y0.out); replace y1 := (hB2.cell (p := ⟨b1, (j + 1) * 3 + 1, none⟩) HB1.out).trans ((BW.out.cell (p := ⟨b1, (j + 1) * 3 + 1, none⟩) HB1.out).symm.trans Y1.out); replace y2 := (hB2.cell (p := ⟨b1, (j + 1) * 3 + 2, none⟩) HB1.out).trans ((BW.out.cell (p := ⟨b1, (j + 1) * 3 + 2, none⟩) HB1.out).symm.trans Y2.out))
        | (have hm := mk0; clear hm; go_at_call 36; refine (rmul_f HQ1.out HV1.out (HS.out.2 (j + 1)) (HSN.out (j + 1) (by have := HL.out; omega)) (by have := HM.out; omega) (by decide)).mono ?_; rintro e w5 ⟨v5, rfl, hv5, hb⟩; obtain ⟨s5, p5, n5, c5, p5', n5', c5', rfl⟩ := hv5.opened; replace y0 := (World.cell?_of_block (a := ⟨b1, (j + 1) * 3, none⟩) (hb.block b1 (Nat.lt_of_lt_of_le HB1.out LS.out))).trans y0; replace y1 := (World.cell?_of_block (a := ⟨b1, (j + 1) * 3 + 1, none⟩) (hb.block b1 (Nat.lt_of_lt_of_le HB1.out LS.out))).trans y1; replace y2 := (World.cell?_of_block (a := ⟨b1, (j + 1) * 3 + 2, none⟩) (hb.block b1 (Nat.lt_of_lt_of_le HB1.out LS.out))).trans y2; replace HO := hid (HO.out.on hb); replace B := bb B hb; have HV := hid hv5; clear hv5 hb; have hb3 := (Below.refl _ _).alloc (Nat.le_refl w5.heap.size) (.cells #[.bool s5, .slice p5 n5 c5, .slice p5' n5' c5'] 45); have XR := hid (Qbx.new w5 s5 p5 n5 c5 p5' n5' c5'); replace HO := hid (HO.out.on hb3); replace HV := hid (HV.out.on hb3); replace B := bb B hb3; clear hb3; obtain ⟨cd0, cd1, cd2⟩ := XR.out.cells; have hKK : w.heap.size ≤ (w5.alloc (.cells #[.bool s5, .slice p5 n5 c5, .slice p5' n5' c5'] 45)).heap.size := B.out.size; have mk1 := hid True.intro)
        | (go_at_call 21; refine (rint_f ((j : Int) + 1) (by omega) (by have := HL.out; omega) _).mono ?_; rintro e w4 ⟨v4, rfl, hv4, hb⟩; replace y0 := (World.cell?_of_block (a := ⟨b1, (j + 1) * 3, none⟩) (hb.block b1 (Nat.lt_of_lt_of_le HB1.out LS.out))).trans y0; replace y1 := (World.cell?_of_block (a := ⟨b1, (j + 1) * 3 + 1, none⟩) (hb.block b1 (Nat.lt_of_lt_of_le HB1.out LS.out))).trans y1; replace y2 := (World.cell?_of_block (a := ⟨b1, (j + 1) * 3 + 2, none⟩) (hb.block b1 (Nat.lt_of_lt_of_le HB1.out LS.out))).trans y2; replace HQ1 := hid (HQ1.out.on hb); replace HO := hid (HO.out.on hb); replace B := bb B hb; replace LS := hid B.out.size; have HV1 := hid (QF.cast hv4 (show ((((j : Int) + 1 : Int)) : Rat) = ((((j + 1 : Nat) : Int)) : Rat) from rfl)); clear hv4 hb; have mk0 := hid True.intro)
        | fail)
      replace HO := hid (show OwnP wa w.heap.size v' (lof (j + 1) fun i => co l (i + 1) * ((i : Rat) + 1)) from by
        have h := hown
        rw [show ((((j + 1 : Nat) : Int)) : Rat) = (j : Rat) + 1 by push_cast; rfl] at h
        exact lof_succ (fun i => co l (i + 1) * ((i : Rat) + 1)) j ▸ h)
      replace B := hid hB2
      clear hown hB2 hKK hll cd0 cd1 cd2 HV XR y0 y1 y2 Y0 Y1 Y2 hr HQ1 HV1
      go_wp2_with fail
      go_roundw
      case rel => exact ⟨j + 1, by omega, by go_num, HO, B⟩
      case measure => simp [intOf]; omega
    · have hlt2 : ¬ (j : Int) + 1 < (N : Int) := by omega
      obtain ⟨J, hJ⟩ : ∃ J : Nat, N - 1 = J := ⟨_, rfl⟩
      obtain rfl : j = J := by omega
      have HJ := hid hJ
      clear hj hlt hJ
      go_wp2_with fail
      refine (rtrim_p HO.out.pf (HJ.out ▸ HSM.out) HM.out).mono ?_
      rintro e w1 ⟨v1, rfl, hv1, hb1⟩
      replace B := bb B hb1
      have HV1 := hid hv1
      clear hb1 hv1
      go_wp2_with fail
      go_ret
      refine ⟨_, rfl, ?_, B.out⟩
      unfold slope
      rw [HN.out, HJ.out]
      exact HV1.out

end Go.Proofs.YtdifiimaifmcpaaGreatDoor

/-
  THE REFERENCE: FreeP.
-/
namespace Go.Proofs.YtdifiimaifmcpaaGreatDoor
open Go.RowKit
open Num4
open Num (dg isNat dval)
set_option linter.unusedVariables false
set_option maxRecDepth 100000
set_option linter.unusedSimpArgs false

set_option maxHeartbeats 2000000 in
theorem rfree_p {w : World} {v : Value} {l : List Rat} (h : PF w v l) (ht : Trm l) (hs : Cml l 227) (hl : l.length ≤ 9) (h0 : l ≠ []) :
    Calls Tryz.prog 8 #[v] w fun e w' => ∃ v', e = .returned v' ∧ PF w' v' (freep l) ∧ Below w.heap.size w w' := by
  obtain ⟨hc2, hn2⟩ := cml_slope2 hs hl
  obtain ⟨hc1, hn1⟩ := cml_mnc2 ht hs hl
  obtain ⟨hc3, hn3⟩ := cml_gcdp2 ht (trm_slope l) (hs.mono (by omega)) hc2 hl hn2
  have hls : (slope l).length < l.length := by
    have h1 := List.length_pos_iff.2 h0
    have h2 : (slope l).length ≤ l.length - 1 := Nat.le_trans (trim_len _) (by simp [lof])
    omega
  have HST : Hid (Rst 228 9 l (slope l) l (slope l)) := hid ⟨⟨ht, trm_slope l, hl, hn2⟩, ⟨227, 228, hs, hc2, .inl ⟨hls, by
    have b1 := Nat.mul_le_mul_right (228 + 1) (psA_mono (i := 0) (j := 9 - l.length) (by omega) (by omega))
    have e0 : psA 0 = 1 := rfl
    rw [e0] at b1
    omega, by
    have b1 := Nat.mul_le_mul_right (228 + 1) (psA_mono (i := 0) (j := 9 + 1 - l.length) (by omega) (by omega))
    have e0 : psA 0 = 1 := rfl
    rw [e0] at b1
    omega⟩⟩, rfl⟩
  have hg : gcdp l (slope l) ≠ [] := by
    obtain ⟨u, v, k1, _⟩ := gcdp_spec ht (trm_slope l) (.inl h0)
    exact k1.1
  have HP := hid h
  have H1 := hid (rmonic_p h ht hs (by omega) hl)
  have HT := hid ht
  have HS := hid hs
  have HL := hid hl
  have HC1 := hid hc1
  have HC3 := hid hc3
  have HN1 := hid hn1
  have HN3 := hid hn3
  have HG := hid hg
  have B := hid (Below.refl w.heap.size w)
  clear h ht hs hl h0 hc1 hc2 hc3 hn1 hn2 hn3 hls hg
  go_enter Tryz.func8, Tryz.ntmps8
  go_wp2_with fail
  refine H1.out.mono ?_
  rintro e w1 ⟨v1, rfl, hp, hb⟩
  replace HP := pfo HP hb
  replace B := bb B hb
  have P1 := hid hp
  clear hp hb H1
  go_wp2_with fail
  refine (rslope_p HP.out HS.out.sml (by decide) (by have := HL.out; omega)).mono ?_
  rintro e w2 ⟨v2, rfl, hp, hb⟩
  replace HP := pfo HP hb
  replace P1 := pfo P1 hb
  replace B := bb B hb
  have P2 := hid hp
  clear hp hb
  go_wp2_with fail
  refine (rgcd_p HP.out P2.out HST.out (.inr ⟨rfl, by decide⟩)).mono ?_
  rintro e w3 ⟨v3, rfl, hp, hb⟩
  replace P1 := pfo P1 hb
  replace B := bb B hb
  have P3 := hid hp
  clear hp hb
  go_wp2_with fail
  refine (rdiv_p P1.out P3.out HC1.out HC3.out (by decide) (trm_mnc l) (trm_gcdp HT.out (trm_slope l)) HG.out HN1.out HN3.out).mono ?_
  rintro e w4 ⟨v4, v5, out, cur, k, rfl, hk, hp1, hp2, hdv, hcl, hb⟩
  replace B := bb B hb
  have P4 := hid hp1
  have E := hid (quop_of (trm_mnc l) (trm_gcdp HT.out (trm_slope l)) HG.out hdv.2.1 hdv.1 hcl hdv.2.2.2.2.2.2.2)
  clear hb hp1 hp2 hdv hcl hk
  go_wp2_with fail
  go_ret
  exact ⟨_, rfl, by show PF _ _ (quop (mnc l) (gcdp l (slope l))); rw [← E.out]; exact P4.out, B.out⟩

end Go.Proofs.YtdifiimaifmcpaaGreatDoor
