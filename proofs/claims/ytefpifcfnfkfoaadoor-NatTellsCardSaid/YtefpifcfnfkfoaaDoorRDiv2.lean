import Derived.Test.YtefpifcfnfkfoaaDoorRDiv
namespace Go.Proofs.YtefpifcfnfkfoaaDoor
open Go.RowKit
open Num (dg dg_lt dg_ge dg_zeros dg_take dg_drop dg_set_self dg_set_ne tl tlen tl_zero tl_skip tl_stop tl_le tlen_le trimL length_trimL tl_top drop_dg)
open Num4
set_option linter.unusedVariables false
set_option linter.unusedSimpArgs false

theorem size_setCell (w : World) (p : Addr) (v : Value) : (w.setCell p v).heap.size = w.heap.size := by simp [World.setCell]

theorem Acc.oneSet (w : World) (p : Addr) (v : Value) (z : Int) (zn : Nat) (hz : z = zn) : Acc ((w.setCell p v).alloc (.cells #[.int .i64 z] 3)) w.heap.size (.slice (some ⟨w.heap.size, 0, none⟩) 1 1) [zn] := by
  have h := Acc.one (w.setCell p v) (K := (w.setCell p v).heap.size) (Nat.le_refl _) z zn hz
  rw [size_setCell] at h
  exact h

/-- .. whose block is of the call's own (from K on). -/
def LimRK (w : World) (K : Nat) (v : Value) (xs : List Nat) : Prop := LimR w v xs ∧ ∀ b o n c, v = .slice (some ⟨b, o, none⟩) n c → K ≤ b

theorem rtrim_limK {w : World} {K : Nat} {v : Value} {zs : List Nat} (h : Acc w K v zs) (hf : Fits zs) :
    Calls Tryd.prog 25 #[v] w fun e w' => ∃ v', e = .returned v' ∧ LimRK w' K v' (trimL zs) ∧ w = w' := by
  obtain ⟨p, c, hv, hfz, hc, hm, ha⟩ := limR_parts (h.lim hf)
  have hK : ∀ b o, p = some ⟨b, o, none⟩ → K ≤ b := by
    intro b o e
    exact (World.ownsRow.lt h b (by rw [hv, e]; rfl)).1
  subst hv
  refine (rtrim_any p c zs w hf hc hm ha).mono ?_
  rintro e w' ⟨rfl, rfl⟩
  refine ⟨_, rfl, ⟨limR_cut hf hc hm ha, ?_⟩, rfl⟩
  intro b o n' c' e
  injection e with e1
  exact hK b o e1

theorem LimRK.below {w w' : World} {K L : Nat} {v : Value} {xs : List Nat} (h : LimRK w K v xs) (hb : Below L w w') (hK : w.heap.size ≤ L) : LimRK w' K v xs := ⟨h.1.below hb hK, h.2⟩

theorem LimRK.setCell {w : World} {K : Nat} {v : Value} {xs : List Nat} (h : LimRK w K v xs) {p : Addr} (hp : p.block < K) (u : Value) : LimR (w.setCell p u) v xs := by
  obtain ⟨⟨h1, q, c, rfl, h3, h4, h5⟩, h6⟩ := h
  refine ⟨h1, q, c, rfl, h3, h4, ?_⟩
  rcases h5 with h5 | ⟨b, off, rfl, h8, h9⟩
  · exact .inl h5
  · have hk := h6 b off _ _ rfl
    refine .inr ⟨b, off, rfl, by rw [size_setCell]; exact h8, fun i hi => ?_⟩
    rw [World.cell?_of_block (w := w) (Below.heap_setCell w p u b (by omega))]
    exact h9 i hi

set_option maxHeartbeats 4000000 in
set_option maxRecDepth 100000 in
theorem rdiv_long {w : World} {v u : Value} {xs ys : List Nat} (h1 : LimR w v xs) (h2 : LimR w u ys) (b1 : xs.length ≤ 1099511627700) (b2 : ys.length ≤ 1099511627700) (ty : Trim ys) (f r : Nat) (hxl : xs.length = f + r) (hyl : ys.length = f + 1) (hr : 0 < r) :
    Calls Tryd.prog 14 #[v, u] w fun e w' => DivR w (val xs) (val ys) e w' := by
  obtain ⟨i0, hi, hz0, hz1, hz2⟩ := info_parts infoInt
  have HY := hid h2
  have HX := hid h1
  have hst := rdiv_start h1.1 ty hxl hyl (by omega) (by omega)
  rw [show f + r - (f + 1 - 1) = r by omega] at hst
  have HST := hid hst
  clear hst
  obtain ⟨p, c, rfl, hfx, hc, hm, ha⟩ := limR_parts h1
  obtain ⟨q, d, rfl, hfy, hd, hm2, _⟩ := limR_parts h2
  have HA1 := hid (AddrR.at' ha rfl hc)
  clear h1 h2
  rw [hxl] at hc b1 HX HA1 ⊢
  rw [hyl] at hd b2 HY ⊢
  have HN := hid hxl
  have HM := hid hyl
  clear hxl hyl
  unfold maxLen at hm hm2
  rcases ha with ⟨_, h⟩ | ⟨b, off, rfl, hb, hcell⟩
  · omega
  have LS : LimR w (.slice (if c ≤ r then some ⟨b, off, none⟩ else some ⟨b, off + (f + r - f), none⟩) (f + r - (f + r - f)) (c - (f + r - f))) (xs.drop r) := by
    have hl : (xs.drop r).length = f := by rw [List.length_drop, HN.out]; omega
    rw [show f + r - f = r by omega, show f + r - r = f by omega]
    refine ⟨hfx.drop _, _, c - r, by rw [hl], by rw [hl]; omega, by unfold maxLen; omega, .inr ?_⟩
    by_cases hcr : c ≤ r
    · rw [if_pos hcr]
      exact ⟨b, off, rfl, hb, fun i hi => by rw [hl] at hi; omega⟩
    · rw [if_neg hcr]
      refine ⟨b, off + r, rfl, hb, fun i hi => ?_⟩
      rw [hl] at hi
      rw [dg_drop, Nat.add_assoc]
      exact hcell (r + i) (by rw [HN.out]; omega)
  have HLS := hid LS
  have HCELL := hid hcell
  clear LS hcell
  by_cases hcr : c ≤ r <;>
  ( have LS2 := HLS.out
    first | rw [if_pos hcr] at LS2 | rw [if_neg hcr] at LS2
    have HLS := hid LS2
    clear LS2
    go_enter Tryd.func14, Tryd.ntmps14
    go_wp2_with (refine wpList_make_ints _ rfl _ _ 24 rfl i0 Tryd.underlying24 hi hz0 hz1 hz2 _ _ (f + r) (f + r) rfl rfl ?cL ?cC (Nat.le_refl _) ?cb ?_)
    case cL => omega
    case cC => omega
    case cb => omega
    intro w1 hblk hbelow hsz
    have A0 := Acc.none0 w1 (K := w1.heap.size) (Nat.le_refl _)
    rw [hsz] at A0
    have HA0 := hid A0
    have B1 := (Below.refl (w.heap.size + 1) w1).alloc (by omega) (.cells #[] 3)
    have B2 := hid (hbelow.trans (B1.mono (Nat.le_succ _)))
    have L0 := hid (HLS.out.below B2.out (Nat.le_refl _))
    have HBL := hid (hblk.below B1 (Nat.lt_succ_self _))
    have SZ := B1.size
    rw [hsz] at SZ
    have HSZ := hid SZ
    clear A0 hblk hbelow B1 SZ
    go_wp2_with (at_builtin; refine wpList_join_ints _ rfl _ _ 24 rfl i0 Tryd.underlying24 hi hz0 hz1 hz2 HA0.out L0.out rfl rfl HSZ.out ?cl ?_)
    case cl => rw [List.length_drop, HN.out]; simp; omega
    intro v3 w3 hacc hb3
    have HT := hid (rtrim_lim (hacc.lim (Fits.nil.append (hfx.drop _))))
    have HB := hid (HBL.out.below hb3 (Nat.lt_succ_self _))
    have B3 := hid (B2.out.trans (hb3.mono (Nat.le_succ _)))
    have S3 := hid (Nat.le_trans HSZ.out hb3.size)
    clear hacc hb3 HBL B2 HSZ L0 HA0
    go_wp2_with fail
    refine HT.out.mono ?_
    rintro e w4 ⟨v4, rfl, hL4, rfl⟩
    have HL4 := hid hL4
    clear hL4 HT
    go_wp2_with fail
    go_loopw [8, 9, 10, 11, 12] (fun rest i _ _ _ wr => ∃ (k : Nat) (zs us : List Nat), k ≤ r ∧ i = .int .i64 ((k : Int) - 1) ∧ Hid (LimR wr rest zs) ∧ Hid (Trim zs) ∧ Hid (val zs < val ys) ∧ Hid (BlkR wr w.heap.size us) ∧ Hid (us.length = f + r) ∧ Fits us ∧
        Hid (val (xs.drop k) = val (us.drop k) * val ys + val zs) ∧ Hid (Below w.heap.size w wr) ∧ Hid (w.heap.size + 1 ≤ wr.heap.size)) (fun _ i _ _ _ _ => (intOf i + 1).toNat)
    case atStart =>
      refine ⟨r, _, _, Nat.le_refl _, by go_num, HL4, trim_trimL _, hid (by rw [val_trimL]; exact HST.out), HB, hid (by simp), Fits.zeros _, hid ?_, B3, S3⟩
      rw [val_trimL]
      have : ((List.replicate (f + r) 0).drop r) = List.replicate f 0 := by rw [List.drop_replicate]; congr 1; omega
      rw [this, val_zeros]
      simp
    case round =>
      obtain ⟨k0, zs, us, hk, rfl, HL, HTZ, HLT, HB', hul, hfu, HI, HBW, HS⟩ := hrel
      rcases Nat.eq_zero_or_pos k0 with rfl | hk1
      · have HO := hid (rtrim_lim (HB'.out.lim hfu 0 (f + r) (f + r) (by rw [hul.out]; omega) (Nat.le_refl _) (by unfold maxLen; omega)))
        go_wp2_with fail
        refine HO.out.mono ?_
        rintro e w5 ⟨v5, rfl, hL5, rfl⟩
        go_wp2_with fail
        go_ret2
        refine ⟨v5, _, _, _, rfl, hL5, HL.out, trim_trimL _, HTZ.out, ?_, HLT.out, HBW.out⟩
        have := HI.out
        rw [List.drop_zero, List.drop_zero] at this
        rw [val_trimL, List.drop_zero, val_take_all _ _ (by rw [hul.out]; exact Nat.le_refl _)]
        exact this
      · obtain ⟨k, rfl⟩ : ∃ k, k0 = k + 1 := ⟨k0 - 1, by omega⟩
        obtain ⟨b', o', hbo, hb1, cx⟩ := HA1.out k (by omega)
        cases hbo
        rw [← (HBW.out).cell (by exact hb1)] at cx
        have bx := hfx k
        have A5 := hid (Acc.one wr (K := wr.heap.size) (Nat.le_refl _) (dg xs k : Int) (dg xs k) rfl)
        have B4 := hid ((Below.refl wr.heap.size wr).alloc (Nat.le_refl _) (.cells #[.int .i64 (dg xs k : Int)] 3))
        have L5 := hid (HL.out.below B4.out (Nat.le_refl _))
        have HZL := hid (length_le_of_val HTZ.out (f + 1) (Nat.lt_trans HLT.out (by rw [← HM.out]; exact val_lt hfy)))
        go_wp2_with (at_builtin; refine wpList_join_ints _ rfl _ _ 24 rfl i0 Tryd.underlying24 hi hz0 hz1 hz2 A5.out L5.out rfl rfl B4.out.size ?cl2 ?_)
        case cl2 => have := HZL.out; simp; omega
        intro v5 w5 hacc hb5
        obtain ⟨R, hR⟩ : ∃ R, R = dg xs k + B * val zs := ⟨_, rfl⟩
        have HR := hid hR
        have hTx := rtrim_limK hacc ((Fits.single bx).append HL.out.1)
        have HT := hid hTx
        have B5 := hid (B4.out.trans hb5)
        have HVR := hid (show val (trimL (dg xs k :: zs)) = R by rw [val_trimL, hR]; rfl)
        have HRL := hid (show (trimL (dg xs k :: zs)).length ≤ f + 2 by have := tlen_le (dg xs k :: zs); have := HZL.out; rw [length_trimL]; simp at *; omega)
        have HTR := hid (trim_trimL (dg xs k :: zs))
        generalize trimL (dg xs k :: zs) = rs at HT HVR HRL HTR
        clear hacc hb5 hTx hR
        go_wp2_with fail
        refine HT.out.mono ?_
        rintro e w6 ⟨v6, rfl, hL6, rfl⟩
        have HL6 := hid hL6
        have HRV := hid (show R < (9999 + 1) * val ys by rw [HR.out]; exact rdiv_high bx HLT.out)
        have HB6 := hid (HBW.out.trans (B5.out.mono (Nat.le_of_succ_le HS.out)))
        have HY6 := hid (HY.out.below HB6.out (Nat.le_refl _))
        clear hL6 HT A5 L5 B4
        go_wp2_with fail
        go_loopw [10, 11, 12] (fun lo hi _ wq => ∃ (l h : Nat), l ≤ h ∧ h ≤ 9999 ∧ lo = .int .i64 l ∧ hi = .int .i64 h ∧ Hid (l * val ys ≤ R) ∧ Hid (R < (h + 1) * val ys) ∧ Hid (Below w5.heap.size w5 wq)) (fun lo hi _ _ => (intOf hi - intOf lo).toNat)
        case atStart => exact ⟨0, 9999, by omega, by omega, rfl, rfl, hid (by simp), HRV, Below.refl _ _⟩
        case round =>
          obtain ⟨l, h, hlh, hh, rfl, rfl, HLO, HHI, HBQ⟩ := hrel
          by_cases hlt : l < h
          · obtain ⟨M, hM⟩ : ∃ M, M = (l + h + 1) / 2 := ⟨_, rfl⟩
            have hM1 : l < M := by omega
            have hM2 : M ≤ h := by omega
            have HZ := hid (show ((l : Int) + h + 1) / 2 = (M : Int) by omega)
            clear hM
            have HT := hid (rtrim_lim ((Acc.one wr (K := wr.heap.size) (Nat.le_refl _) (((l : Int) + h + 1) / 2) M HZ.out).lim (Fits.single (by omega))))
            have B7 := hid (HBQ.out.trans (((Below.refl wr.heap.size wr).alloc (Nat.le_refl _) (.cells #[.int .i64 (((l : Int) + h + 1) / 2)] 3)).mono HBQ.out.size))
            go_wp2_with fail
            refine HT.out.mono ?_
            rintro e w7 ⟨v7, rfl, hL7, rfl⟩
            have HMU := hid (rmul_lim (HY6.out.below B7.out (Nat.le_refl _)) hL7 (by rw [HM.out]; omega) (Nat.le_trans (by rw [length_trimL]; exact tlen_le _) (show 1 ≤ 1099511627776 by omega)))
            clear hL7 HT
            go_wp2_with fail
            refine HMU.out.mono ?_
            rintro e w8 ⟨v8, ps, rfl, hL8, hT8, hv8, hb8⟩
            rw [val_mid] at hv8
            have B8 := hid (B7.out.trans (hb8.mono B7.out.size))
            have hpl : ps.length ≤ f + 2 := length_le_of_val hT8 _ (by
              rw [hv8, Nat.pow_succ]
              have h1 := val_lt hfy
              rw [HM.out] at h1
              exact Nat.mul_lt_mul'' h1 (by simp only [B]; omega))
            have HC := hid (cmp_lim hL8 (HL6.out.1.below B8.out (Nat.le_refl _)) (by omega) (by have := HRL.out; omega))
            clear HMU B7 hL8 hT8 hb8
            by_cases hle : val ys * M ≤ R
            · have hc : cmpv (val ps) (val rs) ≤ 0 := by
                rw [hv8, HVR.out]; unfold cmpv; split <;> (try split) <;> omega
              have HN1 := hid (show M * val ys ≤ R by rw [Nat.mul_comm]; exact hle)
              clear hv8 hpl hle
              go_wp2_with fail
              refine HC.out.mono ?_
              rintro e w9 ⟨rfl, rfl⟩
              go_wp2_with fail
              go_roundw
              case rel => exact ⟨M, h, hM2, hh, val_int HZ.out, rfl, HN1, HHI, B8⟩
              case measure => simp [intOf]; omega
            · have hc : ¬ cmpv (val ps) (val rs) ≤ 0 := by
                rw [hv8, HVR.out]; unfold cmpv; rw [if_neg (by omega), if_pos (by omega)]; omega
              have HN1 := hid (show R < (M - 1 + 1) * val ys by rw [Nat.sub_add_cancel (by omega), Nat.mul_comm]; omega)
              clear hv8 hpl hle
              go_wp2_with fail
              refine HC.out.mono ?_
              rintro e w9 ⟨rfl, rfl⟩
              go_wp2_with fail
              go_roundw
              case rel => exact ⟨l, M - 1, by omega, by omega, rfl, val_int (by have := HZ.out; omega), HLO, HN1, B8⟩
              case measure => simp [intOf]; omega
          · obtain rfl : l = h := by omega
            have hbe := hid (HB'.out.below B5.out (Nat.lt_of_lt_of_le (Nat.lt_succ_self _) HS.out))
            have HBE := hid (hbe.out.below HBQ.out (Nat.lt_of_lt_of_le (Nat.lt_of_lt_of_le (Nat.lt_succ_self _) HS.out) B5.out.size))
            clear hbe
            have cu := HBE.out.cell (i := k) (by rw [hul.out]; omega)
            have fu := HBE.out.free k
            have HT := hid (rtrim_lim ((Acc.oneSet wr ⟨w.heap.size, k, none⟩ (.int .i64 l) l l rfl).lim (Fits.single (show l < 10000 by omega))))
            have HBW7 := hid (((HB6.out.trans (HBQ.out.mono HB6.out.size)).setCell (p := ⟨w.heap.size, k, none⟩) (Nat.le_refl _) (.int .i64 l)).alloc (by rw [size_setCell]; exact Nat.le_trans HB6.out.size HBQ.out.size) (.cells #[.int .i64 (l : Int)] 3))
            have HL7 := hid (((HL6.out.below HBQ.out (Nat.le_refl _)).setCell (p := ⟨w.heap.size, k, none⟩) (Nat.lt_of_lt_of_le (Nat.lt_succ_self _) HS.out) (.int .i64 l)).below ((Below.refl _ _).alloc (Nat.le_refl _) (.cells #[.int .i64 (l : Int)] 3)) (Nat.le_refl _))
            have hbb := (HBE.out.set' k l l rfl).below ((Below.refl _ _).alloc (Nat.le_refl _) (.cells #[.int .i64 (l : Int)] 3)) (by rw [size_setCell]; exact Nat.lt_of_lt_of_le (Nat.lt_of_lt_of_le (Nat.lt_succ_self _) HS.out) (Nat.le_trans B5.out.size HBQ.out.size))
            have HBB := hid hbb
            clear hbb
            go_wp2_with fail
            generalize ((wr.setCell _ _).alloc _) = w7 at HT HBW7 HL7 HBB ⊢
            refine HT.out.mono ?_
            rintro e w8 ⟨v8, rfl, hL8, rfl⟩
            have HMU := hid (rmul_lim (HY.out.below HBW7.out (Nat.le_refl _)) hL8 (by rw [HM.out]; omega) (Nat.le_trans (by rw [length_trimL]; exact tlen_le _) (show 1 ≤ 1099511627776 by omega)))
            clear hL8 HT
            go_wp2_with fail
            refine HMU.out.mono ?_
            rintro e w9 ⟨v9, ps, rfl, hL9, hT9, hv9, hb9⟩
            rw [val_mid] at hv9
            have HVP := hid (show val ps = val ys * l from hv9)
            have HLE := hid (show val ps ≤ val rs by rw [hv9, HVR.out, Nat.mul_comm]; exact HLO.out)
            have HSU := hid (rsub_lim (HL7.out.below hb9 (Nat.le_refl _)) hL9 (by have := HRL.out; omega) hT9 HLE.out)
            have HB9 := hid hb9
            clear HMU hL9 hT9 hv9 hb9
            go_wp2_with fail
            refine HSU.out.mono ?_
            rintro e w10 ⟨v10, zz, rfl, hL10, hT10, hv10, hb10⟩
            have HV10 := hid (show val zz = R - val ys * l by rw [hv10, HVR.out, HVP.out])
            have HL10 := hid hL10
            have HT10 := hid hT10
            have HB10 := hid hb10
            clear hL10 hT10 hv10 hb10 HSU
            go_wp2_with fail
            go_roundw
            case rel =>
              refine ⟨k, zz, us.set k l, by omega, by go_num, HL10, HT10, hid ?_, hid ((HBB.out.below HB9.out HBB.out.lt).below HB10.out (Nat.lt_of_lt_of_le HBB.out.lt HB9.out.size)), hid (by rw [List.length_set]; exact hul.out), hfu.set _ _ (by omega), hid ?_,
                hid ((HBW7.out.trans (HB9.out.mono HBW7.out.size)).trans (HB10.out.mono (Nat.le_trans HBW7.out.size HB9.out.size))), hid (Nat.le_trans (Nat.le_trans HBB.out.lt HB9.out.size) HB10.out.size)⟩
              · rw [HV10.out]; exact rdiv_left HLO.out HHI.out
              · rw [HV10.out]; exact rdiv_step (by rw [HN.out]; omega) (by rw [hul.out]; omega) HI.out HR.out HLO.out
            case measure => simp [intOf] )

theorem rdiv_lim {w : World} {v u : Value} {xs ys : List Nat} (h1 : LimR w v xs) (h2 : LimR w u ys) (b1 : xs.length ≤ 1099511627700) (b2 : ys.length ≤ 1099511627700) (ty : Trim ys) (hy : 0 < val ys) :
    Calls Tryd.prog 14 #[v, u] w fun e w' => DivR w (val xs) (val ys) e w' := by
  have hn : 0 < ys.length := by
    apply Nat.pos_of_ne_zero
    intro h
    rw [List.length_eq_zero_iff.1 h] at hy
    simp [val_nil] at hy
  by_cases h : xs.length < ys.length
  · exact rdiv_short h1 h2 b1 b2 ty h
  · exact rdiv_long h1 h2 b1 b2 ty (ys.length - 1) (xs.length - (ys.length - 1)) (by omega) (by omega) (by omega)

end Go.Proofs.YtefpifcfnfkfoaaDoor
