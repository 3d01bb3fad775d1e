import Derived.Test.YtefpifcfnfkfoaaDoorRJoin
namespace Go.Proofs.YtefpifcfnfkfoaaDoor
open Go.RowKit
open Num (dg dg_lt dg_ge dg_zeros dg_take dg_drop dg_set_self dg_set_ne tl tlen tl_zero tl_skip tl_stop tl_le tlen_le trimL length_trimL tl_top drop_dg)
open Num4
set_option linter.unusedVariables false
set_option linter.unusedSimpArgs false

def DivR (w : World) (x y : Nat) (e : Ending) (w' : World) : Prop :=
  ∃ v' u' qs zs, e = .returned (.tuple #[v', u']) ∧ LimR w' v' qs ∧ LimR w' u' zs ∧ Trim qs ∧ Trim zs ∧ x = val qs * y + val zs ∧ val zs < y ∧ Below w.heap.size w w'

set_option maxHeartbeats 2000000 in
set_option maxRecDepth 100000 in
theorem rdiv_short {w : World} {v u : Value} {xs ys : List Nat} (h1 : LimR w v xs) (h2 : LimR w u ys) (b1 : xs.length ≤ 1099511627700) (b2 : ys.length ≤ 1099511627700) (ty : Trim ys) (hlt : xs.length < ys.length) :
    Calls Tryd.prog 14 #[v, u] w fun e w' => DivR w (val xs) (val ys) e w' := by
  obtain ⟨i0, hi, hz0, hz1, hz2⟩ := info_parts infoInt
  have HY := hid h2
  have HX := hid h1
  have HLT := hid (lt_of_length h1.1 ty hlt)
  obtain ⟨p, c, rfl, hfx, hc, hm, ha⟩ := limR_parts h1
  obtain ⟨q, d, rfl, _, hd, hm2, _⟩ := limR_parts h2
  clear h1 h2
  obtain ⟨n, hn⟩ : ∃ n, xs.length = n := ⟨_, rfl⟩
  obtain ⟨m, hmm⟩ : ∃ m, ys.length = m := ⟨_, rfl⟩
  rw [hn] at hc b1 HX hlt ⊢
  rw [hmm] at hd b2 HY hlt ⊢
  have HN := hid hn
  have HM := hid hmm
  clear hn hmm
  unfold maxLen at hm hm2
  have P1 : p = none ∨ ∃ b off, p = some ⟨b, off, none⟩ := by
    rcases ha with ⟨h, _⟩ | ⟨b, off, h, _⟩
    · exact .inl h
    · exact .inr ⟨b, off, h⟩
  have P2 : p = none → n = 0 ∧ c = 0 := by
    intro h
    rcases ha with ⟨_, h'⟩ | ⟨b, off, h', _⟩
    · exact ⟨by omega, h'⟩
    · rw [h] at h'; cases h'
  clear ha
  rcases P1 with rfl | ⟨b, off, rfl⟩
  · obtain ⟨rfl, rfl⟩ := P2 rfl
    clear P2
    go_enter Tryd.func14, Tryd.ntmps14
    go_wp2_with (refine wpList_make_ints _ rfl _ _ 24 rfl i0 Tryd.underlying24 hi hz0 hz1 hz2 _ _ 0 0 rfl rfl ?cL ?cC (Nat.le_refl _) ?cb ?_)
    case cL => rfl
    case cC => rfl
    case cb => omega
    intro w1 hblk hbelow hsz
    have A0 := Acc.none0 w1 (K := w1.heap.size) (Nat.le_refl _)
    rw [hsz] at A0
    have HA0 := hid A0
    have B1 := (Below.refl (w.heap.size + 1) w1).alloc (by omega) (.cells #[] 3)
    have B2 := hid (hbelow.trans (B1.mono (Nat.le_succ _)))
    have L0 := hid (HX.out.below B2.out (Nat.le_refl _))
    have HBL := hid (hblk.below B1 (Nat.lt_succ_self _))
    have SZ := B1.size
    rw [hsz] at SZ
    have HSZ := hid SZ
    clear A0 hblk hbelow B1 SZ
    go_wp2_with (at_builtin; refine wpList_join_ints _ rfl _ _ 24 rfl i0 Tryd.underlying24 hi hz0 hz1 hz2 HA0.out L0.out rfl rfl HSZ.out ?cl1 ?_)
    case cl1 => rw [HN.out]; simp
    intro v3 w3 hacc hb3
    have HT := hid (rtrim_lim (hacc.lim (Fits.nil.append hfx)))
    have HB := hid (HBL.out.below hb3 (Nat.lt_succ_self _))
    have B3 := hid (B2.out.trans (hb3.mono (Nat.le_succ _)))
    clear hacc hb3
    go_wp2_with fail
    refine HT.out.mono ?_
    rintro e w4 ⟨v4, rfl, hL4, rfl⟩
    have HL4 := hid hL4
    have HO := hid (rtrim_lim (HB.out.lim Fits.nil 0 0 0 (by simp) (Nat.le_refl _) (by unfold maxLen; omega)))
    clear hL4 HB
    go_wp2_with fail
    go_loopw [8, 9, 10, 11, 12] (fun r i _ _ _ wr => r = v4 ∧ i = .int .i64 (-1) ∧ wr = w3) (fun _ _ _ _ _ _ => 0)
    case atStart => exact ⟨rfl, by go_num, rfl⟩
    case round =>
      obtain ⟨rfl, rfl, rfl⟩ := hrel
      go_wp2_with fail
      refine HO.out.mono ?_
      rintro e w5 ⟨v5, rfl, hL5, rfl⟩
      go_wp2_with fail
      go_ret2
      refine ⟨v5, _, _, _, rfl, hL5, HL4.out, trim_trimL _, trim_trimL _, ?_, ?_, B3.out⟩
      · rw [val_trimL, val_trimL, List.drop_zero]; first | (rw [val_take_zeros]; simp) | simp [val_nil]
      · rw [val_trimL]; exact HLT.out
  · go_enter Tryd.func14, Tryd.ntmps14
    go_wp2_with (refine wpList_make_ints _ rfl _ _ 24 rfl i0 Tryd.underlying24 hi hz0 hz1 hz2 _ _ n n rfl rfl ?cL2 ?cC2 (Nat.le_refl _) ?cb2 ?_)
    case cL2 => rfl
    case cC2 => rfl
    case cb2 => omega
    intro w1 hblk hbelow hsz
    have A0 := Acc.none0 w1 (K := w1.heap.size) (Nat.le_refl _)
    rw [hsz] at A0
    have HA0 := hid A0
    have B1 := (Below.refl (w.heap.size + 1) w1).alloc (by omega) (.cells #[] 3)
    have B2 := hid (hbelow.trans (B1.mono (Nat.le_succ _)))
    have L0 := hid (HX.out.below B2.out (Nat.le_refl _))
    have HBL := hid (hblk.below B1 (Nat.lt_succ_self _))
    have SZ := B1.size
    rw [hsz] at SZ
    have HSZ := hid SZ
    clear A0 hblk hbelow B1 SZ
    go_wp2_with (at_builtin; refine wpList_join_ints _ rfl _ _ 24 rfl i0 Tryd.underlying24 hi hz0 hz1 hz2 HA0.out L0.out rfl rfl HSZ.out ?cl2 ?_)
    case cl2 => rw [HN.out]; simp; omega
    intro v3 w3 hacc hb3
    have HT := hid (rtrim_lim (hacc.lim (Fits.nil.append hfx)))
    have HB := hid (HBL.out.below hb3 (Nat.lt_succ_self _))
    have B3 := hid (B2.out.trans (hb3.mono (Nat.le_succ _)))
    clear hacc hb3
    go_wp2_with fail
    refine HT.out.mono ?_
    rintro e w4 ⟨v4, rfl, hL4, rfl⟩
    have HL4 := hid hL4
    have HO := hid (rtrim_lim (HB.out.lim (Fits.zeros _) 0 n n (by simp) (Nat.le_refl _) (by unfold maxLen; omega)))
    clear hL4 HB
    go_wp2_with fail
    go_loopw [8, 9, 10, 11, 12] (fun r i _ _ _ wr => r = v4 ∧ i = .int .i64 (-1) ∧ wr = w3) (fun _ _ _ _ _ _ => 0)
    case atStart => exact ⟨rfl, by go_num, rfl⟩
    case round =>
      obtain ⟨rfl, rfl, rfl⟩ := hrel
      go_wp2_with fail
      refine HO.out.mono ?_
      rintro e w5 ⟨v5, rfl, hL5, rfl⟩
      go_wp2_with fail
      go_ret2
      refine ⟨v5, _, _, _, rfl, hL5, HL4.out, trim_trimL _, trim_trimL _, ?_, ?_, B3.out⟩
      · rw [val_trimL, val_trimL, List.drop_zero]; first | (rw [val_take_zeros]; simp) | simp [val_nil]
      · rw [val_trimL]; exact HLT.out

end Go.Proofs.YtefpifcfnfkfoaaDoor
