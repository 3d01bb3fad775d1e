import Derived.Test.YtefpifcfnfkfoaaDoorRSub
namespace Go.Proofs.YtefpifcfnfkfoaaDoor
open Go.RowKit
open Num (dg dg_lt dg_ge dg_zeros dg_take dg_drop dg_set_self dg_set_ne tl tlen tl_zero tl_skip tl_stop tl_le tlen_le trimL length_trimL tl_top drop_dg)
open Num4
set_option linter.unusedVariables false
set_option linter.unusedSimpArgs false

theorem rmul_step {ys us : List Nat} {v0 a k l c s : Nat} (hp : k + l < us.length) (hI : val us + c * B ^ (k + l) = v0 + a * val (ys.take l) * B ^ k)
    (hs : s = dg us (k + l) + a * dg ys l + c) : val (us.set (k + l) (s % 10000)) + s / 10000 * B ^ (k + (l + 1)) = v0 + a * val (ys.take (l + 1)) * B ^ k := by
  have h1 := val_set us (k + l) (s % 10000) hp
  have h2 := carry_split s (B ^ (k + l))
  rw [val_take_succ, Nat.mul_add, Nat.add_mul, ← Nat.add_assoc, Nat.pow_succ]
  have h3 : a * (dg ys l * B ^ l) * B ^ k = a * dg ys l * B ^ (k + l) := by
    rw [← Nat.mul_assoc, Nat.mul_assoc, ← Nat.pow_add, Nat.add_comm l k]
  subst hs
  rw [Nat.add_mul, Nat.add_mul] at h2
  omega

theorem rmul_bound {xs ys us vs : List Nat} {k l m c : Nat} (hfx : Fits xs) (hfy : Fits ys) (hm : ys.length = m) (hI : val us = val (xs.take k) * val ys) (hI' : val vs + c * B ^ (k + l) = val us + dg xs k * val (ys.take l) * B ^ k) (hl : m + 1 ≤ l) (hk : k < xs.length) : c = 0 := by
  rw [val_take_all ys _ (by omega)] at hI'
  have h1 : val us + dg xs k * val ys * B ^ k = val (xs.take (k + 1)) * val ys := by
    rw [val_take_succ, Nat.add_mul, hI, Nat.mul_right_comm]
  have h2 := val_lt (hfx.take (k + 1))
  rw [List.length_take, Nat.min_eq_left (by omega)] at h2
  have h3 := val_lt hfy
  rw [hm] at h3
  have h4 : val (xs.take (k + 1)) * val ys < B ^ (k + 1) * B ^ m := Nat.mul_lt_mul'' h2 h3
  rw [← Nat.pow_add] at h4
  have h5 : B ^ (k + 1 + m) ≤ B ^ (k + l) := Nat.pow_le_pow_right B_pos (by omega)
  apply Classical.byContradiction
  intro hh
  have := Nat.mul_le_mul_right (B ^ (k + l)) (show 1 ≤ c by omega)
  omega

theorem rmul_row {xs ys us vs : List Nat} {k l m : Nat} (hm : ys.length = m) (hl : m ≤ l) (hI : val us = val (xs.take k) * val ys) (hI' : val vs + 0 * B ^ (k + l) = val us + dg xs k * val (ys.take l) * B ^ k) : val vs = val (xs.take (k + 1)) * val ys := by
  rw [val_take_all ys _ (by omega)] at hI'
  rw [val_take_succ, Nat.add_mul, ← hI, Nat.mul_right_comm]
  omega

set_option maxHeartbeats 2000000 in
set_option maxRecDepth 100000 in
theorem rmul_lim {w : World} {v u : Value} {xs ys : List Nat} (h1 : LimR w v xs) (h2 : LimR w u ys) (b1 : xs.length ≤ 1099511627776) (b2 : ys.length ≤ 1099511627776) :
    Calls Tryd.prog 11 #[v, u] w fun e w' => ∃ v' zs, e = .returned v' ∧ LimR w' v' zs ∧ Trim zs ∧ val zs = val xs * val ys ∧ Below w.heap.size w w' := by
  obtain ⟨i0, hi, hz0, hz1, hz2⟩ := info_parts infoInt
  have HY := hid h2
  have hfy := h2.1
  obtain ⟨p, c, rfl, hfx, hc, hm, ha⟩ := limR_parts h1
  obtain ⟨q, d, rfl, _, hd, hm2, _⟩ := limR_parts h2
  have HA1 := hid (AddrR.at' ha rfl hc)
  clear h1 h2 ha
  obtain ⟨n, hn⟩ : ∃ n, xs.length = n := ⟨_, rfl⟩
  obtain ⟨m, hmm⟩ : ∃ m, ys.length = m := ⟨_, rfl⟩
  rw [hn] at hc b1 HA1 ⊢
  rw [hmm] at hd b2 HY ⊢
  have HN := hid hn
  have HM := hid hmm
  clear hn hmm
  unfold maxLen at hm hm2
  go_enter Tryd.func11, Tryd.ntmps11
  go_wp2_with (refine wpList_make_ints _ rfl _ _ 24 rfl i0 Tryd.underlying24 hi hz0 hz1 hz2 _ _ (n + m + 1) (n + m + 1) rfl rfl ?cL ?cC (Nat.le_refl _) ?cb ?_)
  case cL => omega
  case cC => omega
  case cb => omega
  intro w1 hblk hbelow hsz
  go_wp2_with fail
  go_loopw [6, 7, 8] (fun i _c _k wr => ∃ (k : Nat) (us : List Nat), k ≤ n ∧ i = .int .i64 k ∧ Hid (BlkR wr w.heap.size us) ∧ Hid (us.length = n + m + 1) ∧ Fits us ∧
      Hid (val us = val (xs.take k) * val ys) ∧ Hid (∀ j, k + m ≤ j → dg us j = 0) ∧ Hid (Below w.heap.size w wr)) (fun i _ _ _ => n - (intOf i).toNat)
  case atStart => exact ⟨0, _, by omega, rfl, hblk, hid (by simp), Fits.zeros _, hid (by rw [val_zeros]; simp [val_nil]), hid (fun j _ => dg_zeros _ j), hbelow⟩
  case round =>
    obtain ⟨k, us, hk, rfl, hB, hl, hf, hI, hZ, hbw⟩ := hrel
    by_cases hlt : k < n
    · obtain ⟨b1, o1, rfl, hb1, cx0⟩ := HA1.out k hlt
      have bx := hfx k
      have CX := hid cx0
      clear cx0
      obtain ⟨wo, rfl⟩ : ∃ wo : World, wo = wr := ⟨_, rfl⟩
      go_wp2_with fail
      go_loopw [7, 8] (fun cy j wr => ∃ (l c : Nat) (vs : List Nat), l ≤ m + 1 ∧ j = .int .i64 l ∧ cy = .int .i64 c ∧ c ≤ 9999 ∧ Hid (BlkR wr w.heap.size vs) ∧ Hid (vs.length = n + m + 1) ∧ Fits vs ∧
          Hid (val vs + c * B ^ (k + l) = val us + dg xs k * val (ys.take l) * B ^ k) ∧ Hid (∀ j, k + l ≤ j → dg vs j = dg us j) ∧ Hid (Below w.heap.size w wr)) (fun _ j _ => m + 1 - (intOf j).toNat)
      case atStart => exact ⟨0, 0, us, by omega, rfl, rfl, by omega, hB, hl, hf, hid (by simp [val_nil]), hid (fun j _ => rfl), hbw⟩
      case round =>
        obtain ⟨l, c0, vs, hl', rfl, rfl, hc0, hB', hl2, hf', hI', hZ', hbw'⟩ := hrel
        have hend : m + 1 ≤ l → c0 = 0 := fun h => rmul_bound hfx hfy HM.out hI.out hI'.out h (by rw [HN.out]; exact hlt)
        have HEND := hid hend
        clear hend
        by_cases hgo : l < m ∨ 0 < c0
        · have hl3 : l ≤ m := by
            apply Classical.byContradiction
            intro hh
            have := HEND.out (by omega)
            omega
          have cx := CX.out
          rw [← (hbw'.out).cell (by exact hb1)] at cx
          have C2 := hid (fun nd => digit_still (HY.out.below hbw'.out (Nat.le_refl _)) l (by omega) nd)
          have cu := hB'.out.cell (i := k + l) (by rw [hl2.out]; omega)
          have fu := hB'.out.free (k + l)
          have bu := hf' (k + l)
          have bY := hfy l
          have bm : dg xs k * dg ys l ≤ 9999 * 9999 := Nat.mul_le_mul (by omega) (by omega)
          have i1 : (0 : Int) ≤ (k : Int) := by omega
          have i2 : (k : Int) < (n : Int) := by omega
          have i3 : (0 : Int) ≤ (k : Int) + (l : Int) := by omega
          have i4 : (k : Int) + (l : Int) < (n : Int) + (m : Int) + 1 := by omega
          have i5 : (k : Int) + (l : Int) < ((n + m + 1 : Nat) : Int) := by omega
          have hs2 : (dg vs (k + l) + dg xs k * dg ys l + c0) / 10000 ≤ 9999 := by omega
          by_cases h : l < m
          · go_wp2_with fail
            go_quiet ((go_at_call 24; exact Calls.quiet_of_same (C2.out _)))
            go_wp2_with fail
            go_roundw
            case rel =>
              refine ⟨l + 1, (dg vs (k + l) + dg xs k * dg ys l + c0) / 10000, vs.set (k + l) ((dg vs (k + l) + dg xs k * dg ys l + c0) % 10000), by omega, by go_num, val_int (by omega), by omega, hid (hB'.out.set' _ _ _ (by omega)), hid (by rw [List.length_set]; exact hl2.out),
                hf'.set _ _ (by omega), hid (rmul_step (by rw [hl2.out]; omega) hI'.out rfl), hid (fun j hj => ?_), hid ((below_drewN hbw'.out _).setCell (Nat.le_refl _) _)⟩
              rw [dg_set_ne _ _ _ _ (by omega)]
              exact hZ'.out j (by omega)
            case measure => simp [intOf]; omega
          · have h' : 0 < c0 := by omega
            go_wp2_with fail
            go_quiet ((go_at_call 24; exact Calls.quiet_of_same (C2.out _)))
            go_wp2_with fail
            go_roundw
            case rel =>
              refine ⟨l + 1, (dg vs (k + l) + dg xs k * dg ys l + c0) / 10000, vs.set (k + l) ((dg vs (k + l) + dg xs k * dg ys l + c0) % 10000), by omega, by go_num, val_int (by omega), by omega, hid (hB'.out.set' _ _ _ (by omega)), hid (by rw [List.length_set]; exact hl2.out),
                hf'.set _ _ (by omega), hid (rmul_step (by rw [hl2.out]; omega) hI'.out rfl), hid (fun j hj => ?_), hid ((below_drewN hbw'.out _).setCell (Nat.le_refl _) _)⟩
              rw [dg_set_ne _ _ _ _ (by omega)]
              exact hZ'.out j (by omega)
            case measure => simp [intOf]; omega
        · obtain rfl : c0 = 0 := by omega
          have hge : m ≤ l := by omega
          go_wp2_with fail
          go_roundw
          case rel =>
            exact ⟨k + 1, vs, by omega, by go_num, hB', hl2, hf', hid (rmul_row HM.out hge hI.out hI'.out), hid (fun j hj => by rw [hZ'.out j (by omega)]; exact hZ.out j (by omega)), hbw'⟩
          case measure => simp [intOf]; omega
    · obtain rfl : k = n := by omega
      have hv : val us = val xs * val ys := by
        have h2 := hI.out
        rw [val_take_all xs _ (by rw [HN.out]; exact Nat.le_refl _)] at h2
        exact h2
      have hL := hB.out.lim hf 0 (k + m + 1) (k + m + 1) (by rw [hl.out]; omega) (Nat.le_refl _) (by unfold maxLen; omega)
      rw [List.drop_zero, List.take_of_length_le (by rw [hl.out]; exact Nat.le_refl _)] at hL
      have HL := hid (rtrim_lim hL)
      have HV := hid hv
      clear hL hv
      go_wp2_with fail
      refine HL.out.mono ?_
      rintro e w' ⟨v', rfl, hL3, rfl⟩
      go_wp2_with fail
      go_ret
      exact ⟨_, _, rfl, hL3, trim_trimL _, by rw [val_trimL]; exact HV.out, hbw.out⟩

end Go.Proofs.YtefpifcfnfkfoaaDoor
