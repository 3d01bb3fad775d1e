import Derived.Test.YtjeeepcnaaadmaaSub
namespace Go.Proofs.Ytjeeepcnaaadmaa
open Go.RowKit
open Num
set_option linter.unusedVariables false
set_option maxRecDepth 100000
set_option linter.unusedSimpArgs false

theorem mul_le_limbs {a b : Nat} (ha : a < 4294967296) (hb : b < 4294967296) : a * b ≤ 18446744065119617025 := by
  have : a * b ≤ 4294967295 * 4294967295 := Nat.mul_le_mul (by omega) (by omega)
  omega

/-- One step of a row of the product. -/
theorem mul_step {ys us : List Nat} {v0 a k l c s : Nat} (hp : k + l < us.length) (hI : val us + c * B ^ (k + l) = v0 + a * val (ys.take l) * B ^ k)
    (hs : s = c + (a * dg ys l + dg us (k + l))) : val (us.set (k + l) (s % 4294967296)) + s / 4294967296 * B ^ (k + (l + 1)) = v0 + a * val (ys.take (l + 1)) * B ^ k := by
  have h1 := val_set us (k + l) (s % 4294967296) hp
  have h2 := carry_split s (B ^ (k + l))
  rw [val_take_succ, Nat.mul_add, Nat.add_mul, ← Nat.add_assoc, Nat.pow_succ]
  have h3 : a * (dg ys l * B ^ l) * B ^ k = a * dg ys l * B ^ (k + l) := by
    rw [← Nat.mul_assoc, Nat.mul_assoc, ← Nat.pow_add, Nat.add_comm l k]
  subst hs
  rw [Nat.add_mul, Nat.add_mul] at h2
  omega

theorem mul_row {xs ys us vs : List Nat} {k m c : Nat} (hm : m = ys.length) (hp : k + m < vs.length) (hI : val us = val (xs.take k) * val ys) (hI' : val vs + c * B ^ (k + m) = val us + dg xs k * val (ys.take m) * B ^ k) (hz : dg vs (k + m) = 0) :
    val (vs.set (k + m) c) = val (xs.take (k + 1)) * val ys := by
  have h1 := val_set vs (k + m) c hp
  rw [hz] at h1
  rw [val_take_all ys _ (by omega)] at hI'
  rw [val_take_succ, Nat.add_mul, Nat.mul_assoc (dg xs k), Nat.mul_comm (B ^ k), ← Nat.mul_assoc]
  omega

set_option maxHeartbeats 400000 in
theorem mul_lim {w : World} {v u : Value} {xs ys : List Nat} (h1 : Lim w v xs) (h2 : Lim w u ys) (b1 : xs.length ≤ 1099511627776) (b2 : ys.length ≤ 1099511627776) :
    Calls Try.prog 84 #[v, u] w fun e w' => ∃ v zs, e = .returned v ∧ Lim w' v zs ∧ Trim zs ∧ val zs = val xs * val ys ∧ Below w.heap.size w w' := by
  obtain ⟨i0, hi, hz0, hz1, hz2⟩ := info_parts infoU32
  obtain ⟨p, c, rfl, hx, hcn, hc, ha⟩ := lim_parts h1
  obtain ⟨q, d, rfl, hy, hdm, hd, hb⟩ := lim_parts h2
  clear h1 h2
  obtain ⟨n, hn⟩ : ∃ n, n = xs.length := ⟨_, rfl⟩
  obtain ⟨m, hm⟩ : ∃ m, m = ys.length := ⟨_, rfl⟩
  have HA1 := hid (AddrOk.at' ha hn (by rw [hn]; exact hcn))
  have HA2 := hid (AddrOk.at' hb hm (by rw [hm]; exact hdm))
  rw [← hn] at hcn b1 ⊢
  rw [← hm] at hdm b2 ⊢
  have Hn := hid hn
  have Hm := hid hm
  clear hn hm ha hb
  unfold maxLen at hc hd
  go_enter Try.func84, Try.ntmps84
  go_wp2_with (refine wpList_make_limbs _ rfl _ _ 47 rfl i0 Try.underlying47 hi hz0 hz1 hz2 _ _ (n + m) (n + m) rfl rfl ?cL ?cC (Nat.le_refl _) ?cb ?_)
  case cL => omega
  case cC => omega
  case cb => omega
  intro w1 hblk hbelow hsz
  go_wp2
  go_loopw [8, 19] (fun cy i wr => ∃ (k : Nat) (us : List Nat), k ≤ n ∧ i = .int .i64 k ∧ Hid (Blk wr w.heap.size us) ∧ Hid (us.length = n + m) ∧ Fits us ∧
      Hid (val us = val (xs.take k) * val ys) ∧ Hid (∀ j, k + m ≤ j → dg us j = 0) ∧ Hid (Below w.heap.size w wr)) (fun _ i _ => n - (intOf i).toNat)
  case atStart => exact ⟨0, _, by omega, rfl, hblk, hid (by simp), Fits.zeros _, hid (by rw [val_zeros]; simp [val_nil]), hid (fun j _ => dg_zeros _ j), hbelow⟩
  case round =>
    obtain ⟨k, us, hk, rfl, hB, hl, hf, hI, hZ, hbw⟩ := hrel
    by_cases hlt : k < n
    · obtain ⟨b1, o1, rfl, hb1, cx⟩ := HA1.out k hlt
      rw [← (hbw.out).cell (by exact hb1)] at cx
      have bx := hx k
      obtain ⟨wo, rfl⟩ : ∃ wo : World, wo = wr := ⟨_, rfl⟩
      go_wp2
      go_loopw [8, 26] (fun cy j wr => ∃ (l c : Nat) (vs : List Nat), l ≤ m ∧ j = .int .i64 l ∧ cy = .int .u64 c ∧ c < 4294967296 ∧ Hid (Blk wr w.heap.size vs) ∧ Hid (vs.length = n + m) ∧ Fits vs ∧
          Hid (val vs + c * B ^ (k + l) = val us + dg xs k * val (ys.take l) * B ^ k) ∧ Hid (∀ j, k + l ≤ j → dg vs j = dg us j) ∧ Hid (Below w.heap.size w wr)) (fun _ j _ => m - (intOf j).toNat)
      case atStart => exact ⟨0, 0, us, by omega, rfl, rfl, by omega, hB, hl, hf, hid (by simp [val_nil]), hid (fun j _ => rfl), hbw⟩
      case round =>
        obtain ⟨l, c0, vs, hl', rfl, rfl, hc0, hB', hl2, hf', hI', hZ', hbw'⟩ := hrel
        by_cases hlt2 : l < m
        · obtain ⟨b2, o2, rfl, hb2, cy⟩ := HA2.out l hlt2
          rw [← (hbw'.out).cell (by exact hb2)] at cy
          have by' := hy l
          have cu := hB'.out.cell (i := k + l) (by rw [hl2.out]; omega)
          have fu := hB'.out.free (k + l)
          have bu := hf' (k + l)
          have bm := mul_le_limbs bx by'
          go_wp2
          go_roundw
          case rel =>
            refine ⟨l + 1, (c0 + (dg xs k * dg ys l + dg vs (k + l))) / 4294967296, vs.set (k + l) ((c0 + (dg xs k * dg ys l + dg vs (k + l))) % 4294967296), by omega, by go_num, val_int (by omega), by omega, hid (hB'.out.set' _ _ _ (by omega)), hid (by rw [List.length_set]; exact hl2.out),
              hf'.set _ _ (by omega), hid (mul_step (by rw [hl2.out]; omega) hI'.out rfl), hid (fun j hj => ?_), hid (hbw'.out.setCell (Nat.le_refl _) _)⟩
            rw [dg_set_ne _ _ _ _ (by omega)]
            exact hZ'.out j (by omega)
          case measure => simp [intOf]; omega
        · obtain rfl : l = m := by omega
          have cu := hB'.out.cell (i := k + l) (by rw [hl2.out]; omega)
          have fu := hB'.out.free (k + l)
          go_wp2
          go_roundw
          case rel =>
            refine ⟨k + 1, vs.set (k + l) c0, by omega, by go_num, hid (hB'.out.set' _ _ _ (by omega)), hid (by rw [List.length_set]; exact hl2.out), hf'.set _ _ (by omega),
              hid (mul_row Hm.out (by rw [hl2.out]; omega) hI.out hI'.out (by rw [hZ'.out _ (Nat.le_refl _)]; exact hZ.out _ (Nat.le_refl _))), hid (fun j hj => ?_), hid (hbw'.out.setCell (Nat.le_refl _) _)⟩
            rw [dg_set_ne _ _ _ _ (by omega), hZ'.out j (by omega)]
            exact hZ.out j (by omega)
          case measure => simp [intOf]; omega
    · obtain rfl : k = n := by omega
      go_wp2_with fail
      have hv : val us = val xs * val ys := by
        have h2 := hI.out
        rw [val_take_all xs _ (by rw [← Hn.out]; exact Nat.le_refl _)] at h2
        exact h2
      have hL := hB.out.lim hf 0 (k + m) (k + m) (by rw [hl.out]; omega) (Nat.le_refl _) (by unfold maxLen; omega)
      rw [List.drop_zero, List.take_of_length_le (by rw [hl.out]; exact Nat.le_refl _)] at hL
      have HL := hid hL
      have HV := hid hv
      clear hL hv
      refine (trim_lim HL.out).mono ?_
      rintro e w' ⟨v', rfl, hL3, rfl⟩
      go_wp2_with fail
      go_ret
      exact ⟨_, _, rfl, hL3, trim_trimL _, by rw [val_trimL]; exact HV.out, hbw.out⟩

end Go.Proofs.Ytjeeepcnaaadmaa

