import Derived.Test.YtjeeepcnaaadmaaLess
namespace Go.Proofs.Ytjeeepcnaaadmaa
open Go.RowKit
open Num
set_option linter.unusedVariables false
set_option maxRecDepth 100000
set_option linter.unusedSimpArgs false

/-- One step of the sum. -/
theorem add_step {xs ys us : List Nat} {k c s n : Nat} (hl : us.length = n + 1) (hk : k < n) (hI : val (us.take k) + c * B ^ k = val (xs.take k) + val (ys.take k)) (hs : s = c + dg xs k + dg ys k) :
    val ((us.set k (s % 4294967296)).take (k + 1)) + s / 4294967296 * B ^ (k + 1) = val (xs.take (k + 1)) + val (ys.take (k + 1)) := by
  rw [val_take_set _ _ _ (by omega), val_take_succ, val_take_succ ys]
  have h := carry_split s (B ^ k)
  rw [Nat.pow_succ]
  subst hs
  rw [Nat.add_mul, Nat.add_mul] at h
  omega

set_option maxHeartbeats 400000 in
theorem add_core (p q : Option Addr) (c d n m : Nat) (xs ys : List Nat) (w : World) (hx : Fits xs) (hy : Fits ys) (hcn : n ≤ c) (hdm : m ≤ d) (hn : n = xs.length) (hm : m = ys.length) (A1 A2 : Value)
    (hA : (A1 = .slice p n c ∧ A2 = .slice q m d ∧ m ≤ n) ∨ (A1 = .slice q m d ∧ A2 = .slice p n c ∧ m < n))
    (hc : c ≤ maxLen) (hd : d ≤ maxLen) (hbig : n ≤ 1099511627776) (hA1 : ∀ k, k < n → ∃ b off, p = some ⟨b, off, none⟩ ∧ b < w.heap.size ∧ w.cell? ⟨b, off + k, none⟩ = some (.int .u32 (dg xs k)))
    (hA2 : ∀ k, k < m → ∃ b off, q = some ⟨b, off, none⟩ ∧ b < w.heap.size ∧ w.cell? ⟨b, off + k, none⟩ = some (.int .u32 (dg ys k))) :
    Calls Try.prog 85 #[A1, A2] w fun e w' => ∃ v zs, e = .returned v ∧ Lim w' v zs ∧ Trim zs ∧ val zs = val xs + val ys ∧ Below w.heap.size w w' := by
  obtain ⟨i0, hi, hz0, hz1, hz2⟩ := info_parts infoU32
  have Hn := hid hn
  have Hm := hid hm
  have HA1 := hid hA1
  have HA2 := hid hA2
  clear hn hm hA1 hA2
  unfold maxLen at hc hd
  rcases hA with ⟨rfl, rfl, hle⟩ | ⟨rfl, rfl, hle⟩ <;>
  ( go_enter Try.func85, Try.ntmps85
    go_wp2_with (refine wpList_make_limbs _ rfl _ _ 47 rfl i0 Try.underlying47 hi hz0 hz1 hz2 _ _ (n + 1) (n + 1) rfl rfl ?cL ?cC (Nat.le_refl _) ?cb ?_)
    case cL => omega
    case cC => omega
    case cb => omega
    intro w1 hblk hbelow hsz
    go_wp2
    go_loopw [6, 22] (fun cy i wr => ∃ (k c : Nat) (us : List Nat), k ≤ n ∧ i = .int .i64 k ∧ cy = .int .u64 c ∧ c ≤ 1 ∧ Hid (Blk wr w.heap.size us) ∧ Hid (us.length = n + 1) ∧ Fits us ∧
        Hid (val (us.take k) + c * B ^ k = val (xs.take k) + val (ys.take k)) ∧ Hid (Below w.heap.size w wr)) (fun _ i _ => n - (intOf i).toNat)
    case atStart => exact ⟨0, 0, _, by omega, rfl, rfl, by omega, hblk, hid (by simp), Fits.zeros _, hid (by simp [val_nil]), hbelow⟩
    case round =>
      obtain ⟨k, c0, us, hk, rfl, rfl, hc0, hB, hl, hf, hI, hbw⟩ := hrel
      by_cases hlt : k < n
      · obtain ⟨b1, o1, rfl, hb1, cx⟩ := HA1.out k hlt
        rw [← (hbw.out).cell (by exact hb1)] at cx
        have cu := hB.out.cell (i := k) (by rw [hl.out]; omega)
        have fu := hB.out.free k
        have bx := hx k
        have by' := hy k
        by_cases hm2 : k < m
        · obtain ⟨b2, o2, rfl, hb2, cy⟩ := HA2.out k hm2
          rw [← (hbw.out).cell (by exact hb2)] at cy
          go_wp2
          go_roundw
          case rel =>
            exact ⟨k + 1, (c0 + dg xs k + dg ys k) / 4294967296, us.set k ((c0 + dg xs k + dg ys k) % 4294967296), by omega, by go_num, val_int (by omega), by omega, hid (hB.out.set' k _ _ (by omega)), hid (by rw [List.length_set]; exact hl.out),
              hf.set _ _ (by omega), hid (add_step hl.out hlt hI.out rfl), hid (hbw.out.setCell (Nat.le_refl _) _)⟩
          case measure => simp [intOf]; omega
        · have hy0 : dg ys k = 0 := dg_ge (by rw [← Hm.out]; omega)
          have HY := hid hy0
          clear hy0 by'
          go_wp2
          go_roundw
          case rel =>
            exact ⟨k + 1, (c0 + dg xs k) / 4294967296, us.set k ((c0 + dg xs k) % 4294967296), by omega, by go_num, val_int (by omega), by omega, hid (hB.out.set' k _ _ (by omega)), hid (by rw [List.length_set]; exact hl.out),
              hf.set _ _ (by omega), hid (add_step hl.out hlt hI.out (by rw [HY.out]; rfl)), hid (hbw.out.setCell (Nat.le_refl _) _)⟩
          case measure => simp [intOf]; omega
      · obtain rfl : k = n := by omega
        have cu := hB.out.cell (i := k) (by rw [hl.out]; omega)
        have fu := hB.out.free k
        go_wp2_with fail
        have hB2 := hB.out.set' k (c0 : Int) c0 rfl
        have hf2 := hf.set k c0 (by omega)
        have hl2 : (us.set k c0).length = k + 1 := by rw [List.length_set]; exact hl.out
        have hv : val (us.set k c0) = val xs + val ys := by
          have h1 := val_take_set us k c0 (by rw [hl.out]; omega)
          have h2 := hI.out
          rw [List.take_of_length_le (by omega)] at h1
          rw [val_take_all xs _ (by rw [← Hn.out]; exact Nat.le_refl _), val_take_all ys _ (by rw [← Hm.out]; omega)] at h2
          omega
        have hb2 := hbw.out.setCell (p := ⟨w.heap.size, k, none⟩) (Nat.le_refl _) (.int .u32 (c0 : Int))
        have hL := hB2.lim hf2 0 (k + 1) (k + 1) (by omega) (Nat.le_refl _) (by unfold maxLen; omega)
        rw [List.drop_zero, List.take_of_length_le (by omega)] at hL
        have HL := hid hL
        have HV := hid hv
        have HB2 := hid hb2
        clear hL hv hb2 hB2 hf2 hl2
        refine (trim_lim HL.out).mono ?_
        rintro e w' ⟨v', rfl, hL3, rfl⟩
        go_wp2_with fail
        go_ret
        exact ⟨_, _, rfl, hL3, trim_trimL _, by rw [val_trimL]; exact HV.out, HB2.out⟩)

theorem add_lim {w : World} {v u : Value} {xs ys : List Nat} (h1 : Lim w v xs) (h2 : Lim w u ys) (b1 : xs.length ≤ 1099511627776) (b2 : ys.length ≤ 1099511627776) :
    Calls Try.prog 85 #[v, u] w fun e w' => ∃ v zs, e = .returned v ∧ Lim w' v zs ∧ Trim zs ∧ val zs = val xs + val ys ∧ Below w.heap.size w w' := by
  obtain ⟨hf, p, c, rfl, hc, hm, ha⟩ := h1
  obtain ⟨hf2, q, d, rfl, hd, hm2, ha2⟩ := h2
  have A1 := AddrOk.at' ha rfl hc
  have A2 := AddrOk.at' ha2 rfl hd
  by_cases hle : ys.length ≤ xs.length
  · exact add_core p q c d _ _ xs ys w hf hf2 hc hd rfl rfl _ _ (.inl ⟨rfl, rfl, hle⟩) hm hm2 b1 A1 A2
  · rw [Nat.add_comm]
    exact add_core q p d c _ _ ys xs w hf2 hf hd hc rfl rfl _ _ (.inr ⟨rfl, rfl, by omega⟩) hm2 hm b2 A2 A1

end Go.Proofs.Ytjeeepcnaaadmaa

