import Derived.Test.YtjeeepcnaaadmaaNatSub
import Derived.Test.YtjeeepcnaaadmaaShelf
namespace Go.Proofs.Ytjeeepcnaaadmaa
open Go.RowKit
open Num
set_option linter.unusedVariables false
set_option maxRecDepth 100000
set_option linter.unusedSimpArgs false

/-- A shifted limb and what was carried. -/
theorem or_shift {c x s : Nat} (hs : s ≤ 31) (hc : c < 2 ^ s) (hx : x < 4294967296) : ∃ z : Nat, z = c + x * 2 ^ s ∧ z < 9223372036854775808 ∧ z / 4294967296 < 2 ^ s ∧
    bits BinOp.or IntKind.u64 (c : Int) (IntKind.u64.wrap ((x : Int) * 2 ^ s)) = (z : Int) := by
  have hS : 2 ^ s ≤ 2 ^ 31 := Nat.pow_le_pow_right (by omega) hs
  have hp : 0 < 2 ^ s := Nat.pow_pos (by omega)
  have h1 : x * 2 ^ s ≤ 4294967295 * 2 ^ s := Nat.mul_le_mul_right _ (by omega)
  have h2 : c + x * 2 ^ s < 4294967296 * 2 ^ s := by omega
  refine ⟨_, rfl, by omega, ?_, ?_⟩
  · rw [Nat.div_lt_iff_lt_mul (by omega)]; omega
  · have e : ((x : Int) * 2 ^ s) = ((x * 2 ^ s : Nat) : Int) := by rw [Int.natCast_mul, Int.natCast_pow]; rfl
    rw [e, IntWalk.u64_in _ (by omega), u64_or_nat _ _ (by omega) (by omega), Nat.or_comm, nat_join s _ _ (Nat.mul_mod_left _ _) hc, Nat.add_comm]

/-- One step of 'times S'. -/
theorem scale_step {xs us : List Nat} {k c S z n : Nat} (hl : us.length = n) (hk : k < n) (hI : val (us.take k) + c * B ^ k = val (xs.take k) * S) (hz : z = c + dg xs k * S) :
    val ((us.set k (z % 4294967296)).take (k + 1)) + z / 4294967296 * B ^ (k + 1) = val (xs.take (k + 1)) * S := by
  rw [val_take_set _ _ _ (by omega), val_take_succ xs]
  have h := carry_split z (B ^ k)
  rw [Nat.pow_succ]
  subst hz
  rw [Nat.add_mul] at h
  rw [Nat.add_mul (val _) _ S, Nat.mul_right_comm]
  omega

set_option maxHeartbeats 400000 in
theorem double_lim {w : World} {v : Value} {xs : List Nat} (h1 : Lim w v xs) (b1 : xs.length ≤ 1099511627776) (s : Nat) (hs : s ≤ 31) :
    Calls Try.prog 113 #[v, .int .i64 s] w fun e w' => ∃ zs, e = .returned (.slice (some ⟨w.heap.size, 0, none⟩) (xs.length + 1) (xs.length + 1)) ∧ Blk w' w.heap.size zs ∧ Fits zs ∧ zs.length = xs.length + 1 ∧ val zs = val xs * 2 ^ s ∧ Below w.heap.size w w' := by
  obtain ⟨i0, hi, hz0, hz1, hz2⟩ := info_parts infoU32
  obtain ⟨p, c, rfl, hx, hcn, hc, ha⟩ := lim_parts h1
  clear h1
  obtain ⟨n, hn⟩ : ∃ n, n = xs.length := ⟨_, rfl⟩
  have HA1 := hid (AddrOk.at' ha hn (by rw [hn]; exact hcn))
  rw [← hn] at hcn b1 ⊢
  have Hn := hid hn
  clear hn ha
  unfold maxLen at hc
  go_enter Try.func113, Try.ntmps113
  go_wp2_with (refine wpList_make_limbs _ rfl _ _ 47 rfl i0 Try.underlying47 hi hz0 hz1 hz2 _ _ (n + 1) (n + 1) rfl rfl ?cL ?cC (Nat.le_refl _) ?cb ?_)
  case cL => omega
  case cC => omega
  case cb => omega
  intro w1 hblk hbelow hsz
  go_wp2
  go_loopw [6, 15] (fun cy i wr => ∃ (k c0 : Nat) (us : List Nat), k ≤ n ∧ i = .int .i64 k ∧ cy = .int .u64 c0 ∧ c0 < 2147483648 ∧ Hid (c0 < 2 ^ s) ∧ Hid (Blk wr w.heap.size us) ∧ Hid (us.length = n + 1) ∧ Fits us ∧
      Hid (val (us.take k) + c0 * B ^ k = val (xs.take k) * 2 ^ s) ∧ Hid (Below w.heap.size w wr)) (fun _ i _ => n - (intOf i).toNat)
  case atStart => exact ⟨0, 0, _, by omega, rfl, rfl, by omega, Nat.pow_pos (by omega), hblk, hid (by simp), Fits.zeros _, hid (by simp [val_nil]), hbelow⟩
  case round =>
    obtain ⟨k, c0, us, hk, rfl, rfl, hc0, hcs, hB, hl, hf, hI, hbw⟩ := hrel
    by_cases hlt : k < n
    · obtain ⟨b1, o1, rfl, hb1, cx⟩ := HA1.out k hlt
      rw [← (hbw.out).cell (by exact hb1)] at cx
      have cu := hB.out.cell (i := k) (by rw [hl.out]; omega)
      have fu := hB.out.free k
      have bx := hx k
      obtain ⟨z, hz, hzb, hzc, hor⟩ := or_shift hs hcs.out bx
      have HZ := hid hz
      have HZC := hid hzc
      have hS : z / 4294967296 < 2147483648 := by omega
      clear hz hzc
      go_wp2
      go_roundw
      case rel =>
        exact ⟨k + 1, z / 4294967296, us.set k (z % 4294967296), by omega, by go_num, val_int (by omega), hS, HZC, hid (hB.out.set' k _ _ (by omega)), hid (by rw [List.length_set]; exact hl.out),
          hf.set _ _ (by omega), hid (scale_step hl.out (by omega) hI.out HZ.out), hid (hbw.out.setCell (Nat.le_refl _) _)⟩
      case measure => simp [intOf]; omega
    · obtain rfl : k = n := by omega
      have cu := hB.out.cell (i := k) (by rw [hl.out]; omega)
      have fu := hB.out.free k
      have hv : val (us.set k c0) = val xs * 2 ^ s := by
        have h1 := val_take_set us k c0 (by rw [hl.out]; omega)
        have h2 := hI.out
        rw [List.take_of_length_le (by rw [List.length_set, hl.out]; exact Nat.le_refl _)] at h1
        rw [val_take_all xs _ (by rw [← Hn.out]; exact Nat.le_refl _)] at h2
        omega
      have HV := hid hv
      clear hv
      go_wp2
      go_ret
      exact ⟨us.set k c0, rfl, hB.out.set' k _ _ (by omega), hf.set _ _ (by omega), by rw [List.length_set]; exact hl.out, HV.out, hbw.out.setCell (Nat.le_refl _) _⟩

/-- One step of 'divided by S', from above. -/
theorem halve_step {V x y s : Nat} (hs : s ≤ 31) (hx : x < 4294967296) (hy : y = V % 4294967296) :
    (x + 4294967296 * V) / 2 ^ s = (y * 4294967296 + x) / 2 ^ s % 4294967296 + 4294967296 * (V / 2 ^ s) := by
  obtain ⟨S, hS⟩ : ∃ S, S = 2 ^ s := ⟨_, rfl⟩
  obtain ⟨T, hT⟩ : ∃ T, T = 2 ^ (32 - s) := ⟨_, rfl⟩
  have hST : S * T = 4294967296 := by
    rw [hS, hT, ← Nat.pow_add, show s + (32 - s) = 32 by omega]
  have hp : 0 < S := by rw [hS]; exact Nat.pow_pos (by omega)
  rw [← hS]
  have e1 := Nat.div_add_mod V S
  have e2 := Nat.div_add_mod V 4294967296
  have er : y % S = V % S := by
    rw [hy, ← hST]
    exact Nat.mod_mul_right_mod V S T
  have e3 := Nat.div_add_mod y S
  have hr : V % S < S := Nat.mod_lt _ hp
  rw [er] at e3
  have d : ∀ q, (x + 4294967296 * (S * q + V % S)) / S = 4294967296 * q + (x + 4294967296 * (V % S)) / S := by
    intro q
    have : x + 4294967296 * (S * q + V % S) = (x + 4294967296 * (V % S)) + S * (4294967296 * q) := by
      rw [Nat.mul_add, Nat.mul_left_comm]; omega
    rw [this, Nat.add_mul_div_left _ _ hp, Nat.add_comm]
  have hlt : (x + 4294967296 * (V % S)) / S < 4294967296 := by
    rw [Nat.div_lt_iff_lt_mul hp]
    have := Nat.mul_le_mul_left 4294967296 (show V % S + 1 ≤ S by omega)
    rw [Nat.mul_add] at this
    omega
  have h1 := d (V / S)
  rw [e1] at h1
  have h2 := d (y / S)
  rw [e3] at h2
  rw [h1, show y * 4294967296 + x = x + 4294967296 * y by omega, h2, Nat.mul_add_mod, Nat.mod_eq_of_lt hlt, Nat.add_comm]

/-- The limb above (its low part alone) and this one. -/
theorem or_above {A x : Nat} (hx : x < 4294967296) : ∃ P : Nat, P = (A % 4294967296) * 4294967296 + x ∧ bits BinOp.or IntKind.u64 (IntKind.u64.wrap ((A : Int) * 4294967296)) (x : Int) = (P : Int) := by
  obtain ⟨P, hP, h⟩ := or_limb (A % 4294967296) x (by omega) hx
  refine ⟨P, hP, ?_⟩
  rw [← h, IntKind.wrap_u64]
  congr 1
  omega
theorem cast_shr (P s : Nat) : (P : Int) / 2 ^ s % 4294967296 = ((P / 2 ^ s % 4294967296 : Nat) : Int) := by
  rw [Int.natCast_emod, Int.natCast_ediv, Int.natCast_pow]; rfl

set_option maxHeartbeats 400000 in
theorem halve_lim {w : World} {v : Value} {xs : List Nat} (h1 : Lim w v xs) (b1 : xs.length ≤ 1099511627776) (s : Nat) (hs : s ≤ 31) :
    Calls Try.prog 115 #[v, .int .i64 s] w fun e w' => ∃ v zs, e = .returned v ∧ Lim w' v zs ∧ zs.length = xs.length ∧ val zs = val xs / 2 ^ s ∧ Below w.heap.size w w' := by
  obtain ⟨i0, hi, hz0, hz1, hz2⟩ := info_parts infoU32
  obtain ⟨p, c, rfl, hx, hcn, hc, ha⟩ := lim_parts h1
  clear h1
  obtain ⟨n, hn⟩ : ∃ n, n = xs.length := ⟨_, rfl⟩
  have HA1 := hid (AddrOk.at' ha hn (by rw [hn]; exact hcn))
  rw [← hn] at hcn b1 ⊢
  have Hn := hid hn
  clear hn ha
  unfold maxLen at hc
  go_enter Try.func115, Try.ntmps115
  go_wp2_with (refine wpList_make_limbs _ rfl _ _ 47 rfl i0 Try.underlying47 hi hz0 hz1 hz2 _ _ n n rfl rfl rfl rfl (Nat.le_refl _) ?cb ?_)
  case cb => omega
  intro w1 hblk hbelow hsz
  go_wp2
  go_loopw [6, 7] (fun a i wr => ∃ (z : Int) (A : Nat) (us : List Nat), -1 ≤ z ∧ z < n ∧ i = .int .i64 z ∧ a = .int .u64 A ∧ A < 18446744073709551616 ∧ Hid (A % 4294967296 = val (xs.drop (z + 1).toNat) % 4294967296) ∧ Hid (Blk wr w.heap.size us) ∧ Hid (us.length = n) ∧ Fits us ∧
      Hid (val (us.drop (z + 1).toNat) = val (xs.drop (z + 1).toNat) / 2 ^ s) ∧ Hid (Below w.heap.size w wr)) (fun _ i _ => (intOf i + 1).toNat)
  case atStart =>
    have e1 : xs.drop ((n : Int) - 1 + 1).toNat = [] := List.drop_eq_nil_of_le (by rw [← Hn.out]; omega)
    have e2 : (List.replicate n 0).drop ((n : Int) - 1 + 1).toNat = [] := List.drop_eq_nil_of_le (by rw [List.length_replicate]; omega)
    exact ⟨(n : Int) - 1, 0, _, by omega, by omega, rfl, rfl, by omega, hid (by rw [e1]; rfl), hblk, hid (by simp), Fits.zeros _, hid (by rw [e1, e2, val_nil, Nat.zero_div]), hbelow⟩
  case round =>
    obtain ⟨z, A, us, hz1, hz2, rfl, rfl, hA, hAx, hB, hl, hf, hI, hbw⟩ := hrel
    by_cases h0 : z = -1
    · subst h0
      have hL := hB.out.lim hf 0 n n (by rw [hl.out]; omega) (Nat.le_refl _) (by unfold maxLen; omega)
      rw [List.drop_zero, List.take_of_length_le (by rw [hl.out]; exact Nat.le_refl _)] at hL
      have HL := hid hL
      clear hL
      go_wp2
      go_ret
      exact ⟨_, us, rfl, HL.out, hl.out, hI.out, hbw.out⟩
    · obtain ⟨k, rfl⟩ := Int.eq_ofNat_of_zero_le (show 0 ≤ z by omega)
      obtain ⟨b1, o1, rfl, hb1, cx⟩ := HA1.out k (by omega)
      rw [← (hbw.out).cell (by exact hb1)] at cx
      have cu := hB.out.cell (i := k) (by rw [hl.out]; omega)
      have fu := hB.out.free k
      have bx := hx k
      obtain ⟨P, hP, hor⟩ := or_above (A := A) bx
      have hPb : P < 18446744073709551616 := by omega
      have HP := hid hP
      clear hP
      go_wp2
      go_roundw
      case rel =>
        have hA' := hAx.out
        have hI' := hI.out
        rw [show ((k : Int) + 1).toNat = k + 1 by omega] at hA' hI'
        have ek : ((k : Int) - 1 + 1).toNat = k := by omega
        have hd := drop_dg (l := xs) (k := k) (by rw [← Hn.out]; omega)
        have hp : P % 4294967296 = dg xs k := by rw [HP.out]; omega
        refine ⟨(k : Int) - 1, P, us.set k (P / 2 ^ s % 4294967296), by omega, by omega, rfl, rfl, hPb, ?_, hid (hB.out.set' k _ _ (cast_shr P s)), hid (by rw [List.length_set]; exact hl.out), hf.set _ _ (by omega), ?_, hid (hbw.out.setCell (Nat.le_refl _) _)⟩
        · show _ = _
          rw [ek, hd, val_cons, B_eq, hp, Nat.add_mul_mod_self_left]
          omega
        · show _ = _
          rw [ek, drop_dg (by rw [List.length_set, hl.out]; omega), dg_set_self _ _ _ (by rw [hl.out]; omega), List.drop_set_of_lt (by omega), hd, val_cons, val_cons, hI', B_eq, HP.out]
          exact (halve_step hs bx hA').symm
      case measure => simp [intOf]

end Go.Proofs.Ytjeeepcnaaadmaa

