import Derived.Test.YtokojbgpboccnaaBunProofSturmOwn5
import Derived.Test.YtokojbgpboccnaaBunProofSturmOwn2
import Derived.Test.YtokojbgpboccnaaBunProofSturmOwn1
namespace Go.Proofs.Ytokojbgpboccnaa
open Go.RowKit
open Num
set_option linter.unusedVariables false
set_option maxRecDepth 100000
set_option linter.unusedSimpArgs false

/-- A shifted limb and what was carried. -/
theorem or_shift {c x s : Nat} (hs : s ≤ 31) (hc : c < 2 ^ s) (hx : x < 4294967296) : ∃ z : Nat, z = c + x * 2 ^ s ∧ z < 9223372036854775808 ∧ z / 4294967296 < 2 ^ s ∧
    bits BinOp.or IntKind.u64 (c : Int) (IntKind.u64.wrap ((x : Int) * 2 ^ s)) = (z : Int) := by
  have hS : 2 ^ s ≤ 2 ^ 31 := Nat.pow_le_pow_right (by omega) hs
  have hp : 0 < 2 ^ s := Nat.pow_pos (by omega)
  have h1 : x * 2 ^ s ≤ 4294967295 * 2 ^ s := Nat.mul_le_mul_right _ (by omega)
  have h2 : c + x * 2 ^ s < 4294967296 * 2 ^ s := by omega
  refine ⟨_, rfl, by omega, ?_, ?_⟩
  · rw [Nat.div_lt_iff_lt_mul (by omega)]; omega
  · have e : ((x : Int) * 2 ^ s) = ((x * 2 ^ s : Nat) : Int) := by rw [Int.natCast_mul, Int.natCast_pow]; rfl
    rw [e, IntWalk.u64_in _ (by omega), u64_or_nat _ _ (by omega) (by omega), Nat.or_comm, nat_join s _ _ (Nat.mul_mod_left _ _) hc, Nat.add_comm]

/-- One step of 'times S'. -/
theorem scale_step {xs us : List Nat} {k c S z n : Nat} (hl : us.length = n) (hk : k < n) (hI : val (us.take k) + c * B ^ k = val (xs.take k) * S) (hz : z = c + dg xs k * S) :
    val ((us.set k (z % 4294967296)).take (k + 1)) + z / 4294967296 * B ^ (k + 1) = val (xs.take (k + 1)) * S := by
  rw [val_take_set _ _ _ (by omega), val_take_succ xs]
  have h := carry_split z (B ^ k)
  rw [Nat.pow_succ]
  subst hz
  rw [Nat.add_mul] at h
  rw [Nat.add_mul (val _) _ S, Nat.mul_right_comm]
  omega

set_option maxHeartbeats 400000 in
theorem double_lim {w : World} {v : Value} {xs : List Nat} (h1 : Lim w v xs) (b1 : xs.length ≤ 1099511627776) (s : Nat) (hs : s ≤ 31) :
    Calls Try.prog 92 #[v, .int .i64 s] w fun e w' => ∃ zs, e = .returned (.slice (some ⟨w.heap.size, 0, none⟩) (xs.length + 1) (xs.length + 1)) ∧ Blk w' w.heap.size zs ∧ Fits zs ∧ zs.length = xs.length + 1 ∧ val zs = val xs * 2 ^ s ∧ Below w.heap.size w w' := by
  obtain ⟨i0, hi, hz0, hz1, hz2⟩ := info_parts infoU32
  obtain ⟨p, c, rfl, hx, hcn, hc, ha⟩ := lim_parts h1
  clear h1
  obtain ⟨n, hn⟩ : ∃ n, n = xs.length := ⟨_, rfl⟩
  have HA1 := hid (AddrOk.at' ha hn (by rw [hn]; exact hcn))
  rw [← hn] at hcn b1 ⊢
  have Hn := hid hn
  clear hn ha
  unfold maxLen at hc
  go_enter Try.func92, Try.ntmps92
  go_wp2_with (refine wpList_make_limbs _ rfl _ _ 45 rfl i0 Try.underlying45 hi hz0 hz1 hz2 _ _ (n + 1) (n + 1) rfl rfl ?cL ?cC (Nat.le_refl _) ?cb ?_)
  case cL => omega
  case cC => omega
  case cb => omega
  intro w1 hblk hbelow hsz
  go_wp2
  go_loopw [6, 15] (fun cy i wr => ∃ (k c0 : Nat) (us : List Nat), k ≤ n ∧ i = .int .i64 k ∧ cy = .int .u64 c0 ∧ c0 < 2147483648 ∧ Hid (c0 < 2 ^ s) ∧ Hid (Blk wr w.heap.size us) ∧ Hid (us.length = n + 1) ∧ Fits us ∧
      Hid (val (us.take k) + c0 * B ^ k = val (xs.take k) * 2 ^ s) ∧ Hid (Below w.heap.size w wr)) (fun _ i _ => n - (intOf i).toNat)
  case atStart => exact ⟨0, 0, _, by omega, rfl, rfl, by omega, Nat.pow_pos (by omega), hblk, hid (by simp), Fits.zeros _, hid (by simp [val_nil]), hbelow⟩
  case round =>
    obtain ⟨k, c0, us, hk, rfl, rfl, hc0, hcs, hB, hl, hf, hI, hbw⟩ := hrel
    by_cases hlt : k < n
    · obtain ⟨b1, o1, rfl, hb1, cx⟩ := HA1.out k hlt
      rw [← (hbw.out).cell (by exact hb1)] at cx
      have cu := hB.out.cell (i := k) (by rw [hl.out]; omega)
      have fu := hB.out.free k
      have bx := hx k
      obtain ⟨z, hz, hzb, hzc, hor⟩ := or_shift hs hcs.out bx
      have HZ := hid hz
      have HZC := hid hzc
      have hS : z / 4294967296 < 2147483648 := by omega
      clear hz hzc
      go_wp2
      go_roundw
      case rel =>
        exact ⟨k + 1, z / 4294967296, us.set k (z % 4294967296), by omega, by go_num, val_int (by omega), hS, HZC, hid (hB.out.set' k _ _ (by omega)), hid (by rw [List.length_set]; exact hl.out),
          hf.set _ _ (by omega), hid (scale_step hl.out (by omega) hI.out HZ.out), hid (hbw.out.setCell (Nat.le_refl _) _)⟩
      case measure => simp [intOf]; omega
    · obtain rfl : k = n := by omega
      have cu := hB.out.cell (i := k) (by rw [hl.out]; omega)
      have fu := hB.out.free k
      have hv : val (us.set k c0) = val xs * 2 ^ s := by
        have h1 := val_take_set us k c0 (by rw [hl.out]; omega)
        have h2 := hI.out
        rw [List.take_of_length_le (by rw [List.length_set, hl.out]; exact Nat.le_refl _)] at h1
        rw [val_take_all xs _ (by rw [← Hn.out]; exact Nat.le_refl _)] at h2
        omega
      have HV := hid hv
      clear hv
      go_wp2
      go_ret
      exact ⟨us.set k c0, rfl, hB.out.set' k _ _ (by omega), hf.set _ _ (by omega), by rw [List.length_set]; exact hl.out, HV.out, hbw.out.setCell (Nat.le_refl _) _⟩

/-- One step of 'divided by S', from above. -/
theorem halve_step {V x y s : Nat} (hs : s ≤ 31) (hx : x < 4294967296) (hy : y = V % 4294967296) :
    (x + 4294967296 * V) / 2 ^ s = (y * 4294967296 + x) / 2 ^ s % 4294967296 + 4294967296 * (V / 2 ^ s) := by
  obtain ⟨S, hS⟩ : ∃ S, S = 2 ^ s := ⟨_, rfl⟩
  obtain ⟨T, hT⟩ : ∃ T, T = 2 ^ (32 - s) := ⟨_, rfl⟩
  have hST : S * T = 4294967296 := by
    rw [hS, hT, ← Nat.pow_add, show s + (32 - s) = 32 by omega]
  have hp : 0 < S := by rw [hS]; exact Nat.pow_pos (by omega)
  rw [← hS]
  have e1 := Nat.div_add_mod V S
  have e2 := Nat.div_add_mod V 4294967296
  have er : y % S = V % S := by
    rw [hy, ← hST]
    exact Nat.mod_mul_right_mod V S T
  have e3 := Nat.div_add_mod y S
  have hr : V % S < S := Nat.mod_lt _ hp
  rw [er] at e3
  have d : ∀ q, (x + 4294967296 * (S * q + V % S)) / S = 4294967296 * q + (x + 4294967296 * (V % S)) / S := by
    intro q
    have : x + 4294967296 * (S * q + V % S) = (x + 4294967296 * (V % S)) + S * (4294967296 * q) := by
      rw [Nat.mul_add, Nat.mul_left_comm]; omega
    rw [this, Nat.add_mul_div_left _ _ hp, Nat.add_comm]
  have hlt : (x + 4294967296 * (V % S)) / S < 4294967296 := by
    rw [Nat.div_lt_iff_lt_mul hp]
    have := Nat.mul_le_mul_left 4294967296 (show V % S + 1 ≤ S by omega)
    rw [Nat.mul_add] at this
    omega
  have h1 := d (V / S)
  rw [e1] at h1
  have h2 := d (y / S)
  rw [e3] at h2
  rw [h1, show y * 4294967296 + x = x + 4294967296 * y by omega, h2, Nat.mul_add_mod, Nat.mod_eq_of_lt hlt, Nat.add_comm]

/-- The limb above (its low part alone) and this one. -/
theorem or_above {A x : Nat} (hx : x < 4294967296) : ∃ P : Nat, P = (A % 4294967296) * 4294967296 + x ∧ bits BinOp.or IntKind.u64 (IntKind.u64.wrap ((A : Int) * 4294967296)) (x : Int) = (P : Int) := by
  obtain ⟨P, hP, h⟩ := or_limb (A % 4294967296) x (by omega) hx
  refine ⟨P, hP, ?_⟩
  rw [← h, IntKind.wrap_u64]
  congr 1
  omega
theorem cast_shr (P s : Nat) : (P : Int) / 2 ^ s % 4294967296 = ((P / 2 ^ s % 4294967296 : Nat) : Int) := by
  rw [Int.natCast_emod, Int.natCast_ediv, Int.natCast_pow]; rfl

set_option maxHeartbeats 400000 in
theorem halve_lim {w : World} {v : Value} {xs : List Nat} (h1 : Lim w v xs) (b1 : xs.length ≤ 1099511627776) (s : Nat) (hs : s ≤ 31) :
    Calls Try.prog 94 #[v, .int .i64 s] w fun e w' => ∃ v zs, e = .returned v ∧ Lim w' v zs ∧ zs.length = xs.length ∧ val zs = val xs / 2 ^ s ∧ Below w.heap.size w w' := by
  obtain ⟨i0, hi, hz0, hz1, hz2⟩ := info_parts infoU32
  obtain ⟨p, c, rfl, hx, hcn, hc, ha⟩ := lim_parts h1
  clear h1
  obtain ⟨n, hn⟩ : ∃ n, n = xs.length := ⟨_, rfl⟩
  have HA1 := hid (AddrOk.at' ha hn (by rw [hn]; exact hcn))
  rw [← hn] at hcn b1 ⊢
  have Hn := hid hn
  clear hn ha
  unfold maxLen at hc
  go_enter Try.func94, Try.ntmps94
  go_wp2_with (refine wpList_make_limbs _ rfl _ _ 45 rfl i0 Try.underlying45 hi hz0 hz1 hz2 _ _ n n rfl rfl rfl rfl (Nat.le_refl _) ?cb ?_)
  case cb => omega
  intro w1 hblk hbelow hsz
  go_wp2
  go_loopw [6, 7] (fun a i wr => ∃ (z : Int) (A : Nat) (us : List Nat), -1 ≤ z ∧ z < n ∧ i = .int .i64 z ∧ a = .int .u64 A ∧ A < 18446744073709551616 ∧ Hid (A % 4294967296 = val (xs.drop (z + 1).toNat) % 4294967296) ∧ Hid (Blk wr w.heap.size us) ∧ Hid (us.length = n) ∧ Fits us ∧
      Hid (val (us.drop (z + 1).toNat) = val (xs.drop (z + 1).toNat) / 2 ^ s) ∧ Hid (Below w.heap.size w wr)) (fun _ i _ => (intOf i + 1).toNat)
  case atStart =>
    have e1 : xs.drop ((n : Int) - 1 + 1).toNat = [] := List.drop_eq_nil_of_le (by rw [← Hn.out]; omega)
    have e2 : (List.replicate n 0).drop ((n : Int) - 1 + 1).toNat = [] := List.drop_eq_nil_of_le (by rw [List.length_replicate]; omega)
    exact ⟨(n : Int) - 1, 0, _, by omega, by omega, rfl, rfl, by omega, hid (by rw [e1]; rfl), hblk, hid (by simp), Fits.zeros _, hid (by rw [e1, e2, val_nil, Nat.zero_div]), hbelow⟩
  case round =>
    obtain ⟨z, A, us, hz1, hz2, rfl, rfl, hA, hAx, hB, hl, hf, hI, hbw⟩ := hrel
    by_cases h0 : z = -1
    · subst h0
      have hL := hB.out.lim hf 0 n n (by rw [hl.out]; omega) (Nat.le_refl _) (by unfold maxLen; omega)
      rw [List.drop_zero, List.take_of_length_le (by rw [hl.out]; exact Nat.le_refl _)] at hL
      have HL := hid hL
      clear hL
      go_wp2
      go_ret
      exact ⟨_, us, rfl, HL.out, hl.out, hI.out, hbw.out⟩
    · obtain ⟨k, rfl⟩ := Int.eq_ofNat_of_zero_le (show 0 ≤ z by omega)
      obtain ⟨b1, o1, rfl, hb1, cx⟩ := HA1.out k (by omega)
      rw [← (hbw.out).cell (by exact hb1)] at cx
      have cu := hB.out.cell (i := k) (by rw [hl.out]; omega)
      have fu := hB.out.free k
      have bx := hx k
      obtain ⟨P, hP, hor⟩ := or_above (A := A) bx
      have hPb : P < 18446744073709551616 := by omega
      have HP := hid hP
      clear hP
      go_wp2
      go_roundw
      case rel =>
        have hA' := hAx.out
        have hI' := hI.out
        rw [show ((k : Int) + 1).toNat = k + 1 by omega] at hA' hI'
        have ek : ((k : Int) - 1 + 1).toNat = k := by omega
        have hd := drop_dg (l := xs) (k := k) (by rw [← Hn.out]; omega)
        have hp : P % 4294967296 = dg xs k := by rw [HP.out]; omega
        refine ⟨(k : Int) - 1, P, us.set k (P / 2 ^ s % 4294967296), by omega, by omega, rfl, rfl, hPb, ?_, hid (hB.out.set' k _ _ (cast_shr P s)), hid (by rw [List.length_set]; exact hl.out), hf.set _ _ (by omega), ?_, hid (hbw.out.setCell (Nat.le_refl _) _)⟩
        · show _ = _
          rw [ek, hd, val_cons, B_eq, hp, Nat.add_mul_mod_self_left]
          omega
        · show _ = _
          rw [ek, drop_dg (by rw [List.length_set, hl.out]; omega), dg_set_self _ _ _ (by rw [hl.out]; omega), List.drop_set_of_lt (by omega), hd, val_cons, val_cons, hI', B_eq, HP.out]
          exact (halve_step hs bx hA').symm
      case measure => simp [intOf]

end Go.Proofs.Ytokojbgpboccnaa

namespace Go.Proofs.Ytokojbgpboccnaa
open Go.RowKit
open Num
set_option linter.unusedVariables false
set_option maxRecDepth 100000
set_option linter.unusedSimpArgs false

/-- The guess: the quotient of three limbs by two, one limb at most. -/
def Guessed (x0 x1 x2 f s q : Nat) : Prop :=
  q < 4294967296 ∧ q * (f * 4294967296 + s) ≤ (x0 * 4294967296 + x1) * 4294967296 + x2 ∧ ((x0 * 4294967296 + x1) * 4294967296 + x2 < (q + 1) * (f * 4294967296 + s) ∨ q + 1 = 4294967296)

theorem guess_start {x0 x1 x2 f s P : Nat} (hP : P = x0 * 4294967296 + x1) (b0 : x0 ≤ f) (bf1 : 2147483648 ≤ f) (bx1 : x1 < 4294967296) (bx2 : x2 < 4294967296) :
    P / f ≤ 8589934592 ∧ P % f < f ∧ P / f * f + P % f = P ∧ (P * 4294967296 + x2 < (P / f + 1) * (f * 4294967296 + s)) := by
  have h1 := Nat.div_add_mod P f
  have h2 : P % f < f := Nat.mod_lt _ (by omega)
  rw [Nat.mul_comm] at h1
  refine ⟨?_, h2, h1, ?_⟩
  · apply Classical.byContradiction
    intro hh
    obtain ⟨k, hk⟩ : ∃ k, P / f = k + 8589934593 := ⟨P / f - 8589934593, by omega⟩
    rw [hk, Nat.add_mul] at h1
    generalize k * f = z at *
    omega
  · have h4 : P + 1 ≤ (P / f + 1) * f := by rw [Nat.add_mul]; omega
    have h5 := Nat.mul_le_mul_right 4294967296 h4
    have h6 : (P / f + 1) * (f * 4294967296 + s) = (P / f + 1) * f * 4294967296 + (P / f + 1) * s := by rw [Nat.mul_add, Nat.mul_assoc]
    omega

/-- The test of a guess says no: it is too great. -/
theorem guess_over' {M P x2 f s q r : Nat} (hI : q * f + r = P) (h : r * M + x2 < q * s) : P * M + x2 < q * (f * M + s) := by
  rw [Nat.mul_add, ← Nat.mul_assoc, ← hI, Nat.add_mul]
  omega
theorem guess_under' {M P x2 f s q r : Nat} (hI : q * f + r = P) (h : q * s ≤ r * M + x2) : q * (f * M + s) ≤ P * M + x2 := by
  rw [Nat.mul_add, ← Nat.mul_assoc, ← hI, Nat.add_mul]
  omega
theorem guess_over {P x2 f s q r : Nat} (hI : q * f + r = P) (h : r * 4294967296 + x2 < q * s) : P * 4294967296 + x2 < q * (f * 4294967296 + s) := guess_over' hI h
theorem guess_under {P x2 f s q r : Nat} (hI : q * f + r = P) (h : q * s ≤ r * 4294967296 + x2) : q * (f * 4294967296 + s) ≤ P * 4294967296 + x2 := guess_under' hI h
theorem guess_next {P f q r : Nat} (hI : q * f + r = P) (hq : 0 < q) : (q - 1) * f + (r + f) = P := by
  obtain ⟨k, rfl⟩ : ∃ k, q = k + 1 := ⟨q - 1, by omega⟩
  rw [Nat.add_mul] at hI
  rw [Nat.add_sub_cancel]
  omega
theorem guess_roomy {x0 x1 P f q r : Nat} (hP : P = x0 * 4294967296 + x1) (b0 : x0 ≤ f) (bx1 : x1 < 4294967296) (hI : q * f + r = P) (hq : 4294967297 ≤ q) : r + f < 4294967296 := by
  obtain ⟨k, rfl⟩ : ∃ k, q = k + 4294967297 := ⟨q - 4294967297, by omega⟩
  rw [Nat.add_mul] at hI
  generalize k * f = z at *
  omega

set_option maxHeartbeats 2000000 in
theorem guess_any (b1 o1 b2 o2 n c d x0 x1 x2 f s : Nat) (w : World) (hn : 2 ≤ n) (hn2 : n ≤ 1099511627776) (hc : n + 1 ≤ c) (hd : n ≤ d) (hcm : c ≤ maxLen) (hdm : d ≤ maxLen)
    (h0 : w.cell? ⟨b1, o1 + n, none⟩ = some (.int .u32 x0)) (h1 : w.cell? ⟨b1, o1 + (n - 1), none⟩ = some (.int .u32 x1)) (h2 : w.cell? ⟨b1, o1 + (n - 2), none⟩ = some (.int .u32 x2))
    (hf : w.cell? ⟨b2, o2 + (n - 1), none⟩ = some (.int .u32 f)) (hs : w.cell? ⟨b2, o2 + (n - 2), none⟩ = some (.int .u32 s))
    (b0 : x0 ≤ f) (bf : f < 4294967296) (bf1 : 2147483648 ≤ f) (bs : s < 4294967296) (bx1 : x1 < 4294967296) (bx2 : x2 < 4294967296) :
    Calls Try.prog 95 #[.slice (some ⟨b1, o1, none⟩) (n + 1) c, .slice (some ⟨b2, o2, none⟩) n d] w fun e w' => ∃ q : Nat, e = .returned (.int .u64 q) ∧ Guessed x0 x1 x2 f s q ∧ ∃ k, w' = w.drewN k := by
  obtain ⟨P, hP, hor⟩ := or_limb x0 x1 (by omega) bx1
  have hPb : P < 18446744073709551616 := by omega
  obtain ⟨g1, g2, g3, g4⟩ := guess_start (s := s) hP b0 bf1 bx1 bx2
  have hq0 : (P : Int) / (f : Int) = ((P / f : Nat) : Int) := by rw [Int.natCast_ediv]
  have hr0 : (P : Int) % (f : Int) = ((P % f : Nat) : Int) := by rw [Int.natCast_emod]
  generalize P / f = q0 at *
  generalize P % f = r0 at *
  have G3 := hid g3
  have G4 := hid g4
  have HP := hid hP
  have e1 : (0 : Int) ≤ (n : Int) - 1 := by omega
  have e2 : (0 : Int) ≤ (n : Int) - 2 := by omega
  have e3 : (n : Int) - 1 < (n : Int) + 1 := by omega
  have e4 : (n : Int) - 2 < (n : Int) + 1 := by omega
  clear hP g3 g4
  unfold maxLen at hcm hdm
  go_enter Try.func95, Try.ntmps95
  go_wp2
  go_quiet (fail)
  go_wp2
  go_quiet (fail)
  go_wp2
  go_quiet (fail)
  go_wp2
  go_loopw [9, 10] (fun qv rv wr => ∃ (q r k : Nat), qv = .int .u64 q ∧ rv = .int .u64 r ∧ q ≤ 8589934592 ∧ r < 4294967296 ∧ Hid (q * f + r = P) ∧ Hid (P * 4294967296 + x2 < (q + 1) * (f * 4294967296 + s) ∨ 4294967296 ≤ q + 1) ∧ wr = w.drewN k) (fun qv _ _ => (intOf qv).toNat)
  case atStart => exact ⟨q0, r0, _, val_int (by first | rfl | (rw [hq0, IntWalk.u64_in _ (by omega)])), val_int (by first | rfl | exact hr0), g1, by omega, G3, hid (.inl G4.out), by simp only [World.drewN_drewN]; rfl⟩
  case round =>
    obtain ⟨q, r, nd, rfl, rfl, hq, hr, hI, hJ, rfl⟩ := hrel
    clear hq0 hr0 hor
    obtain ⟨R, hR, hor2⟩ := or_limb r x2 hr bx2
    have HR := hid hR
    have hRb : R < 18446744073709551616 := by omega
    clear hR
    by_cases hbig : 4294967296 ≤ q
    · by_cases hbr : 4294967296 ≤ r + f
      · have hq' : q = 4294967296 := by
          apply Classical.byContradiction
          intro hh
          have := guess_roomy HP.out b0 bx1 hI.out (by omega)
          omega
        have hI' := guess_next hI.out (by omega)
        have hG : Guessed x0 x1 x2 f s (q - 1) := by
          refine ⟨by omega, ?_, .inr (by omega)⟩
          rw [← HP.out]
          refine guess_under hI' ?_
          have h1 : (q - 1) * s ≤ 4294967295 * 4294967295 := Nat.mul_le_mul (by omega) (by omega)
          omega
        have HG := hid hG
        clear hG hI' hq'
        go_wp2
        go_ret
        exact ⟨q - 1, ret_int (by omega), HG.out, _, rfl⟩
      · have hI' := hid (guess_next hI.out (by omega))
        go_wp2
        go_roundw
        case rel => exact ⟨q - 1, r + f, nd, val_int (by omega), rfl, by omega, by omega, hI', hid (.inr (by omega)), rfl⟩
        case measure => simp [intOf]; omega
    · have hqs : q * s ≤ 18446744065119617025 := mul_le_limbs (by omega) bs
      by_cases ht : R < q * s
      · have ht' : (R : Int) < (q : Int) * (s : Int) := by omega
        have hover := guess_over hI.out (by rw [← HR.out]; exact ht)
        have hq1 : 0 < q := by
          apply Nat.pos_of_ne_zero
          intro e
          rw [e, Nat.zero_mul] at ht
          omega
        have hI' := guess_next hI.out hq1
        have HI' := hid hI'
        have HOV := hid hover
        clear hI' hover ht
        by_cases hbr : 4294967296 ≤ r + f
        · have hG : Guessed x0 x1 x2 f s (q - 1) := by
            refine ⟨by omega, ?_, ?_⟩
            · rw [← HP.out]
              refine guess_under HI'.out ?_
              have h1 : (q - 1) * s ≤ 4294967295 * 4294967295 := Nat.mul_le_mul (by omega) (by omega)
              omega
            · rw [← HP.out, Nat.sub_add_cancel hq1]
              exact .inl HOV.out
          have HG := hid hG
          clear hG
          go_wp2
          go_ret
          exact ⟨q - 1, ret_int (by omega), HG.out, _, rfl⟩
        · go_wp2
          go_roundw
          case rel => exact ⟨q - 1, r + f, nd, val_int (by omega), rfl, by omega, by omega, HI', hid (.inl (by rw [Nat.sub_add_cancel hq1]; exact HOV.out)), rfl⟩
          case measure => simp [intOf]; omega
      · have ht' : ¬ (R : Int) < (q : Int) * (s : Int) := by omega
        have hG : Guessed x0 x1 x2 f s q := by
          refine ⟨by omega, ?_, ?_⟩
          · rw [← HP.out]
            exact guess_under hI.out (by rw [← HR.out]; omega)
          · rw [← HP.out]
            rcases hJ.out with h | h
            · exact .inl h
            · exact .inr (by omega)
        have HG := hid hG
        clear hG ht
        go_wp2
        go_ret
        exact ⟨q, rfl, HG.out, _, rfl⟩

end Go.Proofs.Ytokojbgpboccnaa

namespace Go.Proofs.Ytokojbgpboccnaa
open Go.RowKit
open Num
set_option linter.unusedVariables false
set_option maxRecDepth 100000
set_option linter.unusedSimpArgs false

theorem dg_seg {pre sg post : List Nat} {off i : Nat} (h : pre.length = off) (hi : i < sg.length) : dg (pre ++ sg ++ post) (off + i) = dg sg i := by
  subst h
  simp only [dg]
  rw [List.append_assoc, List.getElem?_append_right (by omega), Nat.add_sub_cancel_left, List.getElem?_append_left hi]
theorem set_seg {pre sg post : List Nat} {off i x : Nat} (h : pre.length = off) (hi : i < sg.length) : (pre ++ sg ++ post).set (off + i) x = pre ++ sg.set i x ++ post := by
  subst h
  rw [List.append_assoc, List.set_append_right _ _ (by omega), Nat.add_sub_cancel_left, List.set_append_left _ _ hi, List.append_assoc]
theorem Blk.segCell {w : World} {b off i : Nat} {pre sg post : List Nat} (h : Blk w b (pre ++ sg ++ post)) (hp : pre.length = off) (hi : i < sg.length) : w.cell? ⟨b, off + i, none⟩ = some (.int .u32 (dg sg i)) := by
  rw [← dg_seg (post := post) hp hi]
  exact h.cell (by simp; omega)
theorem Blk.segSet {w : World} {b off i : Nat} {pre sg post : List Nat} (h : Blk w b (pre ++ sg ++ post)) (hp : pre.length = off) (hi : i < sg.length) (z : Int) (x : Nat) (hz : z = (x : Int)) : Blk (w.setCell ⟨b, off + i, none⟩ (.int .u32 z)) b (pre ++ sg.set i x ++ post) := by
  rw [← set_seg hp hi]
  exact h.set' _ z x hz
theorem grownBy_cell {w w' : World} {b b2 i : Nat} (h : w.grownBy w' (some b)) (hne : b2 ≠ b) (hlt : b2 < w.heap.size) : w'.cell? ⟨b2, i, none⟩ = w.cell? ⟨b2, i, none⟩ :=
  World.cell?_of_block (h.block b2 hlt (by simpa using hne))

theorem sub_wrap1 (x b : Nat) (hx : x < 4294967296) (hb : b < 4294967296) : ∃ t b' : Nat, t < 4294967296 ∧ b' ≤ 1 ∧ t + b = x + b' * 4294967296 ∧
    IntKind.u64.wrap ((x : Int) - (b : Int)) % 4294967296 = (t : Int) ∧ IntKind.u64.wrap ((x : Int) - (b : Int)) / 9223372036854775808 = (b' : Int) := by
  rw [IntKind.wrap_u64]
  by_cases h : b ≤ x
  · exact ⟨x - b, 0, by omega, by omega, by omega, by omega, by omega⟩
  · exact ⟨x + 4294967296 - b, 1, by omega, by omega, by omega, by omega, by omega⟩

theorem and_limb (S : Nat) (h : S < 18446744073709551616) : bits BinOp.and IntKind.u64 (S : Int) 4294967295 = ((S % 4294967296 : Nat) : Int) := by
  have e := u64_and_nat S 4294967295 h (by omega)
  have e2 := Nat.and_two_pow_sub_one_eq_mod S 32
  have e3 : (2 : Nat) ^ 32 - 1 = 4294967295 := by decide
  have e4 : (2 : Nat) ^ 32 = 4294967296 := by decide
  rw [e3, e4] at e2
  rw [e2] at e
  exact e

/-- One step of 'less q times' as the machine reckons it. -/
theorem take_wrap {x y q c : Nat} (hx : x < 4294967296) (hq : q < 4294967296) (hy : y < 4294967296) (hc : c ≤ 4294967295) : ∃ t c' : Nat, t < 4294967296 ∧ c' ≤ 4294967295 ∧ t + (c + q * y) = x + c' * 4294967296 ∧
    IntKind.u64.wrap ((x : Int) - bits BinOp.and IntKind.u64 ((c : Int) + (q : Int) * (y : Int)) 4294967295) % 4294967296 = (t : Int) ∧
    IntKind.u64.wrap (((c : Int) + (q : Int) * (y : Int)) / 4294967296 + IntKind.u64.wrap ((x : Int) - bits BinOp.and IntKind.u64 ((c : Int) + (q : Int) * (y : Int)) 4294967295) / 9223372036854775808) = (c' : Int) := by
  have hm := mul_le_limbs hq hy
  have e : ((c : Int) + (q : Int) * (y : Int)) = ((c + q * y : Nat) : Int) := by omega
  rw [e]
  generalize hS : c + q * y = S
  have hSb : S ≤ 18446744069414584320 := by omega
  rw [and_limb S (by omega)]
  obtain ⟨t, b, h1, h2, h3, h4, h5⟩ := sub_wrap1 x (S % 4294967296) hx (by omega)
  refine ⟨t, S / 4294967296 + b, h1, ?_, by omega, h4, ?_⟩
  · rcases (show b = 0 ∨ b = 1 by omega) with rfl | rfl
    · omega
    · omega
  · rw [h5, IntKind.wrap_u64]; omega

theorem take_step {sg vs ys : List Nat} {k c c' t q : Nat} (hk : k < vs.length) (hI : val (vs.take k) + q * val (ys.take k) = val (sg.take k) + c * B ^ k) (hZ : dg vs k = dg sg k) (ht : t + (c + q * dg ys k) = dg vs k + c' * 4294967296) :
    val ((vs.set k t).take (k + 1)) + q * val (ys.take (k + 1)) = val (sg.take (k + 1)) + c' * B ^ (k + 1) := by
  rw [val_take_set _ _ _ hk, val_take_succ ys, val_take_succ sg, Nat.pow_succ, ← hZ, Nat.mul_add, ← Nat.mul_assoc]
  have e : (t + (c + q * dg ys k)) * B ^ k = (dg vs k + c' * 4294967296) * B ^ k := by rw [ht]
  rw [Nat.add_mul, Nat.add_mul, Nat.add_mul, Nat.mul_assoc c'] at e
  rw [Nat.mul_comm (B ^ k) B, B_eq]
  rw [B_eq] at e hI
  omega

set_option maxHeartbeats 1000000 in
theorem subTimes_any (b off n c b2 o2 d q : Nat) (pre sg post ys : List Nat) (w : World) (hB : Blk w b (pre ++ sg ++ post)) (hpre : pre.length = off) (hsg : sg.length = n + 1) (hf : Fits sg) (hys : ys.length = n) (hfy : Fits ys)
    (hyc : ∀ i, i < n → w.cell? ⟨b2, o2 + i, none⟩ = some (.int .u32 (dg ys i))) (hne : b2 ≠ b) (hb2 : b2 < w.heap.size) (hq : q < 4294967296) (hn : n ≤ 1099511627776) :
    Calls Try.prog 96 #[.slice (some ⟨b, off, none⟩) (n + 1) c, .slice (some ⟨b2, o2, none⟩) n d, .int .u64 q] w fun e w' =>
      ∃ (zs : List Nat) (bo : Nat), e = .returned (.bool (decide (0 < bo))) ∧ bo ≤ 1 ∧ Blk w' b (pre ++ zs ++ post) ∧ Fits zs ∧ zs.length = n + 1 ∧ val zs + q * val ys = val sg + bo * B ^ (n + 1) ∧ w.grownBy w' (some b) := by
  have HB := hid hB
  have HP := hid hpre
  have HS := hid hsg
  have HY := hid hys
  have HC := hid hyc
  clear hB hpre hsg hys hyc
  go_enter Try.func96, Try.ntmps96
  go_wp2
  go_loopw [8, 17] (fun cy i wr => ∃ (k c0 : Nat) (vs : List Nat), k ≤ n ∧ i = .int .i64 k ∧ cy = .int .u64 c0 ∧ c0 ≤ 4294967295 ∧ Hid (Blk wr b (pre ++ vs ++ post)) ∧ Hid (vs.length = n + 1) ∧ Fits vs ∧
      Hid (val (vs.take k) + q * val (ys.take k) = val (sg.take k) + c0 * B ^ k) ∧ Hid (∀ j, k ≤ j → dg vs j = dg sg j) ∧ Hid (w.grownBy wr (some b))) (fun _ i _ => n - (intOf i).toNat)
  case atStart => exact ⟨0, 0, sg, by omega, rfl, rfl, by omega, HB, HS, hf, hid (by simp [val_nil]), hid (fun _ _ => rfl), World.grownBy.refl _ _⟩
  case round =>
    obtain ⟨k, c0, vs, hk, rfl, rfl, hc0, hB', hl, hf', hI, hZ, hg⟩ := hrel
    by_cases hlt : k < n
    · have cy := HC.out k hlt
      rw [← grownBy_cell hg.out hne hb2] at cy
      have cx := hB'.out.segCell (i := k) HP.out (by rw [hl.out]; omega)
      have fx := hB'.out.free (off + k)
      have bx := hf' k
      have by' := hfy k
      have bm := mul_le_limbs hq by'
      obtain ⟨t, c1, ht1, ht2, ht3, ht4, ht5⟩ := take_wrap bx hq by' hc0
      have HT := hid ht3
      have H4 := hid ht4
      have H5 := hid ht5
      clear ht3 ht4 ht5
      go_wp2
      go_roundw
      case rel =>
        refine ⟨k + 1, c1, vs.set k t, by omega, by go_num, val_int H5.out, ht2, hid (hB'.out.segSet HP.out (by rw [hl.out]; omega) _ _ H4.out), hid (by rw [List.length_set]; exact hl.out), hf'.set _ _ ht1,
          hid (take_step (by rw [hl.out]; omega) hI.out (hZ.out k (Nat.le_refl _)) HT.out), hid (fun j hj => ?_), hid (grownBy_setCell hg.out _ _)⟩
        rw [dg_set_ne _ _ _ _ (by omega)]
        exact hZ.out j (by omega)
      case measure => simp [intOf]; omega
    · obtain rfl : k = n := by omega
      have cx := hB'.out.segCell (i := k) HP.out (by rw [hl.out]; omega)
      have fx := hB'.out.free (off + k)
      have bx := hf' k
      obtain ⟨t, b1, ht1, ht2, ht3, ht4, ht5⟩ := sub_wrap1 (dg vs k) c0 bx (by omega)
      have hv : val (vs.set k t) + q * val ys = val sg + b1 * B ^ (k + 1) := by
        have h := take_step (t := t) (c' := b1) (ys := ys) (by rw [hl.out]; omega) hI.out (hZ.out k (Nat.le_refl _)) (by rw [dg_ge (l := ys) (by rw [HY.out]; omega), Nat.mul_zero, Nat.add_zero]; exact ht3)
        rwa [List.take_of_length_le (by rw [List.length_set, hl.out]; exact Nat.le_refl _), List.take_of_length_le (by rw [HY.out]; omega), List.take_of_length_le (by rw [HS.out]; exact Nat.le_refl _)] at h
      have HV := hid hv
      have H4 := hid ht4
      have H5 := hid ht5
      clear ht3 ht4 ht5 hv
      go_wp2
      go_ret
      exact ⟨vs.set k t, b1, ret_bool (by rw [H5.out]; simp), ht2, hB'.out.segSet HP.out (by rw [hl.out]; omega) _ _ H4.out, hf'.set _ _ ht1, by rw [List.length_set]; exact hl.out, HV.out, grownBy_setCell hg.out _ _⟩

end Go.Proofs.Ytokojbgpboccnaa

namespace Go.Proofs.Ytokojbgpboccnaa
open Go.RowKit
open Num
set_option linter.unusedVariables false
set_option maxRecDepth 100000
set_option linter.unusedSimpArgs false

theorem back_step {sg vs ys : List Nat} {k c c' t : Nat} (hk : k < vs.length) (hI : val (vs.take k) + c * B ^ k = val (sg.take k) + val (ys.take k)) (hZ : dg vs k = dg sg k) (ht : t + c' * 4294967296 = c + dg vs k + dg ys k) :
    val ((vs.set k t).take (k + 1)) + c' * B ^ (k + 1) = val (sg.take (k + 1)) + val (ys.take (k + 1)) := by
  rw [val_take_set _ _ _ hk, val_take_succ ys, val_take_succ sg, Nat.pow_succ, ← hZ]
  have e : (t + c' * 4294967296) * B ^ k = (c + dg vs k + dg ys k) * B ^ k := by rw [ht]
  rw [Nat.add_mul, Nat.add_mul, Nat.add_mul, Nat.mul_assoc c'] at e
  rw [Nat.mul_comm (B ^ k) B, B_eq]
  rw [B_eq] at e hI
  omega

set_option maxHeartbeats 1000000 in
theorem addBack_any (b off n c b2 o2 d : Nat) (pre sg post ys : List Nat) (w : World) (hB : Blk w b (pre ++ sg ++ post)) (hpre : pre.length = off) (hsg : sg.length = n + 1) (hf : Fits sg) (hys : ys.length = n) (hfy : Fits ys)
    (hyc : ∀ i, i < n → w.cell? ⟨b2, o2 + i, none⟩ = some (.int .u32 (dg ys i))) (hne : b2 ≠ b) (hb2 : b2 < w.heap.size) (hn : n ≤ 1099511627776) :
    Calls Try.prog 97 #[.slice (some ⟨b, off, none⟩) (n + 1) c, .slice (some ⟨b2, o2, none⟩) n d] w fun e w' =>
      ∃ (zs : List Nat) (bo : Nat), e = .returned (.tuple #[]) ∧ Blk w' b (pre ++ zs ++ post) ∧ Fits zs ∧ zs.length = n + 1 ∧ val zs + bo * B ^ (n + 1) = val sg + val ys ∧ w.grownBy w' (some b) := by
  have HB := hid hB
  have HP := hid hpre
  have HS := hid hsg
  have HY := hid hys
  have HC := hid hyc
  clear hB hpre hsg hys hyc
  go_enter Try.func97, Try.ntmps97
  go_wp2
  go_loopw [5, 12] (fun cy i wr => ∃ (k c0 : Nat) (vs : List Nat), k ≤ n ∧ i = .int .i64 k ∧ cy = .int .u64 c0 ∧ c0 ≤ 1 ∧ Hid (Blk wr b (pre ++ vs ++ post)) ∧ Hid (vs.length = n + 1) ∧ Fits vs ∧
      Hid (val (vs.take k) + c0 * B ^ k = val (sg.take k) + val (ys.take k)) ∧ Hid (∀ j, k ≤ j → dg vs j = dg sg j) ∧ Hid (w.grownBy wr (some b))) (fun _ i _ => n - (intOf i).toNat)
  case atStart => exact ⟨0, 0, sg, by omega, rfl, rfl, by omega, HB, HS, hf, hid (by simp [val_nil]), hid (fun _ _ => rfl), World.grownBy.refl _ _⟩
  case round =>
    obtain ⟨k, c0, vs, hk, rfl, rfl, hc0, hB', hl, hf', hI, hZ, hg⟩ := hrel
    have cx := hB'.out.segCell (i := k) HP.out (by rw [hl.out]; omega)
    have fx := hB'.out.free (off + k)
    have bx := hf' k
    by_cases hlt : k < n
    · have cy := HC.out k hlt
      rw [← grownBy_cell hg.out hne hb2] at cy
      have by' := hfy k
      go_wp2
      go_roundw
      case rel =>
        refine ⟨k + 1, (c0 + dg vs k + dg ys k) / 4294967296, vs.set k ((c0 + dg vs k + dg ys k) % 4294967296), by omega, by go_num, val_int (by omega), by omega, hid (hB'.out.segSet HP.out (by rw [hl.out]; omega) _ _ (by omega)), hid (by rw [List.length_set]; exact hl.out), hf'.set _ _ (by omega),
          hid (back_step (by rw [hl.out]; omega) hI.out (hZ.out k (Nat.le_refl _)) (by omega)), hid (fun j hj => ?_), hid (grownBy_setCell hg.out _ _)⟩
        rw [dg_set_ne _ _ _ _ (by omega)]
        exact hZ.out j (by omega)
      case measure => simp [intOf]; omega
    · obtain rfl : k = n := by omega
      have hv : val (vs.set k ((c0 + dg vs k) % 4294967296)) + (c0 + dg vs k) / 4294967296 * B ^ (k + 1) = val sg + val ys := by
        have h := back_step (t := (c0 + dg vs k) % 4294967296) (c' := (c0 + dg vs k) / 4294967296) (ys := ys) (by rw [hl.out]; omega) hI.out (hZ.out k (Nat.le_refl _)) (by rw [dg_ge (l := ys) (by rw [HY.out]; omega)]; omega)
        rwa [List.take_of_length_le (by rw [List.length_set, hl.out]; exact Nat.le_refl _), List.take_of_length_le (by have := HY.out; have := HS.out; omega), List.take_of_length_le (by have := HY.out; have := HS.out; omega)] at h
      have HV := hid hv
      clear hv
      go_wp2
      go_end0
      exact ⟨vs.set k ((c0 + dg vs k) % 4294967296), _, rfl, hB'.out.segSet HP.out (by rw [hl.out]; omega) _ _ (by first | omega | (rw [IntKind.wrap_u32]; omega)), hf'.set _ _ (by omega), by rw [List.length_set]; exact hl.out, HV.out, grownBy_setCell hg.out _ _⟩

theorem guess_close {M P X Y X3 Y2 xl yl q : Nat} (hX : X = X3 * P + xl) (hxl : xl < P) (hY : Y = Y2 * P + yl) (hyl : yl < P) (hY2 : M ≤ Y2) (hXY : X < M * Y) (hq : q < M) (h1 : q * Y2 ≤ X3) (h2 : X3 < (q + 1) * Y2 ∨ q + 1 = M) :
    ∃ Q R, X = Q * Y + R ∧ R < Y ∧ Q < M ∧ (q = Q ∨ q = Q + 1) := by
  have hP : 0 < P := by omega
  have hYpos : 0 < Y := by
    have := Nat.mul_le_mul_right P (show 1 ≤ Y2 by omega)
    omega
  have hd := Nat.div_add_mod X Y
  rw [Nat.mul_comm] at hd
  have hR : X % Y < Y := Nat.mod_lt _ hYpos
  have hQ : X / Y < M := by rw [Nat.div_lt_iff_lt_mul hYpos]; exact hXY
  refine ⟨X / Y, X % Y, hd.symm, hR, hQ, ?_⟩
  generalize X / Y = Q at *
  generalize X % Y = R at *
  have a : Q ≤ q := by
    apply Classical.byContradiction
    intro hh
    rcases h2 with h2 | h2
    · have e1 : (X3 + 1) * P ≤ (q + 1) * Y2 * P := Nat.mul_le_mul_right P h2
      have e2 : (q + 1) * Y2 * P ≤ Q * Y2 * P := Nat.mul_le_mul_right P (Nat.mul_le_mul_right Y2 (by omega))
      have e3 : Q * Y2 * P ≤ Q * Y := by rw [Nat.mul_assoc]; exact Nat.mul_le_mul_left Q (by omega)
      rw [Nat.add_mul] at e1
      omega
    · omega
  have b : q ≤ Q + 1 := by
    apply Classical.byContradiction
    intro hh
    have e1 : (Q + 2) * Y2 ≤ X3 := Nat.le_trans (Nat.mul_le_mul_right Y2 (by omega)) h1
    have e2 : (Q + 2) * Y2 * P ≤ X3 * P := Nat.mul_le_mul_right P e1
    have e3 : (Q + 1) * (Y + 1) ≤ (Q + 1) * ((Y2 + 1) * P) := Nat.mul_le_mul_left (Q + 1) (by rw [Nat.add_mul]; omega)
    have e4 : (Q + 1) * ((Y2 + 1) * P) = (Q + 1) * (Y2 + 1) * P := (Nat.mul_assoc _ _ _).symm
    have e5 : X < (Q + 1) * Y := by rw [Nat.add_mul]; omega
    rw [Nat.mul_add] at e3
    have e6 : (Q + 2) * Y2 * P < (Q + 1) * (Y2 + 1) * P := by omega
    have e7 : (Q + 2) * Y2 < (Q + 1) * (Y2 + 1) := Nat.lt_of_mul_lt_mul_right e6
    rw [Nat.add_mul, Nat.add_mul, Nat.mul_add] at e7
    omega
  omega

/-- The limbs at the top of a number. -/
theorem top_three {l : List Nat} {n : Nat} (hn : 2 ≤ n) (hl : l.length = n + 1) : val l = ((dg l n * 4294967296 + dg l (n - 1)) * 4294967296 + dg l (n - 2)) * B ^ (n - 2) + val (l.take (n - 2)) := by
  have h := val_split l (n - 2)
  rw [drop_dg (by omega), drop_dg (by omega), drop_dg (by omega), List.drop_of_length_le (by omega), val_cons, val_cons, val_cons, val_nil] at h
  rw [show n - 2 + 1 = n - 1 by omega, show n - 1 + 1 = n by omega] at h
  rw [h, Nat.mul_comm (B ^ (n - 2))]
  have e : dg l (n - 2) + B * (dg l (n - 1) + B * (dg l n + B * 0)) = (dg l n * 4294967296 + dg l (n - 1)) * 4294967296 + dg l (n - 2) := by rw [B_eq]; omega
  rw [e]
  omega
theorem top_two {l : List Nat} {n : Nat} (hn : 2 ≤ n) (hl : l.length = n) : val l = (dg l (n - 1) * 4294967296 + dg l (n - 2)) * B ^ (n - 2) + val (l.take (n - 2)) := by
  have h := val_split l (n - 2)
  rw [drop_dg (by omega), drop_dg (by omega), List.drop_of_length_le (by omega), val_cons, val_cons, val_nil] at h
  rw [show n - 2 + 1 = n - 1 by omega] at h
  rw [h, Nat.mul_comm (B ^ (n - 2))]
  have e : dg l (n - 2) + B * (dg l (n - 1) + B * 0) = dg l (n - 1) * 4294967296 + dg l (n - 2) := by rw [B_eq]; omega
  rw [e]
  omega
theorem val_take_lt {l : List Nat} (h : Fits l) {k : Nat} (hk : k ≤ l.length) : val (l.take k) < B ^ k := by
  have := val_lt (h.take k)
  rwa [List.length_take, Nat.min_eq_left hk] at this

set_option maxHeartbeats 1000000 in
theorem takeOff_any (b off n c b2 o2 d : Nat) (pre sg post ys : List Nat) (w : World) (hB : Blk w b (pre ++ sg ++ post)) (hpre : pre.length = off) (hsg : sg.length = n + 1) (hf : Fits sg) (hys : ys.length = n) (hfy : Fits ys)
    (hyc : ∀ i, i < n → w.cell? ⟨b2, o2 + i, none⟩ = some (.int .u32 (dg ys i))) (hne : b2 ≠ b) (hb2 : b2 < w.heap.size) (hn2 : 2 ≤ n) (hn : n ≤ 1099511627776) (hc : n + 1 ≤ c) (hd : n ≤ d) (hcm : c ≤ maxLen) (hdm : d ≤ maxLen)
    (htop : 2147483648 ≤ dg ys (n - 1)) (hlt : val sg < 4294967296 * val ys) :
    Calls Try.prog 93 #[.slice (some ⟨b, off, none⟩) (n + 1) c, .slice (some ⟨b2, o2, none⟩) n d] w fun e w' =>
      ∃ (zs : List Nat) (q : Nat), e = .returned (.int .u32 q) ∧ q < 4294967296 ∧ Blk w' b (pre ++ zs ++ post) ∧ Fits zs ∧ zs.length = n + 1 ∧ val sg = q * val ys + val zs ∧ val zs < val ys ∧ w.grownBy w' (some b) := by
  have bf := hfy (n - 1)
  have hP : 0 < B ^ (n - 2) := Nat.pow_pos B_pos
  have t3 := top_three hn2 hsg
  have t2 := top_two hn2 hys
  have hxl := val_take_lt hf (k := n - 2) (by omega)
  have hyl := val_take_lt hfy (k := n - 2) (by omega)
  have hx0 : dg sg n ≤ dg ys (n - 1) := by
    apply Classical.byContradiction
    intro hh
    have e1 : val sg = val (sg.take n) + dg sg n * B ^ n := by
      have := val_take_succ sg n
      rwa [List.take_of_length_le (by omega)] at this
    have e2 : val ys = val (ys.take (n - 1)) + dg ys (n - 1) * B ^ (n - 1) := by
      have := val_take_succ ys (n - 1)
      rwa [List.take_of_length_le (by omega)] at this
    have e3 := val_take_lt hfy (k := n - 1) (by omega)
    have e4 : B ^ n = 4294967296 * B ^ (n - 1) := by
      obtain ⟨k, rfl⟩ : ∃ k, n = k + 1 := ⟨n - 1, by omega⟩
      rw [Nat.pow_succ, Nat.add_sub_cancel, Nat.mul_comm, B_eq]
    have e5 := Nat.mul_le_mul_right (B ^ n) (show dg ys (n - 1) + 1 ≤ dg sg n by omega)
    rw [e4, Nat.mul_left_comm (dg sg n), Nat.mul_left_comm] at e5
    rw [e4, Nat.mul_left_comm] at e1
    rw [Nat.add_mul] at e5
    omega
  have hG := guess_any b off b2 o2 n c d (dg sg n) (dg sg (n - 1)) (dg sg (n - 2)) (dg ys (n - 1)) (dg ys (n - 2)) w hn2 hn hc hd hcm hdm (hB.segCell hpre (by omega)) (hB.segCell hpre (by omega)) (hB.segCell hpre (by omega)) (hyc _ (by omega)) (hyc _ (by omega)) hx0 bf htop (hfy _) (hf _) (hf _)
  have HG := hid hG
  have HCL := hid (fun q (h : Guessed (dg sg n) (dg sg (n - 1)) (dg sg (n - 2)) (dg ys (n - 1)) (dg ys (n - 2)) q) => guess_close t3 hxl t2 hyl (by omega) hlt h.1 h.2.1 (h.2.2.imp id id))
  have HX := hid hB
  have HP := hid hpre
  have HS := hid hsg
  have HY := hid hys
  have HC := hid hyc
  clear hG t3 t2 hxl hyl hx0 hB hpre hsg hys hyc hlt htop hP
  unfold maxLen at hcm hdm
  go_enter Try.func93, Try.ntmps93
  go_wp2_with fail
  refine HG.out.mono ?_
  rintro e w1 ⟨q, rfl, hq, nd, rfl⟩
  obtain ⟨Q, R, e1, e2, e3, e4⟩ := HCL.out q hq
  have hqb : q < 4294967296 := hq.1
  have HST := hid (subTimes_any b off n c b2 o2 d q pre sg post ys (w.drewN nd) HX.out HP.out HS.out hf HY.out hfy HC.out hne hb2 hqb hn)
  have E1 := hid e1
  have E4 := hid e4
  clear hq e1 e4
  go_wp2_with fail
  refine HST.out.mono ?_
  rintro e w2 ⟨zs, bo, rfl, hbo, hB2, hf2, hl2, hv2, hg2⟩
  have hz2 := val_lt hf2
  rw [hl2] at hz2
  have hYlt : val ys < B ^ (n + 1) := by
    have h1 := val_lt hfy
    rw [HY.out] at h1
    exact Nat.lt_of_lt_of_le h1 (Nat.pow_le_pow_right B_pos (by omega))
  have HV2 := hid hv2
  have HB2 := hid hB2
  have HL2 := hid hl2
  have HG2 := hid (show w.grownBy w2 (some b) from ⟨hg2.os, hg2.tape, hg2.output, hg2.size, hg2.block⟩)
  clear hv2 hB2 hl2 hg2
  rcases E4.out with hqQ | hqQ
  · have hb0 : bo = 0 := by
      have h1 := HV2.out
      rw [E1.out, hqQ] at h1
      rcases (show bo = 0 ∨ bo = 1 by omega) with h | h
      · exact h
      · rw [h] at h1; omega
    subst hb0
    have hzR : val zs = R := by
      have h1 := HV2.out
      rw [E1.out, hqQ] at h1
      omega
    have HZR := hid hzR
    have HQ := hid hqQ
    clear hzR hqQ
    go_wp2_with fail
    go_ret
    exact ⟨zs, q, ret_int (by omega), hqb, HB2.out, hf2, HL2.out, by rw [HQ.out, HZR.out]; exact E1.out, by rw [HZR.out]; exact e2, HG2.out⟩
  · have hb1 : bo = 1 := by
      have h1 := HV2.out
      rw [E1.out, hqQ, Nat.add_mul] at h1
      rcases (show bo = 0 ∨ bo = 1 by omega) with h | h
      · rw [h] at h1; omega
      · exact h
    subst hb1
    have hzR : val zs + val ys = R + B ^ (n + 1) := by
      have h1 := HV2.out
      rw [E1.out, hqQ, Nat.add_mul] at h1
      omega
    have hyc2 : ∀ i, i < n → w2.cell? ⟨b2, o2 + i, none⟩ = some (.int .u32 (dg ys i)) := fun i hi => by
      rw [grownBy_cell HG2.out hne hb2]; exact HC.out i hi
    have HAB := hid (addBack_any b off n c b2 o2 d pre zs post ys w2 HB2.out HP.out HL2.out hf2 HY.out hfy hyc2 hne (Nat.lt_of_lt_of_le hb2 HG2.out.size) hn)
    have HZR := hid hzR
    have HQ := hid hqQ
    have hq1 : 1 ≤ q := by omega
    clear hzR hqQ hyc2
    go_wp2_with fail
    refine HAB.out.mono ?_
    rintro e w3 ⟨ts, b3, rfl, hB3, hf3, hl3, hv3, hg3⟩
    have hz3 := val_lt hf3
    rw [hl3] at hz3
    have htR : val ts = R := by
      have h1 := hv3
      rw [HZR.out] at h1
      have h2 : b3 = 1 := by
        apply Classical.byContradiction
        intro hh
        rcases (show b3 = 0 ∨ 2 ≤ b3 by omega) with h | h
        · rw [h] at h1; omega
        · have := Nat.mul_le_mul_right (B ^ (n + 1)) h
          omega
      rw [h2] at h1
      omega
    have HTR := hid htR
    have HB3 := hid hB3
    have HL3 := hid hl3
    have HG3 := hid (show w.grownBy w3 (some b) from ⟨hg3.os.trans HG2.out.os, hg3.tape.trans HG2.out.tape, hg3.output.trans HG2.out.output, Nat.le_trans HG2.out.size hg3.size, fun k hk hne' => (hg3.block k (Nat.lt_of_lt_of_le hk HG2.out.size) hne').trans (HG2.out.block k hk hne')⟩)
    clear htR hB3 hl3 hg3 hv3 hz3
    go_wp2_with fail
    go_ret
    exact ⟨ts, q - 1, ret_int (by omega), by omega, HB3.out, hf3, HL3.out, by rw [HTR.out, HQ.out, Nat.add_sub_cancel]; exact E1.out, by rw [HTR.out]; exact e2, HG3.out⟩

end Go.Proofs.Ytokojbgpboccnaa

/-
  PACKAGE nat: so many times the one less so many times the other one.
-/
namespace Go.Proofs.Ytokojbgpboccnaa
open Go.RowKit
open Num
set_option linter.unusedVariables false
set_option maxRecDepth 100000
set_option linter.unusedSimpArgs false

/-- A difference of limbs as the machine reckons it. -/
theorem diff_wrap {S T b : Nat} {s t : Int} (hs : s = (S : Int)) (ht : t = (T : Int)) (hS : S < 18446744073709551616) (hT : T < 18446744073709551616) (hb : b ≤ 1) : ∃ z b' : Nat, z < 4294967296 ∧ b' ≤ 1 ∧ z + b + T % 4294967296 = S % 4294967296 + b' * 4294967296 ∧
    IntKind.u64.wrap (IntKind.u64.wrap (bits BinOp.and IntKind.u64 s 4294967295 - bits BinOp.and IntKind.u64 t 4294967295) - (b : Int)) % 4294967296 = (z : Int) ∧
    IntKind.u64.wrap (IntKind.u64.wrap (bits BinOp.and IntKind.u64 s 4294967295 - bits BinOp.and IntKind.u64 t 4294967295) - (b : Int)) / 9223372036854775808 = (b' : Int) := by
  subst hs ht
  rw [and_limb S hS, and_limb T hT, IntKind.wrap_u64, IntKind.wrap_u64]
  have h1 : S % 4294967296 < 4294967296 := Nat.mod_lt _ (by omega)
  have h2 : T % 4294967296 < 4294967296 := Nat.mod_lt _ (by omega)
  generalize S % 4294967296 = x at *
  generalize T % 4294967296 = y at *
  by_cases h : y + b ≤ x
  · exact ⟨x - y - b, 0, by omega, by omega, by omega, by omega, by omega⟩
  · exact ⟨x + 4294967296 - y - b, 1, by omega, by omega, by omega, by omega, by omega⟩

/-- One step of it. -/
theorem diff_step {xs ys us : List Nat} {k m n P M b b' z S T l : Nat} (hl : us.length = l) (hk : k < l) (hI : val (us.take k) + n * val (ys.take k) + P * B ^ k = m * val (xs.take k) + (M + b) * B ^ k)
    (hS : S = P + m * dg xs k) (hT : T = M + n * dg ys k) (hz : z + b + T % 4294967296 = S % 4294967296 + b' * 4294967296) :
    val ((us.set k z).take (k + 1)) + n * val (ys.take (k + 1)) + S / 4294967296 * B ^ (k + 1) = m * val (xs.take (k + 1)) + (T / 4294967296 + b') * B ^ (k + 1) := by
  rw [val_take_set _ _ _ (by omega), val_take_succ ys, val_take_succ xs, Nat.pow_succ, Nat.mul_comm (B ^ k) B, B_eq]
  rw [B_eq] at hI
  have e1 := Nat.div_add_mod S 4294967296
  have e2 := Nat.div_add_mod T 4294967296
  generalize S / 4294967296 = P' at *
  generalize S % 4294967296 = p at *
  generalize T / 4294967296 = M' at *
  generalize T % 4294967296 = t at *
  have e3 : z + n * dg ys k + P' * 4294967296 + M + b = m * dg xs k + P + (M' + b') * 4294967296 := by omega
  have e4 := congrArg (· * 4294967296 ^ k) e3
  simp only [Nat.add_mul] at e4
  generalize 4294967296 ^ k = Q at *
  simp only [Nat.mul_add, Nat.add_mul, ← Nat.mul_assoc] at *
  omega

set_option maxHeartbeats 4000000 in
theorem diff_lim {w : World} {v u : Value} {xs ys : List Nat} (h1 : Lim w v xs) (h2 : Lim w u ys) {m n R : Nat} (hm : m < 4294967296) (hn : n < 4294967296) (b1 : xs.length ≤ 1099511627776) (b2 : ys.length ≤ 1099511627776)
    (hR : R + n * val ys = m * val xs) (hlt : R < B ^ (max xs.length ys.length)) :
    Calls Try.prog 86 #[v, .int .u64 m, u, .int .u64 n] w fun e w' => ∃ v zs, e = .returned v ∧ Lim w' v zs ∧ Trim zs ∧ val zs = R ∧ Below w.heap.size w w' := by
  obtain ⟨i0, hi, hz0, hz1, hz2⟩ := info_parts infoU32
  obtain ⟨p, c, rfl, hfx, hc, hcm, ha⟩ := lim_parts h1
  obtain ⟨q, d, rfl, hfy, hd, hdm, ha2⟩ := lim_parts h2
  clear h1 h2
  obtain ⟨lx, hlx⟩ : ∃ lx, lx = xs.length := ⟨_, rfl⟩
  obtain ⟨ly, hly⟩ : ∃ ly, ly = ys.length := ⟨_, rfl⟩
  have HA1 := hid (AddrOk.at' ha hlx (by rw [hlx]; exact hc))
  have HA2 := hid (AddrOk.at' ha2 hly (by rw [hly]; exact hd))
  rw [← hlx] at hc b1 hlt ⊢
  rw [← hly] at hd b2 hlt ⊢
  have HLX := hid hlx
  have HLY := hid hly
  have HR := hid hR
  obtain ⟨l, hl1, hl2, hl3, hl4⟩ : ∃ l : Nat, lx ≤ l ∧ ly ≤ l ∧ ((ly ≤ lx ∧ l = lx) ∨ (lx < ly ∧ l = ly)) ∧ max lx ly = l := by
    by_cases h : ly ≤ lx
    · exact ⟨lx, Nat.le_refl _, h, .inl ⟨h, rfl⟩, by omega⟩
    · exact ⟨ly, by omega, Nat.le_refl _, .inr ⟨by omega, rfl⟩, by omega⟩
  rw [hl4] at hlt
  have HLT := hid hlt
  clear hlx hly ha ha2 hR hlt hl4
  unfold maxLen at hcm hdm
  rcases hl3 with ⟨hx, hl⟩ | ⟨hx, hl⟩ <;>
  ( have hl5 : l ≤ lx ∨ l ≤ ly := by omega
    have HLL := hid hl
    have hl6 : (l : Int) ≤ lx ∨ (l : Int) ≤ ly := by omega
    clear hl
    go_enter Try.func86, Try.ntmps86
    go_wp2_with (refine wpList_make_limbs _ rfl _ _ 45 rfl i0 Try.underlying45 hi hz0 hz1 hz2 _ _ l l rfl rfl ?cL ?cC (Nat.le_refl _) ?cb ?_)
    case cL => have := HLL.out; omega
    case cC => have := HLL.out; omega
    case cb => omega
    intro w1 hblk hbelow hsz
    go_wp2
    go_loopw [10, 11, 12, 23] (fun pl mi bo i wr => ∃ (k P M b : Nat) (us : List Nat), k ≤ l ∧ i = .int .i64 k ∧ pl = .int .u64 P ∧ mi = .int .u64 M ∧ bo = .int .u64 b ∧ P < 4294967296 ∧ M < 4294967296 ∧ b ≤ 1 ∧ Hid (Blk wr w.heap.size us) ∧ Hid (us.length = l) ∧ Fits us ∧
        Hid (val (us.take k) + n * val (ys.take k) + P * B ^ k = m * val (xs.take k) + (M + b) * B ^ k) ∧ Hid (Below w.heap.size w wr)) (fun _ _ _ i _ => l - (intOf i).toNat)
    case atStart => exact ⟨0, 0, 0, 0, _, by omega, rfl, rfl, rfl, rfl, by omega, by omega, by omega, hblk, hid (by simp), Fits.zeros _, hid (by simp [val_nil]), hbelow⟩
    case round =>
      obtain ⟨k, P, M, b, us, hk, rfl, rfl, rfl, rfl, hP, hM, hb, hB, hl, hf, hI, hbw⟩ := hrel
      by_cases hlt : k < l
      · have cu := hB.out.cell (i := k) (by rw [hl.out]; omega)
        have fu := hB.out.free k
        have bx := hfx k
        have by' := hfy k
        have mx := mul_le_limbs hm bx
        have my := mul_le_limbs hn by'
        by_cases hkx : k < lx
        · obtain ⟨b1, o1, rfl, hb1, cx⟩ := HA1.out k hkx
          rw [← (hbw.out).cell (by exact hb1)] at cx
          by_cases hky : k < ly
          · obtain ⟨b2, o2, rfl, hb2, cy⟩ := HA2.out k hky
            rw [← (hbw.out).cell (by exact hb2)] at cy
            obtain ⟨z, b', z1, z2, z3, z4, z5⟩ := diff_wrap (S := P + m * dg xs k) (T := M + n * dg ys k) (s := (P : Int) + m * dg xs k) (t := (M : Int) + n * dg ys k) (by push_cast; rfl) (by push_cast; rfl) (by omega) (by omega) hb
            have Z3 := hid z3
            have Z4 := hid z4
            have Z5 := hid z5
            clear z3 z4 z5
            go_wp2
            go_roundw
            case rel =>
              exact ⟨k + 1, (P + m * dg xs k) / 4294967296, (M + n * dg ys k) / 4294967296, b', us.set k z, by omega, by go_num, val_int (by omega), val_int (by omega), val_int Z5.out, by omega, by omega, z2, hid (hB.out.set' k _ _ Z4.out), hid (by rw [List.length_set]; exact hl.out), hf.set _ _ z1,
                hid (diff_step hl.out hlt hI.out rfl rfl Z3.out), hid (hbw.out.setCell (Nat.le_refl _) _)⟩
            case measure => simp [intOf]; omega
          · first
            | (exfalso; omega)
            | (
              have hy0 : dg ys k = 0 := dg_ge (by rw [← HLY.out]; omega)
              obtain ⟨z, b', z1, z2, z3, z4, z5⟩ := diff_wrap (S := P + m * dg xs k) (T := M) (s := (P : Int) + m * dg xs k) (t := (M : Int)) (by push_cast; rfl) rfl (by omega) (by omega) hb
              have Z3 := hid z3
              have Z4 := hid z4
              have Z5 := hid z5
              have HY := hid hy0
              clear z3 z4 z5 hy0 my by'
              go_wp2
              go_roundw
              case rel =>
                exact ⟨k + 1, (P + m * dg xs k) / 4294967296, M / 4294967296, b', us.set k z, by omega, by go_num, val_int (by omega), val_int (by omega), val_int Z5.out, by omega, by omega, z2, hid (hB.out.set' k _ _ Z4.out), hid (by rw [List.length_set]; exact hl.out), hf.set _ _ z1,
                  hid (diff_step (T := M) hl.out hlt hI.out rfl (by rw [HY.out]; rfl) Z3.out), hid (hbw.out.setCell (Nat.le_refl _) _)⟩
              case measure => simp [intOf]; omega )
        · first
          | (exfalso; omega)
          | (
            have hky : k < ly := by omega
            have hx0 : dg xs k = 0 := dg_ge (by rw [← HLX.out]; omega)
            obtain ⟨b2, o2, rfl, hb2, cy⟩ := HA2.out k hky
            rw [← (hbw.out).cell (by exact hb2)] at cy
            obtain ⟨z, b', z1, z2, z3, z4, z5⟩ := diff_wrap (S := P) (T := M + n * dg ys k) (s := (P : Int)) (t := (M : Int) + n * dg ys k) rfl (by push_cast; rfl) (by omega) (by omega) hb
            have Z3 := hid z3
            have Z4 := hid z4
            have Z5 := hid z5
            have HX := hid hx0
            clear z3 z4 z5 hx0 mx bx
            go_wp2
            go_roundw
            case rel =>
              exact ⟨k + 1, P / 4294967296, (M + n * dg ys k) / 4294967296, b', us.set k z, by omega, by go_num, val_int (by omega), val_int (by omega), val_int Z5.out, by omega, by omega, z2, hid (hB.out.set' k _ _ Z4.out), hid (by rw [List.length_set]; exact hl.out), hf.set _ _ z1,
                hid (diff_step (S := P) hl.out hlt hI.out (by rw [HX.out]; rfl) rfl Z3.out), hid (hbw.out.setCell (Nat.le_refl _) _)⟩
            case measure => simp [intOf]; omega )
      · obtain rfl : k = l := by omega
        go_wp2_with fail
        have hv : val us = R := by
          have h2 := hI.out
          have h3 := HR.out
          have h4 := val_lt hf
          have h5 := HLT.out
          rw [hl.out] at h4
          rw [val_take_all us _ (by rw [hl.out]; exact Nat.le_refl _), val_take_all xs _ (by rw [← HLX.out]; omega), val_take_all ys _ (by rw [← HLY.out]; omega)] at h2
          rw [← h3] at h2
          generalize n * val ys = t at *
          have h6 : val us + P * B ^ k = R + (M + b) * B ^ k := by omega
          have h7 : P = M + b := by
            rcases Nat.lt_trichotomy P (M + b) with h | h | h
            · have := Nat.mul_le_mul_right (B ^ k) (show P + 1 ≤ M + b by omega)
              rw [Nat.add_mul] at this
              omega
            · exact h
            · have := Nat.mul_le_mul_right (B ^ k) (show M + b + 1 ≤ P by omega)
              rw [Nat.add_mul _ 1] at this
              omega
          rw [h7] at h6
          omega
        have hL := hB.out.lim hf 0 k k (by rw [hl.out]; omega) (Nat.le_refl _) (by unfold maxLen; omega)
        rw [List.drop_zero, List.take_of_length_le (by rw [hl.out]; exact Nat.le_refl _)] at hL
        have HL := hid hL
        have HV := hid hv
        clear hL hv
        refine (trim_lim HL.out).mono ?_
        rintro e w' ⟨v', rfl, hL3, rfl⟩
        go_wp2_with fail
        go_ret
        exact ⟨_, _, rfl, hL3, trim_trimL _, by rw [val_trimL]; exact HV.out, hbw.out⟩ )

end Go.Proofs.Ytokojbgpboccnaa
