import Derived.Test.YtjeeepcnaaadmaaDouble
namespace Go.Proofs.Ytjeeepcnaaadmaa
open Go.RowKit
open Num
set_option linter.unusedVariables false
set_option maxRecDepth 100000
set_option linter.unusedSimpArgs false

/-- The guess: the quotient of three limbs by two, one limb at most. -/
def Guessed (x0 x1 x2 f s q : Nat) : Prop :=
  q < 4294967296 ∧ q * (f * 4294967296 + s) ≤ (x0 * 4294967296 + x1) * 4294967296 + x2 ∧ ((x0 * 4294967296 + x1) * 4294967296 + x2 < (q + 1) * (f * 4294967296 + s) ∨ q + 1 = 4294967296)

theorem guess_start {x0 x1 x2 f s P : Nat} (hP : P = x0 * 4294967296 + x1) (b0 : x0 ≤ f) (bf1 : 2147483648 ≤ f) (bx1 : x1 < 4294967296) (bx2 : x2 < 4294967296) :
    P / f ≤ 8589934592 ∧ P % f < f ∧ P / f * f + P % f = P ∧ (P * 4294967296 + x2 < (P / f + 1) * (f * 4294967296 + s)) := by
  have h1 := Nat.div_add_mod P f
  have h2 : P % f < f := Nat.mod_lt _ (by omega)
  rw [Nat.mul_comm] at h1
  refine ⟨?_, h2, h1, ?_⟩
  · apply Classical.byContradiction
    intro hh
    obtain ⟨k, hk⟩ : ∃ k, P / f = k + 8589934593 := ⟨P / f - 8589934593, by omega⟩
    rw [hk, Nat.add_mul] at h1
    generalize k * f = z at *
    omega
  · have h4 : P + 1 ≤ (P / f + 1) * f := by rw [Nat.add_mul]; omega
    have h5 := Nat.mul_le_mul_right 4294967296 h4
    have h6 : (P / f + 1) * (f * 4294967296 + s) = (P / f + 1) * f * 4294967296 + (P / f + 1) * s := by rw [Nat.mul_add, Nat.mul_assoc]
    omega

/-- The test of a guess says no: it is too great. -/
theorem guess_over' {M P x2 f s q r : Nat} (hI : q * f + r = P) (h : r * M + x2 < q * s) : P * M + x2 < q * (f * M + s) := by
  rw [Nat.mul_add, ← Nat.mul_assoc, ← hI, Nat.add_mul]
  omega
theorem guess_under' {M P x2 f s q r : Nat} (hI : q * f + r = P) (h : q * s ≤ r * M + x2) : q * (f * M + s) ≤ P * M + x2 := by
  rw [Nat.mul_add, ← Nat.mul_assoc, ← hI, Nat.add_mul]
  omega
theorem guess_over {P x2 f s q r : Nat} (hI : q * f + r = P) (h : r * 4294967296 + x2 < q * s) : P * 4294967296 + x2 < q * (f * 4294967296 + s) := guess_over' hI h
theorem guess_under {P x2 f s q r : Nat} (hI : q * f + r = P) (h : q * s ≤ r * 4294967296 + x2) : q * (f * 4294967296 + s) ≤ P * 4294967296 + x2 := guess_under' hI h
theorem guess_next {P f q r : Nat} (hI : q * f + r = P) (hq : 0 < q) : (q - 1) * f + (r + f) = P := by
  obtain ⟨k, rfl⟩ : ∃ k, q = k + 1 := ⟨q - 1, by omega⟩
  rw [Nat.add_mul] at hI
  rw [Nat.add_sub_cancel]
  omega
theorem guess_roomy {x0 x1 P f q r : Nat} (hP : P = x0 * 4294967296 + x1) (b0 : x0 ≤ f) (bx1 : x1 < 4294967296) (hI : q * f + r = P) (hq : 4294967297 ≤ q) : r + f < 4294967296 := by
  obtain ⟨k, rfl⟩ : ∃ k, q = k + 4294967297 := ⟨q - 4294967297, by omega⟩
  rw [Nat.add_mul] at hI
  generalize k * f = z at *
  omega

set_option maxHeartbeats 2000000 in
theorem guess_any (b1 o1 b2 o2 n c d x0 x1 x2 f s : Nat) (w : World) (hn : 2 ≤ n) (hn2 : n ≤ 1099511627776) (hc : n + 1 ≤ c) (hd : n ≤ d) (hcm : c ≤ maxLen) (hdm : d ≤ maxLen)
    (h0 : w.cell? ⟨b1, o1 + n, none⟩ = some (.int .u32 x0)) (h1 : w.cell? ⟨b1, o1 + (n - 1), none⟩ = some (.int .u32 x1)) (h2 : w.cell? ⟨b1, o1 + (n - 2), none⟩ = some (.int .u32 x2))
    (hf : w.cell? ⟨b2, o2 + (n - 1), none⟩ = some (.int .u32 f)) (hs : w.cell? ⟨b2, o2 + (n - 2), none⟩ = some (.int .u32 s))
    (b0 : x0 ≤ f) (bf : f < 4294967296) (bf1 : 2147483648 ≤ f) (bs : s < 4294967296) (bx1 : x1 < 4294967296) (bx2 : x2 < 4294967296) :
    Calls Try.prog 125 #[.slice (some ⟨b1, o1, none⟩) (n + 1) c, .slice (some ⟨b2, o2, none⟩) n d] w fun e w' => ∃ q : Nat, e = .returned (.int .u64 q) ∧ Guessed x0 x1 x2 f s q ∧ ∃ k, w' = w.drewN k := by
  obtain ⟨P, hP, hor⟩ := or_limb x0 x1 (by omega) bx1
  have hPb : P < 18446744073709551616 := by omega
  obtain ⟨g1, g2, g3, g4⟩ := guess_start (s := s) hP b0 bf1 bx1 bx2
  have hq0 : (P : Int) / (f : Int) = ((P / f : Nat) : Int) := by rw [Int.natCast_ediv]
  have hr0 : (P : Int) % (f : Int) = ((P % f : Nat) : Int) := by rw [Int.natCast_emod]
  generalize P / f = q0 at *
  generalize P % f = r0 at *
  have G3 := hid g3
  have G4 := hid g4
  have HP := hid hP
  have e1 : (0 : Int) ≤ (n : Int) - 1 := by omega
  have e2 : (0 : Int) ≤ (n : Int) - 2 := by omega
  have e3 : (n : Int) - 1 < (n : Int) + 1 := by omega
  have e4 : (n : Int) - 2 < (n : Int) + 1 := by omega
  clear hP g3 g4
  unfold maxLen at hcm hdm
  go_enter Try.func125, Try.ntmps125
  go_wp2
  go_quiet (fail)
  go_wp2
  go_quiet (fail)
  go_wp2
  go_quiet (fail)
  go_wp2
  go_loopw [9, 10] (fun qv rv wr => ∃ (q r k : Nat), qv = .int .u64 q ∧ rv = .int .u64 r ∧ q ≤ 8589934592 ∧ r < 4294967296 ∧ Hid (q * f + r = P) ∧ Hid (P * 4294967296 + x2 < (q + 1) * (f * 4294967296 + s) ∨ 4294967296 ≤ q + 1) ∧ wr = w.drewN k) (fun qv _ _ => (intOf qv).toNat)
  case atStart => exact ⟨q0, r0, _, val_int (by first | rfl | (rw [hq0, IntWalk.u64_in _ (by omega)])), val_int (by first | rfl | exact hr0), g1, by omega, G3, hid (.inl G4.out), by simp only [World.drewN_drewN]; rfl⟩
  case round =>
    obtain ⟨q, r, nd, rfl, rfl, hq, hr, hI, hJ, rfl⟩ := hrel
    clear hq0 hr0 hor
    obtain ⟨R, hR, hor2⟩ := or_limb r x2 hr bx2
    have HR := hid hR
    have hRb : R < 18446744073709551616 := by omega
    clear hR
    by_cases hbig : 4294967296 ≤ q
    · by_cases hbr : 4294967296 ≤ r + f
      · have hq' : q = 4294967296 := by
          apply Classical.byContradiction
          intro hh
          have := guess_roomy HP.out b0 bx1 hI.out (by omega)
          omega
        have hI' := guess_next hI.out (by omega)
        have hG : Guessed x0 x1 x2 f s (q - 1) := by
          refine ⟨by omega, ?_, .inr (by omega)⟩
          rw [← HP.out]
          refine guess_under hI' ?_
          have h1 : (q - 1) * s ≤ 4294967295 * 4294967295 := Nat.mul_le_mul (by omega) (by omega)
          omega
        have HG := hid hG
        clear hG hI' hq'
        go_wp2
        go_ret
        exact ⟨q - 1, ret_int (by omega), HG.out, _, rfl⟩
      · have hI' := hid (guess_next hI.out (by omega))
        go_wp2
        go_roundw
        case rel => exact ⟨q - 1, r + f, nd, val_int (by omega), rfl, by omega, by omega, hI', hid (.inr (by omega)), rfl⟩
        case measure => simp [intOf]; omega
    · have hqs : q * s ≤ 18446744065119617025 := mul_le_limbs (by omega) bs
      by_cases ht : R < q * s
      · have ht' : (R : Int) < (q : Int) * (s : Int) := by omega
        have hover := guess_over hI.out (by rw [← HR.out]; exact ht)
        have hq1 : 0 < q := by
          apply Nat.pos_of_ne_zero
          intro e
          rw [e, Nat.zero_mul] at ht
          omega
        have hI' := guess_next hI.out hq1
        have HI' := hid hI'
        have HOV := hid hover
        clear hI' hover ht
        by_cases hbr : 4294967296 ≤ r + f
        · have hG : Guessed x0 x1 x2 f s (q - 1) := by
            refine ⟨by omega, ?_, ?_⟩
            · rw [← HP.out]
              refine guess_under HI'.out ?_
              have h1 : (q - 1) * s ≤ 4294967295 * 4294967295 := Nat.mul_le_mul (by omega) (by omega)
              omega
            · rw [← HP.out, Nat.sub_add_cancel hq1]
              exact .inl HOV.out
          have HG := hid hG
          clear hG
          go_wp2
          go_ret
          exact ⟨q - 1, ret_int (by omega), HG.out, _, rfl⟩
        · go_wp2
          go_roundw
          case rel => exact ⟨q - 1, r + f, nd, val_int (by omega), rfl, by omega, by omega, HI', hid (.inl (by rw [Nat.sub_add_cancel hq1]; exact HOV.out)), rfl⟩
          case measure => simp [intOf]; omega
      · have ht' : ¬ (R : Int) < (q : Int) * (s : Int) := by omega
        have hG : Guessed x0 x1 x2 f s q := by
          refine ⟨by omega, ?_, ?_⟩
          · rw [← HP.out]
            exact guess_under hI.out (by rw [← HR.out]; omega)
          · rw [← HP.out]
            rcases hJ.out with h | h
            · exact .inl h
            · exact .inr (by omega)
        have HG := hid hG
        clear hG ht
        go_wp2
        go_ret
        exact ⟨q, rfl, HG.out, _, rfl⟩

end Go.Proofs.Ytjeeepcnaaadmaa

