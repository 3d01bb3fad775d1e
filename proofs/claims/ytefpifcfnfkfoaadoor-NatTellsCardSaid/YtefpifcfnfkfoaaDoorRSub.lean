import Derived.Test.YtefpifcfnfkfoaaDoorRAdd
namespace Go.Proofs.YtefpifcfnfkfoaaDoor
open Go.RowKit
open Num (dg dg_lt dg_ge dg_zeros dg_take dg_drop dg_set_self dg_set_ne tl tlen tl_zero tl_skip tl_stop tl_le tlen_le trimL length_trimL tl_top drop_dg)
open Num4
set_option linter.unusedVariables false
set_option linter.unusedSimpArgs false

theorem Acc.drewN {w : World} {K : Nat} {v : Value} {zs : List Nat} (h : Acc w K v zs) (n : Nat) : Acc (w.drewN n) K v zs := h

theorem digit_still {w : World} {v : Value} {xs : List Nat} (h : LimR w v xs) (i : Nat) (hi : i ≤ 4611686018427387904) (nd : Nat) :
    Calls Tryd.prog 24 #[v, .int .i64 i] (w.drewN nd) fun e w' => e = .returned (.int .i64 (dg xs i)) ∧ w' = w.drewN nd := by
  refine (digit_lim (w := w.drewN nd) (v := v) (xs := xs) h i hi).mono ?_
  rintro e w' ⟨rfl, rfl⟩
  exact ⟨rfl, rfl⟩

theorem less_step {xs ys zs : List Nat} {k l l' t : Nat} (hl : zs.length = k) (hI : val zs + val (ys.take k) = val (xs.take k) + l * B ^ k) (ht : t + dg ys k + l = dg xs k + l' * 10000) :
    val (zs ++ [t]) + val (ys.take (k + 1)) = val (xs.take (k + 1)) + l' * B ^ (k + 1) := by
  rw [val_append, val_single, hl, val_take_succ xs, val_take_succ ys, Nat.mul_comm (B ^ k), Nat.pow_succ]
  have e : (t + dg ys k + l) * B ^ k = (dg xs k + l' * 10000) * B ^ k := by rw [ht]
  rw [Nat.add_mul, Nat.add_mul, Nat.add_mul, Nat.mul_assoc l'] at e
  rw [Nat.mul_comm (B ^ k) B, B_eq]
  rw [B_eq] at e hI
  omega

set_option maxHeartbeats 1000000 in
set_option maxRecDepth 100000 in
theorem rsub_lim {w : World} {v u : Value} {xs ys : List Nat} (h1 : LimR w v xs) (h2 : LimR w u ys) (b1 : xs.length ≤ 1099511627776) (ty : Trim ys) (hle : val ys ≤ val xs) :
    Calls Tryd.prog 13 #[v, u] w fun e w' => ∃ v' zs, e = .returned v' ∧ LimR w' v' zs ∧ Trim zs ∧ val zs = val xs - val ys ∧ Below w.heap.size w w' := by
  obtain ⟨i0, hi, hz0, hz1, hz2⟩ := info_parts infoInt
  have hylen : ys.length ≤ xs.length := by
    apply Classical.byContradiction
    intro hh
    have := lt_of_length (x := xs) (y := ys) h1.1 ty (by omega)
    omega
  have HYL := hid hylen
  have HLE := hid hle
  have HY := hid h2
  have hfy := h2.1
  obtain ⟨p, c, rfl, hfx, hc, hm, ha⟩ := limR_parts h1
  have HA1 := hid (AddrR.at' ha rfl hc)
  clear h1 h2 ha hylen hle
  obtain ⟨n, hn⟩ : ∃ n, xs.length = n := ⟨_, rfl⟩
  rw [hn] at hc b1 HA1 HYL ⊢
  have HN := hid hn
  clear hn
  unfold maxLen at hm
  go_enter Tryd.func13, Tryd.ntmps13
  go_wp2_with fail
  go_loopw [5, 6, 7, 8] (fun out le i _x wr => ∃ (k l0 : Nat) (zs : List Nat), k ≤ n ∧ i = .int .i64 k ∧ le = .int .i64 l0 ∧ l0 ≤ 1 ∧ Hid (Acc wr w.heap.size out zs) ∧ Hid (zs.length = k) ∧ Fits zs ∧
      Hid (val zs + val (ys.take k) = val (xs.take k) + l0 * B ^ k) ∧ Hid (Below w.heap.size w wr)) (fun _ _ i _ _ => n - (intOf i).toNat)
  case atStart => exact ⟨0, 0, [], by omega, rfl, rfl, by omega, Acc.nil _ _, rfl, Fits.nil, hid (by simp [val_nil]), Below.refl _ _⟩
  case round =>
    obtain ⟨k, l0, zs, hk, rfl, rfl, hl0, hA, hlen, hf, hI, hbw⟩ := hrel
    by_cases hlt : k < n
    · have C2 := hid (fun nd => digit_still (HY.out.below hbw.out (Nat.le_refl _)) k (by omega) nd)
      obtain ⟨b1, o1, rfl, hb1, cx⟩ := HA1.out k hlt
      rw [← (hbw.out).cell (by exact hb1)] at cx
      have bx := hfx k
      have bY := hfy k
      have i1 : (0 : Int) ≤ (k : Int) := by omega
      have i2 : (k : Int) < (n : Int) := by omega
      have A2 := fun nd => hid (Acc.drewN hA.out nd)
      by_cases hs : dg ys k + l0 ≤ dg xs k
      · have hs1 : ¬ ((dg xs k : Int) - (dg ys k : Int) - (l0 : Int) < 0) := by omega
        go_wp2_with fail
        go_quiet ((go_at_call 24; exact Calls.quiet_of_same (C2.out _)))
        go_wp2_with (at_builtin; refine wpList_push_int _ rfl _ _ 24 rfl i0 Tryd.underlying24 hi hz0 hz1 hz2 (A2 _).out _ (dg xs k - dg ys k - l0) ?cz rfl rfl hbw.out.size ?cl ?_)
        case cz => omega
        case cl => rw [hlen.out]; omega
        intro v' w4 hacc hb4
        have HACC := hid hacc
        have HB4 := hid ((below_drewN hbw.out _).trans hb4)
        clear hacc hb4
        go_wp2_with fail
        go_roundw
        case rel =>
          exact ⟨k + 1, 0, zs ++ [dg xs k - dg ys k - l0], by omega, by go_num, rfl, by omega, HACC, hid (by rw [List.length_append, hlen.out]; rfl),
            hf.append (Fits.single (by omega)), hid (less_step hlen.out hI.out (by omega)), HB4⟩
        case measure => simp [intOf]; omega
      · have hs1 : ((dg xs k : Int) - (dg ys k : Int) - (l0 : Int) < 0) := by omega
        go_wp2_with fail
        go_quiet ((go_at_call 24; exact Calls.quiet_of_same (C2.out _)))
        go_wp2_with (at_builtin; refine wpList_push_int _ rfl _ _ 24 rfl i0 Tryd.underlying24 hi hz0 hz1 hz2 (A2 _).out _ (dg xs k + 10000 - dg ys k - l0) ?cz2 rfl rfl hbw.out.size ?cl2 ?_)
        case cz2 => omega
        case cl2 => rw [hlen.out]; omega
        intro v' w4 hacc hb4
        have HACC := hid hacc
        have HB4 := hid ((below_drewN hbw.out _).trans hb4)
        clear hacc hb4
        go_wp2_with fail
        go_roundw
        case rel =>
          exact ⟨k + 1, 1, zs ++ [dg xs k + 10000 - dg ys k - l0], by omega, by go_num, rfl, by omega, HACC, hid (by rw [List.length_append, hlen.out]; rfl),
            hf.append (Fits.single (by omega)), hid (less_step hlen.out hI.out (by omega)), HB4⟩
        case measure => simp [intOf]; omega
    · obtain rfl : k = n := by omega
      have hv : val zs = val xs - val ys := by
        have h := hI.out
        have h2 := HLE.out
        have h3 := val_lt hf
        rw [hlen.out] at h3
        rw [val_take_all xs _ (by rw [HN.out]; exact Nat.le_refl _), val_take_all ys _ HYL.out] at h
        rcases (show l0 = 0 ∨ l0 = 1 by omega) with e | e
        · rw [e] at h; omega
        · rw [e] at h; omega
      have HV := hid hv
      have HL := hid (rtrim_lim (hA.out.lim hf))
      clear hv
      go_wp2_with fail
      refine HL.out.mono ?_
      rintro e w5 ⟨v5, rfl, hL5, rfl⟩
      go_wp2_with fail
      go_ret
      exact ⟨v5, _, rfl, hL5, trim_trimL _, by rw [val_trimL]; exact HV.out, hbw.out⟩

end Go.Proofs.YtefpifcfnfkfoaaDoor
