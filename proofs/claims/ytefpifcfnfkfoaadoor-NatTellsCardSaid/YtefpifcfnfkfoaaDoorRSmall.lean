import Derived.Test.YtefpifcfnfkfoaaDoorRDiv2
namespace Go.Proofs.YtefpifcfnfkfoaaDoor
open Go.RowKit
open Num (dg dg_lt dg_ge dg_zeros dg_take dg_drop dg_set_self dg_set_ne tl tlen tl_zero tl_skip tl_stop tl_le tlen_le trimL length_trimL tl_top drop_dg)
open Num4
set_option linter.unusedVariables false
set_option linter.unusedSimpArgs false

theorem small_step {zs : List Nat} {k r n : Nat} (hl : zs.length = k) (hI : val zs + r * B ^ k = n) : val (zs ++ [r % 10000]) + r / 10000 * B ^ (k + 1) = n := by
  rw [val_append, val_single, hl, Nat.mul_comm (B ^ k), Nat.pow_succ]
  have h := carry_split r (B ^ k)
  omega

theorem trim_snoc {zs : List Nat} {x : Nat} (hx : 0 < x) : Trim (zs ++ [x]) := by
  refine .inr ?_
  rw [List.length_append, List.length_singleton, Nat.add_sub_cancel]
  simp only [dg]
  rw [List.getElem?_append_right (Nat.le_refl _)]
  simpa using hx

set_option maxHeartbeats 1000000 in
theorem rsmall_lim (w : World) (n : Nat) (hn : n ≤ 1099511627776) :
    Calls Tryd.prog 20 #[.int .i64 n] w fun e w' => ∃ v' zs, e = .returned v' ∧ LimR w' v' zs ∧ Trim zs ∧ val zs = n ∧ zs.length ≤ n ∧ Below w.heap.size w w' := by
  obtain ⟨i0, hi, hz0, hz1, hz2⟩ := info_parts infoInt
  go_enter Tryd.func20, Tryd.ntmps20
  go_wp2_with fail
  go_loopw [0, 3] (fun q out wr => ∃ (k r : Nat) (zs : List Nat), q = .int .i64 r ∧ k + r ≤ n ∧ Hid (Acc wr w.heap.size out zs) ∧ Hid (zs.length = k) ∧ Fits zs ∧ Hid (r = 0 → Trim zs) ∧
      Hid (val zs + r * B ^ k = n) ∧ Hid (Below w.heap.size w wr)) (fun q _ _ => (intOf q).toNat)
  case atStart => exact ⟨0, n, [], rfl, by omega, Acc.nil _ _, rfl, Fits.nil, hid (fun _ => .inl rfl), hid (by simp [val_nil]), Below.refl _ _⟩
  case round =>
    obtain ⟨k, r, zs, rfl, hk, hA, hlen, hf, hT, hI, hbw⟩ := hrel
    by_cases hlt : 0 < r
    · go_wp2_with (at_builtin; refine wpList_push_int _ rfl _ _ 24 rfl i0 Tryd.underlying24 hi hz0 hz1 hz2 hA.out _ (r % 10000) ?cz rfl rfl hbw.out.size ?cl ?_)
      case cz => omega
      case cl => rw [hlen.out]; omega
      intro v' w4 hacc hb4
      have HACC := hid hacc
      have HB4 := hid (hbw.out.trans hb4)
      clear hacc hb4
      go_wp2_with fail
      go_roundw
      case rel =>
        exact ⟨k + 1, r / 10000, zs ++ [r % 10000], by go_num, by omega, HACC, hid (by rw [List.length_append, hlen.out]; rfl), hf.append (Fits.single (by omega)),
          hid (fun h => trim_snoc (by omega)), hid (small_step hlen.out hI.out), HB4⟩
      case measure => simp [intOf]; omega
    · obtain rfl : r = 0 := by omega
      have hv : val zs = n := by have h := hI.out; simpa using h
      have HV := hid hv
      clear hv
      go_wp2_with fail
      go_ret
      exact ⟨_, rfl, zs, hA.out.lim hf, hT.out trivial, HV.out, by rw [hlen.out]; omega, hbw.out⟩

end Go.Proofs.YtefpifcfnfkfoaaDoor
