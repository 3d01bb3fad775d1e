import Derived.Test.YtjeeepcnaaadmaaAdd
namespace Go.Proofs.Ytjeeepcnaaadmaa
open Go.RowKit
open Num
set_option linter.unusedVariables false
set_option maxRecDepth 100000
set_option linter.unusedSimpArgs false

/-- An error of package api. -/
abbrev errno (k : Int) : Value := .iface 76 (.int .i64 k)

/-- One step of the difference. -/
theorem sub_step {xs ys us : List Nat} {k b b' t n : Nat} (hl : us.length = n) (hk : k < n) (hI : val (us.take k) + val (ys.take k) = val (xs.take k) + b * B ^ k)
    (hs : t + b + dg ys k = dg xs k + b' * 4294967296) : val ((us.set k t).take (k + 1)) + val (ys.take (k + 1)) = val (xs.take (k + 1)) + b' * B ^ (k + 1) := by
  rw [val_take_set _ _ _ (by omega), val_take_succ ys, val_take_succ xs, Nat.pow_succ]
  have e : (t + b + dg ys k) * B ^ k = (dg xs k + b' * 4294967296) * B ^ k := by rw [hs]
  rw [Nat.add_mul, Nat.add_mul, Nat.add_mul, Nat.mul_assoc] at e
  rw [Nat.mul_comm (B ^ k) B, B_eq]
  rw [B_eq] at e hI
  omega

/-- A difference of limbs as the machine reckons it: what is stored, and what is borrowed. -/
theorem sub_wrap (x b y : Nat) (hx : x < 4294967296) (hb : b ≤ 1) (hy : y < 4294967296) : ∃ t b' : Nat, t < 4294967296 ∧ b' ≤ 1 ∧ t + b + y = x + b' * 4294967296 ∧
    IntKind.u64.wrap (IntKind.u64.wrap ((x : Int) - (b : Int)) - (y : Int)) % 4294967296 = (t : Int) ∧ IntKind.u64.wrap (IntKind.u64.wrap ((x : Int) - (b : Int)) - (y : Int)) / 9223372036854775808 = (b' : Int) := by
  rw [IntKind.wrap_u64, IntKind.wrap_u64]
  by_cases h : b + y ≤ x
  · exact ⟨x - b - y, 0, by omega, by omega, by omega, by omega, by omega⟩
  · exact ⟨x + 4294967296 - b - y, 1, by omega, by omega, by omega, by omega, by omega⟩
theorem sub_wrap0 (x b : Nat) (hx : x < 4294967296) (hb : b ≤ 1) : ∃ t b' : Nat, t < 4294967296 ∧ b' ≤ 1 ∧ t + b + 0 = x + b' * 4294967296 ∧
    IntKind.u64.wrap ((x : Int) - (b : Int)) % 4294967296 = (t : Int) ∧ IntKind.u64.wrap ((x : Int) - (b : Int)) / 9223372036854775808 = (b' : Int) := by
  rw [IntKind.wrap_u64]
  by_cases h : b ≤ x
  · exact ⟨x - b, 0, by omega, by omega, by omega, by omega, by omega⟩
  · exact ⟨x + 4294967296 - b, 1, by omega, by omega, by omega, by omega, by omega⟩

set_option maxHeartbeats 400000 in
theorem sub_core (p q : Option Addr) (c d n0 m0 n m : Nat) (xs ys : List Nat) (w : World) (hx : Fits xs) (hy : Fits ys) (hcn : n ≤ c) (hdm : m ≤ d) (hn : n = xs.length) (hm : m = ys.length)
    (hc : c ≤ maxLen) (hd : d ≤ maxLen) (ha : AddrOk w p c xs) (hb : AddrOk w q d ys) (tx : Trim xs) (ty : Trim ys) (hbig : n ≤ 1099511627776) (hge : val ys ≤ val xs)
    (T1 : Calls Try.prog 91 #[.slice p n0 c] w fun e w' => e = .returned (.slice p n c) ∧ w = w')
    (T2 : Calls Try.prog 91 #[.slice q m0 d] w fun e w' => e = .returned (.slice q m d) ∧ w = w')
    (T3 : Calls Try.prog 86 #[.slice p n c, .slice q m d] w fun e w' => e = .returned (.bool false) ∧ ∃ k, w' = w.drewN k) :
    Calls Try.prog 87 #[.slice p n0 c, .slice q m0 d] w fun e w' => ∃ v zs, e = .returned (.tuple #[v, .nilIface]) ∧ Lim w' v zs ∧ Trim zs ∧ val zs = val xs - val ys ∧ Below w.heap.size w w' := by
  obtain ⟨i0, hi, hz0, hz1, hz2⟩ := info_parts infoU32
  have hle : m ≤ n := by
    apply Classical.byContradiction
    intro hh
    have := lt_of_length (x := xs) (y := ys) hx ty (by omega)
    omega
  have HA1 := hid (AddrOk.at' ha hn hcn)
  have HA2 := hid (AddrOk.at' hb hm hdm)
  have HT1 := hid T1
  have HT2 := hid T2
  have HT3 := hid T3
  have Hn := hid hn
  have Hm := hid hm
  have Hge := hid hge
  clear hn hm T1 T2 T3 ha hb hge
  unfold maxLen at hc hd
  go_enter Try.func87, Try.ntmps87
  go_wp2_with fail
  refine HT1.out.mono ?_
  rintro e w' ⟨rfl, rfl⟩
  go_wp2_with fail
  refine HT2.out.mono ?_
  rintro e w' ⟨rfl, rfl⟩
  go_wp2_with fail
  refine HT3.out.mono ?_
  rintro e w' ⟨rfl, nd, rfl⟩
  go_wp2_with (refine wpList_make_limbs _ rfl _ _ 47 rfl i0 Try.underlying47 hi hz0 hz1 hz2 _ _ n n rfl rfl rfl rfl (Nat.le_refl _) ?cb ?_)
  case cb => omega
  intro w1 hblk0 hbelow0 hsz
  have hblk : Blk w1 w.heap.size (List.replicate n 0) := hblk0
  have hbelow : Below w.heap.size w w1 := (below_drewN (Below.refl _ _) nd).trans hbelow0
  clear hblk0 hbelow0
  go_wp2
  go_loopw [7, 24] (fun bo i wr => ∃ (k b : Nat) (us : List Nat), k ≤ n ∧ i = .int .i64 k ∧ bo = .int .u64 b ∧ b ≤ 1 ∧ Hid (Blk wr w.heap.size us) ∧ Hid (us.length = n) ∧ Fits us ∧
      Hid (val (us.take k) + val (ys.take k) = val (xs.take k) + b * B ^ k) ∧ Hid (Below w.heap.size w wr)) (fun _ i _ => n - (intOf i).toNat)
  case atStart => exact ⟨0, 0, _, by omega, rfl, rfl, by omega, hblk, hid (by simp), Fits.zeros _, hid (by simp [val_nil]), hbelow⟩
  case round =>
    obtain ⟨k, b0, us, hk, rfl, rfl, hb0, hB, hl, hf, hI, hbw⟩ := hrel
    by_cases hlt : k < n
    · obtain ⟨b1, o1, rfl, hb1, cx⟩ := HA1.out k hlt
      rw [← (hbw.out).cell (by exact hb1)] at cx
      have cu := hB.out.cell (i := k) (by rw [hl.out]; omega)
      have fu := hB.out.free k
      have bx := hx k
      have by' := hy k
      by_cases hm2 : k < m
      · obtain ⟨b2, o2, rfl, hb2, cy⟩ := HA2.out k hm2
        rw [← (hbw.out).cell (by exact hb2)] at cy
        go_wp2
        obtain ⟨t, b', ht1, ht2, ht3, ht4, ht5⟩ := sub_wrap (dg xs k) b0 (dg ys k) bx hb0 by'
        go_roundw
        case rel =>
          exact ⟨k + 1, b', us.set k t, by omega, by go_num, val_int ht5, ht2, hid (hB.out.set' k _ _ ht4), hid (by rw [List.length_set]; exact hl.out),
            hf.set _ _ ht1, hid (sub_step hl.out hlt hI.out ht3), hid (hbw.out.setCell (Nat.le_refl _) _)⟩
        case measure => simp [intOf]; omega
      · have hy0 : dg ys k = 0 := dg_ge (by rw [← Hm.out]; omega)
        have HY := hid hy0
        clear hy0 by'
        go_wp2
        obtain ⟨t, b', ht1, ht2, ht3, ht4, ht5⟩ := sub_wrap0 (dg xs k) b0 bx hb0
        go_roundw
        case rel =>
          exact ⟨k + 1, b', us.set k t, by omega, by go_num, val_int ht5, ht2, hid (hB.out.set' k _ _ ht4), hid (by rw [List.length_set]; exact hl.out),
            hf.set _ _ ht1, hid (sub_step hl.out hlt hI.out (by rw [HY.out]; exact ht3)), hid (hbw.out.setCell (Nat.le_refl _) _)⟩
        case measure => simp [intOf]; omega
    · obtain rfl : k = n := by omega
      go_wp2_with fail
      have hv : val us = val xs - val ys := by
        have h2 := hI.out
        have h3 := Hge.out
        have h4 := val_lt hf
        rw [hl.out] at h4
        rw [val_take_all us _ (by rw [hl.out]; exact Nat.le_refl _), val_take_all xs _ (by rw [← Hn.out]; exact Nat.le_refl _), val_take_all ys _ (by rw [← Hm.out]; omega)] at h2
        rcases (show b0 = 0 ∨ b0 = 1 by omega) with rfl | rfl
        · omega
        · omega
      have hL := hB.out.lim hf 0 k k (by rw [hl.out]; omega) (Nat.le_refl _) (by unfold maxLen; omega)
      rw [List.drop_zero, List.take_of_length_le (by rw [hl.out]; exact Nat.le_refl _)] at hL
      have HL := hid hL
      have HV := hid hv
      clear hL hv
      refine (trim_lim HL.out).mono ?_
      rintro e w' ⟨v', rfl, hL3, rfl⟩
      go_wp2_with fail
      go_ret2
      exact ⟨_, _, rfl, hL3, trim_trimL _, by rw [val_trimL]; exact HV.out, hbw.out⟩

set_option maxHeartbeats 400000 in
theorem sub_none (p q : Option Addr) (c d n0 m0 n m : Nat) (w : World)
    (T1 : Calls Try.prog 91 #[.slice p n0 c] w fun e w' => e = .returned (.slice p n c) ∧ w = w')
    (T2 : Calls Try.prog 91 #[.slice q m0 d] w fun e w' => e = .returned (.slice q m d) ∧ w = w')
    (T3 : Calls Try.prog 86 #[.slice p n c, .slice q m d] w fun e w' => e = .returned (.bool true) ∧ ∃ k, w' = w.drewN k) :
    Calls Try.prog 87 #[.slice p n0 c, .slice q m0 d] w fun e w' => e = .returned (.tuple #[.slice none 0 0, errno 2]) ∧ Below w.heap.size w w' := by
  have HT1 := hid T1
  have HT2 := hid T2
  have HT3 := hid T3
  clear T1 T2 T3
  go_enter Try.func87, Try.ntmps87
  go_wp2_with fail
  refine HT1.out.mono ?_
  rintro e w' ⟨rfl, rfl⟩
  go_wp2_with fail
  refine HT2.out.mono ?_
  rintro e w' ⟨rfl, rfl⟩
  go_wp2_with fail
  refine HT3.out.mono ?_
  rintro e w' ⟨rfl, nd, rfl⟩
  go_wp2_with fail
  go_ret2
  exact ⟨rfl, below_drewN (Below.refl _ _) nd⟩

theorem lim_parts {w : World} {v : Value} {xs : List Nat} (h : Lim w v xs) : ∃ p c, v = .slice p xs.length c ∧ Fits xs ∧ xs.length ≤ c ∧ c ≤ maxLen ∧ AddrOk w p c xs := by
  obtain ⟨hf, p, c, h1, h2, h3, h4⟩ := h
  exact ⟨p, c, h1, hf, h2, h3, h4⟩

theorem lim_cut {w : World} {p : Option Addr} {c : Nat} {xs : List Nat} (hf : Fits xs) (hc : xs.length ≤ c) (hm : c ≤ maxLen) (ha : AddrOk w p c xs) : Lim w (.slice p (tlen xs) c) (trimL xs) :=
  ⟨fits_trimL hf, p, c, by rw [length_trimL], by rw [length_trimL]; exact Nat.le_trans (tlen_le xs) hc, hm, ha.take _⟩

theorem sub_lim {w : World} {v u : Value} {xs ys : List Nat} (h1 : Lim w v xs) (h2 : Lim w u ys) (b1 : xs.length ≤ 1099511627776) (hge : val ys ≤ val xs) :
    Calls Try.prog 87 #[v, u] w fun e w' => ∃ v zs, e = .returned (.tuple #[v, .nilIface]) ∧ Lim w' v zs ∧ Trim zs ∧ val zs = val xs - val ys ∧ Below w.heap.size w w' := by
  obtain ⟨p, c, rfl, hf, hc, hm, ha⟩ := lim_parts h1
  obtain ⟨q, d, rfl, hf2, hd, hm2, ha2⟩ := lim_parts h2
  have lx := tlen_le xs
  have ly := tlen_le ys
  have hl := less_lim (lim_cut hf hc hm ha) (lim_cut hf2 hd hm2 ha2)
  rw [val_trimL, val_trimL, decide_eq_false (by omega)] at hl
  have h := sub_core p q c d xs.length ys.length (tlen xs) (tlen ys) (trimL xs) (trimL ys) w (fits_trimL hf) (fits_trimL hf2) (by omega) (by omega) (length_trimL xs).symm (length_trimL ys).symm hm hm2
    (AddrOk.take (xs := xs) ha _) (AddrOk.take (xs := ys) ha2 _) (trim_trimL _) (trim_trimL _) (by omega) (by rw [val_trimL, val_trimL]; exact hge) (trim_any p c xs w hf hc hm ha) (trim_any q d ys w hf2 hd hm2 ha2) hl
  rw [val_trimL, val_trimL] at h
  exact h

theorem sub_lim_none {w : World} {v u : Value} {xs ys : List Nat} (h1 : Lim w v xs) (h2 : Lim w u ys) (hlt : val xs < val ys) :
    Calls Try.prog 87 #[v, u] w fun e w' => e = .returned (.tuple #[.slice none 0 0, errno 2]) ∧ Below w.heap.size w w' := by
  obtain ⟨p, c, rfl, hf, hc, hm, ha⟩ := lim_parts h1
  obtain ⟨q, d, rfl, hf2, hd, hm2, ha2⟩ := lim_parts h2
  have hl := less_lim (lim_cut hf hc hm ha) (lim_cut hf2 hd hm2 ha2)
  rw [val_trimL, val_trimL, decide_eq_true hlt] at hl
  exact sub_none p q c d xs.length ys.length (tlen xs) (tlen ys) w (trim_any p c xs w hf hc hm ha) (trim_any q d ys w hf2 hd hm2 ha2) hl

end Go.Proofs.Ytjeeepcnaaadmaa

