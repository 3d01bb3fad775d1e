import Derived.Test.YtokojbgpboccnaaBunProofSturmOwn7
import Derived.Deep.RegionWith
import Derived.Lib.ItoaNum
import Derived.Deep.LoopGhost
import Derived.Test.YtokojbgpboccnaaBunProofSturmOwn1
namespace Go.Proofs.Ytokojbgpboccnaa
open Go.RowKit
open Num
set_option linter.unusedVariables false
set_option maxRecDepth 100000
set_option linter.unusedSimpArgs false

/-- How far the top limb is shifted. -/
theorem lead_zeros (f : Nat) (h0 : 0 < f) (h1 : f < 4294967296) (w : World) : ∃ s : Nat, s ≤ 31 ∧ 2147483648 ≤ f * 2 ^ s ∧ f * 2 ^ s < 4294967296 ∧
    Calls Try.prog 83 #[.int .u32 f] w fun e w' => e = .returned (.int .i64 s) ∧ w' = w := by
  obtain ⟨b1, b2, b3⟩ := Lib.bitLenAux_bounds 64 f (by omega) (by omega)
  have b4 : Lib.bitLenAux 64 f ≤ 32 := Lib.bitLenAux_le 64 f 32 (by omega)
  have hc := Try.bits_LeadingZeros32 (f : Int) w (by omega) (by omega)
  rw [Int.toNat_natCast] at hc
  rw [show Lib.bitLen f = Lib.bitLenAux 64 f from rfl] at hc
  generalize Lib.bitLenAux 64 f = k at *
  refine ⟨32 - k, by omega, ?_, ?_, ?_⟩
  · have e : 2 ^ (k - 1) * 2 ^ (32 - k) = 2147483648 := by rw [← Nat.pow_add, show k - 1 + (32 - k) = 31 by omega]
    rw [← e]; exact Nat.mul_le_mul_right _ b2
  · have e : 2 ^ k * 2 ^ (32 - k) = 4294967296 := by rw [← Nat.pow_add, show k + (32 - k) = 32 by omega]
    rw [← e]; exact Nat.mul_lt_mul_of_pos_right b3 (Nat.pow_pos (by omega))
  · rw [show (((32 - k : Nat) : Int)) = 32 - (k : Int) by omega]
    exact hc

theorem double_n {n : Nat} {w : World} {v : Value} {xs : List Nat} (hn : xs.length = n) (b1 : n ≤ 1099511627776) (s : Nat) (hs : s ≤ 31) (h1 : Lim w v xs) :
    Calls Try.prog 92 #[v, .int .i64 s] w fun e w' => ∃ zs, e = .returned (.slice (some ⟨w.heap.size, 0, none⟩) (n + 1) (n + 1)) ∧ Blk w' w.heap.size zs ∧ Fits zs ∧ zs.length = n + 1 ∧ val zs = val xs * 2 ^ s ∧ Below w.heap.size w w' := by
  subst hn; exact double_lim h1 b1 s hs

theorem below_undrew {B : Nat} {w w' : World} (h : Below B w.drew w') : Below B w w' := ⟨h.os, h.tape, h.output, h.size, h.block⟩

theorem seg_split (us : List Nat) (k m : Nat) : us = us.take k ++ (us.drop k).take (m + 1) ++ us.drop (k + (m + 1)) := by
  rw [List.append_assoc, ← List.drop_drop, List.take_append_drop, List.take_append_drop]

theorem seg_algebra {M P x D V v sg post : Nat} (e2 : v = x + M * D) (e3 : v = sg + P * M * post) (hx : x < M) (hD : D < V) (hV : V < P) : sg < M * V ∧ post = 0 := by
  have e5 := Nat.mul_le_mul_left M (Nat.succ_le_of_lt hD)
  have e6 := Nat.mul_le_mul_left M (Nat.succ_le_of_lt hV)
  rw [Nat.succ_eq_add_one, Nat.mul_add, Nat.mul_one] at e5 e6
  have h0 : post = 0 := by
    apply Classical.byContradiction
    intro hh
    have e4 := Nat.mul_le_mul_left (P * M) (show 1 ≤ post by omega)
    rw [Nat.mul_one, Nat.mul_comm P M] at e4
    rw [Nat.mul_comm P M] at e3
    omega
  subst h0
  exact ⟨by omega, rfl⟩

/-- The limbs from k on, one at a time less than V, are below B times V, and what lies beyond m + 1 of them is nought. -/
theorem seg_low {us : List Nat} {k m V : Nat} (hf : Fits us) (hk : k + m + 1 ≤ us.length) (hV : V < B ^ m) (h : val (us.drop (k + 1)) < V) :
    val ((us.drop k).take (m + 1)) < B * V ∧ val (us.drop (k + (m + 1))) = 0 ∧ val (us.drop k) = val ((us.drop k).take (m + 1)) ∧ ((us.drop k).take (m + 1)).length = m + 1 := by
  have hb : dg us k < B := by rw [B_eq]; exact hf k
  have e1 := drop_dg (l := us) (k := k) (by omega)
  have e2 : val (us.drop k) = dg us k + B * val (us.drop (k + 1)) := by rw [e1, val_cons]
  have e3 := val_split (us.drop k) (m + 1)
  rw [List.drop_drop, Nat.pow_succ] at e3
  obtain ⟨h1, h0⟩ := seg_algebra e2 e3 hb h hV
  refine ⟨h1, h0, ?_, ?_⟩
  · rw [h0, Nat.mul_zero, Nat.add_zero] at e3; exact e3
  · rw [List.length_take, List.length_drop]; omega

theorem long_algebra {M P V A q z D C : Nat} : (C + P * (q * V + z)) + V * (D * (P * M)) = (C + P * z) + V * ((q + M * D) * P) := by
  rw [Nat.mul_add P, Nat.add_mul q, Nat.mul_add V]
  have e2 : V * (q * P) = P * (q * V) := by rw [Nat.mul_comm V, Nat.mul_comm q P, Nat.mul_assoc]
  have e3 : V * (M * D * P) = V * (D * (P * M)) := by
    congr 1
    rw [Nat.mul_comm M D, Nat.mul_assoc, Nat.mul_comm M P]
  omega

theorem long_step {us zs qs : List Nat} {k m V U q : Nat} (hk : k + m + 1 ≤ us.length) (hkq : k < qs.length) (h0 : val (us.drop (k + (m + 1))) = 0) (hd : val (us.drop k) = val ((us.drop k).take (m + 1)))
    (hq : val ((us.drop k).take (m + 1)) = q * V + val zs) (hI : U = val us + V * (val (qs.drop (k + 1)) * B ^ (k + 1))) :
    U = val (us.take k ++ zs ++ us.drop (k + (m + 1))) + V * (val ((qs.set k q).drop k) * B ^ k) ∧ val ((us.take k ++ zs ++ us.drop (k + (m + 1))).drop k) = val zs := by
  have hlt : (us.take k).length = k := by rw [List.length_take]; omega
  constructor
  · have e1 := val_split us k
    rw [drop_dg (l := qs.set k q) (by rw [List.length_set]; exact hkq), dg_set_self _ _ _ hkq, List.drop_set_of_lt (by omega), val_cons]
    rw [List.append_assoc, val_append, val_append, h0, hlt, Nat.mul_zero, Nat.add_zero, hI, e1, hd, hq, Nat.pow_succ]
    exact long_algebra (A := 0)
  · rw [List.append_assoc, List.drop_append_of_le_length (by omega), List.drop_of_length_le (by omega), List.nil_append, val_append, h0]
    omega

theorem long_head {ys vs : List Nat} {m s V : Nat} (hy : Fits ys) (hl : ys.length = m) (hm : 2 ≤ m) (hs : s ≤ 31) (hs1 : 2147483648 ≤ dg ys (m - 1) * 2 ^ s) (hs2 : dg ys (m - 1) * 2 ^ s < 4294967296) (hlv : vs.length = m + 1) (hfv : Fits vs)
    (hV : V = val ys * 2 ^ s) (hv : val vs = V) : V < B ^ m ∧ val (vs.take m) = V ∧ 2147483648 ≤ dg (vs.take m) (m - 1) := by
  obtain ⟨k, rfl⟩ : ∃ k, m = k + 1 := ⟨m - 1, by omega⟩
  rw [Nat.add_sub_cancel] at *
  have e1 := val_take_succ ys k
  rw [List.take_of_length_le (by omega)] at e1
  have e2 := val_take_lt hy (k := k) (by omega)
  obtain ⟨S, hS⟩ : ∃ S, S = 2 ^ s := ⟨_, rfl⟩
  obtain ⟨T, hT⟩ : ∃ T, T = 2 ^ (32 - s) := ⟨_, rfl⟩
  have hST : T * S = B := by rw [hS, hT, ← Nat.pow_add, show 32 - s + s = 32 by omega]; rfl
  have hp : 0 < S := by rw [hS]; exact Nat.pow_pos (by omega)
  rw [← hS] at hs1 hs2 hV
  have hf1 : dg ys k + 1 ≤ T := by
    have : dg ys k * S < T * S := by rw [hST]; exact hs2
    exact Nat.lt_of_mul_lt_mul_right this
  have h1 : val ys < (dg ys k + 1) * B ^ k := by rw [Nat.add_mul]; omega
  have hVlt : V < B ^ (k + 1) := by
    have h2 : (dg ys k + 1) * B ^ k ≤ T * B ^ k := Nat.mul_le_mul_right _ hf1
    have h3 : val ys * S < T * B ^ k * S := Nat.mul_lt_mul_of_pos_right (Nat.lt_of_lt_of_le h1 h2) hp
    have h4 : T * B ^ k * S = B ^ (k + 1) := by rw [Nat.mul_comm T, Nat.mul_assoc, hST, Nat.pow_succ]
    rw [hV, ← h4]
    exact h3
  have e3 := val_take_succ vs (k + 1)
  rw [List.take_of_length_le (by omega), hv] at e3
  have htop : dg vs (k + 1) = 0 := by
    apply Classical.byContradiction
    intro hh
    have := Nat.mul_le_mul_right (B ^ (k + 1)) (show 1 ≤ dg vs (k + 1) by omega)
    omega
  rw [htop] at e3
  refine ⟨hVlt, by omega, ?_⟩
  rw [dg_take (by omega)]
  have e4 := val_take_succ vs k
  have e5 := val_take_lt hfv (k := k) (by omega)
  have h6 : dg ys k * B ^ k * S ≤ V := by rw [hV]; exact Nat.mul_le_mul_right _ (by omega)
  have h7 : 2147483648 * B ^ k ≤ dg ys k * B ^ k * S := by
    rw [Nat.mul_right_comm]; exact Nat.mul_le_mul_right _ hs1
  have h8 : 2147483648 * B ^ k < (dg vs k + 1) * B ^ k := by rw [Nat.add_mul]; omega
  have := Nat.lt_of_mul_lt_mul_right h8
  omega

theorem long_start {xs ys us : List Nat} {n m s V : Nat} (hx : Fits xs) (hl : xs.length = n) (ty : Trim ys) (hm : ys.length = m) (hm2 : 2 ≤ m) (hmn : m ≤ n) (hV : V = val ys * 2 ^ s) (hu : val us = val xs * 2 ^ s) : val (us.drop (n - m + 1)) < V := by
  apply Classical.byContradiction
  intro hh
  have h1 := val_split us (n - m + 1)
  have h2 := Nat.mul_le_mul_left (B ^ (n - m + 1)) (show V ≤ val (us.drop (n - m + 1)) by omega)
  have h3 := val_lt hx
  rw [hl] at h3
  have h4 := ty.low (by intro e; rw [e] at hm; simp at hm; omega)
  rw [hm] at h4
  have hp : 0 < 2 ^ s := Nat.pow_pos (by omega)
  have h5 : B ^ (m - 1) * 2 ^ s ≤ V := by rw [hV]; exact Nat.mul_le_mul_right _ h4
  have h6 := Nat.mul_le_mul_left (B ^ (n - m + 1)) h5
  rw [← Nat.mul_assoc, ← Nat.pow_add, show n - m + 1 + (m - 1) = n by omega] at h6
  have h7 := Nat.mul_lt_mul_of_pos_right h3 hp
  omega

/-- What is left, shifted back. -/
theorem long_end {X Y S Q R : Nat} (hS : 0 < S) (h : X * S = R + Y * S * Q) (hR : R < Y * S) : Q = X / Y ∧ R / S = X % Y := by
  have h1 : Y * S * Q = (Y * Q) * S := by rw [Nat.mul_right_comm]
  rw [h1] at h
  have h2 : X = R / S + Y * Q := by
    have e : X * S / S = (R + Y * Q * S) / S := by rw [h]
    rw [Nat.mul_div_cancel _ hS, Nat.add_mul_div_right _ _ hS] at e
    exact e
  have h3 : R / S < Y := by rw [Nat.div_lt_iff_lt_mul hS]; exact hR
  have hY : 0 < Y := Nat.lt_of_le_of_lt (Nat.zero_le _) h3
  constructor
  · rw [h2, Nat.add_mul_div_left _ _ hY, Nat.div_eq_of_lt h3, Nat.zero_add]
  · rw [h2, Nat.add_mul_mod_self_left, Nat.mod_eq_of_lt h3]

set_option maxHeartbeats 2000000 in
set_option maxRecDepth 100000 in
theorem long_core {w : World} {p q : Option Addr} {c d n m : Nat} {xs ys : List Nat} (h1 : Lim w (.slice p n c) xs) (h2 : Lim w (.slice q m d) ys) (hn : xs.length = n) (hm : ys.length = m) (hm2 : 2 ≤ m) (hmn : m ≤ n) (b1 : n ≤ 1099511627776) (ty : Trim ys) (hle : val ys ≤ val xs) :
    Calls Try.prog 88 #[.slice p n c, .slice q m d] w fun e w' => ∃ u v qs rs, e = .returned (.tuple #[u, v]) ∧ Lim w' u qs ∧ Lim w' v rs ∧ Trim qs ∧ Trim rs ∧ val qs = val xs / val ys ∧ val rs = val xs % val ys ∧ Below w.heap.size w w' := by
  obtain ⟨i0, hi, hz0, hz1, hz2⟩ := info_parts infoU32
  obtain ⟨q0, d0, e0, hy, hdm, hd, hb⟩ := lim_parts h2
  obtain ⟨rfl, e00, rfl⟩ : q = q0 ∧ ys.length = m ∧ d = d0 := by simp at e0; exact ⟨e0.1, hm, e0.2.2⟩
  obtain ⟨b2, o2, rfl, hb2, hyc⟩ := AddrOk.at' hb hm.symm (by omega) (m - 1) (by omega)
  have htop : 0 < dg ys (m - 1) := by
    rcases ty with h | h
    · rw [h] at hm; simp at hm; omega
    · rwa [hm] at h
  obtain ⟨s, hs, hs1, hs2, hlz⟩ := lead_zeros (dg ys (m - 1)) htop (hy _) w
  have HLZ := hid hlz
  have HX := hid h1
  have HY := hid h2
  have HN := hid hn
  have HM := hid hm
  have HD := hid (fun w1 (h : Lim w1 (.slice p n c) xs) => double_n hn b1 s hs h)
  have HD2 := hid (fun w1 (h : Lim w1 (.slice (some ⟨b2, o2, none⟩) m d) ys) => double_n hm (by omega) s hs h)
  have e1 : (0 : Int) ≤ (m : Int) - 1 := by omega
  have HTY := hid ty
  unfold maxLen at hd
  clear h1 h2 hn hm e0 hlz e00 hb ty hle
  go_enter Try.func88, Try.ntmps88
  go_wp2_with fail
  refine HLZ.out.mono ?_
  rintro e w1 ⟨rfl, rfl⟩
  go_wp2_with fail
  have HC1 := hid (HD.out w1.drew HX.out)
  have HYd := hid (show Lim w1.drew _ ys from HY.out)
  go_region_with (first
    | ((with_reducible refine HC1.out.mono ?_); rintro e w2 ⟨us, rfl, hB1, hf1, hl1, hv1, hb1⟩)
    | ((with_reducible refine (HD2.out _ (HYd.out.below (by assumption) (Nat.le_refl _))).mono ?_); rintro e w3 ⟨vs, rfl, hB2, hf2, hl2, hv2, hb3⟩))
  have HU2 := hid (show Blk w3 w1.heap.size us from hB1.below hb3 hB1.lt)
  have hgu : w1.heap.size < w2.heap.size := hB1.lt
  have hgv : w2.heap.size < w3.heap.size := hB2.lt
  have HV3 := hid hB2
  have HB3 := hid ((show Below w1.heap.size w1 w2 from below_undrew hb1).trans (hb3.mono (Nat.le_of_lt hgu)))
  have HL1 := hid hl1
  have HL2 := hid hl2
  have HV1 := hid hv1
  have HV2 := hid hv2
  clear hB1 hb1 hl1 hv1 hB2 hl2 hv2 hb3 HC1 HYd
  go_wp2_with (refine wpList_make_limbs _ rfl _ _ 45 rfl i0 Try.underlying45 hi hz0 hz1 hz2 _ _ (n - m + 1) (n - m + 1) rfl rfl ?cL ?cC (Nat.le_refl _) ?cb ?_)
  case cL => omega
  case cC => omega
  case cb => omega
  intro w4 hblk hbelow hsz
  have HQ4 := hid hblk
  have HU4 := hid (HU2.out.below hbelow (by omega))
  have HV4 := hid (HV3.out.below hbelow hgv)
  have HB4 := hid (HB3.out.trans (hbelow.mono (by omega)))
  clear hblk hbelow HU2 HV3 HB3
  obtain ⟨V, hV⟩ : ∃ V, V = val ys * 2 ^ s := ⟨_, rfl⟩
  obtain ⟨U, hU⟩ : ∃ U, U = val xs * 2 ^ s := ⟨_, rfl⟩
  rw [← hU] at HV1
  rw [← hV] at HV2
  have HUU := hid hU
  have HVV := hid hV
  have hgq : w2.heap.size < w3.heap.size := hgv
  have hvl := long_head hy HM.out hm2 hs hs1 hs2 HL2.out hf2 hV HV2.out
  have hul : val (us.drop (n - m + 1)) < V := long_start HX.out.1 HN.out HTY.out HM.out hm2 hmn hV (by rw [HV1.out, hU])
  have HVL := hid hvl
  have HUL := hid hul
  clear hvl hul hV hU
  go_wp2_with fail
  go_loopw [10] (fun i wr => ∃ (z : Int) (ts qs : List Nat), -1 ≤ z ∧ z ≤ ((n - m : Nat) : Int) ∧ i = .int .i64 z ∧ Hid (Blk wr w1.heap.size ts) ∧ Hid (ts.length = n + 1) ∧ Fits ts ∧ Hid (Blk wr w2.heap.size vs) ∧ Hid (Blk wr w3.heap.size qs) ∧ Hid (qs.length = n - m + 1) ∧ Fits qs ∧
      Hid (U = val ts + V * (val (qs.drop (z + 1).toNat) * B ^ (z + 1).toNat)) ∧ Hid (val (ts.drop (z + 1).toNat) < V) ∧ Hid (Below w1.heap.size w1 wr)) (fun i _ => (intOf i + 1).toNat)
  case atStart =>
    refine ⟨((n - m : Nat) : Int), us, _, by omega, by omega, rfl, HU4, HL1, hf1, HV4, HQ4, hid (by simp), Fits.zeros _, ?_, ?_, HB4⟩
    · show _ = _
      rw [show (((n - m : Nat) : Int) + 1).toNat = n - m + 1 by omega, List.drop_of_length_le (by simp), val_nil, Nat.zero_mul, Nat.mul_zero, Nat.add_zero]
      exact HV1.out.symm
    · rw [show (((n - m : Nat) : Int) + 1).toNat = n - m + 1 by omega]; exact HUL
  case round =>
    obtain ⟨z, ts, qs, hz1, hz2, rfl, hBt, hlt, hft, hBv, hBq, hlq, hfq, hI, hlow, hbw⟩ := hrel
    by_cases h0 : z = -1
    · subst h0
      have hI1 : U = val ts + V * (val qs * 1) := hI.out
      have hlow1 : val ts < V := hlow.out
      rw [Nat.mul_one] at hI1
      have hp : 0 < 2 ^ s := Nat.pow_pos (by omega)
      obtain ⟨r1, r2⟩ := long_end (X := val xs) (Y := val ys) (S := 2 ^ s) (Q := val qs) (R := val ts) hp (by rw [← HUU.out, ← HVV.out]; exact hI1) (by rw [← HVV.out]; exact hlow1)
      have hts : val (ts.take m) = val ts := by
        have h1 := val_split ts m
        have h2 := HVL.out.1
        rcases Nat.eq_zero_or_pos (val (ts.drop m)) with h | h
        · rw [h, Nat.mul_zero, Nat.add_zero] at h1; exact h1.symm
        · have := Nat.mul_le_mul_left (B ^ m) h
          omega
      have hLq := hBq.out.lim hfq 0 (n - m + 1) (n - m + 1) (by rw [hlq.out]; omega) (Nat.le_refl _) (by unfold maxLen; omega)
      rw [List.drop_zero, List.take_of_length_le (by rw [hlq.out]; exact Nat.le_refl _)] at hLq
      have hLt := hBt.out.lim hft 0 m (n + 1) (by rw [hlt.out]; omega) (by omega) (by unfold maxLen; omega)
      rw [List.drop_zero] at hLt
      have HQT := hid (show Calls Try.prog 64 #[.slice (some ⟨w3.heap.size, 0, none⟩) (n - m + 1) (n - m + 1)] wr.drew _ from trim_lim (w := wr.drew) hLq)
      have HHV := hid (show Calls Try.prog 94 #[.slice (some ⟨w1.heap.size, 0, none⟩) m (n + 1), .int .i64 s] wr.drew _ from halve_lim (w := wr.drew) hLt (by rw [List.length_take, hlt.out]; omega) s hs)
      have R1 := hid r1
      have R2 := hid r2
      have HTS := hid hts
      have HLQ := hid hLq
      have e8 : (m : Int) ≤ (n : Int) + 1 := by omega
      clear hI1 hlow1 r1 r2 hts hLq hLt hz1 hz2
      go_wp2_with fail
      go_region_with (first
        | ((with_reducible refine HQT.out.mono ?_); rintro e w5 ⟨v5, rfl, hL5, rfl⟩)
        | ((with_reducible refine HHV.out.mono ?_); rintro e w6 ⟨v6, zs, rfl, hL6, hl6, hv6, hb6⟩)
        | (refine (trim_lim (by assumption)).mono ?_; rintro e w7 ⟨v7, rfl, hL7, rfl⟩))
      have V6 := hid hv6
      have L5 := hid (hL5.below hb6 (Nat.le_refl _))
      have B6 := hid (hbw.out.trans (below_undrew (hb6.mono hbw.out.size)))
      clear hv6 hl6 hb6 hL5 HQT HHV
      go_wp2_with fail
      go_ret2
      exact ⟨v5, v7, trimL qs, trimL zs, rfl, L5.out, hL7, trim_trimL _, trim_trimL _, by rw [val_trimL]; exact R1.out, by rw [val_trimL, V6.out, HTS.out]; exact R2.out, B6.out⟩
    · obtain ⟨k, rfl⟩ := Int.eq_ofNat_of_zero_le (show 0 ≤ z by omega)
      have e5 : (k : Int) + (m : Int) + 1 ≤ (n : Int) + 1 := by omega
      have e6 : k + m + 1 ≤ n + 1 := by omega
      have e7 : k + m + 1 - k = m + 1 := by omega
      have hlow1 := hlow.out
      have hI1 := hI.out
      rw [show ((k : Int) + 1).toNat = k + 1 by omega] at hlow1 hI1
      obtain ⟨s1, s2, s3, s4⟩ := seg_low hft (by rw [hlt.out]; exact e6) HVL.out.1 hlow1
      have hsp := hBt.out
      rw [seg_split ts k m] at hsp
      have HTO := hid (takeOff_any w1.heap.size k m (n + 1 - k) w2.heap.size 0 (m + 1) (ts.take k) ((ts.drop k).take (m + 1)) (ts.drop (k + (m + 1))) (vs.take m) wr hsp (by rw [List.length_take, hlt.out]; omega) s4 ((hft.drop _).take _)
        (by rw [List.length_take, HL2.out]; omega) (hf2.take _) (fun i hi => by rw [Nat.zero_add, dg_take hi]; exact hBv.out.cell (by rw [HL2.out]; omega)) (by omega) hBv.out.lt hm2 (by omega) (by omega) (by omega) (by unfold maxLen; omega) (by unfold maxLen; omega) HVL.out.2.2 (by rw [HVL.out.2.1]; exact s1))
      have S2 := hid s2
      have S3 := hid s3
      have HI1 := hid hI1
      clear s1 s2 s3 s4 hsp hlow1 hI1
      go_wp2_with fail
      refine HTO.out.mono ?_
      rintro e w5 ⟨zs, q, rfl, hq, hB5, hf5, hl5, hv5, hz5, hg5⟩
      rw [HVL.out.2.1] at hv5 hz5
      have hq5 := hBq.out.block' hg5 (by omega)
      have hv5' := hBv.out.block' hg5 (by omega)
      have cq := hq5.cell (i := k) (by rw [hlq.out]; omega)
      have fq := hq5.free k
      have HST := hid (long_step (qs := qs) (by rw [hlt.out]; exact e6) (by rw [hlq.out]; omega) S2.out S3.out hv5 HI1.out)
      have HB5 := hid hB5
      have HQ5 := hid hq5
      have HV5 := hid hv5'
      have HL5 := hid hl5
      have HBW := hid (hbw.out.grown hg5 (by have := hbw.out.size; omega) (fun x hx => by simp at hx; omega))
      clear hB5 hq5 hv5 hv5' hl5 hg5 HTO
      go_wp2_with fail
      go_roundw
      case rel =>
        refine ⟨(k : Int) - 1, _, qs.set k q, by omega, by omega, rfl, hid (HB5.out.other (by omega) _ _), hid ?_, ?_, hid (HV5.out.other (by omega) _ _), hid (HQ5.out.set' k _ _ rfl), hid (by rw [List.length_set]; exact hlq.out), hfq.set _ _ hq, hid ?_, hid ?_, hid (HBW.out.setCell (by simp; omega) _)⟩
        · rw [List.length_append, List.length_append, List.length_take, List.length_drop, HL5.out, hlt.out]; omega
        · exact ((hft.take _).append hf5).append (hft.drop _)
        · rw [show ((k : Int) - 1 + 1).toNat = k by omega]; exact HST.out.1
        · rw [show ((k : Int) - 1 + 1).toNat = k by omega, HST.out.2]; exact hz5
      case measure => simp [intOf]

end Go.Proofs.Ytokojbgpboccnaa

namespace Go.Proofs.Ytokojbgpboccnaa
open Go.RowKit
open Num
set_option linter.unusedVariables false
set_option maxRecDepth 100000
set_option linter.unusedSimpArgs false

/-- What a division leaves. -/
def Divided (w : World) (a b : Nat) (e : Ending) (w' : World) : Prop :=
  ∃ u v qs rs, e = .returned (.tuple #[u, v, .nilIface]) ∧ Lim w' u qs ∧ Lim w' v rs ∧ Trim qs ∧ Trim rs ∧ val qs = a / b ∧ val rs = a % b ∧ Below w.heap.size w w'

set_option maxHeartbeats 2000000 in
set_option maxRecDepth 100000 in
theorem div_core (p q : Option Addr) (c d n0 m0 n m : Nat) (xs ys : List Nat) (w : World) (hx : Lim w (.slice p n c) xs) (hy : Lim w (.slice q m d) ys) (hn : xs.length = n) (hm : ys.length = m) (tx : Trim xs) (ty : Trim ys) (hbig : n ≤ 1099511627776) (hbig2 : m ≤ 1099511627776) (hm0 : 0 < m)
    (T1 : Calls Try.prog 64 #[.slice p n0 c] w fun e w' => e = .returned (.slice p n c) ∧ w = w')
    (T2 : Calls Try.prog 64 #[.slice q m0 d] w fun e w' => e = .returned (.slice q m d) ∧ w = w') :
    Calls Try.prog 77 #[.slice p n0 c, .slice q m0 d] w fun e w' => Divided w (val xs) (val ys) e w' := by
  have HT1 := hid T1
  have HT2 := hid T2
  have HX := hid hx
  have HY := hid hy
  have HN := hid hn
  have HM := hid hm
  have HTX := hid tx
  have HTY := hid ty
  have hb0 : ((m : Int) == 0) = false := by rw [beq_eq_false_iff_ne]; omega
  have hl := less_lim hx hy
  clear T1 T2 hx hy hn hm tx ty
  have hypos : 0 < val ys := by
    apply Nat.pos_of_ne_zero
    intro e
    have := (HTY.out.zero_iff).1 e
    have h2 := HM.out
    rw [this] at h2
    simp at h2
    omega
  by_cases hlt : val xs < val ys
  · rw [decide_eq_true hlt] at hl
    have HL := hid hl
    have e1 := Nat.div_eq_of_lt hlt
    have e2 := Nat.mod_eq_of_lt hlt
    have E1 := hid e1
    have E2 := hid e2
    clear hl e1 e2
    go_enter Try.func77, Try.ntmps77
    go_wp2_with fail
    refine HT1.out.mono ?_
    rintro e w' ⟨rfl, rfl⟩
    go_wp2_with fail
    refine HT2.out.mono ?_
    rintro e w' ⟨rfl, rfl⟩
    go_wp2_with fail
    refine HL.out.mono ?_
    rintro e w' ⟨rfl, nd, rfl⟩
    have HC := hid (clone_lim (w := w.drewN nd) (v := .slice p n c) (xs := xs) HX.out (by rw [HN.out]; exact hbig))
    go_wp2_with fail
    refine HC.out.mono ?_
    rintro e w2 ⟨v, rfl, hL, _, hb2⟩
    have B2 := hid (show Below w.heap.size w w2 from (below_drewN (Below.refl _ _) nd).trans hb2)
    clear hb2 HC
    go_wp2_with fail
    go_ret3
    exact ⟨.slice none 0 0, v, [], xs, rfl, Lim.nil _, hL, .inl rfl, HTX.out, by rw [E1.out]; rfl, E2.out.symm, B2.out⟩
  · rw [decide_eq_false hlt] at hl
    have HL := hid hl
    clear hl
    have hxs : xs ≠ [] := by
      intro e
      rw [e, val_nil] at hlt
      omega
    have HXS := hid hxs
    clear hxs
    by_cases hm1 : m = 1
    · subst hm1
      obtain ⟨q0, d0, e0, hfy, hdm, hdd, hb⟩ := lim_parts HY.out
      obtain ⟨rfl, rfl⟩ : q = q0 ∧ d = d0 := by simp at e0; exact ⟨e0.1, e0.2.2⟩
      obtain ⟨b2, o2, rfl, hb2, hyc⟩ := AddrOk.at' hb HM.out.symm (by rw [← HM.out]; exact hdm) 0 (by omega)
      have hyv : val ys = dg ys 0 := by
        have := val_take_succ ys 0
        rw [List.take_of_length_le (by rw [HM.out]; exact Nat.le_refl _)] at this
        simpa [val_nil] using this
      have hd0 := hfy 0
      have hd1 : 0 < dg ys 0 := by omega
      have HYV := hid hyv
      rw [Nat.add_zero] at hyc
      clear hyv hb e0 hdm
      unfold maxLen at hdd
      go_enter Try.func77, Try.ntmps77
      go_wp2_with fail
      refine HT1.out.mono ?_
      rintro e w' ⟨rfl, rfl⟩
      go_wp2_with fail
      refine HT2.out.mono ?_
      rintro e w' ⟨rfl, rfl⟩
      go_wp2_with fail
      refine HL.out.mono ?_
      rintro e w' ⟨rfl, nd, rfl⟩
      have HC := hid (clone_lim (w := w.drewN nd) (v := .slice p n c) (xs := xs) HX.out (by rw [HN.out]; exact hbig))
      go_wp2_with fail
      refine HC.out.mono ?_
      rintro e w2 ⟨v, rfl, _, hO, hbw⟩
      obtain ⟨hfx, b, c2, rfl, hK, hR, hnc, hmax⟩ := hO HXS.out
      have B2 := hid (show Below w.heap.size w w2 from (below_drewN (Below.refl _ _) nd).trans hbw)
      rw [HN.out] at hnc ⊢
      have cy : w2.cell? ⟨b2, o2, none⟩ = some (.int .u32 (dg ys 0)) := by rw [B2.out.cell (by exact hb2)]; exact hyc
      have HS := hid (shrink_own 0 b n c2 (dg ys 0) xs w2 hR HN.out hfx hnc hmax hbig hd1 hd0)
      clear hbw HC hR hO
      unfold maxLen at hmax
      go_wp2_with fail
      refine HS.out.mono ?_
      rintro e w3 ⟨r, zs, rfl, hr, hR3, hf3, hl3, hv3, hg3⟩
      have HR3 := hid hR3
      have HV3 := hid hv3
      have HL3 := hid hl3
      have hb3 : b < w3.heap.size := hR3.lt
      have B3 := hid (B2.out.grown hg3 B2.out.size (fun k hk => by simp at hk; subst hk; exact hK))
      clear hR3 hv3 hl3 hg3 HS
      have r1 : val zs = val xs / val ys := by
        rw [← HV3.out, HYV.out, Nat.mul_comm, Nat.mul_add_div hd1, Nat.div_eq_of_lt hr, Nat.add_zero]
      have r2 : r = val xs % val ys := by
        rw [← HV3.out, HYV.out, Nat.mul_comm, Nat.mul_add_mod, Nat.mod_eq_of_lt hr]
      have hB4 := Blk.new w3 [r]
      have hb4 : Below w3.heap.size w3 (w3.alloc (.cells (cellsOf [r]) 95)) := (Below.refl _ _).alloc (Nat.le_refl _) _
      have hO3 : Own w3 0 (.slice (some ⟨b, 0, none⟩) n c2) zs := ⟨hf3, b, c2, by rw [HL3.out], Nat.zero_le _, HR3.out, by rw [HL3.out]; exact hnc, by unfold maxLen; omega⟩
      have HLZ := hid (trim_lim (hO3.lim.below hb4 (Nat.le_refl _)))
      have HLR := hid (trim_lim (hB4.lim (Fits.single (show r < 4294967296 by omega)) 0 1 1 (by simp) (Nat.le_refl _) (by unfold maxLen; omega)))
      have B4 := hid (B3.out.trans (hb4.mono B3.out.size))
      have R1 := hid r1
      have R2 := hid r2
      clear r1 r2 hO3 hB4 hb4
      go_wp2_with fail
      refine HLZ.out.mono ?_
      rintro e w5 ⟨v1, rfl, hL1, rfl⟩
      go_wp2_with fail
      refine HLR.out.mono ?_
      rintro e w5 ⟨v2, rfl, hL2, rfl⟩
      go_wp2_with fail
      go_ret3
      exact ⟨v1, v2, _, _, rfl, hL1, hL2, trim_trimL _, trim_trimL _, by rw [val_trimL]; exact R1.out, by rw [val_trimL, ← R2.out]; exact val_single r, B4.out⟩
    · have hm2 : 2 ≤ m := by omega
      have hmn : m ≤ n := by
        apply Classical.byContradiction
        intro hh
        have := lt_of_length (x := xs) (y := ys) HX.out.1 HTY.out (by rw [HN.out, HM.out]; omega)
        omega
      have hb1 : ((m : Int) == 1) = false := by rw [beq_eq_false_iff_ne]; omega
      have hp0 := Nat.zero_lt_of_lt hm0
      go_enter Try.func77, Try.ntmps77
      go_wp2_with fail
      refine HT1.out.mono ?_
      rintro e w' ⟨rfl, rfl⟩
      go_wp2_with fail
      refine HT2.out.mono ?_
      rintro e w' ⟨rfl, rfl⟩
      go_wp2_with fail
      refine HL.out.mono ?_
      rintro e w' ⟨rfl, nd, rfl⟩
      have HC := hid (long_core (w := w.drewN nd) (p := p) (q := q) (c := c) (d := d) HX.out HY.out HN.out HM.out hm2 hmn hbig HTY.out (by omega))
      go_wp2_with fail
      refine HC.out.mono ?_
      rintro e w2 ⟨u, v, qs, rs, rfl, hu, hv, tq, tr, eq, er, hb2⟩
      have B2 := hid (show Below w.heap.size w w2 from (below_drewN (Below.refl _ _) nd).trans hb2)
      have E1 := hid eq
      have E2 := hid er
      have TQ := hid tq
      have TR := hid tr
      clear eq er hb2 HC tq tr
      go_wp2_with fail
      go_ret3
      exact ⟨u, v, qs, rs, rfl, hu, hv, TQ.out, TR.out, E1.out, E2.out, B2.out⟩

/-- Div tells how often, and what is left. -/
theorem div_lim {w : World} {v u : Value} {xs ys : List Nat} (h1 : Lim w v xs) (h2 : Lim w u ys) (b1 : xs.length ≤ 1099511627776) (b2 : ys.length ≤ 1099511627776) (hy : 0 < val ys) :
    Calls Try.prog 77 #[v, u] w fun e w' => Divided w (val xs) (val ys) e w' := by
  obtain ⟨p, c, rfl, hf, hc, hm, ha⟩ := lim_parts h1
  obtain ⟨q, d, rfl, hf2, hd, hm2, ha2⟩ := lim_parts h2
  have lx := tlen_le xs
  have ly := tlen_le ys
  have h := div_core p q c d xs.length ys.length (tlen xs) (tlen ys) (trimL xs) (trimL ys) w (lim_cut hf hc hm ha) (lim_cut hf2 hd hm2 ha2) (length_trimL xs) (length_trimL ys) (trim_trimL _) (trim_trimL _) (by omega) (by omega)
    (by
      apply Nat.pos_of_ne_zero
      intro e
      have h3 : trimL ys = [] := List.length_eq_zero_iff.1 (by rw [length_trimL]; exact e)
      have h4 := val_trimL ys
      rw [h3, val_nil] at h4
      omega)
    (trim_any p c xs w hf hc hm ha) (trim_any q d ys w hf2 hd hm2 ha2)
  rw [val_trimL, val_trimL] at h
  exact h

end Go.Proofs.Ytokojbgpboccnaa

/-
  PACKAGE nat: Of.
-/
namespace Go.Proofs.Ytokojbgpboccnaa
open Go.RowKit
open Num
set_option linter.unusedVariables false
set_option maxRecDepth 100000
set_option linter.unusedSimpArgs false

theorem val_two (a b : Nat) : val [a, b] = a + 4294967296 * b := by simp [val, B_eq]

set_option maxHeartbeats 400000 in
theorem natof_lim (n : Nat) (hn : n < 18446744073709551616) (w : World) :
    Calls Try.prog 52 #[.int .u64 n] w fun e w' => ∃ v zs, e = .returned v ∧ Lim w' v zs ∧ Trim zs ∧ zs.length ≤ 2 ∧ val zs = n ∧ Below w.heap.size w w' := by
  have h1 := Blk.new w [n % 4294967296, n / 4294967296]
  have hb := (Below.refl _ _).alloc (Nat.le_refl w.heap.size) (.cells (cellsOf [n % 4294967296, n / 4294967296]) 95)
  have hf : Fits [n % 4294967296, n / 4294967296] := by
    intro i
    rcases i with _ | _ | i <;> simp [dg] <;> omega
  have hl := h1.lim hf 0 2 2 (by simp) (Nat.le_refl _) (by unfold maxLen; omega)
  have hv : val [n % 4294967296, n / 4294967296] = n := by rw [val_two]; omega
  have hlen : (trimL [n % 4294967296, n / 4294967296]).length ≤ 2 := by rw [length_trimL]; exact tlen_le _
  have HT := hid (trim_lim hl)
  have HV := hid hv
  have HB := hid hb
  have HL := hid hlen
  clear h1 hb hf hl hv hlen
  go_enter Try.func52, Try.ntmps52
  go_wp2_with fail
  refine HT.out.mono ?_
  rintro e w' ⟨v, rfl, hL, rfl⟩
  go_wp2_with fail
  go_ret
  exact ⟨v, _, rfl, hL, trim_trimL _, HL.out, by rw [val_trimL]; exact HV.out, HB.out⟩

end Go.Proofs.Ytokojbgpboccnaa

/-
  PACKAGE nat: words of a number; what goes into two words.
-/
namespace Go.Proofs.Ytokojbgpboccnaa
open Go.RowKit
open Num
set_option linter.unusedVariables false
set_option maxRecDepth 100000
set_option linter.unusedSimpArgs false

set_option maxHeartbeats 1000000 in
theorem words_gcd (a b : Nat) (ha : a < 18446744073709551616) (hb : b < 18446744073709551616) (w : World) :
    Calls Try.prog 72 #[.int .u64 a, .int .u64 b] w fun e w' => ∃ g : Nat, e = .returned (.int .u64 g) ∧ g = Nat.gcd a b ∧ g < 18446744073709551616 ∧ Below w.heap.size w w' := by
  obtain ⟨G, hG⟩ : ∃ G, G = Nat.gcd a b := ⟨_, rfl⟩
  have HG := hid hG
  clear hG
  go_enter Try.func72, Try.ntmps72
  go_wp2
  go_loopw [0, 1] (fun x y wr => ∃ u v : Nat, x = .int .u64 u ∧ y = .int .u64 v ∧ u < 18446744073709551616 ∧ v < 18446744073709551616 ∧ Hid (Nat.gcd u v = G) ∧ Hid (Below w.heap.size w wr)) (fun _ y _ => (intOf y).toNat)
  case atStart => exact ⟨a, b, rfl, rfl, ha, hb, hid HG.out.symm, hid (Below.refl _ _)⟩
  case round =>
    obtain ⟨u, v, rfl, rfl, hu, hv, hg, hbw⟩ := hrel
    by_cases h0 : v = 0
    · subst h0
      go_wp2
      go_ret
      exact ⟨u, rfl, by rw [← HG.out, ← hg.out, Nat.gcd_zero_right], hu, hbw.out⟩
    · have hpos : 0 < v := Nat.pos_of_ne_zero h0
      have hr : (u : Int) % (v : Int) = ((u % v : Nat) : Int) := by rw [Int.natCast_emod]
      have hlt := Nat.mod_lt u hpos
      have hgg := hid (show Nat.gcd v (u % v) = G by rw [← hg.out, Nat.gcd_comm v, ← Nat.gcd_rec, Nat.gcd_comm])
      generalize u % v = r at *
      go_wp2
      go_quiet (fail)
      go_wp2
      go_roundw
      case rel => exact ⟨v, r, rfl, val_int (by first | rfl | exact hr), hv, by omega, hgg, hid (below_drewN hbw.out _)⟩
      case measure => simp [intOf]; omega

theorem or_words (a b : Nat) (ha : a < 4294967296) (hb : b < 4294967296) : bits BinOp.or IntKind.u64 (a : Int) ((b : Int) * 4294967296) = ((a + 4294967296 * b : Nat) : Int) := by
  have e : ((b : Int) * 4294967296) = ((b * 4294967296 : Nat) : Int) := by omega
  rw [e, u64_or_nat _ _ (by omega) (by omega), Nat.or_comm, show b * 4294967296 = b * 2 ^ 32 from rfl, nat_join 32 _ _ (Nat.mul_mod_left _ _) (by omega)]
  congr 1
  omega
theorem or_none (b : Nat) (hb : b < 4294967296) : bits BinOp.or IntKind.u64 0 (b : Int) = (b : Int) := by
  have h := u64_or_nat 0 b (by omega) (by omega)
  rw [Nat.zero_or] at h
  exact h

set_option maxHeartbeats 1000000 in
/-- Two limbs from one place on. -/
theorem word_lim {w : World} {v : Value} {xs : List Nat} (h : Lim w v xs) (P : Nat) {z : Int} (hz : z = (P : Int)) (hP : P ≤ 2199023255552) :
    Calls Try.prog 73 #[v, .int .i64 z] w fun e w' => e = .returned (.int .u64 ((dg xs P + 4294967296 * dg xs (P + 1) : Nat) : Int)) ∧ w = w' := by
  subst hz
  obtain ⟨p, c, rfl, hf, hc, hm, ha⟩ := lim_parts h
  obtain ⟨n, hn⟩ : ∃ n, n = xs.length := ⟨_, rfl⟩
  have HA := hid (AddrOk.at' ha hn (by rw [hn]; exact hc))
  have b0 := hf P
  have b1 := hf (P + 1)
  have e0 : n ≤ P → dg xs P = 0 := fun h => dg_ge (by omega)
  have e1 : n ≤ P + 1 → dg xs (P + 1) = 0 := fun h => dg_ge (by omega)
  have ho := or_words _ _ b0 b1
  have hp := or_none _ b0
  rw [← hn]
  have HN := hid hn
  clear hn h ha hf
  unfold maxLen at hm
  obtain ⟨x0, hx0⟩ : ∃ x, x = dg xs P := ⟨_, rfl⟩
  obtain ⟨x1, hx1⟩ : ∃ x, x = dg xs (P + 1) := ⟨_, rfl⟩
  rw [← hx0] at b0 ho hp e0 ⊢
  rw [← hx1] at b1 ho e1 ⊢
  have X0 := hid hx0
  have X1 := hid hx1
  clear hx0 hx1
  have E0 := hid e0
  have E1 := hid e1
  clear e0 e1
  go_enter Try.func73, Try.ntmps73
  go_wp2
  go_loop [5, 8] (fun r i => (i = .int .i64 0 ∧ r = .int .u64 0) ∨ (i = .int .i64 1 ∧ r = .int .u64 x0) ∨ (i = .int .i64 2 ∧ r = .int .u64 ((x0 + 4294967296 * x1 : Nat) : Int))) (fun _ i => (2 - intOf i).toNat)
  case atStart => exact .inl ⟨rfl, rfl⟩
  case round =>
    rcases hrel with ⟨rfl, rfl⟩ | ⟨rfl, rfl⟩ | ⟨rfl, rfl⟩
    · by_cases h0 : P < n
      · obtain ⟨bk, off, rfl, hbk, cx⟩ := HA.out P h0
        rw [← X0.out] at cx
        go_wp2
        go_round
        case rel => exact .inr (.inl ⟨rfl, rfl⟩)
        case measure => simp [intOf]
      · have z0 := E0.out (by omega)
        subst z0
        go_wp2
        go_round
        case rel => exact .inr (.inl ⟨rfl, rfl⟩)
        case measure => simp [intOf]
    · by_cases h0 : P + 1 < n
      · obtain ⟨bk, off, rfl, hbk, cx⟩ := HA.out (P + 1) h0
        rw [← X1.out] at cx
        go_wp2
        go_round
        case rel => exact .inr (.inr ⟨rfl, by go_num⟩)
        case measure => simp [intOf]
      · have z0 := E1.out (by omega)
        subst z0
        go_wp2
        go_round
        case rel => exact .inr (.inr ⟨rfl, by go_num⟩)
        case measure => simp [intOf]
    · go_wp2
      go_ret
      exact ⟨rfl, rfl⟩

theorem lead_or {a b c s t : Nat} (ha : a < 4294967296) (hc : c < 4294967296) (hov : b * 2 ^ s < 4294967296) (ht : t = 32 - s) (hs : s ≤ 31) :
    bits BinOp.or IntKind.u64 (IntKind.u64.wrap (((a : Int) + 4294967296 * (b : Int)) * 2 ^ s)) (IntKind.u64.wrap ((c : Int) % 4294967296 / 2 ^ t)) = (((a + 4294967296 * b) * 2 ^ s + c / 2 ^ t : Nat) : Int) := by
  obtain ⟨S, hS⟩ : ∃ S, S = 2 ^ s := ⟨_, rfl⟩
  obtain ⟨T, hT⟩ : ∃ T, T = 2 ^ t := ⟨_, rfl⟩
  have hST : S * T = 4294967296 := by rw [hS, hT, ← Nat.pow_add, ht, show s + (32 - s) = 32 by omega]
  have hp : 0 < S := by rw [hS]; exact Nat.pow_pos (by omega)
  have hq : 0 < T := by rw [hT]; exact Nat.pow_pos (by omega)
  have e1 : ((a : Int) + 4294967296 * (b : Int)) * 2 ^ s = (((a + 4294967296 * b) * S : Nat) : Int) := by rw [hS, Int.natCast_mul, Int.natCast_add, Int.natCast_mul, Int.natCast_pow]; rfl
  have e2 : (c : Int) % 4294967296 / 2 ^ t = ((c / T : Nat) : Int) := by
    rw [Int.emod_eq_of_lt (by omega) (by omega), hT]; push_cast; rfl
  have hb : b + 1 ≤ T := by
    rw [← hS] at hov
    have : b * S < T * S := by rw [Nat.mul_comm T]; omega
    exact Nat.lt_of_mul_lt_mul_right this
  have h1 : (a + 4294967296 * b) * S < 18446744073709551616 := by
    have h2 : a + 4294967296 * b + 1 ≤ 4294967296 * T := by omega
    have h3 := Nat.mul_le_mul_right S h2
    rw [Nat.mul_assoc, Nat.mul_comm T, hST, Nat.add_mul _ 1] at h3
    omega
  have h4 : c / T < S := by rw [Nat.div_lt_iff_lt_mul hq, hST]; exact hc
  have h5 : c / T ≤ c := Nat.div_le_self _ _
  rw [e1, e2, ← hS, ← hT]
  rw [hS] at h4
  generalize c / T = y at *
  have e3 : (a + 4294967296 * b) * S % 2 ^ s = 0 := by rw [hS]; exact Nat.mul_mod_left _ _
  generalize (a + 4294967296 * b) * S = x at *
  rw [IntWalk.u64_in _ (by omega), IntWalk.u64_in _ (by omega), u64_or_nat _ _ h1 (by omega), nat_join s _ _ e3 h4]


set_option maxHeartbeats 1000000 in
theorem leading_lim {w : World} {v : Value} {xs : List Nat} (h : Lim w v xs) (P s : Nat) {z : Int} (hz : z = (P : Int) + 1) (hP : P ≤ 1099511627776) (hs : s ≤ 31) (hov : dg xs (P + 2) * 2 ^ s < 4294967296) :
    Calls Try.prog 84 #[v, .int .i64 z, .int .i64 s] w fun e w' => e = .returned (.int .u64 ((lead xs P s : Nat) : Int)) ∧ w = w' := by
  subst hz
  have H1 := hid (word_lim h P rfl (by omega))
  have H2 := hid (word_lim h (P + 1) (z := (P : Int) + 1) (by omega) (by omega))
  obtain ⟨p, c, rfl, hf, hc, hm, ha⟩ := lim_parts h
  have c0 := hf P
  have c1 := hf (P + 1)
  obtain ⟨t, ht⟩ : ∃ t : Nat, t = 32 - s := ⟨_, rfl⟩
  have hst : (32 : Int) - (s : Int) = (t : Int) := by omega
  unfold lead
  rw [← ht]
  have HT := hid ht
  clear ht h hf hc hm ha
  go_enter Try.func84, Try.ntmps84
  go_wp2_with fail
  refine H1.out.mono ?_
  rintro e w1 ⟨rfl, rfl⟩
  go_wp2_with fail
  refine H2.out.mono ?_
  rintro e w1 ⟨rfl, rfl⟩
  go_wp2_with fail
  go_ret
  exact ⟨ret_int (lead_or c1 c0 hov HT.out hs), rfl⟩

end Go.Proofs.Ytokojbgpboccnaa
