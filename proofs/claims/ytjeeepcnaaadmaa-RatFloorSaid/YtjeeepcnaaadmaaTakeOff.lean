import Derived.Test.YtjeeepcnaaadmaaTake
namespace Go.Proofs.Ytjeeepcnaaadmaa
open Go.RowKit
open Num
set_option linter.unusedVariables false
set_option maxRecDepth 100000
set_option linter.unusedSimpArgs false

theorem back_step {sg vs ys : List Nat} {k c c' t : Nat} (hk : k < vs.length) (hI : val (vs.take k) + c * B ^ k = val (sg.take k) + val (ys.take k)) (hZ : dg vs k = dg sg k) (ht : t + c' * 4294967296 = c + dg vs k + dg ys k) :
    val ((vs.set k t).take (k + 1)) + c' * B ^ (k + 1) = val (sg.take (k + 1)) + val (ys.take (k + 1)) := by
  rw [val_take_set _ _ _ hk, val_take_succ ys, val_take_succ sg, Nat.pow_succ, ← hZ]
  have e : (t + c' * 4294967296) * B ^ k = (c + dg vs k + dg ys k) * B ^ k := by rw [ht]
  rw [Nat.add_mul, Nat.add_mul, Nat.add_mul, Nat.mul_assoc c'] at e
  rw [Nat.mul_comm (B ^ k) B, B_eq]
  rw [B_eq] at e hI
  omega

set_option maxHeartbeats 1000000 in
theorem addBack_any (b off n c b2 o2 d : Nat) (pre sg post ys : List Nat) (w : World) (hB : Blk w b (pre ++ sg ++ post)) (hpre : pre.length = off) (hsg : sg.length = n + 1) (hf : Fits sg) (hys : ys.length = n) (hfy : Fits ys)
    (hyc : ∀ i, i < n → w.cell? ⟨b2, o2 + i, none⟩ = some (.int .u32 (dg ys i))) (hne : b2 ≠ b) (hb2 : b2 < w.heap.size) (hn : n ≤ 1099511627776) :
    Calls Try.prog 127 #[.slice (some ⟨b, off, none⟩) (n + 1) c, .slice (some ⟨b2, o2, none⟩) n d] w fun e w' =>
      ∃ (zs : List Nat) (bo : Nat), e = .returned (.tuple #[]) ∧ Blk w' b (pre ++ zs ++ post) ∧ Fits zs ∧ zs.length = n + 1 ∧ val zs + bo * B ^ (n + 1) = val sg + val ys ∧ w.grownBy w' (some b) := by
  have HB := hid hB
  have HP := hid hpre
  have HS := hid hsg
  have HY := hid hys
  have HC := hid hyc
  clear hB hpre hsg hys hyc
  go_enter Try.func127, Try.ntmps127
  go_wp2
  go_loopw [5, 12] (fun cy i wr => ∃ (k c0 : Nat) (vs : List Nat), k ≤ n ∧ i = .int .i64 k ∧ cy = .int .u64 c0 ∧ c0 ≤ 1 ∧ Hid (Blk wr b (pre ++ vs ++ post)) ∧ Hid (vs.length = n + 1) ∧ Fits vs ∧
      Hid (val (vs.take k) + c0 * B ^ k = val (sg.take k) + val (ys.take k)) ∧ Hid (∀ j, k ≤ j → dg vs j = dg sg j) ∧ Hid (w.grownBy wr (some b))) (fun _ i _ => n - (intOf i).toNat)
  case atStart => exact ⟨0, 0, sg, by omega, rfl, rfl, by omega, HB, HS, hf, hid (by simp [val_nil]), hid (fun _ _ => rfl), World.grownBy.refl _ _⟩
  case round =>
    obtain ⟨k, c0, vs, hk, rfl, rfl, hc0, hB', hl, hf', hI, hZ, hg⟩ := hrel
    have cx := hB'.out.segCell (i := k) HP.out (by rw [hl.out]; omega)
    have fx := hB'.out.free (off + k)
    have bx := hf' k
    by_cases hlt : k < n
    · have cy := HC.out k hlt
      rw [← grownBy_cell hg.out hne hb2] at cy
      have by' := hfy k
      go_wp2
      go_roundw
      case rel =>
        refine ⟨k + 1, (c0 + dg vs k + dg ys k) / 4294967296, vs.set k ((c0 + dg vs k + dg ys k) % 4294967296), by omega, by go_num, val_int (by omega), by omega, hid (hB'.out.segSet HP.out (by rw [hl.out]; omega) _ _ (by omega)), hid (by rw [List.length_set]; exact hl.out), hf'.set _ _ (by omega),
          hid (back_step (by rw [hl.out]; omega) hI.out (hZ.out k (Nat.le_refl _)) (by omega)), hid (fun j hj => ?_), hid (grownBy_setCell hg.out _ _)⟩
        rw [dg_set_ne _ _ _ _ (by omega)]
        exact hZ.out j (by omega)
      case measure => simp [intOf]; omega
    · obtain rfl : k = n := by omega
      have hv : val (vs.set k ((c0 + dg vs k) % 4294967296)) + (c0 + dg vs k) / 4294967296 * B ^ (k + 1) = val sg + val ys := by
        have h := back_step (t := (c0 + dg vs k) % 4294967296) (c' := (c0 + dg vs k) / 4294967296) (ys := ys) (by rw [hl.out]; omega) hI.out (hZ.out k (Nat.le_refl _)) (by rw [dg_ge (l := ys) (by rw [HY.out]; omega)]; omega)
        rwa [List.take_of_length_le (by rw [List.length_set, hl.out]; exact Nat.le_refl _), List.take_of_length_le (by have := HY.out; have := HS.out; omega), List.take_of_length_le (by have := HY.out; have := HS.out; omega)] at h
      have HV := hid hv
      clear hv
      go_wp2
      go_end0
      exact ⟨vs.set k ((c0 + dg vs k) % 4294967296), _, rfl, hB'.out.segSet HP.out (by rw [hl.out]; omega) _ _ (by first | omega | (rw [IntKind.wrap_u32]; omega)), hf'.set _ _ (by omega), by rw [List.length_set]; exact hl.out, HV.out, grownBy_setCell hg.out _ _⟩

theorem guess_close {M P X Y X3 Y2 xl yl q : Nat} (hX : X = X3 * P + xl) (hxl : xl < P) (hY : Y = Y2 * P + yl) (hyl : yl < P) (hY2 : M ≤ Y2) (hXY : X < M * Y) (hq : q < M) (h1 : q * Y2 ≤ X3) (h2 : X3 < (q + 1) * Y2 ∨ q + 1 = M) :
    ∃ Q R, X = Q * Y + R ∧ R < Y ∧ Q < M ∧ (q = Q ∨ q = Q + 1) := by
  have hP : 0 < P := by omega
  have hYpos : 0 < Y := by
    have := Nat.mul_le_mul_right P (show 1 ≤ Y2 by omega)
    omega
  have hd := Nat.div_add_mod X Y
  rw [Nat.mul_comm] at hd
  have hR : X % Y < Y := Nat.mod_lt _ hYpos
  have hQ : X / Y < M := by rw [Nat.div_lt_iff_lt_mul hYpos]; exact hXY
  refine ⟨X / Y, X % Y, hd.symm, hR, hQ, ?_⟩
  generalize X / Y = Q at *
  generalize X % Y = R at *
  have a : Q ≤ q := by
    apply Classical.byContradiction
    intro hh
    rcases h2 with h2 | h2
    · have e1 : (X3 + 1) * P ≤ (q + 1) * Y2 * P := Nat.mul_le_mul_right P h2
      have e2 : (q + 1) * Y2 * P ≤ Q * Y2 * P := Nat.mul_le_mul_right P (Nat.mul_le_mul_right Y2 (by omega))
      have e3 : Q * Y2 * P ≤ Q * Y := by rw [Nat.mul_assoc]; exact Nat.mul_le_mul_left Q (by omega)
      rw [Nat.add_mul] at e1
      omega
    · omega
  have b : q ≤ Q + 1 := by
    apply Classical.byContradiction
    intro hh
    have e1 : (Q + 2) * Y2 ≤ X3 := Nat.le_trans (Nat.mul_le_mul_right Y2 (by omega)) h1
    have e2 : (Q + 2) * Y2 * P ≤ X3 * P := Nat.mul_le_mul_right P e1
    have e3 : (Q + 1) * (Y + 1) ≤ (Q + 1) * ((Y2 + 1) * P) := Nat.mul_le_mul_left (Q + 1) (by rw [Nat.add_mul]; omega)
    have e4 : (Q + 1) * ((Y2 + 1) * P) = (Q + 1) * (Y2 + 1) * P := (Nat.mul_assoc _ _ _).symm
    have e5 : X < (Q + 1) * Y := by rw [Nat.add_mul]; omega
    rw [Nat.mul_add] at e3
    have e6 : (Q + 2) * Y2 * P < (Q + 1) * (Y2 + 1) * P := by omega
    have e7 : (Q + 2) * Y2 < (Q + 1) * (Y2 + 1) := Nat.lt_of_mul_lt_mul_right e6
    rw [Nat.add_mul, Nat.add_mul, Nat.mul_add] at e7
    omega
  omega

/-- The limbs at the top of a number. -/
theorem top_three {l : List Nat} {n : Nat} (hn : 2 ≤ n) (hl : l.length = n + 1) : val l = ((dg l n * 4294967296 + dg l (n - 1)) * 4294967296 + dg l (n - 2)) * B ^ (n - 2) + val (l.take (n - 2)) := by
  have h := val_split l (n - 2)
  rw [drop_dg (by omega), drop_dg (by omega), drop_dg (by omega), List.drop_of_length_le (by omega), val_cons, val_cons, val_cons, val_nil] at h
  rw [show n - 2 + 1 = n - 1 by omega, show n - 1 + 1 = n by omega] at h
  rw [h, Nat.mul_comm (B ^ (n - 2))]
  have e : dg l (n - 2) + B * (dg l (n - 1) + B * (dg l n + B * 0)) = (dg l n * 4294967296 + dg l (n - 1)) * 4294967296 + dg l (n - 2) := by rw [B_eq]; omega
  rw [e]
  omega
theorem top_two {l : List Nat} {n : Nat} (hn : 2 ≤ n) (hl : l.length = n) : val l = (dg l (n - 1) * 4294967296 + dg l (n - 2)) * B ^ (n - 2) + val (l.take (n - 2)) := by
  have h := val_split l (n - 2)
  rw [drop_dg (by omega), drop_dg (by omega), List.drop_of_length_le (by omega), val_cons, val_cons, val_nil] at h
  rw [show n - 2 + 1 = n - 1 by omega] at h
  rw [h, Nat.mul_comm (B ^ (n - 2))]
  have e : dg l (n - 2) + B * (dg l (n - 1) + B * 0) = dg l (n - 1) * 4294967296 + dg l (n - 2) := by rw [B_eq]; omega
  rw [e]
  omega
theorem val_take_lt {l : List Nat} (h : Fits l) {k : Nat} (hk : k ≤ l.length) : val (l.take k) < B ^ k := by
  have := val_lt (h.take k)
  rwa [List.length_take, Nat.min_eq_left hk] at this

set_option maxHeartbeats 1000000 in
theorem takeOff_any (b off n c b2 o2 d : Nat) (pre sg post ys : List Nat) (w : World) (hB : Blk w b (pre ++ sg ++ post)) (hpre : pre.length = off) (hsg : sg.length = n + 1) (hf : Fits sg) (hys : ys.length = n) (hfy : Fits ys)
    (hyc : ∀ i, i < n → w.cell? ⟨b2, o2 + i, none⟩ = some (.int .u32 (dg ys i))) (hne : b2 ≠ b) (hb2 : b2 < w.heap.size) (hn2 : 2 ≤ n) (hn : n ≤ 1099511627776) (hc : n + 1 ≤ c) (hd : n ≤ d) (hcm : c ≤ maxLen) (hdm : d ≤ maxLen)
    (htop : 2147483648 ≤ dg ys (n - 1)) (hlt : val sg < 4294967296 * val ys) :
    Calls Try.prog 114 #[.slice (some ⟨b, off, none⟩) (n + 1) c, .slice (some ⟨b2, o2, none⟩) n d] w fun e w' =>
      ∃ (zs : List Nat) (q : Nat), e = .returned (.int .u32 q) ∧ q < 4294967296 ∧ Blk w' b (pre ++ zs ++ post) ∧ Fits zs ∧ zs.length = n + 1 ∧ val sg = q * val ys + val zs ∧ val zs < val ys ∧ w.grownBy w' (some b) := by
  have bf := hfy (n - 1)
  have hP : 0 < B ^ (n - 2) := Nat.pow_pos B_pos
  have t3 := top_three hn2 hsg
  have t2 := top_two hn2 hys
  have hxl := val_take_lt hf (k := n - 2) (by omega)
  have hyl := val_take_lt hfy (k := n - 2) (by omega)
  have hx0 : dg sg n ≤ dg ys (n - 1) := by
    apply Classical.byContradiction
    intro hh
    have e1 : val sg = val (sg.take n) + dg sg n * B ^ n := by
      have := val_take_succ sg n
      rwa [List.take_of_length_le (by omega)] at this
    have e2 : val ys = val (ys.take (n - 1)) + dg ys (n - 1) * B ^ (n - 1) := by
      have := val_take_succ ys (n - 1)
      rwa [List.take_of_length_le (by omega)] at this
    have e3 := val_take_lt hfy (k := n - 1) (by omega)
    have e4 : B ^ n = 4294967296 * B ^ (n - 1) := by
      obtain ⟨k, rfl⟩ : ∃ k, n = k + 1 := ⟨n - 1, by omega⟩
      rw [Nat.pow_succ, Nat.add_sub_cancel, Nat.mul_comm, B_eq]
    have e5 := Nat.mul_le_mul_right (B ^ n) (show dg ys (n - 1) + 1 ≤ dg sg n by omega)
    rw [e4, Nat.mul_left_comm (dg sg n), Nat.mul_left_comm] at e5
    rw [e4, Nat.mul_left_comm] at e1
    rw [Nat.add_mul] at e5
    omega
  have hG := guess_any b off b2 o2 n c d (dg sg n) (dg sg (n - 1)) (dg sg (n - 2)) (dg ys (n - 1)) (dg ys (n - 2)) w hn2 hn hc hd hcm hdm (hB.segCell hpre (by omega)) (hB.segCell hpre (by omega)) (hB.segCell hpre (by omega)) (hyc _ (by omega)) (hyc _ (by omega)) hx0 bf htop (hfy _) (hf _) (hf _)
  have HG := hid hG
  have HCL := hid (fun q (h : Guessed (dg sg n) (dg sg (n - 1)) (dg sg (n - 2)) (dg ys (n - 1)) (dg ys (n - 2)) q) => guess_close t3 hxl t2 hyl (by omega) hlt h.1 h.2.1 (h.2.2.imp id id))
  have HX := hid hB
  have HP := hid hpre
  have HS := hid hsg
  have HY := hid hys
  have HC := hid hyc
  clear hG t3 t2 hxl hyl hx0 hB hpre hsg hys hyc hlt htop hP
  unfold maxLen at hcm hdm
  go_enter Try.func114, Try.ntmps114
  go_wp2_with fail
  refine HG.out.mono ?_
  rintro e w1 ⟨q, rfl, hq, nd, rfl⟩
  obtain ⟨Q, R, e1, e2, e3, e4⟩ := HCL.out q hq
  have hqb : q < 4294967296 := hq.1
  have HST := hid (subTimes_any b off n c b2 o2 d q pre sg post ys (w.drewN nd) HX.out HP.out HS.out hf HY.out hfy HC.out hne hb2 hqb hn)
  have E1 := hid e1
  have E4 := hid e4
  clear hq e1 e4
  go_wp2_with fail
  refine HST.out.mono ?_
  rintro e w2 ⟨zs, bo, rfl, hbo, hB2, hf2, hl2, hv2, hg2⟩
  have hz2 := val_lt hf2
  rw [hl2] at hz2
  have hYlt : val ys < B ^ (n + 1) := by
    have h1 := val_lt hfy
    rw [HY.out] at h1
    exact Nat.lt_of_lt_of_le h1 (Nat.pow_le_pow_right B_pos (by omega))
  have HV2 := hid hv2
  have HB2 := hid hB2
  have HL2 := hid hl2
  have HG2 := hid (show w.grownBy w2 (some b) from ⟨hg2.os, hg2.tape, hg2.output, hg2.size, hg2.block⟩)
  clear hv2 hB2 hl2 hg2
  rcases E4.out with hqQ | hqQ
  · have hb0 : bo = 0 := by
      have h1 := HV2.out
      rw [E1.out, hqQ] at h1
      rcases (show bo = 0 ∨ bo = 1 by omega) with h | h
      · exact h
      · rw [h] at h1; omega
    subst hb0
    have hzR : val zs = R := by
      have h1 := HV2.out
      rw [E1.out, hqQ] at h1
      omega
    have HZR := hid hzR
    have HQ := hid hqQ
    clear hzR hqQ
    go_wp2_with fail
    go_ret
    exact ⟨zs, q, ret_int (by omega), hqb, HB2.out, hf2, HL2.out, by rw [HQ.out, HZR.out]; exact E1.out, by rw [HZR.out]; exact e2, HG2.out⟩
  · have hb1 : bo = 1 := by
      have h1 := HV2.out
      rw [E1.out, hqQ, Nat.add_mul] at h1
      rcases (show bo = 0 ∨ bo = 1 by omega) with h | h
      · rw [h] at h1; omega
      · exact h
    subst hb1
    have hzR : val zs + val ys = R + B ^ (n + 1) := by
      have h1 := HV2.out
      rw [E1.out, hqQ, Nat.add_mul] at h1
      omega
    have hyc2 : ∀ i, i < n → w2.cell? ⟨b2, o2 + i, none⟩ = some (.int .u32 (dg ys i)) := fun i hi => by
      rw [grownBy_cell HG2.out hne hb2]; exact HC.out i hi
    have HAB := hid (addBack_any b off n c b2 o2 d pre zs post ys w2 HB2.out HP.out HL2.out hf2 HY.out hfy hyc2 hne (Nat.lt_of_lt_of_le hb2 HG2.out.size) hn)
    have HZR := hid hzR
    have HQ := hid hqQ
    have hq1 : 1 ≤ q := by omega
    clear hzR hqQ hyc2
    go_wp2_with fail
    refine HAB.out.mono ?_
    rintro e w3 ⟨ts, b3, rfl, hB3, hf3, hl3, hv3, hg3⟩
    have hz3 := val_lt hf3
    rw [hl3] at hz3
    have htR : val ts = R := by
      have h1 := hv3
      rw [HZR.out] at h1
      have h2 : b3 = 1 := by
        apply Classical.byContradiction
        intro hh
        rcases (show b3 = 0 ∨ 2 ≤ b3 by omega) with h | h
        · rw [h] at h1; omega
        · have := Nat.mul_le_mul_right (B ^ (n + 1)) h
          omega
      rw [h2] at h1
      omega
    have HTR := hid htR
    have HB3 := hid hB3
    have HL3 := hid hl3
    have HG3 := hid (show w.grownBy w3 (some b) from ⟨hg3.os.trans HG2.out.os, hg3.tape.trans HG2.out.tape, hg3.output.trans HG2.out.output, Nat.le_trans HG2.out.size hg3.size, fun k hk hne' => (hg3.block k (Nat.lt_of_lt_of_le hk HG2.out.size) hne').trans (HG2.out.block k hk hne')⟩)
    clear htR hB3 hl3 hg3 hv3 hz3
    go_wp2_with fail
    go_ret
    exact ⟨ts, q - 1, ret_int (by omega), by omega, HB3.out, hf3, HL3.out, by rw [HTR.out, HQ.out, Nat.add_sub_cancel]; exact E1.out, by rw [HTR.out]; exact e2, HG3.out⟩

end Go.Proofs.Ytjeeepcnaaadmaa

