import Derived.Test.YtjeeepcnaaadmaaGuess
namespace Go.Proofs.Ytjeeepcnaaadmaa
open Go.RowKit
open Num
set_option linter.unusedVariables false
set_option maxRecDepth 100000
set_option linter.unusedSimpArgs false

theorem dg_seg {pre sg post : List Nat} {off i : Nat} (h : pre.length = off) (hi : i < sg.length) : dg (pre ++ sg ++ post) (off + i) = dg sg i := by
  subst h
  simp only [dg]
  rw [List.append_assoc, List.getElem?_append_right (by omega), Nat.add_sub_cancel_left, List.getElem?_append_left hi]
theorem set_seg {pre sg post : List Nat} {off i x : Nat} (h : pre.length = off) (hi : i < sg.length) : (pre ++ sg ++ post).set (off + i) x = pre ++ sg.set i x ++ post := by
  subst h
  rw [List.append_assoc, List.set_append_right _ _ (by omega), Nat.add_sub_cancel_left, List.set_append_left _ _ hi, List.append_assoc]
theorem Blk.segCell {w : World} {b off i : Nat} {pre sg post : List Nat} (h : Blk w b (pre ++ sg ++ post)) (hp : pre.length = off) (hi : i < sg.length) : w.cell? ⟨b, off + i, none⟩ = some (.int .u32 (dg sg i)) := by
  rw [← dg_seg (post := post) hp hi]
  exact h.cell (by simp; omega)
theorem Blk.segSet {w : World} {b off i : Nat} {pre sg post : List Nat} (h : Blk w b (pre ++ sg ++ post)) (hp : pre.length = off) (hi : i < sg.length) (z : Int) (x : Nat) (hz : z = (x : Int)) : Blk (w.setCell ⟨b, off + i, none⟩ (.int .u32 z)) b (pre ++ sg.set i x ++ post) := by
  rw [← set_seg hp hi]
  exact h.set' _ z x hz
theorem grownBy_cell {w w' : World} {b b2 i : Nat} (h : w.grownBy w' (some b)) (hne : b2 ≠ b) (hlt : b2 < w.heap.size) : w'.cell? ⟨b2, i, none⟩ = w.cell? ⟨b2, i, none⟩ :=
  World.cell?_of_block (h.block b2 hlt (by simpa using hne))

theorem sub_wrap1 (x b : Nat) (hx : x < 4294967296) (hb : b < 4294967296) : ∃ t b' : Nat, t < 4294967296 ∧ b' ≤ 1 ∧ t + b = x + b' * 4294967296 ∧
    IntKind.u64.wrap ((x : Int) - (b : Int)) % 4294967296 = (t : Int) ∧ IntKind.u64.wrap ((x : Int) - (b : Int)) / 9223372036854775808 = (b' : Int) := by
  rw [IntKind.wrap_u64]
  by_cases h : b ≤ x
  · exact ⟨x - b, 0, by omega, by omega, by omega, by omega, by omega⟩
  · exact ⟨x + 4294967296 - b, 1, by omega, by omega, by omega, by omega, by omega⟩

theorem and_limb (S : Nat) (h : S < 18446744073709551616) : bits BinOp.and IntKind.u64 (S : Int) 4294967295 = ((S % 4294967296 : Nat) : Int) := by
  have e := u64_and_nat S 4294967295 h (by omega)
  have e2 := Nat.and_two_pow_sub_one_eq_mod S 32
  have e3 : (2 : Nat) ^ 32 - 1 = 4294967295 := by decide
  have e4 : (2 : Nat) ^ 32 = 4294967296 := by decide
  rw [e3, e4] at e2
  rw [e2] at e
  exact e

/-- One step of 'less q times' as the machine reckons it. -/
theorem take_wrap {x y q c : Nat} (hx : x < 4294967296) (hq : q < 4294967296) (hy : y < 4294967296) (hc : c ≤ 4294967295) : ∃ t c' : Nat, t < 4294967296 ∧ c' ≤ 4294967295 ∧ t + (c + q * y) = x + c' * 4294967296 ∧
    IntKind.u64.wrap ((x : Int) - bits BinOp.and IntKind.u64 ((c : Int) + (q : Int) * (y : Int)) 4294967295) % 4294967296 = (t : Int) ∧
    IntKind.u64.wrap (((c : Int) + (q : Int) * (y : Int)) / 4294967296 + IntKind.u64.wrap ((x : Int) - bits BinOp.and IntKind.u64 ((c : Int) + (q : Int) * (y : Int)) 4294967295) / 9223372036854775808) = (c' : Int) := by
  have hm := mul_le_limbs hq hy
  have e : ((c : Int) + (q : Int) * (y : Int)) = ((c + q * y : Nat) : Int) := by omega
  rw [e]
  generalize hS : c + q * y = S
  have hSb : S ≤ 18446744069414584320 := by omega
  rw [and_limb S (by omega)]
  obtain ⟨t, b, h1, h2, h3, h4, h5⟩ := sub_wrap1 x (S % 4294967296) hx (by omega)
  refine ⟨t, S / 4294967296 + b, h1, ?_, by omega, h4, ?_⟩
  · rcases (show b = 0 ∨ b = 1 by omega) with rfl | rfl
    · omega
    · omega
  · rw [h5, IntKind.wrap_u64]; omega

theorem take_step {sg vs ys : List Nat} {k c c' t q : Nat} (hk : k < vs.length) (hI : val (vs.take k) + q * val (ys.take k) = val (sg.take k) + c * B ^ k) (hZ : dg vs k = dg sg k) (ht : t + (c + q * dg ys k) = dg vs k + c' * 4294967296) :
    val ((vs.set k t).take (k + 1)) + q * val (ys.take (k + 1)) = val (sg.take (k + 1)) + c' * B ^ (k + 1) := by
  rw [val_take_set _ _ _ hk, val_take_succ ys, val_take_succ sg, Nat.pow_succ, ← hZ, Nat.mul_add, ← Nat.mul_assoc]
  have e : (t + (c + q * dg ys k)) * B ^ k = (dg vs k + c' * 4294967296) * B ^ k := by rw [ht]
  rw [Nat.add_mul, Nat.add_mul, Nat.add_mul, Nat.mul_assoc c'] at e
  rw [Nat.mul_comm (B ^ k) B, B_eq]
  rw [B_eq] at e hI
  omega

set_option maxHeartbeats 1000000 in
theorem subTimes_any (b off n c b2 o2 d q : Nat) (pre sg post ys : List Nat) (w : World) (hB : Blk w b (pre ++ sg ++ post)) (hpre : pre.length = off) (hsg : sg.length = n + 1) (hf : Fits sg) (hys : ys.length = n) (hfy : Fits ys)
    (hyc : ∀ i, i < n → w.cell? ⟨b2, o2 + i, none⟩ = some (.int .u32 (dg ys i))) (hne : b2 ≠ b) (hb2 : b2 < w.heap.size) (hq : q < 4294967296) (hn : n ≤ 1099511627776) :
    Calls Try.prog 126 #[.slice (some ⟨b, off, none⟩) (n + 1) c, .slice (some ⟨b2, o2, none⟩) n d, .int .u64 q] w fun e w' =>
      ∃ (zs : List Nat) (bo : Nat), e = .returned (.bool (decide (0 < bo))) ∧ bo ≤ 1 ∧ Blk w' b (pre ++ zs ++ post) ∧ Fits zs ∧ zs.length = n + 1 ∧ val zs + q * val ys = val sg + bo * B ^ (n + 1) ∧ w.grownBy w' (some b) := by
  have HB := hid hB
  have HP := hid hpre
  have HS := hid hsg
  have HY := hid hys
  have HC := hid hyc
  clear hB hpre hsg hys hyc
  go_enter Try.func126, Try.ntmps126
  go_wp2
  go_loopw [8, 17] (fun cy i wr => ∃ (k c0 : Nat) (vs : List Nat), k ≤ n ∧ i = .int .i64 k ∧ cy = .int .u64 c0 ∧ c0 ≤ 4294967295 ∧ Hid (Blk wr b (pre ++ vs ++ post)) ∧ Hid (vs.length = n + 1) ∧ Fits vs ∧
      Hid (val (vs.take k) + q * val (ys.take k) = val (sg.take k) + c0 * B ^ k) ∧ Hid (∀ j, k ≤ j → dg vs j = dg sg j) ∧ Hid (w.grownBy wr (some b))) (fun _ i _ => n - (intOf i).toNat)
  case atStart => exact ⟨0, 0, sg, by omega, rfl, rfl, by omega, HB, HS, hf, hid (by simp [val_nil]), hid (fun _ _ => rfl), World.grownBy.refl _ _⟩
  case round =>
    obtain ⟨k, c0, vs, hk, rfl, rfl, hc0, hB', hl, hf', hI, hZ, hg⟩ := hrel
    by_cases hlt : k < n
    · have cy := HC.out k hlt
      rw [← grownBy_cell hg.out hne hb2] at cy
      have cx := hB'.out.segCell (i := k) HP.out (by rw [hl.out]; omega)
      have fx := hB'.out.free (off + k)
      have bx := hf' k
      have by' := hfy k
      have bm := mul_le_limbs hq by'
      obtain ⟨t, c1, ht1, ht2, ht3, ht4, ht5⟩ := take_wrap bx hq by' hc0
      have HT := hid ht3
      have H4 := hid ht4
      have H5 := hid ht5
      clear ht3 ht4 ht5
      go_wp2
      go_roundw
      case rel =>
        refine ⟨k + 1, c1, vs.set k t, by omega, by go_num, val_int H5.out, ht2, hid (hB'.out.segSet HP.out (by rw [hl.out]; omega) _ _ H4.out), hid (by rw [List.length_set]; exact hl.out), hf'.set _ _ ht1,
          hid (take_step (by rw [hl.out]; omega) hI.out (hZ.out k (Nat.le_refl _)) HT.out), hid (fun j hj => ?_), hid (grownBy_setCell hg.out _ _)⟩
        rw [dg_set_ne _ _ _ _ (by omega)]
        exact hZ.out j (by omega)
      case measure => simp [intOf]; omega
    · obtain rfl : k = n := by omega
      have cx := hB'.out.segCell (i := k) HP.out (by rw [hl.out]; omega)
      have fx := hB'.out.free (off + k)
      have bx := hf' k
      obtain ⟨t, b1, ht1, ht2, ht3, ht4, ht5⟩ := sub_wrap1 (dg vs k) c0 bx (by omega)
      have hv : val (vs.set k t) + q * val ys = val sg + b1 * B ^ (k + 1) := by
        have h := take_step (t := t) (c' := b1) (ys := ys) (by rw [hl.out]; omega) hI.out (hZ.out k (Nat.le_refl _)) (by rw [dg_ge (l := ys) (by rw [HY.out]; omega), Nat.mul_zero, Nat.add_zero]; exact ht3)
        rwa [List.take_of_length_le (by rw [List.length_set, hl.out]; exact Nat.le_refl _), List.take_of_length_le (by rw [HY.out]; omega), List.take_of_length_le (by rw [HS.out]; exact Nat.le_refl _)] at h
      have HV := hid hv
      have H4 := hid ht4
      have H5 := hid ht5
      clear ht3 ht4 ht5 hv
      go_wp2
      go_ret
      exact ⟨vs.set k t, b1, ret_bool (by rw [H5.out]; simp), ht2, hB'.out.segSet HP.out (by rw [hl.out]; omega) _ _ H4.out, hf'.set _ _ ht1, by rw [List.length_set]; exact hl.out, HV.out, grownBy_setCell hg.out _ _⟩

end Go.Proofs.Ytjeeepcnaaadmaa

