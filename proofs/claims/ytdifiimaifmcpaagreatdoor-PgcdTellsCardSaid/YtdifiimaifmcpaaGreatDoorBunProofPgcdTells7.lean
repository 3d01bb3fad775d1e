import Derived.Test.YtdifiimaifmcpaaGreatDoorBunProofPgcdTells5
import Derived.Deep.RegionWith
import Derived.Laws.OwnMore
import Derived.Test.YtdifiimaifmcpaaGreatDoorBunProofPgcdTells1
import Derived.IntWalk
namespace Go.Proofs.YtdifiimaifmcpaaGreatDoor
open Go.RowKit
open Num (dg dg_lt dg_ge dg_zeros dg_take dg_drop dg_set_self dg_set_ne tl tlen tl_zero tl_skip tl_stop tl_le tlen_le trimL length_trimL tl_top drop_dg)
open Num4
set_option linter.unusedVariables false
set_option linter.unusedSimpArgs false

/-- What was gathered by append, in memory of the call's own (from block K on). -/
def Acc (w : World) (K : Nat) (v : Value) (zs : List Nat) : Prop := w.ownsRow K 3 1 v zs.length (zs.map V1)
theorem Acc.nil (w : World) (K : Nat) : Acc w K (.slice none 0 0) [] := World.ownsRow_nil _ _ _ _
theorem Acc.lim {w : World} {K : Nat} {v : Value} {zs : List Nat} (h : Acc w K v zs) (hf : Fits zs) : LimR w v zs := by
  by_cases hz : zs = []
  · subst hz
    rcases h.2 with ⟨rfl, _⟩ | ⟨g, cap, cur, rfl, hK, h1, h2, h3, h4, h5⟩
    · exact LimR.nil _
    · exact ⟨Fits.nil, _, cap, rfl, by simp, h3, .inr ⟨g, 0, rfl, (Array.getElem?_eq_some_iff.1 h1).1, fun i hi => by simp at hi⟩⟩
  · obtain ⟨b, c, rfl, hK, hR, hn, hm⟩ := RowR.ofOwnsK (kd := .i64) h (List.length_pos_iff.2 hz)
    exact ⟨hf, _, c, rfl, hn, hm, .inr ⟨b, 0, rfl, hR.lt, fun i hi => by rw [Nat.zero_add]; exact hR.cell hi⟩⟩

/-- One number is appended. -/
theorem wpList_push_int {P : Program} (w : World) {ops : Array Oper} {rest : List Oper} {o : Oper} {a : Act} {Q : Exit → Act → World → Prop}
    (hg : o.guard = none) (s x : Operand) (t : TypeId) (hop : o.op = Op.call { callee := Callee.builtin Builtin.append, args := #[s, x], argTypes := #[t, t] })
    (i : TypeInfo) (h1 : P.underlying t = some (.slice 3)) (h2 : P.info? 3 = some i) (h3 : i.zero = some (.int .i64 0)) (h4 : i.size = 1) (h5 : i.bytes = 8)
    {K : Nat} {v : Value} {zs : List Nat} (hacc : Acc w K v zs) (z : Int) (zn : Nat) (hz : z = (zn : Int)) (hs : a.eval s = v) (hx : a.eval x = .slice (some ⟨w.heap.size, 0, none⟩) 1 1)
    (hK : K ≤ w.heap.size) (hlen : zs.length ≤ 1099511627776)
    (hk : ∀ v' w', Acc w' K v' (zs ++ [zn]) → Below K w w' → wpList P ops Q rest (a.put o.dst v') w') :
    wpList P ops Q (o :: rest) a (w.alloc (.cells #[.int .i64 z] 3)) := by
  subst hz
  refine wpList_append_own _ hg s x t hop K 3 i (.int .i64 0) 1 8 h1 h2 h3 h4 h5 rfl (by decide) v zs.length (zs.map V1) hs (World.ownsRow.alloc hacc _) ⟨w.heap.size, 0, none⟩ 1 1 [.int .i64 zn] hx rfl ?_ ?_ ?_ ?_ ?_ ?_
  · intro j u hj
    match j, hj with
    | 0, hj => simp at hj; subst hj; simp [Addr.add]
  · intro u hu; simp at hu; subst hu; rfl
  · unfold maxLen; omega
  · omega
  · simp; omega
  · intro v' w' hown' hgrow _
    refine hk v' w' ?_ ?_
    · show w'.ownsRow K 3 1 v' (zs ++ [zn]).length ((zs ++ [zn]).map V1)
      rw [List.map_append, List.length_append]; exact hown'
    · exact ((Below.refl _ _).alloc hK _).grown hgrow (by simp; omega) (fun k hk => (World.ownsRow.lt hacc k hk).1)

theorem append_step {xs ys zs : List Nat} {k c s : Nat} (hl : zs.length = k) (hI : val zs + c * B ^ k = val (xs.take k) + val (ys.take k)) (hs : s = dg xs k + dg ys k + c) :
    val (zs ++ [s % 10000]) + s / 10000 * B ^ (k + 1) = val (xs.take (k + 1)) + val (ys.take (k + 1)) := by
  rw [val_append, val_single, hl, val_take_succ xs, val_take_succ ys, Nat.mul_comm (B ^ k)]
  have h := carry_split s (B ^ k)
  rw [Nat.pow_succ]
  subst hs
  rw [Nat.add_mul, Nat.add_mul] at h
  omega

set_option maxHeartbeats 1000000 in
set_option maxRecDepth 100000 in
theorem radd_lim {w : World} {v u : Value} {xs ys : List Nat} (h1 : LimR w v xs) (h2 : LimR w u ys) (b1 : xs.length ≤ 1099511627776) (b2 : ys.length ≤ 1099511627776) :
    Calls Tryz.prog 85 #[v, u] w fun e w' => ∃ v' zs, e = .returned v' ∧ LimR w' v' zs ∧ Trim zs ∧ val zs = val xs + val ys ∧ Below w.heap.size w w' := by
  obtain ⟨i0, hi, hz0, hz1, hz2⟩ := info_parts infoInt
  have HX := hid h1
  have HY := hid h2
  obtain ⟨p, c, rfl, hfx, hc, hm, ha⟩ := limR_parts h1
  obtain ⟨q, d, rfl, hfy, hd, hm2, ha2⟩ := limR_parts h2
  clear h1 h2 ha ha2
  obtain ⟨n, hn⟩ : ∃ n, xs.length = n := ⟨_, rfl⟩
  obtain ⟨m, hmm⟩ : ∃ m, ys.length = m := ⟨_, rfl⟩
  rw [hn] at hc b1 HX ⊢
  rw [hmm] at hd b2 HY ⊢
  have HN := hid hn
  have HM := hid hmm
  clear hn hmm
  obtain ⟨l, hl1, hl2, hl3⟩ : ∃ l : Nat, n ≤ l ∧ m ≤ l ∧ ((m ≤ n ∧ l = n) ∨ (n < m ∧ l = m)) := by
    by_cases h : m ≤ n
    · exact ⟨n, Nat.le_refl _, h, .inl ⟨h, rfl⟩⟩
    · exact ⟨m, by omega, Nat.le_refl _, .inr ⟨by omega, rfl⟩⟩
  unfold maxLen at hm hm2
  rcases hl3 with ⟨hx, hl⟩ | ⟨hx, hl⟩ <;>
  ( subst hl
    go_enter Tryz.func85, Tryz.ntmps85
    go_wp2_with fail
    go_loopw [5, 6, 7] (fun out cy i wr => ∃ (k c0 : Nat) (zs : List Nat), k ≤ l ∧ i = .int .i64 k ∧ cy = .int .i64 c0 ∧ c0 ≤ 1 ∧ Hid (Acc wr w.heap.size out zs) ∧ Hid (zs.length = k) ∧ Fits zs ∧
        Hid (val zs + c0 * B ^ k = val (xs.take k) + val (ys.take k)) ∧ Hid (Below w.heap.size w wr)) (fun _ _ i _ => l - (intOf i).toNat)
    case atStart => exact ⟨0, 0, [], by omega, rfl, rfl, by omega, Acc.nil _ _, rfl, Fits.nil, hid (by simp [val_nil]), Below.refl _ _⟩
    case round =>
      obtain ⟨k, c0, zs, hk, rfl, rfl, hc0, hA, hlen, hf, hI, hbw⟩ := hrel
      by_cases hlt : k < l
      · have C1 := hid (digit_lim (HX.out.below hbw.out (Nat.le_refl _)) k (by omega))
        have C2 := hid (digit_lim (HY.out.below hbw.out (Nat.le_refl _)) k (by omega))
        have bx := hfx k
        have bY := hfy k
        go_wp2_with fail
        refine C1.out.mono ?_
        rintro e w' ⟨rfl, rfl⟩
        go_wp2_with fail
        refine C2.out.mono ?_
        rintro e w' ⟨rfl, rfl⟩
        go_wp2_with (at_builtin; refine wpList_push_int _ rfl _ _ 41 rfl i0 Tryz.underlying41 hi hz0 hz1 hz2 hA.out _ ((dg xs k + dg ys k + c0) % 10000) ?cz rfl rfl hbw.out.size ?cl ?_)
        case cz => omega
        case cl => rw [hlen.out]; omega
        intro v' w4 hacc hb4
        have HACC := hid hacc
        have HB4 := hid (hbw.out.trans hb4)
        clear hacc hb4
        go_wp2_with fail
        go_roundw
        case rel =>
          exact ⟨k + 1, (dg xs k + dg ys k + c0) / 10000, zs ++ [(dg xs k + dg ys k + c0) % 10000], by omega, by go_num, val_int (by omega), by omega, HACC, hid (by rw [List.length_append, hlen.out]; rfl),
            hf.append (Fits.single (by omega)), hid (append_step hlen.out hI.out rfl), HB4⟩
        case measure => simp [intOf]; omega
      · obtain rfl : k = l := by omega
        have hv : val (zs ++ [c0]) = val xs + val ys := by
          have h := hI.out
          rw [val_take_all xs _ (by rw [HN.out]; exact hl1), val_take_all ys _ (by rw [HM.out]; exact hl2)] at h
          rw [val_append, val_single, hlen.out, Nat.mul_comm]
          exact h
        have HV := hid hv
        clear hv hlt hk
        go_wp2_with (at_builtin; refine wpList_push_int _ rfl _ _ 41 rfl i0 Tryz.underlying41 hi hz0 hz1 hz2 hA.out _ c0 ?cz2 rfl rfl hbw.out.size ?cl2 ?_)
        case cz2 => rfl
        case cl2 => rw [hlen.out]; omega
        intro v' w4 hacc hb4
        have HL := hid (rtrim_lim (hacc.lim (hf.append (Fits.single (show c0 < 10000 by omega)))))
        have HB4 := hid (hbw.out.trans hb4)
        clear hacc hb4
        go_wp2_with fail
        refine HL.out.mono ?_
        rintro e w5 ⟨v5, rfl, hL5, rfl⟩
        go_wp2_with fail
        go_ret
        exact ⟨v5, _, rfl, hL5, trim_trimL _, by rw [val_trimL]; exact HV.out, HB4.out⟩ )

end Go.Proofs.YtdifiimaifmcpaaGreatDoor

namespace Go.Proofs.YtdifiimaifmcpaaGreatDoor
open Go.RowKit
open Num (dg dg_lt dg_ge dg_zeros dg_take dg_drop dg_set_self dg_set_ne tl tlen tl_zero tl_skip tl_stop tl_le tlen_le trimL length_trimL tl_top drop_dg)
open Num4
set_option linter.unusedVariables false
set_option linter.unusedSimpArgs false

theorem Acc.drewN {w : World} {K : Nat} {v : Value} {zs : List Nat} (h : Acc w K v zs) (n : Nat) : Acc (w.drewN n) K v zs := h

theorem digit_still {w : World} {v : Value} {xs : List Nat} (h : LimR w v xs) (i : Nat) (hi : i ≤ 4611686018427387904) (nd : Nat) :
    Calls Tryz.prog 53 #[v, .int .i64 i] (w.drewN nd) fun e w' => e = .returned (.int .i64 (dg xs i)) ∧ w' = w.drewN nd := by
  refine (digit_lim (w := w.drewN nd) (v := v) (xs := xs) h i hi).mono ?_
  rintro e w' ⟨rfl, rfl⟩
  exact ⟨rfl, rfl⟩

theorem less_step {xs ys zs : List Nat} {k l l' t : Nat} (hl : zs.length = k) (hI : val zs + val (ys.take k) = val (xs.take k) + l * B ^ k) (ht : t + dg ys k + l = dg xs k + l' * 10000) :
    val (zs ++ [t]) + val (ys.take (k + 1)) = val (xs.take (k + 1)) + l' * B ^ (k + 1) := by
  rw [val_append, val_single, hl, val_take_succ xs, val_take_succ ys, Nat.mul_comm (B ^ k), Nat.pow_succ]
  have e : (t + dg ys k + l) * B ^ k = (dg xs k + l' * 10000) * B ^ k := by rw [ht]
  rw [Nat.add_mul, Nat.add_mul, Nat.add_mul, Nat.mul_assoc l'] at e
  rw [Nat.mul_comm (B ^ k) B, B_eq]
  rw [B_eq] at e hI
  omega

set_option maxHeartbeats 1000000 in
set_option maxRecDepth 100000 in
theorem rsub_lim {w : World} {v u : Value} {xs ys : List Nat} (h1 : LimR w v xs) (h2 : LimR w u ys) (b1 : xs.length ≤ 1099511627776) (ty : Trim ys) (hle : val ys ≤ val xs) :
    Calls Tryz.prog 108 #[v, u] w fun e w' => ∃ v' zs, e = .returned v' ∧ LimR w' v' zs ∧ Trim zs ∧ val zs = val xs - val ys ∧ Below w.heap.size w w' := by
  obtain ⟨i0, hi, hz0, hz1, hz2⟩ := info_parts infoInt
  have hylen : ys.length ≤ xs.length := by
    apply Classical.byContradiction
    intro hh
    have := lt_of_length (x := xs) (y := ys) h1.1 ty (by omega)
    omega
  have HYL := hid hylen
  have HLE := hid hle
  have HY := hid h2
  have hfy := h2.1
  obtain ⟨p, c, rfl, hfx, hc, hm, ha⟩ := limR_parts h1
  have HA1 := hid (AddrR.at' ha rfl hc)
  clear h1 h2 ha hylen hle
  obtain ⟨n, hn⟩ : ∃ n, xs.length = n := ⟨_, rfl⟩
  rw [hn] at hc b1 HA1 HYL ⊢
  have HN := hid hn
  clear hn
  unfold maxLen at hm
  go_enter Tryz.func108, Tryz.ntmps108
  go_wp2_with fail
  go_loopw [5, 6, 7, 8] (fun out le i _x wr => ∃ (k l0 : Nat) (zs : List Nat), k ≤ n ∧ i = .int .i64 k ∧ le = .int .i64 l0 ∧ l0 ≤ 1 ∧ Hid (Acc wr w.heap.size out zs) ∧ Hid (zs.length = k) ∧ Fits zs ∧
      Hid (val zs + val (ys.take k) = val (xs.take k) + l0 * B ^ k) ∧ Hid (Below w.heap.size w wr)) (fun _ _ i _ _ => n - (intOf i).toNat)
  case atStart => exact ⟨0, 0, [], by omega, rfl, rfl, by omega, Acc.nil _ _, rfl, Fits.nil, hid (by simp [val_nil]), Below.refl _ _⟩
  case round =>
    obtain ⟨k, l0, zs, hk, rfl, rfl, hl0, hA, hlen, hf, hI, hbw⟩ := hrel
    by_cases hlt : k < n
    · have C2 := hid (fun nd => digit_still (HY.out.below hbw.out (Nat.le_refl _)) k (by omega) nd)
      obtain ⟨b1, o1, rfl, hb1, cx⟩ := HA1.out k hlt
      rw [← (hbw.out).cell (by exact hb1)] at cx
      have bx := hfx k
      have bY := hfy k
      have i1 : (0 : Int) ≤ (k : Int) := by omega
      have i2 : (k : Int) < (n : Int) := by omega
      have A2 := fun nd => hid (Acc.drewN hA.out nd)
      by_cases hs : dg ys k + l0 ≤ dg xs k
      · have hs1 : ¬ ((dg xs k : Int) - (dg ys k : Int) - (l0 : Int) < 0) := by omega
        go_wp2_with fail
        go_quiet ((go_at_call 53; exact Calls.quiet_of_same (C2.out _)))
        go_wp2_with (at_builtin; refine wpList_push_int _ rfl _ _ 41 rfl i0 Tryz.underlying41 hi hz0 hz1 hz2 (A2 _).out _ (dg xs k - dg ys k - l0) ?cz rfl rfl hbw.out.size ?cl ?_)
        case cz => omega
        case cl => rw [hlen.out]; omega
        intro v' w4 hacc hb4
        have HACC := hid hacc
        have HB4 := hid ((below_drewN hbw.out _).trans hb4)
        clear hacc hb4
        go_wp2_with fail
        go_roundw
        case rel =>
          exact ⟨k + 1, 0, zs ++ [dg xs k - dg ys k - l0], by omega, by go_num, rfl, by omega, HACC, hid (by rw [List.length_append, hlen.out]; rfl),
            hf.append (Fits.single (by omega)), hid (less_step hlen.out hI.out (by omega)), HB4⟩
        case measure => simp [intOf]; omega
      · have hs1 : ((dg xs k : Int) - (dg ys k : Int) - (l0 : Int) < 0) := by omega
        go_wp2_with fail
        go_quiet ((go_at_call 53; exact Calls.quiet_of_same (C2.out _)))
        go_wp2_with (at_builtin; refine wpList_push_int _ rfl _ _ 41 rfl i0 Tryz.underlying41 hi hz0 hz1 hz2 (A2 _).out _ (dg xs k + 10000 - dg ys k - l0) ?cz2 rfl rfl hbw.out.size ?cl2 ?_)
        case cz2 => omega
        case cl2 => rw [hlen.out]; omega
        intro v' w4 hacc hb4
        have HACC := hid hacc
        have HB4 := hid ((below_drewN hbw.out _).trans hb4)
        clear hacc hb4
        go_wp2_with fail
        go_roundw
        case rel =>
          exact ⟨k + 1, 1, zs ++ [dg xs k + 10000 - dg ys k - l0], by omega, by go_num, rfl, by omega, HACC, hid (by rw [List.length_append, hlen.out]; rfl),
            hf.append (Fits.single (by omega)), hid (less_step hlen.out hI.out (by omega)), HB4⟩
        case measure => simp [intOf]; omega
    · obtain rfl : k = n := by omega
      have hv : val zs = val xs - val ys := by
        have h := hI.out
        have h2 := HLE.out
        have h3 := val_lt hf
        rw [hlen.out] at h3
        rw [val_take_all xs _ (by rw [HN.out]; exact Nat.le_refl _), val_take_all ys _ HYL.out] at h
        rcases (show l0 = 0 ∨ l0 = 1 by omega) with e | e
        · rw [e] at h; omega
        · rw [e] at h; omega
      have HV := hid hv
      have HL := hid (rtrim_lim (hA.out.lim hf))
      clear hv
      go_wp2_with fail
      refine HL.out.mono ?_
      rintro e w5 ⟨v5, rfl, hL5, rfl⟩
      go_wp2_with fail
      go_ret
      exact ⟨v5, _, rfl, hL5, trim_trimL _, by rw [val_trimL]; exact HV.out, hbw.out⟩

end Go.Proofs.YtdifiimaifmcpaaGreatDoor

namespace Go.Proofs.YtdifiimaifmcpaaGreatDoor
open Go.RowKit
open Num (dg dg_lt dg_ge dg_zeros dg_take dg_drop dg_set_self dg_set_ne tl tlen tl_zero tl_skip tl_stop tl_le tlen_le trimL length_trimL tl_top drop_dg)
open Num4
set_option linter.unusedVariables false
set_option linter.unusedSimpArgs false

theorem rmul_step {ys us : List Nat} {v0 a k l c s : Nat} (hp : k + l < us.length) (hI : val us + c * B ^ (k + l) = v0 + a * val (ys.take l) * B ^ k)
    (hs : s = dg us (k + l) + a * dg ys l + c) : val (us.set (k + l) (s % 10000)) + s / 10000 * B ^ (k + (l + 1)) = v0 + a * val (ys.take (l + 1)) * B ^ k := by
  have h1 := val_set us (k + l) (s % 10000) hp
  have h2 := carry_split s (B ^ (k + l))
  rw [val_take_succ, Nat.mul_add, Nat.add_mul, ← Nat.add_assoc, Nat.pow_succ]
  have h3 : a * (dg ys l * B ^ l) * B ^ k = a * dg ys l * B ^ (k + l) := by
    rw [← Nat.mul_assoc, Nat.mul_assoc, ← Nat.pow_add, Nat.add_comm l k]
  subst hs
  rw [Nat.add_mul, Nat.add_mul] at h2
  omega

theorem rmul_bound {xs ys us vs : List Nat} {k l m c : Nat} (hfx : Fits xs) (hfy : Fits ys) (hm : ys.length = m) (hI : val us = val (xs.take k) * val ys) (hI' : val vs + c * B ^ (k + l) = val us + dg xs k * val (ys.take l) * B ^ k) (hl : m + 1 ≤ l) (hk : k < xs.length) : c = 0 := by
  rw [val_take_all ys _ (by omega)] at hI'
  have h1 : val us + dg xs k * val ys * B ^ k = val (xs.take (k + 1)) * val ys := by
    rw [val_take_succ, Nat.add_mul, hI, Nat.mul_right_comm]
  have h2 := val_lt (hfx.take (k + 1))
  rw [List.length_take, Nat.min_eq_left (by omega)] at h2
  have h3 := val_lt hfy
  rw [hm] at h3
  have h4 : val (xs.take (k + 1)) * val ys < B ^ (k + 1) * B ^ m := Nat.mul_lt_mul'' h2 h3
  rw [← Nat.pow_add] at h4
  have h5 : B ^ (k + 1 + m) ≤ B ^ (k + l) := Nat.pow_le_pow_right B_pos (by omega)
  apply Classical.byContradiction
  intro hh
  have := Nat.mul_le_mul_right (B ^ (k + l)) (show 1 ≤ c by omega)
  omega

theorem rmul_row {xs ys us vs : List Nat} {k l m : Nat} (hm : ys.length = m) (hl : m ≤ l) (hI : val us = val (xs.take k) * val ys) (hI' : val vs + 0 * B ^ (k + l) = val us + dg xs k * val (ys.take l) * B ^ k) : val vs = val (xs.take (k + 1)) * val ys := by
  rw [val_take_all ys _ (by omega)] at hI'
  rw [val_take_succ, Nat.add_mul, ← hI, Nat.mul_right_comm]
  omega

set_option maxHeartbeats 2000000 in
set_option maxRecDepth 100000 in
theorem rmul_lim {w : World} {v u : Value} {xs ys : List Nat} (h1 : LimR w v xs) (h2 : LimR w u ys) (b1 : xs.length ≤ 1099511627776) (b2 : ys.length ≤ 1099511627776) :
    Calls Tryz.prog 58 #[v, u] w fun e w' => ∃ v' zs, e = .returned v' ∧ LimR w' v' zs ∧ Trim zs ∧ val zs = val xs * val ys ∧ Below w.heap.size w w' := by
  obtain ⟨i0, hi, hz0, hz1, hz2⟩ := info_parts infoInt
  have HY := hid h2
  have hfy := h2.1
  obtain ⟨p, c, rfl, hfx, hc, hm, ha⟩ := limR_parts h1
  obtain ⟨q, d, rfl, _, hd, hm2, _⟩ := limR_parts h2
  have HA1 := hid (AddrR.at' ha rfl hc)
  clear h1 h2 ha
  obtain ⟨n, hn⟩ : ∃ n, xs.length = n := ⟨_, rfl⟩
  obtain ⟨m, hmm⟩ : ∃ m, ys.length = m := ⟨_, rfl⟩
  rw [hn] at hc b1 HA1 ⊢
  rw [hmm] at hd b2 HY ⊢
  have HN := hid hn
  have HM := hid hmm
  clear hn hmm
  unfold maxLen at hm hm2
  go_enter Tryz.func58, Tryz.ntmps58
  go_wp2_with (refine wpList_make_ints _ rfl _ _ 41 rfl i0 Tryz.underlying41 hi hz0 hz1 hz2 _ _ (n + m + 1) (n + m + 1) rfl rfl ?cL ?cC (Nat.le_refl _) ?cb ?_)
  case cL => omega
  case cC => omega
  case cb => omega
  intro w1 hblk hbelow hsz
  go_wp2_with fail
  go_loopw [6, 7, 8] (fun i _c _k wr => ∃ (k : Nat) (us : List Nat), k ≤ n ∧ i = .int .i64 k ∧ Hid (BlkR wr w.heap.size us) ∧ Hid (us.length = n + m + 1) ∧ Fits us ∧
      Hid (val us = val (xs.take k) * val ys) ∧ Hid (∀ j, k + m ≤ j → dg us j = 0) ∧ Hid (Below w.heap.size w wr)) (fun i _ _ _ => n - (intOf i).toNat)
  case atStart => exact ⟨0, _, by omega, rfl, hblk, hid (by simp), Fits.zeros _, hid (by rw [val_zeros]; simp [val_nil]), hid (fun j _ => dg_zeros _ j), hbelow⟩
  case round =>
    obtain ⟨k, us, hk, rfl, hB, hl, hf, hI, hZ, hbw⟩ := hrel
    by_cases hlt : k < n
    · obtain ⟨b1, o1, rfl, hb1, cx0⟩ := HA1.out k hlt
      have bx := hfx k
      have CX := hid cx0
      clear cx0
      obtain ⟨wo, rfl⟩ : ∃ wo : World, wo = wr := ⟨_, rfl⟩
      go_wp2_with fail
      go_loopw [7, 8] (fun cy j wr => ∃ (l c : Nat) (vs : List Nat), l ≤ m + 1 ∧ j = .int .i64 l ∧ cy = .int .i64 c ∧ c ≤ 9999 ∧ Hid (BlkR wr w.heap.size vs) ∧ Hid (vs.length = n + m + 1) ∧ Fits vs ∧
          Hid (val vs + c * B ^ (k + l) = val us + dg xs k * val (ys.take l) * B ^ k) ∧ Hid (∀ j, k + l ≤ j → dg vs j = dg us j) ∧ Hid (Below w.heap.size w wr)) (fun _ j _ => m + 1 - (intOf j).toNat)
      case atStart => exact ⟨0, 0, us, by omega, rfl, rfl, by omega, hB, hl, hf, hid (by simp [val_nil]), hid (fun j _ => rfl), hbw⟩
      case round =>
        obtain ⟨l, c0, vs, hl', rfl, rfl, hc0, hB', hl2, hf', hI', hZ', hbw'⟩ := hrel
        have hend : m + 1 ≤ l → c0 = 0 := fun h => rmul_bound hfx hfy HM.out hI.out hI'.out h (by rw [HN.out]; exact hlt)
        have HEND := hid hend
        clear hend
        by_cases hgo : l < m ∨ 0 < c0
        · have hl3 : l ≤ m := by
            apply Classical.byContradiction
            intro hh
            have := HEND.out (by omega)
            omega
          have cx := CX.out
          rw [← (hbw'.out).cell (by exact hb1)] at cx
          have C2 := hid (fun nd => digit_still (HY.out.below hbw'.out (Nat.le_refl _)) l (by omega) nd)
          have cu := hB'.out.cell (i := k + l) (by rw [hl2.out]; omega)
          have fu := hB'.out.free (k + l)
          have bu := hf' (k + l)
          have bY := hfy l
          have bm : dg xs k * dg ys l ≤ 9999 * 9999 := Nat.mul_le_mul (by omega) (by omega)
          have i1 : (0 : Int) ≤ (k : Int) := by omega
          have i2 : (k : Int) < (n : Int) := by omega
          have i3 : (0 : Int) ≤ (k : Int) + (l : Int) := by omega
          have i4 : (k : Int) + (l : Int) < (n : Int) + (m : Int) + 1 := by omega
          have i5 : (k : Int) + (l : Int) < ((n + m + 1 : Nat) : Int) := by omega
          have hs2 : (dg vs (k + l) + dg xs k * dg ys l + c0) / 10000 ≤ 9999 := by omega
          by_cases h : l < m
          · go_wp2_with fail
            go_quiet ((go_at_call 53; exact Calls.quiet_of_same (C2.out _)))
            go_wp2_with fail
            go_roundw
            case rel =>
              refine ⟨l + 1, (dg vs (k + l) + dg xs k * dg ys l + c0) / 10000, vs.set (k + l) ((dg vs (k + l) + dg xs k * dg ys l + c0) % 10000), by omega, by go_num, val_int (by omega), by omega, hid (hB'.out.set' _ _ _ (by omega)), hid (by rw [List.length_set]; exact hl2.out),
                hf'.set _ _ (by omega), hid (rmul_step (by rw [hl2.out]; omega) hI'.out rfl), hid (fun j hj => ?_), hid ((below_drewN hbw'.out _).setCell (Nat.le_refl _) _)⟩
              rw [dg_set_ne _ _ _ _ (by omega)]
              exact hZ'.out j (by omega)
            case measure => simp [intOf]; omega
          · have h' : 0 < c0 := by omega
            go_wp2_with fail
            go_quiet ((go_at_call 53; exact Calls.quiet_of_same (C2.out _)))
            go_wp2_with fail
            go_roundw
            case rel =>
              refine ⟨l + 1, (dg vs (k + l) + dg xs k * dg ys l + c0) / 10000, vs.set (k + l) ((dg vs (k + l) + dg xs k * dg ys l + c0) % 10000), by omega, by go_num, val_int (by omega), by omega, hid (hB'.out.set' _ _ _ (by omega)), hid (by rw [List.length_set]; exact hl2.out),
                hf'.set _ _ (by omega), hid (rmul_step (by rw [hl2.out]; omega) hI'.out rfl), hid (fun j hj => ?_), hid ((below_drewN hbw'.out _).setCell (Nat.le_refl _) _)⟩
              rw [dg_set_ne _ _ _ _ (by omega)]
              exact hZ'.out j (by omega)
            case measure => simp [intOf]; omega
        · obtain rfl : c0 = 0 := by omega
          have hge : m ≤ l := by omega
          go_wp2_with fail
          go_roundw
          case rel =>
            exact ⟨k + 1, vs, by omega, by go_num, hB', hl2, hf', hid (rmul_row HM.out hge hI.out hI'.out), hid (fun j hj => by rw [hZ'.out j (by omega)]; exact hZ.out j (by omega)), hbw'⟩
          case measure => simp [intOf]; omega
    · obtain rfl : k = n := by omega
      have hv : val us = val xs * val ys := by
        have h2 := hI.out
        rw [val_take_all xs _ (by rw [HN.out]; exact Nat.le_refl _)] at h2
        exact h2
      have hL := hB.out.lim hf 0 (k + m + 1) (k + m + 1) (by rw [hl.out]; omega) (Nat.le_refl _) (by unfold maxLen; omega)
      rw [List.drop_zero, List.take_of_length_le (by rw [hl.out]; exact Nat.le_refl _)] at hL
      have HL := hid (rtrim_lim hL)
      have HV := hid hv
      clear hL hv
      go_wp2_with fail
      refine HL.out.mono ?_
      rintro e w' ⟨v', rfl, hL3, rfl⟩
      go_wp2_with fail
      go_ret
      exact ⟨_, _, rfl, hL3, trim_trimL _, by rw [val_trimL]; exact HV.out, hbw.out⟩

end Go.Proofs.YtdifiimaifmcpaaGreatDoor

namespace Go.Proofs.YtdifiimaifmcpaaGreatDoor
open Go.RowKit
open Num (dg dg_lt dg_ge dg_zeros dg_take dg_drop dg_set_self dg_set_ne tl tlen tl_zero tl_skip tl_stop tl_le tlen_le trimL length_trimL tl_top drop_dg)
open Num4
set_option linter.unusedVariables false
set_option linter.unusedSimpArgs false

theorem Acc.one (w : World) {K : Nat} (hK : K ≤ w.heap.size) (z : Int) (zn : Nat) (hz : z = zn) : Acc (w.alloc (.cells #[.int .i64 z] 3)) K (.slice (some ⟨w.heap.size, 0, none⟩) 1 1) [zn] := by
  subst hz
  exact World.ownsRow_lit w #[.int .i64 zn] 1 hK (by unfold maxLen; omega) rfl
theorem Acc.none0 (w : World) {K : Nat} (hK : K ≤ w.heap.size) : Acc (w.alloc (.cells #[] 3)) K (.slice (some ⟨w.heap.size, 0, none⟩) 0 0) [] :=
  World.ownsRow_lit w #[] 0 hK (by unfold maxLen; omega) rfl

/-- All numbers of another slice are appended. -/
theorem wpList_join_ints {P : Program} (w : World) {ops : Array Oper} {rest : List Oper} {o : Oper} {a : Act} {Q : Exit → Act → World → Prop}
    (hg : o.guard = none) (s x : Operand) (t : TypeId) (hop : o.op = Op.call { callee := Callee.builtin Builtin.append, args := #[s, x], argTypes := #[t, t] })
    (i : TypeInfo) (h1 : P.underlying t = some (.slice 3)) (h2 : P.info? 3 = some i) (h3 : i.zero = some (.int .i64 0)) (h4 : i.size = 1) (h5 : i.bytes = 8)
    {K : Nat} {v u : Value} {zs ys : List Nat} (hacc : Acc w K v zs) (hL : LimR w u ys) (hs : a.eval s = v) (hx : a.eval x = u)
    (hK : K ≤ w.heap.size) (hlen : zs.length + ys.length ≤ 1099511627790)
    (hk : ∀ v' w', Acc w' K v' (zs ++ ys) → Below K w w' → wpList P ops Q rest (a.put o.dst v') w') :
    wpList P ops Q (o :: rest) a w := by
  obtain ⟨hf, p, c, rfl, hc, hm, ha⟩ := hL
  rcases ha with ⟨rfl, rfl⟩ | ⟨b, off, rfl, hb, hcell⟩
  · obtain rfl : ys = [] := List.length_eq_zero_iff.1 (by omega)
    refine wpList_plain hg fun K' hK' => ?_
    have hr := run_append_owned_none (P := P) w K t o.type 3 i 1 h1 h2 v zs.length _ hacc
    unfold Oper.wp
    simp only [List.length_nil] at hx
    simp [execOp, hop, resolve, invoke, builtin, hs, hx, hr, Result.andThen]
    exact hK' _ _ (hk _ _ (by rw [List.append_nil]; exact hacc) (Below.refl _ _))
  · refine wpList_append_own _ hg s x t hop K 3 i (.int .i64 0) 1 8 h1 h2 h3 h4 h5 rfl (by decide) v zs.length (zs.map V1) hs hacc ⟨b, off, none⟩ ys.length c (ys.map V1) hx (by simp) ?_ ?_ ?_ ?_ hK ?_
    · intro j u hj
      have hj2 : j < ys.length := by have := (List.getElem?_eq_some_iff.1 hj).1; simpa using this
      rw [VR_map .i64 ys j hj2] at hj
      cases hj
      have : (⟨b, off, none⟩ : Addr).add j = ⟨b, off + j, none⟩ := by unfold Addr.add; split <;> simp_all
      rw [this]
      exact hcell j hj2
    · intro u hu
      obtain ⟨n, _, rfl⟩ := List.mem_map.1 hu
      rfl
    · unfold maxLen; omega
    · omega
    · intro v' w' hown' hgrow _
      refine hk v' w' ?_ ?_
      · show w'.ownsRow K 3 1 v' (zs ++ ys).length ((zs ++ ys).map V1)
        rw [List.map_append, List.length_append]; exact hown'
      · exact (Below.refl _ _).grown hgrow hK (fun k hk => (World.ownsRow.lt hacc k hk).1)

/-! ### What is left, place by place -/
theorem rdiv_start {xs ys : List Nat} {n m : Nat} (hf : Fits xs) (ht : Trim ys) (hn : xs.length = n) (hm : ys.length = m) (h1 : m ≤ n) (h2 : 0 < m) : val (xs.drop (n - (m - 1))) < val ys :=
  lt_of_length (hf.drop _) ht (by rw [List.length_drop]; omega)

theorem rdiv_high {x v V : Nat} (hx : x < 10000) (hv : v < V) : x + B * v < (9999 + 1) * V := by
  have : B * v + B ≤ B * V := by rw [← Nat.mul_succ]; exact Nat.mul_le_mul_left _ hv
  simp only [B] at *
  omega

theorem rdiv_step {xs us zs : List Nat} {k lo V R : Nat} (hk : k < xs.length) (hu : k < us.length) (hI : val (xs.drop (k + 1)) = val (us.drop (k + 1)) * V + val zs) (hR : R = dg xs k + B * val zs) (hlo : lo * V ≤ R) :
    val (xs.drop k) = val ((us.set k lo).drop k) * V + (R - V * lo) := by
  rw [drop_dg hk, drop_dg (l := us.set k lo) (by rw [List.length_set]; exact hu), dg_set_self _ _ _ hu, List.drop_set_of_lt (by omega), val_cons, val_cons, hI, Nat.mul_add, Nat.add_mul, Nat.mul_comm V lo, Nat.mul_assoc]
  omega

theorem rdiv_left {lo V R : Nat} (h1 : lo * V ≤ R) (h2 : R < (lo + 1) * V) : R - V * lo < V := by
  rw [Nat.add_mul] at h2
  rw [Nat.mul_comm V lo]
  omega

theorem val_mid (mid : Nat) : val (trimL [mid]) = mid := by rw [val_trimL, val_single]

end Go.Proofs.YtdifiimaifmcpaaGreatDoor

namespace Go.Proofs.YtdifiimaifmcpaaGreatDoor
open Go.RowKit
open Num (dg dg_lt dg_ge dg_zeros dg_take dg_drop dg_set_self dg_set_ne tl tlen tl_zero tl_skip tl_stop tl_le tlen_le trimL length_trimL tl_top drop_dg)
open Num4
set_option linter.unusedVariables false
set_option linter.unusedSimpArgs false

def DivR (w : World) (x y : Nat) (e : Ending) (w' : World) : Prop :=
  ∃ v' u' qs zs, e = .returned (.tuple #[v', u']) ∧ LimR w' v' qs ∧ LimR w' u' zs ∧ Trim qs ∧ Trim zs ∧ x = val qs * y + val zs ∧ val zs < y ∧ Below w.heap.size w w'

set_option maxHeartbeats 2000000 in
set_option maxRecDepth 100000 in
theorem rdiv_short {w : World} {v u : Value} {xs ys : List Nat} (h1 : LimR w v xs) (h2 : LimR w u ys) (b1 : xs.length ≤ 1099511627700) (b2 : ys.length ≤ 1099511627700) (ty : Trim ys) (hlt : xs.length < ys.length) :
    Calls Tryz.prog 86 #[v, u] w fun e w' => DivR w (val xs) (val ys) e w' := by
  obtain ⟨i0, hi, hz0, hz1, hz2⟩ := info_parts infoInt
  have HY := hid h2
  have HX := hid h1
  have HLT := hid (lt_of_length h1.1 ty hlt)
  obtain ⟨p, c, rfl, hfx, hc, hm, ha⟩ := limR_parts h1
  obtain ⟨q, d, rfl, _, hd, hm2, _⟩ := limR_parts h2
  clear h1 h2
  obtain ⟨n, hn⟩ : ∃ n, xs.length = n := ⟨_, rfl⟩
  obtain ⟨m, hmm⟩ : ∃ m, ys.length = m := ⟨_, rfl⟩
  rw [hn] at hc b1 HX hlt ⊢
  rw [hmm] at hd b2 HY hlt ⊢
  have HN := hid hn
  have HM := hid hmm
  clear hn hmm
  unfold maxLen at hm hm2
  have P1 : p = none ∨ ∃ b off, p = some ⟨b, off, none⟩ := by
    rcases ha with ⟨h, _⟩ | ⟨b, off, h, _⟩
    · exact .inl h
    · exact .inr ⟨b, off, h⟩
  have P2 : p = none → n = 0 ∧ c = 0 := by
    intro h
    rcases ha with ⟨_, h'⟩ | ⟨b, off, h', _⟩
    · exact ⟨by omega, h'⟩
    · rw [h] at h'; cases h'
  clear ha
  rcases P1 with rfl | ⟨b, off, rfl⟩
  · obtain ⟨rfl, rfl⟩ := P2 rfl
    clear P2
    go_enter Tryz.func86, Tryz.ntmps86
    go_wp2_with (refine wpList_make_ints _ rfl _ _ 41 rfl i0 Tryz.underlying41 hi hz0 hz1 hz2 _ _ 0 0 rfl rfl ?cL ?cC (Nat.le_refl _) ?cb ?_)
    case cL => rfl
    case cC => rfl
    case cb => omega
    intro w1 hblk hbelow hsz
    have A0 := Acc.none0 w1 (K := w1.heap.size) (Nat.le_refl _)
    rw [hsz] at A0
    have HA0 := hid A0
    have B1 := (Below.refl (w.heap.size + 1) w1).alloc (by omega) (.cells #[] 3)
    have B2 := hid (hbelow.trans (B1.mono (Nat.le_succ _)))
    have L0 := hid (HX.out.below B2.out (Nat.le_refl _))
    have HBL := hid (hblk.below B1 (Nat.lt_succ_self _))
    have SZ := B1.size
    rw [hsz] at SZ
    have HSZ := hid SZ
    clear A0 hblk hbelow B1 SZ
    go_wp2_with (at_builtin; refine wpList_join_ints _ rfl _ _ 41 rfl i0 Tryz.underlying41 hi hz0 hz1 hz2 HA0.out L0.out rfl rfl HSZ.out ?cl1 ?_)
    case cl1 => rw [HN.out]; simp
    intro v3 w3 hacc hb3
    have HT := hid (rtrim_lim (hacc.lim (Fits.nil.append hfx)))
    have HB := hid (HBL.out.below hb3 (Nat.lt_succ_self _))
    have B3 := hid (B2.out.trans (hb3.mono (Nat.le_succ _)))
    clear hacc hb3
    go_wp2_with fail
    refine HT.out.mono ?_
    rintro e w4 ⟨v4, rfl, hL4, rfl⟩
    have HL4 := hid hL4
    have HO := hid (rtrim_lim (HB.out.lim Fits.nil 0 0 0 (by simp) (Nat.le_refl _) (by unfold maxLen; omega)))
    clear hL4 HB
    go_wp2_with fail
    go_loopw [8, 9, 10, 11, 12] (fun r i _ _ _ wr => r = v4 ∧ i = .int .i64 (-1) ∧ wr = w3) (fun _ _ _ _ _ _ => 0)
    case atStart => exact ⟨rfl, by go_num, rfl⟩
    case round =>
      obtain ⟨rfl, rfl, rfl⟩ := hrel
      go_wp2_with fail
      refine HO.out.mono ?_
      rintro e w5 ⟨v5, rfl, hL5, rfl⟩
      go_wp2_with fail
      go_ret2
      refine ⟨v5, _, _, _, rfl, hL5, HL4.out, trim_trimL _, trim_trimL _, ?_, ?_, B3.out⟩
      · rw [val_trimL, val_trimL, List.drop_zero]; first | (rw [val_take_zeros]; simp) | simp [val_nil]
      · rw [val_trimL]; exact HLT.out
  · go_enter Tryz.func86, Tryz.ntmps86
    go_wp2_with (refine wpList_make_ints _ rfl _ _ 41 rfl i0 Tryz.underlying41 hi hz0 hz1 hz2 _ _ n n rfl rfl ?cL2 ?cC2 (Nat.le_refl _) ?cb2 ?_)
    case cL2 => rfl
    case cC2 => rfl
    case cb2 => omega
    intro w1 hblk hbelow hsz
    have A0 := Acc.none0 w1 (K := w1.heap.size) (Nat.le_refl _)
    rw [hsz] at A0
    have HA0 := hid A0
    have B1 := (Below.refl (w.heap.size + 1) w1).alloc (by omega) (.cells #[] 3)
    have B2 := hid (hbelow.trans (B1.mono (Nat.le_succ _)))
    have L0 := hid (HX.out.below B2.out (Nat.le_refl _))
    have HBL := hid (hblk.below B1 (Nat.lt_succ_self _))
    have SZ := B1.size
    rw [hsz] at SZ
    have HSZ := hid SZ
    clear A0 hblk hbelow B1 SZ
    go_wp2_with (at_builtin; refine wpList_join_ints _ rfl _ _ 41 rfl i0 Tryz.underlying41 hi hz0 hz1 hz2 HA0.out L0.out rfl rfl HSZ.out ?cl2 ?_)
    case cl2 => rw [HN.out]; simp; omega
    intro v3 w3 hacc hb3
    have HT := hid (rtrim_lim (hacc.lim (Fits.nil.append hfx)))
    have HB := hid (HBL.out.below hb3 (Nat.lt_succ_self _))
    have B3 := hid (B2.out.trans (hb3.mono (Nat.le_succ _)))
    clear hacc hb3
    go_wp2_with fail
    refine HT.out.mono ?_
    rintro e w4 ⟨v4, rfl, hL4, rfl⟩
    have HL4 := hid hL4
    have HO := hid (rtrim_lim (HB.out.lim (Fits.zeros _) 0 n n (by simp) (Nat.le_refl _) (by unfold maxLen; omega)))
    clear hL4 HB
    go_wp2_with fail
    go_loopw [8, 9, 10, 11, 12] (fun r i _ _ _ wr => r = v4 ∧ i = .int .i64 (-1) ∧ wr = w3) (fun _ _ _ _ _ _ => 0)
    case atStart => exact ⟨rfl, by go_num, rfl⟩
    case round =>
      obtain ⟨rfl, rfl, rfl⟩ := hrel
      go_wp2_with fail
      refine HO.out.mono ?_
      rintro e w5 ⟨v5, rfl, hL5, rfl⟩
      go_wp2_with fail
      go_ret2
      refine ⟨v5, _, _, _, rfl, hL5, HL4.out, trim_trimL _, trim_trimL _, ?_, ?_, B3.out⟩
      · rw [val_trimL, val_trimL, List.drop_zero]; first | (rw [val_take_zeros]; simp) | simp [val_nil]
      · rw [val_trimL]; exact HLT.out

end Go.Proofs.YtdifiimaifmcpaaGreatDoor

namespace Go.Proofs.YtdifiimaifmcpaaGreatDoor
open Go.RowKit
open Num (dg dg_lt dg_ge dg_zeros dg_take dg_drop dg_set_self dg_set_ne tl tlen tl_zero tl_skip tl_stop tl_le tlen_le trimL length_trimL tl_top drop_dg)
open Num4
set_option linter.unusedVariables false
set_option linter.unusedSimpArgs false

theorem size_setCell (w : World) (p : Addr) (v : Value) : (w.setCell p v).heap.size = w.heap.size := by simp [World.setCell]

theorem Acc.oneSet (w : World) (p : Addr) (v : Value) (z : Int) (zn : Nat) (hz : z = zn) : Acc ((w.setCell p v).alloc (.cells #[.int .i64 z] 3)) w.heap.size (.slice (some ⟨w.heap.size, 0, none⟩) 1 1) [zn] := by
  have h := Acc.one (w.setCell p v) (K := (w.setCell p v).heap.size) (Nat.le_refl _) z zn hz
  rw [size_setCell] at h
  exact h

/-- .. whose block is of the call's own (from K on). -/
def LimRK (w : World) (K : Nat) (v : Value) (xs : List Nat) : Prop := LimR w v xs ∧ ∀ b o n c, v = .slice (some ⟨b, o, none⟩) n c → K ≤ b

theorem rtrim_limK {w : World} {K : Nat} {v : Value} {zs : List Nat} (h : Acc w K v zs) (hf : Fits zs) :
    Calls Tryz.prog 88 #[v] w fun e w' => ∃ v', e = .returned v' ∧ LimRK w' K v' (trimL zs) ∧ w = w' := by
  obtain ⟨p, c, hv, hfz, hc, hm, ha⟩ := limR_parts (h.lim hf)
  have hK : ∀ b o, p = some ⟨b, o, none⟩ → K ≤ b := by
    intro b o e
    exact (World.ownsRow.lt h b (by rw [hv, e]; rfl)).1
  subst hv
  refine (rtrim_any p c zs w hf hc hm ha).mono ?_
  rintro e w' ⟨rfl, rfl⟩
  refine ⟨_, rfl, ⟨limR_cut hf hc hm ha, ?_⟩, rfl⟩
  intro b o n' c' e
  injection e with e1
  exact hK b o e1

theorem LimRK.below {w w' : World} {K L : Nat} {v : Value} {xs : List Nat} (h : LimRK w K v xs) (hb : Below L w w') (hK : w.heap.size ≤ L) : LimRK w' K v xs := ⟨h.1.below hb hK, h.2⟩

theorem LimRK.setCell {w : World} {K : Nat} {v : Value} {xs : List Nat} (h : LimRK w K v xs) {p : Addr} (hp : p.block < K) (u : Value) : LimR (w.setCell p u) v xs := by
  obtain ⟨⟨h1, q, c, rfl, h3, h4, h5⟩, h6⟩ := h
  refine ⟨h1, q, c, rfl, h3, h4, ?_⟩
  rcases h5 with h5 | ⟨b, off, rfl, h8, h9⟩
  · exact .inl h5
  · have hk := h6 b off _ _ rfl
    refine .inr ⟨b, off, rfl, by rw [size_setCell]; exact h8, fun i hi => ?_⟩
    rw [World.cell?_of_block (w := w) (Below.heap_setCell w p u b (by omega))]
    exact h9 i hi

set_option maxHeartbeats 4000000 in
set_option maxRecDepth 100000 in
theorem rdiv_long {w : World} {v u : Value} {xs ys : List Nat} (h1 : LimR w v xs) (h2 : LimR w u ys) (b1 : xs.length ≤ 1099511627700) (b2 : ys.length ≤ 1099511627700) (ty : Trim ys) (f r : Nat) (hxl : xs.length = f + r) (hyl : ys.length = f + 1) (hr : 0 < r) :
    Calls Tryz.prog 86 #[v, u] w fun e w' => DivR w (val xs) (val ys) e w' := by
  obtain ⟨i0, hi, hz0, hz1, hz2⟩ := info_parts infoInt
  have HY := hid h2
  have HX := hid h1
  have hst := rdiv_start h1.1 ty hxl hyl (by omega) (by omega)
  rw [show f + r - (f + 1 - 1) = r by omega] at hst
  have HST := hid hst
  clear hst
  obtain ⟨p, c, rfl, hfx, hc, hm, ha⟩ := limR_parts h1
  obtain ⟨q, d, rfl, hfy, hd, hm2, _⟩ := limR_parts h2
  have HA1 := hid (AddrR.at' ha rfl hc)
  clear h1 h2
  rw [hxl] at hc b1 HX HA1 ⊢
  rw [hyl] at hd b2 HY ⊢
  have HN := hid hxl
  have HM := hid hyl
  clear hxl hyl
  unfold maxLen at hm hm2
  rcases ha with ⟨_, h⟩ | ⟨b, off, rfl, hb, hcell⟩
  · omega
  have LS : LimR w (.slice (if c ≤ r then some ⟨b, off, none⟩ else some ⟨b, off + (f + r - f), none⟩) (f + r - (f + r - f)) (c - (f + r - f))) (xs.drop r) := by
    have hl : (xs.drop r).length = f := by rw [List.length_drop, HN.out]; omega
    rw [show f + r - f = r by omega, show f + r - r = f by omega]
    refine ⟨hfx.drop _, _, c - r, by rw [hl], by rw [hl]; omega, by unfold maxLen; omega, .inr ?_⟩
    by_cases hcr : c ≤ r
    · rw [if_pos hcr]
      exact ⟨b, off, rfl, hb, fun i hi => by rw [hl] at hi; omega⟩
    · rw [if_neg hcr]
      refine ⟨b, off + r, rfl, hb, fun i hi => ?_⟩
      rw [hl] at hi
      rw [dg_drop, Nat.add_assoc]
      exact hcell (r + i) (by rw [HN.out]; omega)
  have HLS := hid LS
  have HCELL := hid hcell
  clear LS hcell
  by_cases hcr : c ≤ r <;>
  ( have LS2 := HLS.out
    first | rw [if_pos hcr] at LS2 | rw [if_neg hcr] at LS2
    have HLS := hid LS2
    clear LS2
    go_enter Tryz.func86, Tryz.ntmps86
    go_wp2_with (refine wpList_make_ints _ rfl _ _ 41 rfl i0 Tryz.underlying41 hi hz0 hz1 hz2 _ _ (f + r) (f + r) rfl rfl ?cL ?cC (Nat.le_refl _) ?cb ?_)
    case cL => omega
    case cC => omega
    case cb => omega
    intro w1 hblk hbelow hsz
    have A0 := Acc.none0 w1 (K := w1.heap.size) (Nat.le_refl _)
    rw [hsz] at A0
    have HA0 := hid A0
    have B1 := (Below.refl (w.heap.size + 1) w1).alloc (by omega) (.cells #[] 3)
    have B2 := hid (hbelow.trans (B1.mono (Nat.le_succ _)))
    have L0 := hid (HLS.out.below B2.out (Nat.le_refl _))
    have HBL := hid (hblk.below B1 (Nat.lt_succ_self _))
    have SZ := B1.size
    rw [hsz] at SZ
    have HSZ := hid SZ
    clear A0 hblk hbelow B1 SZ
    go_wp2_with (at_builtin; refine wpList_join_ints _ rfl _ _ 41 rfl i0 Tryz.underlying41 hi hz0 hz1 hz2 HA0.out L0.out rfl rfl HSZ.out ?cl ?_)
    case cl => rw [List.length_drop, HN.out]; simp; omega
    intro v3 w3 hacc hb3
    have HT := hid (rtrim_lim (hacc.lim (Fits.nil.append (hfx.drop _))))
    have HB := hid (HBL.out.below hb3 (Nat.lt_succ_self _))
    have B3 := hid (B2.out.trans (hb3.mono (Nat.le_succ _)))
    have S3 := hid (Nat.le_trans HSZ.out hb3.size)
    clear hacc hb3 HBL B2 HSZ L0 HA0
    go_wp2_with fail
    refine HT.out.mono ?_
    rintro e w4 ⟨v4, rfl, hL4, rfl⟩
    have HL4 := hid hL4
    clear hL4 HT
    go_wp2_with fail
    go_loopw [8, 9, 10, 11, 12] (fun rest i _ _ _ wr => ∃ (k : Nat) (zs us : List Nat), k ≤ r ∧ i = .int .i64 ((k : Int) - 1) ∧ Hid (LimR wr rest zs) ∧ Hid (Trim zs) ∧ Hid (val zs < val ys) ∧ Hid (BlkR wr w.heap.size us) ∧ Hid (us.length = f + r) ∧ Fits us ∧
        Hid (val (xs.drop k) = val (us.drop k) * val ys + val zs) ∧ Hid (Below w.heap.size w wr) ∧ Hid (w.heap.size + 1 ≤ wr.heap.size)) (fun _ i _ _ _ _ => (intOf i + 1).toNat)
    case atStart =>
      refine ⟨r, _, _, Nat.le_refl _, by go_num, HL4, trim_trimL _, hid (by rw [val_trimL]; exact HST.out), HB, hid (by simp), Fits.zeros _, hid ?_, B3, S3⟩
      rw [val_trimL]
      have : ((List.replicate (f + r) 0).drop r) = List.replicate f 0 := by rw [List.drop_replicate]; congr 1; omega
      rw [this, val_zeros]
      simp
    case round =>
      obtain ⟨k0, zs, us, hk, rfl, HL, HTZ, HLT, HB', hul, hfu, HI, HBW, HS⟩ := hrel
      rcases Nat.eq_zero_or_pos k0 with rfl | hk1
      · have HO := hid (rtrim_lim (HB'.out.lim hfu 0 (f + r) (f + r) (by rw [hul.out]; omega) (Nat.le_refl _) (by unfold maxLen; omega)))
        go_wp2_with fail
        refine HO.out.mono ?_
        rintro e w5 ⟨v5, rfl, hL5, rfl⟩
        go_wp2_with fail
        go_ret2
        refine ⟨v5, _, _, _, rfl, hL5, HL.out, trim_trimL _, HTZ.out, ?_, HLT.out, HBW.out⟩
        have := HI.out
        rw [List.drop_zero, List.drop_zero] at this
        rw [val_trimL, List.drop_zero, val_take_all _ _ (by rw [hul.out]; exact Nat.le_refl _)]
        exact this
      · obtain ⟨k, rfl⟩ : ∃ k, k0 = k + 1 := ⟨k0 - 1, by omega⟩
        obtain ⟨b', o', hbo, hb1, cx⟩ := HA1.out k (by omega)
        cases hbo
        rw [← (HBW.out).cell (by exact hb1)] at cx
        have bx := hfx k
        have A5 := hid (Acc.one wr (K := wr.heap.size) (Nat.le_refl _) (dg xs k : Int) (dg xs k) rfl)
        have B4 := hid ((Below.refl wr.heap.size wr).alloc (Nat.le_refl _) (.cells #[.int .i64 (dg xs k : Int)] 3))
        have L5 := hid (HL.out.below B4.out (Nat.le_refl _))
        have HZL := hid (length_le_of_val HTZ.out (f + 1) (Nat.lt_trans HLT.out (by rw [← HM.out]; exact val_lt hfy)))
        go_wp2_with (at_builtin; refine wpList_join_ints _ rfl _ _ 41 rfl i0 Tryz.underlying41 hi hz0 hz1 hz2 A5.out L5.out rfl rfl B4.out.size ?cl2 ?_)
        case cl2 => have := HZL.out; simp; omega
        intro v5 w5 hacc hb5
        obtain ⟨R, hR⟩ : ∃ R, R = dg xs k + B * val zs := ⟨_, rfl⟩
        have HR := hid hR
        have hTx := rtrim_limK hacc ((Fits.single bx).append HL.out.1)
        have HT := hid hTx
        have B5 := hid (B4.out.trans hb5)
        have HVR := hid (show val (trimL (dg xs k :: zs)) = R by rw [val_trimL, hR]; rfl)
        have HRL := hid (show (trimL (dg xs k :: zs)).length ≤ f + 2 by have := tlen_le (dg xs k :: zs); have := HZL.out; rw [length_trimL]; simp at *; omega)
        have HTR := hid (trim_trimL (dg xs k :: zs))
        generalize trimL (dg xs k :: zs) = rs at HT HVR HRL HTR
        clear hacc hb5 hTx hR
        go_wp2_with fail
        refine HT.out.mono ?_
        rintro e w6 ⟨v6, rfl, hL6, rfl⟩
        have HL6 := hid hL6
        have HRV := hid (show R < (9999 + 1) * val ys by rw [HR.out]; exact rdiv_high bx HLT.out)
        have HB6 := hid (HBW.out.trans (B5.out.mono (Nat.le_of_succ_le HS.out)))
        have HY6 := hid (HY.out.below HB6.out (Nat.le_refl _))
        clear hL6 HT A5 L5 B4
        go_wp2_with fail
        go_loopw [10, 11, 12] (fun lo hi _ wq => ∃ (l h : Nat), l ≤ h ∧ h ≤ 9999 ∧ lo = .int .i64 l ∧ hi = .int .i64 h ∧ Hid (l * val ys ≤ R) ∧ Hid (R < (h + 1) * val ys) ∧ Hid (Below w5.heap.size w5 wq)) (fun lo hi _ _ => (intOf hi - intOf lo).toNat)
        case atStart => exact ⟨0, 9999, by omega, by omega, rfl, rfl, hid (by simp), HRV, Below.refl _ _⟩
        case round =>
          obtain ⟨l, h, hlh, hh, rfl, rfl, HLO, HHI, HBQ⟩ := hrel
          by_cases hlt : l < h
          · obtain ⟨M, hM⟩ : ∃ M, M = (l + h + 1) / 2 := ⟨_, rfl⟩
            have hM1 : l < M := by omega
            have hM2 : M ≤ h := by omega
            have HZ := hid (show ((l : Int) + h + 1) / 2 = (M : Int) by omega)
            clear hM
            have HT := hid (rtrim_lim ((Acc.one wr (K := wr.heap.size) (Nat.le_refl _) (((l : Int) + h + 1) / 2) M HZ.out).lim (Fits.single (by omega))))
            have B7 := hid (HBQ.out.trans (((Below.refl wr.heap.size wr).alloc (Nat.le_refl _) (.cells #[.int .i64 (((l : Int) + h + 1) / 2)] 3)).mono HBQ.out.size))
            go_wp2_with fail
            refine HT.out.mono ?_
            rintro e w7 ⟨v7, rfl, hL7, rfl⟩
            have HMU := hid (rmul_lim (HY6.out.below B7.out (Nat.le_refl _)) hL7 (by rw [HM.out]; omega) (Nat.le_trans (by rw [length_trimL]; exact tlen_le _) (show 1 ≤ 1099511627776 by omega)))
            clear hL7 HT
            go_wp2_with fail
            refine HMU.out.mono ?_
            rintro e w8 ⟨v8, ps, rfl, hL8, hT8, hv8, hb8⟩
            rw [val_mid] at hv8
            have B8 := hid (B7.out.trans (hb8.mono B7.out.size))
            have hpl : ps.length ≤ f + 2 := length_le_of_val hT8 _ (by
              rw [hv8, Nat.pow_succ]
              have h1 := val_lt hfy
              rw [HM.out] at h1
              exact Nat.mul_lt_mul'' h1 (by simp only [B]; omega))
            have HC := hid (cmp_lim hL8 (HL6.out.1.below B8.out (Nat.le_refl _)) (by omega) (by have := HRL.out; omega))
            clear HMU B7 hL8 hT8 hb8
            by_cases hle : val ys * M ≤ R
            · have hc : cmpv (val ps) (val rs) ≤ 0 := by
                rw [hv8, HVR.out]; unfold cmpv; split <;> (try split) <;> omega
              have HN1 := hid (show M * val ys ≤ R by rw [Nat.mul_comm]; exact hle)
              clear hv8 hpl hle
              go_wp2_with fail
              refine HC.out.mono ?_
              rintro e w9 ⟨rfl, rfl⟩
              go_wp2_with fail
              go_roundw
              case rel => exact ⟨M, h, hM2, hh, val_int HZ.out, rfl, HN1, HHI, B8⟩
              case measure => simp [intOf]; omega
            · have hc : ¬ cmpv (val ps) (val rs) ≤ 0 := by
                rw [hv8, HVR.out]; unfold cmpv; rw [if_neg (by omega), if_pos (by omega)]; omega
              have HN1 := hid (show R < (M - 1 + 1) * val ys by rw [Nat.sub_add_cancel (by omega), Nat.mul_comm]; omega)
              clear hv8 hpl hle
              go_wp2_with fail
              refine HC.out.mono ?_
              rintro e w9 ⟨rfl, rfl⟩
              go_wp2_with fail
              go_roundw
              case rel => exact ⟨l, M - 1, by omega, by omega, rfl, val_int (by have := HZ.out; omega), HLO, HN1, B8⟩
              case measure => simp [intOf]; omega
          · obtain rfl : l = h := by omega
            have hbe := hid (HB'.out.below B5.out (Nat.lt_of_lt_of_le (Nat.lt_succ_self _) HS.out))
            have HBE := hid (hbe.out.below HBQ.out (Nat.lt_of_lt_of_le (Nat.lt_of_lt_of_le (Nat.lt_succ_self _) HS.out) B5.out.size))
            clear hbe
            have cu := HBE.out.cell (i := k) (by rw [hul.out]; omega)
            have fu := HBE.out.free k
            have HT := hid (rtrim_lim ((Acc.oneSet wr ⟨w.heap.size, k, none⟩ (.int .i64 l) l l rfl).lim (Fits.single (show l < 10000 by omega))))
            have HBW7 := hid (((HB6.out.trans (HBQ.out.mono HB6.out.size)).setCell (p := ⟨w.heap.size, k, none⟩) (Nat.le_refl _) (.int .i64 l)).alloc (by rw [size_setCell]; exact Nat.le_trans HB6.out.size HBQ.out.size) (.cells #[.int .i64 (l : Int)] 3))
            have HL7 := hid (((HL6.out.below HBQ.out (Nat.le_refl _)).setCell (p := ⟨w.heap.size, k, none⟩) (Nat.lt_of_lt_of_le (Nat.lt_succ_self _) HS.out) (.int .i64 l)).below ((Below.refl _ _).alloc (Nat.le_refl _) (.cells #[.int .i64 (l : Int)] 3)) (Nat.le_refl _))
            have hbb := (HBE.out.set' k l l rfl).below ((Below.refl _ _).alloc (Nat.le_refl _) (.cells #[.int .i64 (l : Int)] 3)) (by rw [size_setCell]; exact Nat.lt_of_lt_of_le (Nat.lt_of_lt_of_le (Nat.lt_succ_self _) HS.out) (Nat.le_trans B5.out.size HBQ.out.size))
            have HBB := hid hbb
            clear hbb
            go_wp2_with fail
            generalize ((wr.setCell _ _).alloc _) = w7 at HT HBW7 HL7 HBB ⊢
            refine HT.out.mono ?_
            rintro e w8 ⟨v8, rfl, hL8, rfl⟩
            have HMU := hid (rmul_lim (HY.out.below HBW7.out (Nat.le_refl _)) hL8 (by rw [HM.out]; omega) (Nat.le_trans (by rw [length_trimL]; exact tlen_le _) (show 1 ≤ 1099511627776 by omega)))
            clear hL8 HT
            go_wp2_with fail
            refine HMU.out.mono ?_
            rintro e w9 ⟨v9, ps, rfl, hL9, hT9, hv9, hb9⟩
            rw [val_mid] at hv9
            have HVP := hid (show val ps = val ys * l from hv9)
            have HLE := hid (show val ps ≤ val rs by rw [hv9, HVR.out, Nat.mul_comm]; exact HLO.out)
            have HSU := hid (rsub_lim (HL7.out.below hb9 (Nat.le_refl _)) hL9 (by have := HRL.out; omega) hT9 HLE.out)
            have HB9 := hid hb9
            clear HMU hL9 hT9 hv9 hb9
            go_wp2_with fail
            refine HSU.out.mono ?_
            rintro e w10 ⟨v10, zz, rfl, hL10, hT10, hv10, hb10⟩
            have HV10 := hid (show val zz = R - val ys * l by rw [hv10, HVR.out, HVP.out])
            have HL10 := hid hL10
            have HT10 := hid hT10
            have HB10 := hid hb10
            clear hL10 hT10 hv10 hb10 HSU
            go_wp2_with fail
            go_roundw
            case rel =>
              refine ⟨k, zz, us.set k l, by omega, by go_num, HL10, HT10, hid ?_, hid ((HBB.out.below HB9.out HBB.out.lt).below HB10.out (Nat.lt_of_lt_of_le HBB.out.lt HB9.out.size)), hid (by rw [List.length_set]; exact hul.out), hfu.set _ _ (by omega), hid ?_,
                hid ((HBW7.out.trans (HB9.out.mono HBW7.out.size)).trans (HB10.out.mono (Nat.le_trans HBW7.out.size HB9.out.size))), hid (Nat.le_trans (Nat.le_trans HBB.out.lt HB9.out.size) HB10.out.size)⟩
              · rw [HV10.out]; exact rdiv_left HLO.out HHI.out
              · rw [HV10.out]; exact rdiv_step (by rw [HN.out]; omega) (by rw [hul.out]; omega) HI.out HR.out HLO.out
            case measure => simp [intOf] )

theorem rdiv_lim {w : World} {v u : Value} {xs ys : List Nat} (h1 : LimR w v xs) (h2 : LimR w u ys) (b1 : xs.length ≤ 1099511627700) (b2 : ys.length ≤ 1099511627700) (ty : Trim ys) (hy : 0 < val ys) :
    Calls Tryz.prog 86 #[v, u] w fun e w' => DivR w (val xs) (val ys) e w' := by
  have hn : 0 < ys.length := by
    apply Nat.pos_of_ne_zero
    intro h
    rw [List.length_eq_zero_iff.1 h] at hy
    simp [val_nil] at hy
  by_cases h : xs.length < ys.length
  · exact rdiv_short h1 h2 b1 b2 ty h
  · exact rdiv_long h1 h2 b1 b2 ty (ys.length - 1) (xs.length - (ys.length - 1)) (by omega) (by omega) (by omega)

end Go.Proofs.YtdifiimaifmcpaaGreatDoor

namespace Go.Proofs.YtdifiimaifmcpaaGreatDoor
open Go.RowKit
open Num (dg dg_lt dg_ge dg_zeros dg_take dg_drop dg_set_self dg_set_ne tl tlen tl_zero tl_skip tl_stop tl_le tlen_le trimL length_trimL tl_top drop_dg)
open Num4
set_option linter.unusedVariables false
set_option linter.unusedSimpArgs false

theorem small_step {zs : List Nat} {k r n : Nat} (hl : zs.length = k) (hI : val zs + r * B ^ k = n) : val (zs ++ [r % 10000]) + r / 10000 * B ^ (k + 1) = n := by
  rw [val_append, val_single, hl, Nat.mul_comm (B ^ k), Nat.pow_succ]
  have h := carry_split r (B ^ k)
  omega

theorem rtrim_snoc {zs : List Nat} {x : Nat} (hx : 0 < x) : Trim (zs ++ [x]) := by
  refine .inr ?_
  rw [List.length_append, List.length_singleton, Nat.add_sub_cancel]
  simp only [dg]
  rw [List.getElem?_append_right (Nat.le_refl _)]
  simpa using hx

set_option maxHeartbeats 1000000 in
theorem rsmall_lim (w : World) (n : Nat) (hn : n ≤ 1099511627776) :
    Calls Tryz.prog 60 #[.int .i64 n] w fun e w' => ∃ v' zs, e = .returned v' ∧ LimR w' v' zs ∧ Trim zs ∧ val zs = n ∧ zs.length ≤ n ∧ Below w.heap.size w w' := by
  obtain ⟨i0, hi, hz0, hz1, hz2⟩ := info_parts infoInt
  go_enter Tryz.func60, Tryz.ntmps60
  go_wp2_with fail
  go_loopw [0, 3] (fun q out wr => ∃ (k r : Nat) (zs : List Nat), q = .int .i64 r ∧ k + r ≤ n ∧ Hid (Acc wr w.heap.size out zs) ∧ Hid (zs.length = k) ∧ Fits zs ∧ Hid (r = 0 → Trim zs) ∧
      Hid (val zs + r * B ^ k = n) ∧ Hid (Below w.heap.size w wr)) (fun q _ _ => (intOf q).toNat)
  case atStart => exact ⟨0, n, [], rfl, by omega, Acc.nil _ _, rfl, Fits.nil, hid (fun _ => .inl rfl), hid (by simp [val_nil]), Below.refl _ _⟩
  case round =>
    obtain ⟨k, r, zs, rfl, hk, hA, hlen, hf, hT, hI, hbw⟩ := hrel
    by_cases hlt : 0 < r
    · go_wp2_with (at_builtin; refine wpList_push_int _ rfl _ _ 41 rfl i0 Tryz.underlying41 hi hz0 hz1 hz2 hA.out _ (r % 10000) ?cz rfl rfl hbw.out.size ?cl ?_)
      case cz => omega
      case cl => rw [hlen.out]; omega
      intro v' w4 hacc hb4
      have HACC := hid hacc
      have HB4 := hid (hbw.out.trans hb4)
      clear hacc hb4
      go_wp2_with fail
      go_roundw
      case rel =>
        exact ⟨k + 1, r / 10000, zs ++ [r % 10000], by go_num, by omega, HACC, hid (by rw [List.length_append, hlen.out]; rfl), hf.append (Fits.single (by omega)),
          hid (fun h => rtrim_snoc (by omega)), hid (small_step hlen.out hI.out), HB4⟩
      case measure => simp [intOf]; omega
    · obtain rfl : r = 0 := by omega
      have hv : val zs = n := by have h := hI.out; simpa using h
      have HV := hid hv
      clear hv
      go_wp2_with fail
      go_ret
      exact ⟨_, rfl, zs, hA.out.lim hf, hT.out trivial, HV.out, by rw [hlen.out]; omega, hbw.out⟩

end Go.Proofs.YtdifiimaifmcpaaGreatDoor

namespace Go.Proofs.YtdifiimaifmcpaaGreatDoor
open Go.RowKit
open Num (dg dg_lt dg_ge dg_zeros dg_take dg_drop dg_set_self dg_set_ne tl tlen tl_zero tl_skip tl_stop tl_le tlen_le trimL length_trimL tl_top drop_dg isDig isNat dval dtext dch toNat_dig isDig_dig)
open Num4
set_option linter.unusedVariables false
set_option linter.unusedSimpArgs false

/-- Four digits of a number below 10000. -/
def t4 (n : Nat) : List UInt8 := [dch (n / 1000), dch (n / 100 % 10), dch (n / 10 % 10), dch (n % 10)]
def txt4 (n : Nat) : ByteArray := ⟨(t4 n).toArray⟩

theorem dval_t4 {n : Nat} (h : n < 10000) : dval (t4 n) = n := by
  simp only [t4, dval, List.foldl_cons, List.foldl_nil]
  rw [toNat_dig (by omega), toNat_dig (by omega), toNat_dig (by omega), toNat_dig (by omega)]
  omega
theorem all_t4 {n : Nat} (h : n < 10000) : (t4 n).all isDig = true := by
  simp only [t4, List.all_cons, List.all_nil]
  rw [isDig_dig (by omega), isDig_dig (by omega), isDig_dig (by omega), isDig_dig (by omega)]
  rfl
theorem length_t4 (n : Nat) : (t4 n).length = 4 := rfl

set_option maxHeartbeats 1000000 in
set_option maxRecDepth 100000 in
theorem four_lim (w : World) (n : Nat) (hn : n < 10000) :
    Calls Tryz.prog 54 #[.int .i64 n] w fun e w' => e = .returned (.string (txt4 n)) ∧ Below w.heap.size w w' := by
  have hcv : (convert 124 9 (.slice (some ⟨w.heap.size, 0, none⟩) 4 4)).run Tryz.prog (w.alloc (.cells #[.int .u8 (48 + (n : Int) / 1000), .int .u8 (48 + (n : Int) / 100 % 10), .int .u8 (48 + (n : Int) / 10 % 10), .int .u8 (48 + (n : Int) % 10)] 5)) =
      .ok (.string (txt4 n)) (w.alloc (.cells #[.int .u8 (48 + (n : Int) / 1000), .int .u8 (48 + (n : Int) / 100 % 10), .int .u8 (48 + (n : Int) / 10 % 10), .int .u8 (48 + (n : Int) % 10)] 5)) := by
    refine run_convert_bytes_back _ _ _ _ ⟨w.heap.size, 0, none⟩ 4 (t4 n) Tryz.underlying124 Tryz.underlying5 Tryz.underlying9 (fun j hj => ?_)
    have hj4 : j < 4 := hj
    have e : ((⟨w.heap.size, 0, none⟩ : Addr).add j) = ⟨w.heap.size, j, none⟩ := by unfold Addr.add; split <;> simp_all
    rw [e]
    have k1 := toNat_dig (n := n / 1000) (by omega)
    have k2 := toNat_dig (n := n / 100 % 10) (by omega)
    have k3 := toNat_dig (n := n / 10 % 10) (by omega)
    have k4 := toNat_dig (n := n % 10) (by omega)
    match j, hj4 with
    | 0, _ => simp [t4, k1]
    | 1, _ => simp [t4, k2]
    | 2, _ => simp [t4, k3]
    | 3, _ => simp [t4, k4]
  go_enter Tryz.func54, Tryz.ntmps54
  go_wp2_with fail
  go_ret
  exact ⟨rfl, (Below.refl _ _).alloc (Nat.le_refl _) _⟩

/-- The digits of limbs, the greatest one first. -/
def rt4 : List Nat → List UInt8
  | [] => []
  | x :: xs => rt4 xs ++ t4 x
theorem dval_rt4 {xs : List Nat} (h : Fits xs) : dval (rt4 xs) = val xs := by
  induction xs with
  | nil => rfl
  | cons x xs ih =>
    rw [rt4, Num.dval_append, ih h.cons.2, dval_t4 h.cons.1, length_t4, val_cons, B_eq]
    omega
theorem all_rt4 {xs : List Nat} (h : Fits xs) : (rt4 xs).all isDig = true := by
  induction xs with
  | nil => rfl
  | cons x xs ih => rw [rt4, List.all_append, ih h.cons.2, all_t4 h.cons.1]; rfl
theorem length_rt4 (xs : List Nat) : (rt4 xs).length = 4 * xs.length := by
  induction xs with
  | nil => rfl
  | cons x xs ih => rw [rt4, List.length_append, ih, length_t4, List.length_cons]; omega

theorem str_cons4 (t : ByteArray) (h : 0 < t.size) : t.data.toList = t[0] :: t.data.toList.drop 1 := by
  have h1 : 0 < t.data.toList.length := by simpa using h
  have h2 := List.drop_eq_getElem_cons h1
  rw [List.drop_zero] at h2
  exact h2
theorem extract_one4 (t : ByteArray) : (t.extract 1 t.size).data.toList = t.data.toList.drop 1 := by
  rw [ByteArray.data_extract, Array.toList_extract, List.extract]
  rw [List.take_of_length_le]
  simp
theorem dval_lead {b : UInt8} {l : List UInt8} (h : (b.toNat : Int) = 48) : dval (b :: l) = dval l := by
  have e := Num.dval_append [b] l
  rw [List.singleton_append] at e
  rw [e]
  have : dval [b] = 0 := by simp [dval]; omega
  rw [this]; omega
theorem ret_str4 {s t : ByteArray} (h : s = t) : Ending.returned (.string s) = Ending.returned (.string t) := by rw [h]
theorem strip_end {t : ByteArray} {n : Nat} {b : UInt8} {l : List UInt8} (hc : t.data.toList = b :: l) (hb : ¬ (b.toNat : Int) = 48) (hd : dval t.data.toList = n) (ha : t.data.toList.all isDig = true) : t = ⟨(dtext n).toArray⟩ := by
  have h1 : isNat t.data.toList = true := by
    rw [Num.isNat_rest (by rw [hc]; simp) (.inl (by
      rw [hc]
      intro e
      simp only [List.head?_cons, Option.some.injEq] at e
      rw [e] at hb
      exact hb rfl))]
    exact ha
  have h2 := Num.dtext_dval h1
  rw [hd] at h2
  rw [h2]
def lenS : Value → Nat | .string s => s.size | _ => 0

set_option maxHeartbeats 2000000 in
set_option maxRecDepth 100000 in
theorem rtext_lim {w : World} {v : Value} {xs : List Nat} (h : LimR w v xs) (hn : xs.length ≤ 1099511627776) :
    Calls Tryz.prog 34 #[v] w fun e w' => e = .returned (.string ⟨(dtext (val xs)).toArray⟩) ∧ Below w.heap.size w w' := by
  obtain ⟨p, c, rfl, hfx, hc, hm, ha⟩ := limR_parts h
  have HA := hid (AddrR.at' ha rfl hc)
  clear ha h
  obtain ⟨n, hN⟩ : ∃ n, xs.length = n := ⟨_, rfl⟩
  rw [hN] at hc hn HA ⊢
  have HN := hid hN
  clear hN
  unfold maxLen at hm
  go_enter Tryz.func34, Tryz.ntmps34
  go_wp2_with fail
  go_loopw [3, 4] (fun s i wr => ∃ (t : ByteArray) (k : Nat), k ≤ n ∧ s = .string t ∧ i = .int .i64 ((k : Int) - 1) ∧ Hid (t.data.toList = rt4 (xs.drop k)) ∧ Hid (Below w.heap.size w wr)) (fun _ i _ => (intOf i + 1).toNat)
  case atStart => exact ⟨⟨#[]⟩, n, Nat.le_refl _, rfl, by go_num, hid (by rw [List.drop_of_length_le (by rw [HN.out]; exact Nat.le_refl _)]; rfl), Below.refl _ _⟩
  case round =>
    obtain ⟨t, k0, hk, rfl, rfl, ht, hbw⟩ := hrel
    rcases Nat.eq_zero_or_pos k0 with rfl | hk1
    · have h1 := ht.out
      rw [List.drop_zero] at h1
      have HS0 := hid (show t.size ≤ 4 * n by
        have h2 : t.data.toList.length = t.size := rfl
        rw [h1, length_rt4, HN.out] at h2; omega)
      have HD0 := hid (show dval t.data.toList = val xs by rw [h1, dval_rt4 hfx])
      have HA0 := hid (show t.data.toList.all isDig = true by rw [h1, all_rt4 hfx])
      clear h1 ht
      go_wp2_with fail
      go_loop [3] (fun s => ∃ t : ByteArray, s = .string t ∧ Hid (t.size ≤ 4 * n) ∧ Hid (dval t.data.toList = val xs) ∧ Hid (t.data.toList.all isDig = true)) (fun s => lenS s)
      case atStart => exact ⟨t, rfl, HS0, HD0, HA0⟩
      case round =>
        clear HS0 HD0 HA0
        obtain ⟨t, rfl, HS, HD, HAL⟩ := hrel
        have hts := HS.out
        have htl : t.toList = t.data.toList := ByteArray.toList_eq t
        by_cases h0 : t.size = 0
        · have he : t.data.toList = [] := List.length_eq_zero_iff.1 (by simpa using h0)
          have hn : t.toList = [] := htl.trans he
          have hz : val xs = 0 := by rw [← HD.out, he]; rfl
          have HZ := hid hz
          have hp : ¬ 0 < t.size := by omega
          clear he htl h0 hz
          go_wp2_with fail
          go_ret
          exact ⟨ret_str4 (by rw [HZ.out, Num.dtext_zero]), hbw.out⟩
        · have hpos : 0 < t.size := by omega
          have hne0 : t.data.toList ≠ [] := by intro e; have h2 : t.size = 0 := congrArg List.length e; omega
          have hne : ¬ t.toList = [] := by rw [htl]; exact hne0
          have hie : t.toList.isEmpty = false := by simpa using hne
          have HC := hid (str_cons4 t hpos)
          have HN0 := hid hne0
          clear hne0 htl h0
          by_cases h48 : (t[0].toNat : Int) = 48
          · go_wp2_with fail
            go_round
            case rel =>
              refine ⟨t.extract 1 t.size, rfl, hid ?_, hid ?_, hid ?_⟩
              · rw [ByteArray.size_extract]; omega
              · rw [extract_one4, ← HD.out, HC.out, List.drop_one, List.tail_cons, dval_lead h48]
              · rw [extract_one4]; exact Num.all_drop HAL.out 1
            case measure => simp [lenS]; omega
          · go_wp2_with fail
            go_ret
            exact ⟨ret_str4 (strip_end HC.out h48 HD.out HAL.out), hbw.out⟩
    · obtain ⟨k, rfl⟩ : ∃ k, k0 = k + 1 := ⟨k0 - 1, by omega⟩
      obtain ⟨b, o, rfl, hb1, cx⟩ := HA.out k (by omega)
      rw [← (hbw.out).cell (by exact hb1)] at cx
      have bx := hfx k
      have HF := hid (four_lim wr (dg xs k) bx)
      have hs4 : (txt4 (dg xs k)).size = 4 := rfl
      have hts : t.size ≤ 4398046511104 := by
        have h2 : t.data.toList.length = t.size := rfl
        rw [ht.out, length_rt4, List.length_drop, HN.out] at h2; omega
      go_wp2_with fail
      refine HF.out.mono ?_
      rintro e w2 ⟨rfl, hb2⟩
      have HB2 := hid (hbw.out.trans (hb2.mono hbw.out.size))
      clear hb2 HF
      go_wp2_with fail
      go_roundw
      case rel =>
        refine ⟨t ++ txt4 (dg xs k), k, by omega, rfl, by go_num, hid ?_, HB2⟩
        rw [drop_dg (l := xs) (by rw [HN.out]; omega), rt4, ← ht.out, ByteArray.data_append, Array.toList_append]
        rfl
      case measure => simp [intOf]

end Go.Proofs.YtdifiimaifmcpaaGreatDoor

namespace Go.Proofs.YtdifiimaifmcpaaGreatDoor
open Go.RowKit
open Num (dg dg_lt dg_ge dg_zeros dg_take dg_drop dg_set_self dg_set_ne tl tlen tl_zero tl_skip tl_stop tl_le tlen_le trimL length_trimL tl_top drop_dg isDig isNat dval dtext dch toNat_dig isDig_dig)
open Num4
set_option linter.unusedVariables false
set_option linter.unusedSimpArgs false

theorem below_then {K : Nat} {a b c : World} (h : Below K a b) (hK : K ≤ a.heap.size) (h2 : Below b.heap.size b c) : Below K a c := h.trans (h2.mono (Nat.le_trans hK h.size))

/-- A text that was read as a natural; what is wrong. -/
def NatRead (w : World) (s : ByteArray) (e : Ending) (w' : World) : Prop :=
  (isNat s.data.toList = true ∧ ∃ v xs, e = .returned (.tuple #[v, .int .i64 0]) ∧ LimR w' v xs ∧ Trim xs ∧ val xs = dval s.data.toList ∧ Below w.heap.size w w') ∨
  (isNat s.data.toList = false ∧ e = .returned (.tuple #[.slice none 0 0, .int .i64 1]) ∧ Below w.heap.size w w')

theorem pow10_le (k : Nat) : 10 ^ k ≤ B ^ k := Nat.pow_le_pow_left (by decide) k

set_option maxHeartbeats 4000000 in
set_option maxRecDepth 100000 in
theorem natof_some (s : ByteArray) (w : World) (hs : s.size ≤ 100) (hpos : 0 < s.size) (hl : ¬ (s[0].toNat : Int) = 48 ∨ ((s[0].toNat : Int) = 48 ∧ s.size = 1)) :
    Calls Tryz.prog 51 #[.string s] w (NatRead w s) := by
  have htl : s.toList = s.data.toList := ByteArray.toList_eq s
  have hne0 : s.data.toList ≠ [] := by intro e; have h2 : s.size = 0 := congrArg List.length e; omega
  have hne : ¬ s.toList = [] := by rw [htl]; exact hne0
  have hie : s.toList.isEmpty = false := by simpa using hne
  have hrest : isNat s.data.toList = s.data.toList.all isDig := by
    refine Num.isNat_rest hne0 ?_
    rcases hl with h | ⟨h, h1⟩
    · left
      rw [head_at s hpos]
      intro e
      exact h ((u8_eq (a := s[0]) (n := 48) (by omega)).1 (by simpa using e))
    · right
      rw [str_cons4 s hpos, (u8_eq (a := s[0]) (n := 48) (by omega)).2 h]
      have : s.data.toList.drop 1 = [] := List.drop_of_length_le (by show s.size ≤ 1; omega)
      rw [this]; rfl
  have HRE := hid hrest
  clear htl hne0 hrest
  rcases hl with h48 | ⟨h48, h1⟩ <;>
  ( go_enter Tryz.func51, Tryz.ntmps51
    go_wp2_with fail
    go_loopw [4, 5] (fun out i wr => ∃ (k : Nat) (xs : List Nat), k ≤ s.size ∧ i = .int .i64 k ∧ Hid (LimR wr out xs) ∧ Hid (Trim xs) ∧ Hid (val xs = dval (s.data.toList.take k)) ∧ Hid ((s.data.toList.take k).all isDig = true) ∧ Hid (Below w.heap.size w wr)) (fun _ i _ => s.size - (intOf i).toNat)
    case atStart => exact ⟨0, [], by omega, rfl, LimR.nil _, .inl rfl, hid rfl, hid rfl, Below.refl _ _⟩
    case round =>
      obtain ⟨k, xs, hk, rfl, HL, HT, HV, HA, HB⟩ := hrel
      by_cases hlt : k < s.size
      · by_cases hd : 48 ≤ (s[k].toNat : Int) ∧ (s[k].toNat : Int) ≤ 57
        · obtain ⟨hd1, hd2⟩ := hd
          have hxl : xs.length ≤ 100 := by
            refine Nat.le_trans (length_le_of_val HT.out k ?_) (by omega)
            rw [HV.out]
            refine Nat.lt_of_lt_of_le (Num.dval_lt HA.out) ?_
            rw [List.length_take]
            exact Nat.le_trans (Nat.pow_le_pow_right (by omega) (Nat.min_le_left _ _)) (pow10_le k)
          have MUL : ∀ w' vt, Below wr.heap.size wr w' → LimR w' vt [10] → Calls Tryz.prog 58 #[u4, vt] w' fun e w2 => ∃ v' zs, e = .returned v' ∧ LimR w2 v' zs ∧ zs.length ≤ 101 ∧ val zs = val xs * 10 ∧ Below w'.heap.size w' w2 := by
            intro w' vt hb ht
            refine (rmul_lim (HL.out.below hb (Nat.le_refl _)) ht (by omega) (by simp)).mono ?_
            rintro e w2 ⟨v', zs, rfl, h1, h2, h3, h4⟩
            rw [val_single] at h3
            refine ⟨v', zs, rfl, h1, length_le_of_val h2 101 ?_, h3, h4⟩
            rw [h3, Nat.pow_succ]
            refine Nat.mul_lt_mul'' ?_ (by decide)
            exact Nat.lt_of_lt_of_le (val_lt HL.out.1) (Nat.pow_le_pow_right B_pos hxl)
          have SMA : ∀ w', Calls Tryz.prog 60 #[.int .i64 (IntKind.i64.wrap (IntKind.u8.wrap ((s[k].toNat : Int) - 48)))] w' fun e w2 => ∃ v' zs, e = .returned v' ∧ LimR w2 v' zs ∧ zs.length ≤ 9 ∧ val zs = s[k].toNat - 48 ∧ Below w'.heap.size w' w2 := by
            intro w'
            have hw : IntKind.i64.wrap (IntKind.u8.wrap ((s[k].toNat : Int) - 48)) = ((s[k].toNat - 48 : Nat) : Int) := by
              rw [IntWalk.u8_in _ (by omega), IntWalk.i64_in _ (by omega)]
              omega
            rw [hw]
            refine (rsmall_lim w' (s[k].toNat - 48) (by omega)).mono ?_
            rintro e w2 ⟨v', zs, rfl, h1, h2, h3, h4, h5⟩
            exact ⟨v', zs, rfl, h1, by omega, h3, h5⟩
          have MUL := hid MUL
          have SMA := hid SMA
          have T10 := hid (show LimR (wr.alloc (.cells #[.int .i64 10] 3)).drew (.slice (some ⟨wr.heap.size, 0, none⟩) 1 1) [10] from (Acc.one wr (K := wr.heap.size) (Nat.le_refl _) 10 10 rfl).lim (Fits.single (show 10 < 10000 by omega)))
          have BA := hid (((Below.refl wr.heap.size wr).alloc (Nat.le_refl _) (.cells #[.int .i64 10] 3)).drew)
          go_wp2_with fail
          go_region_with (first
            | (go_at_call 58; refine (MUL.out _ _ ?hb ?ht).mono ?_; (case hb => exact BA.out); (case ht => exact T10.out); rintro e wM ⟨vM, zM, rfl, hLM, hlM, hvM, hbM⟩)
            | (go_at_call 60; refine (SMA.out _).mono ?_; rintro e wS ⟨vS, zS, rfl, hLS, hlS, hvS, hbS⟩)
            | (go_at_call 85; refine (radd_lim (hLM.below hbS (Nat.le_refl _)) hLS ?b1 ?b2).mono ?_; (case b1 => omega); (case b2 => omega); rintro e wA ⟨vA, zA, rfl, hLA, hTA, hvA, hbA⟩))
          all_goals
          ( have HLA := hid hLA
            have HTA := hid hTA
            have HVA := hid (show val zA = dval (s.data.toList.take (k + 1)) by rw [hvA, hvM, hvS, HV.out, take_snoc s k hlt, Num.dval_snoc, Nat.mul_comm])
            have HAA := hid (show (s.data.toList.take (k + 1)).all isDig = true by
              rw [take_snoc s k hlt, List.all_append, HA.out]
              simp [isDig]; omega)
            have B1 := below_then BA.out (Nat.le_refl _) hbM
            have B2 := below_then B1 (Nat.le_refl _) hbS
            have B3 := below_then B2 (Nat.le_refl _) hbA
            have HBB := hid (HB.out.trans (B3.mono HB.out.size))
            clear hLM hlM hvM hbM hLS hlS hvS hbS hLA hTA hvA hbA B1 B2 B3 BA T10 SMA MUL
            go_wp2_with fail
            go_roundw
            case rel => exact ⟨k + 1, zA, by omega, by go_num, HLA, HTA, HVA, HAA, HBB⟩
            case measure => simp [intOf]; omega )
        · have hf : isNat s.data.toList = false := by
            rw [HRE.out, List.all_eq_false]
            refine ⟨s[k], List.mem_of_getElem? (toList_at s k hlt), ?_⟩
            simp [isDig]; omega
          have HF := hid hf
          clear hf
          by_cases hlo : (s[k].toNat : Int) < 48
          · clear hd
            go_wp2_with fail
            go_ret2
            exact .inr ⟨HF.out, rfl, HB.out⟩
          · have hhi : (57 : Int) < (s[k].toNat : Int) := by omega
            clear hd
            go_wp2_with fail
            go_ret2
            exact .inr ⟨HF.out, rfl, HB.out⟩
      · obtain rfl : k = s.size := by omega
        have hall : (s.data.toList.take s.size) = s.data.toList := List.take_of_length_le (Nat.le_refl _)
        have HF := hid (show isNat s.data.toList = true by rw [HRE.out, ← hall]; exact HA.out)
        have HV2 := hid (show val xs = dval s.data.toList by rw [← hall]; exact HV.out)
        clear hall
        go_wp2_with fail
        go_ret2
        exact .inl ⟨HF.out, _, xs, rfl, HL.out, HT.out, HV2.out, HB.out⟩ )

theorem natof_good {s : ByteArray} (w : World) (hs : s.size ≤ 100) (hn : isNat s.data.toList = true) :
    Calls Tryz.prog 51 #[.string s] w fun e w' => ∃ v xs, e = .returned (.tuple #[v, .int .i64 0]) ∧ LimR w' v xs ∧ Trim xs ∧ val xs = dval s.data.toList ∧ Below w.heap.size w w' := by
  have hne : s.data.toList ≠ [] := Num.isNat_ne hn
  have hpos : 0 < s.size := List.length_pos_iff.2 hne
  refine (natof_some s w hs hpos ?_).mono ?_
  · by_cases h : (s[0].toNat : Int) = 48
    · right
      refine ⟨h, ?_⟩
      apply Classical.byContradiction
      intro hh
      have h1 : isNat s.data.toList = false := by
        refine Num.isNat_lead ?_ ?_
        · rw [head_at s hpos, (u8_eq (a := s[0]) (n := 48) (by omega)).2 h]; rfl
        · rw [beq_eq_false_iff_ne]
          intro e
          have h2 : s.size = 1 := congrArg List.length e
          exact hh h2
      rw [hn] at h1
      exact absurd h1 (by decide)
    · exact .inl h
  · rintro e w' (⟨_, h⟩ | ⟨h, _⟩)
    · exact h
    · rw [hn] at h; exact absurd h (by decide)

set_option maxHeartbeats 1000000 in
set_option maxRecDepth 100000 in
theorem natof_bad {s : ByteArray} {k : Int} (w : World) (h63 : s.size ≤ maxLen) (hk : (100 < s.size ∧ k = 4) ∨ (s.size ≤ 100 ∧ isNat s.data.toList = false ∧ k = 1)) :
    Calls Tryz.prog 51 #[.string s] w fun e w' => e = .returned (.tuple #[.slice none 0 0, .int .i64 k]) ∧ Below w.heap.size w w' := by
  unfold maxLen at h63
  rcases hk with ⟨h, rfl⟩ | ⟨hs, hn, rfl⟩
  · go_enter Tryz.func51, Tryz.ntmps51
    go_wp2_with fail
    go_ret2
    exact ⟨rfl, Below.refl _ _⟩
  · have htl : s.toList = s.data.toList := ByteArray.toList_eq s
    by_cases h0 : s.size = 0
    · have he : s.data.toList = [] := List.length_eq_zero_iff.1 (by simpa using h0)
      have he2 : s.toList = [] := htl.trans he
      clear he htl hn
      go_enter Tryz.func51, Tryz.ntmps51
      go_wp2_with fail
      go_ret2
      exact ⟨rfl, Below.refl _ _⟩
    · have hpos : 0 < s.size := by omega
      by_cases hl : ¬ (s[0].toNat : Int) = 48 ∨ ((s[0].toNat : Int) = 48 ∧ s.size = 1)
      · refine (natof_some s w hs hpos hl).mono ?_
        rintro e w' (⟨h, _⟩ | ⟨_, h⟩)
        · rw [hn] at h; exact absurd h (by decide)
        · exact h
      · have hne0 : s.data.toList ≠ [] := by intro e; have h2 : s.size = 0 := congrArg List.length e; omega
        have hne : ¬ s.toList = [] := by rw [htl]; exact hne0
        have hie : s.toList.isEmpty = false := by simpa using hne
        have h48 : (s[0].toNat : Int) = 48 := by
          apply Classical.byContradiction
          intro h; exact hl (.inl h)
        have h1 : 1 < s.size := by
          apply Classical.byContradiction
          intro h; exact hl (.inr ⟨h48, by omega⟩)
        clear hl htl hne0 hn
        go_enter Tryz.func51, Tryz.ntmps51
        go_wp2_with fail
        go_ret2
        exact ⟨rfl, Below.refl _ _⟩

end Go.Proofs.YtdifiimaifmcpaaGreatDoor
