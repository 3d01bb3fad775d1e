import Derived.Test.YtefpifcfnfkfoaaDoorRCmp
import Derived.Deep.RegionWith
namespace Go.Proofs.YtefpifcfnfkfoaaDoor
open Go.RowKit
open Num (dg dg_lt dg_ge dg_zeros dg_take dg_drop dg_set_self dg_set_ne tl tlen tl_zero tl_skip tl_stop tl_le tlen_le trimL length_trimL tl_top drop_dg)
open Num4
set_option linter.unusedVariables false
set_option linter.unusedSimpArgs false

/-- What was gathered by append, in memory of the call's own (from block K on). -/
def Acc (w : World) (K : Nat) (v : Value) (zs : List Nat) : Prop := w.ownsRow K 3 1 v zs.length (zs.map V1)
theorem Acc.nil (w : World) (K : Nat) : Acc w K (.slice none 0 0) [] := World.ownsRow_nil _ _ _ _
theorem Acc.lim {w : World} {K : Nat} {v : Value} {zs : List Nat} (h : Acc w K v zs) (hf : Fits zs) : LimR w v zs := by
  by_cases hz : zs = []
  · subst hz
    rcases h.2 with ⟨rfl, _⟩ | ⟨g, cap, cur, rfl, hK, h1, h2, h3, h4, h5⟩
    · exact LimR.nil _
    · exact ⟨Fits.nil, _, cap, rfl, by simp, h3, .inr ⟨g, 0, rfl, (Array.getElem?_eq_some_iff.1 h1).1, fun i hi => by simp at hi⟩⟩
  · obtain ⟨b, c, rfl, hK, hR, hn, hm⟩ := RowR.ofOwnsK (kd := .i64) h (List.length_pos_iff.2 hz)
    exact ⟨hf, _, c, rfl, hn, hm, .inr ⟨b, 0, rfl, hR.lt, fun i hi => by rw [Nat.zero_add]; exact hR.cell hi⟩⟩

/-- One number is appended. -/
theorem wpList_push_int {P : Program} (w : World) {ops : Array Oper} {rest : List Oper} {o : Oper} {a : Act} {Q : Exit → Act → World → Prop}
    (hg : o.guard = none) (s x : Operand) (t : TypeId) (hop : o.op = Op.call { callee := Callee.builtin Builtin.append, args := #[s, x], argTypes := #[t, t] })
    (i : TypeInfo) (h1 : P.underlying t = some (.slice 3)) (h2 : P.info? 3 = some i) (h3 : i.zero = some (.int .i64 0)) (h4 : i.size = 1) (h5 : i.bytes = 8)
    {K : Nat} {v : Value} {zs : List Nat} (hacc : Acc w K v zs) (z : Int) (zn : Nat) (hz : z = (zn : Int)) (hs : a.eval s = v) (hx : a.eval x = .slice (some ⟨w.heap.size, 0, none⟩) 1 1)
    (hK : K ≤ w.heap.size) (hlen : zs.length ≤ 1099511627776)
    (hk : ∀ v' w', Acc w' K v' (zs ++ [zn]) → Below K w w' → wpList P ops Q rest (a.put o.dst v') w') :
    wpList P ops Q (o :: rest) a (w.alloc (.cells #[.int .i64 z] 3)) := by
  subst hz
  refine wpList_append_own _ hg s x t hop K 3 i (.int .i64 0) 1 8 h1 h2 h3 h4 h5 rfl (by decide) v zs.length (zs.map V1) hs (World.ownsRow.alloc hacc _) ⟨w.heap.size, 0, none⟩ 1 1 [.int .i64 zn] hx rfl ?_ ?_ ?_ ?_ ?_ ?_
  · intro j u hj
    match j, hj with
    | 0, hj => simp at hj; subst hj; simp [Addr.add]
  · intro u hu; simp at hu; subst hu; rfl
  · unfold maxLen; omega
  · omega
  · simp; omega
  · intro v' w' hown' hgrow _
    refine hk v' w' ?_ ?_
    · show w'.ownsRow K 3 1 v' (zs ++ [zn]).length ((zs ++ [zn]).map V1)
      rw [List.map_append, List.length_append]; exact hown'
    · exact ((Below.refl _ _).alloc hK _).grown hgrow (by simp; omega) (fun k hk => (World.ownsRow.lt hacc k hk).1)

theorem append_step {xs ys zs : List Nat} {k c s : Nat} (hl : zs.length = k) (hI : val zs + c * B ^ k = val (xs.take k) + val (ys.take k)) (hs : s = dg xs k + dg ys k + c) :
    val (zs ++ [s % 10000]) + s / 10000 * B ^ (k + 1) = val (xs.take (k + 1)) + val (ys.take (k + 1)) := by
  rw [val_append, val_single, hl, val_take_succ xs, val_take_succ ys, Nat.mul_comm (B ^ k)]
  have h := carry_split s (B ^ k)
  rw [Nat.pow_succ]
  subst hs
  rw [Nat.add_mul, Nat.add_mul] at h
  omega

set_option maxHeartbeats 1000000 in
set_option maxRecDepth 100000 in
theorem radd_lim {w : World} {v u : Value} {xs ys : List Nat} (h1 : LimR w v xs) (h2 : LimR w u ys) (b1 : xs.length ≤ 1099511627776) (b2 : ys.length ≤ 1099511627776) :
    Calls Tryd.prog 10 #[v, u] w fun e w' => ∃ v' zs, e = .returned v' ∧ LimR w' v' zs ∧ Trim zs ∧ val zs = val xs + val ys ∧ Below w.heap.size w w' := by
  obtain ⟨i0, hi, hz0, hz1, hz2⟩ := info_parts infoInt
  have HX := hid h1
  have HY := hid h2
  obtain ⟨p, c, rfl, hfx, hc, hm, ha⟩ := limR_parts h1
  obtain ⟨q, d, rfl, hfy, hd, hm2, ha2⟩ := limR_parts h2
  clear h1 h2 ha ha2
  obtain ⟨n, hn⟩ : ∃ n, xs.length = n := ⟨_, rfl⟩
  obtain ⟨m, hmm⟩ : ∃ m, ys.length = m := ⟨_, rfl⟩
  rw [hn] at hc b1 HX ⊢
  rw [hmm] at hd b2 HY ⊢
  have HN := hid hn
  have HM := hid hmm
  clear hn hmm
  obtain ⟨l, hl1, hl2, hl3⟩ : ∃ l : Nat, n ≤ l ∧ m ≤ l ∧ ((m ≤ n ∧ l = n) ∨ (n < m ∧ l = m)) := by
    by_cases h : m ≤ n
    · exact ⟨n, Nat.le_refl _, h, .inl ⟨h, rfl⟩⟩
    · exact ⟨m, by omega, Nat.le_refl _, .inr ⟨by omega, rfl⟩⟩
  unfold maxLen at hm hm2
  rcases hl3 with ⟨hx, hl⟩ | ⟨hx, hl⟩ <;>
  ( subst hl
    go_enter Tryd.func10, Tryd.ntmps10
    go_wp2_with fail
    go_loopw [5, 6, 7] (fun out cy i wr => ∃ (k c0 : Nat) (zs : List Nat), k ≤ l ∧ i = .int .i64 k ∧ cy = .int .i64 c0 ∧ c0 ≤ 1 ∧ Hid (Acc wr w.heap.size out zs) ∧ Hid (zs.length = k) ∧ Fits zs ∧
        Hid (val zs + c0 * B ^ k = val (xs.take k) + val (ys.take k)) ∧ Hid (Below w.heap.size w wr)) (fun _ _ i _ => l - (intOf i).toNat)
    case atStart => exact ⟨0, 0, [], by omega, rfl, rfl, by omega, Acc.nil _ _, rfl, Fits.nil, hid (by simp [val_nil]), Below.refl _ _⟩
    case round =>
      obtain ⟨k, c0, zs, hk, rfl, rfl, hc0, hA, hlen, hf, hI, hbw⟩ := hrel
      by_cases hlt : k < l
      · have C1 := hid (digit_lim (HX.out.below hbw.out (Nat.le_refl _)) k (by omega))
        have C2 := hid (digit_lim (HY.out.below hbw.out (Nat.le_refl _)) k (by omega))
        have bx := hfx k
        have bY := hfy k
        go_wp2_with fail
        refine C1.out.mono ?_
        rintro e w' ⟨rfl, rfl⟩
        go_wp2_with fail
        refine C2.out.mono ?_
        rintro e w' ⟨rfl, rfl⟩
        go_wp2_with (at_builtin; refine wpList_push_int _ rfl _ _ 24 rfl i0 Tryd.underlying24 hi hz0 hz1 hz2 hA.out _ ((dg xs k + dg ys k + c0) % 10000) ?cz rfl rfl hbw.out.size ?cl ?_)
        case cz => omega
        case cl => rw [hlen.out]; omega
        intro v' w4 hacc hb4
        have HACC := hid hacc
        have HB4 := hid (hbw.out.trans hb4)
        clear hacc hb4
        go_wp2_with fail
        go_roundw
        case rel =>
          exact ⟨k + 1, (dg xs k + dg ys k + c0) / 10000, zs ++ [(dg xs k + dg ys k + c0) % 10000], by omega, by go_num, val_int (by omega), by omega, HACC, hid (by rw [List.length_append, hlen.out]; rfl),
            hf.append (Fits.single (by omega)), hid (append_step hlen.out hI.out rfl), HB4⟩
        case measure => simp [intOf]; omega
      · obtain rfl : k = l := by omega
        have hv : val (zs ++ [c0]) = val xs + val ys := by
          have h := hI.out
          rw [val_take_all xs _ (by rw [HN.out]; exact hl1), val_take_all ys _ (by rw [HM.out]; exact hl2)] at h
          rw [val_append, val_single, hlen.out, Nat.mul_comm]
          exact h
        have HV := hid hv
        clear hv hlt hk
        go_wp2_with (at_builtin; refine wpList_push_int _ rfl _ _ 24 rfl i0 Tryd.underlying24 hi hz0 hz1 hz2 hA.out _ c0 ?cz2 rfl rfl hbw.out.size ?cl2 ?_)
        case cz2 => rfl
        case cl2 => rw [hlen.out]; omega
        intro v' w4 hacc hb4
        have HL := hid (rtrim_lim (hacc.lim (hf.append (Fits.single (show c0 < 10000 by omega)))))
        have HB4 := hid (hbw.out.trans hb4)
        clear hacc hb4
        go_wp2_with fail
        refine HL.out.mono ?_
        rintro e w5 ⟨v5, rfl, hL5, rfl⟩
        go_wp2_with fail
        go_ret
        exact ⟨v5, _, rfl, hL5, trim_trimL _, by rw [val_trimL]; exact HV.out, HB4.out⟩ )

end Go.Proofs.YtefpifcfnfkfoaaDoor
