import Derived.Test.YtjeeepcnaaadmaaLong
namespace Go.Proofs.Ytjeeepcnaaadmaa
open Go.RowKit
open Num
set_option linter.unusedVariables false
set_option maxRecDepth 100000
set_option linter.unusedSimpArgs false

/-- What a division leaves. -/
def Divided (w : World) (a b : Nat) (e : Ending) (w' : World) : Prop :=
  ∃ u v qs rs, e = .returned (.tuple #[u, v, .nilIface]) ∧ Lim w' u qs ∧ Lim w' v rs ∧ Trim qs ∧ Trim rs ∧ val qs = a / b ∧ val rs = a % b ∧ Below w.heap.size w w'

set_option maxHeartbeats 1000000 in
theorem div_zero (p q : Option Addr) (c d n0 m0 n : Nat) (w : World)
    (T1 : Calls Try.prog 91 #[.slice p n0 c] w fun e w' => e = .returned (.slice p n c) ∧ w = w')
    (T2 : Calls Try.prog 91 #[.slice q m0 d] w fun e w' => e = .returned (.slice q 0 d) ∧ w = w') :
    Calls Try.prog 89 #[.slice p n0 c, .slice q m0 d] w fun e w' => e = .returned (.tuple #[.slice none 0 0, .slice none 0 0, errno 5]) ∧ w = w' := by
  have HT1 := hid T1
  have HT2 := hid T2
  clear T1 T2
  go_enter Try.func89, Try.ntmps89
  go_wp2_with fail
  refine HT1.out.mono ?_
  rintro e w' ⟨rfl, rfl⟩
  go_wp2_with fail
  refine HT2.out.mono ?_
  rintro e w' ⟨rfl, rfl⟩
  go_wp2_with fail
  go_ret3
  exact ⟨rfl, rfl⟩

set_option maxHeartbeats 2000000 in
set_option maxRecDepth 100000 in
theorem div_core (p q : Option Addr) (c d n0 m0 n m : Nat) (xs ys : List Nat) (w : World) (hx : Lim w (.slice p n c) xs) (hy : Lim w (.slice q m d) ys) (hn : xs.length = n) (hm : ys.length = m) (tx : Trim xs) (ty : Trim ys) (hbig : n ≤ 1099511627776) (hbig2 : m ≤ 1099511627776) (hm0 : 0 < m)
    (T1 : Calls Try.prog 91 #[.slice p n0 c] w fun e w' => e = .returned (.slice p n c) ∧ w = w')
    (T2 : Calls Try.prog 91 #[.slice q m0 d] w fun e w' => e = .returned (.slice q m d) ∧ w = w') :
    Calls Try.prog 89 #[.slice p n0 c, .slice q m0 d] w fun e w' => Divided w (val xs) (val ys) e w' := by
  have HT1 := hid T1
  have HT2 := hid T2
  have HX := hid hx
  have HY := hid hy
  have HN := hid hn
  have HM := hid hm
  have HTX := hid tx
  have HTY := hid ty
  have hb0 : ((m : Int) == 0) = false := by rw [beq_eq_false_iff_ne]; omega
  have hl := less_lim hx hy
  clear T1 T2 hx hy hn hm tx ty
  have hypos : 0 < val ys := by
    apply Nat.pos_of_ne_zero
    intro e
    have := (HTY.out.zero_iff).1 e
    have h2 := HM.out
    rw [this] at h2
    simp at h2
    omega
  by_cases hlt : val xs < val ys
  · rw [decide_eq_true hlt] at hl
    have HL := hid hl
    have e1 := Nat.div_eq_of_lt hlt
    have e2 := Nat.mod_eq_of_lt hlt
    have E1 := hid e1
    have E2 := hid e2
    clear hl e1 e2
    go_enter Try.func89, Try.ntmps89
    go_wp2_with fail
    refine HT1.out.mono ?_
    rintro e w' ⟨rfl, rfl⟩
    go_wp2_with fail
    refine HT2.out.mono ?_
    rintro e w' ⟨rfl, rfl⟩
    go_wp2_with fail
    refine HL.out.mono ?_
    rintro e w' ⟨rfl, nd, rfl⟩
    have HC := hid (clone_lim (w := w.drewN nd) (v := .slice p n c) (xs := xs) HX.out (by rw [HN.out]; exact hbig))
    go_wp2_with fail
    refine HC.out.mono ?_
    rintro e w2 ⟨v, rfl, hL, _, hb2⟩
    have B2 := hid (show Below w.heap.size w w2 from (below_drewN (Below.refl _ _) nd).trans hb2)
    clear hb2 HC
    go_wp2_with fail
    go_ret3
    exact ⟨.slice none 0 0, v, [], xs, rfl, Lim.nil _, hL, .inl rfl, HTX.out, by rw [E1.out]; rfl, E2.out.symm, B2.out⟩
  · rw [decide_eq_false hlt] at hl
    have HL := hid hl
    clear hl
    have hxs : xs ≠ [] := by
      intro e
      rw [e, val_nil] at hlt
      omega
    have HXS := hid hxs
    clear hxs
    by_cases hm1 : m = 1
    · subst hm1
      obtain ⟨q0, d0, e0, hfy, hdm, hdd, hb⟩ := lim_parts HY.out
      obtain ⟨rfl, rfl⟩ : q = q0 ∧ d = d0 := by simp at e0; exact ⟨e0.1, e0.2.2⟩
      obtain ⟨b2, o2, rfl, hb2, hyc⟩ := AddrOk.at' hb HM.out.symm (by rw [← HM.out]; exact hdm) 0 (by omega)
      have hyv : val ys = dg ys 0 := by
        have := val_take_succ ys 0
        rw [List.take_of_length_le (by rw [HM.out]; exact Nat.le_refl _)] at this
        simpa [val_nil] using this
      have hd0 := hfy 0
      have hd1 : 0 < dg ys 0 := by omega
      have HYV := hid hyv
      rw [Nat.add_zero] at hyc
      clear hyv hb e0 hdm
      unfold maxLen at hdd
      go_enter Try.func89, Try.ntmps89
      go_wp2_with fail
      refine HT1.out.mono ?_
      rintro e w' ⟨rfl, rfl⟩
      go_wp2_with fail
      refine HT2.out.mono ?_
      rintro e w' ⟨rfl, rfl⟩
      go_wp2_with fail
      refine HL.out.mono ?_
      rintro e w' ⟨rfl, nd, rfl⟩
      have HC := hid (clone_lim (w := w.drewN nd) (v := .slice p n c) (xs := xs) HX.out (by rw [HN.out]; exact hbig))
      go_wp2_with fail
      refine HC.out.mono ?_
      rintro e w2 ⟨v, rfl, _, hO, hbw⟩
      obtain ⟨hfx, b, c2, rfl, hK, hR, hnc, hmax⟩ := hO HXS.out
      have B2 := hid (show Below w.heap.size w w2 from (below_drewN (Below.refl _ _) nd).trans hbw)
      rw [HN.out] at hnc ⊢
      have cy : w2.cell? ⟨b2, o2, none⟩ = some (.int .u32 (dg ys 0)) := by rw [B2.out.cell (by exact hb2)]; exact hyc
      have HS := hid (shrink_own 0 b n c2 (dg ys 0) xs w2 hR HN.out hfx hnc hmax hbig hd1 hd0)
      clear hbw HC hR hO
      unfold maxLen at hmax
      go_wp2_with fail
      refine HS.out.mono ?_
      rintro e w3 ⟨r, zs, rfl, hr, hR3, hf3, hl3, hv3, hg3⟩
      have HR3 := hid hR3
      have HV3 := hid hv3
      have HL3 := hid hl3
      have hb3 : b < w3.heap.size := hR3.lt
      have B3 := hid (B2.out.grown hg3 B2.out.size (fun k hk => by simp at hk; subst hk; exact hK))
      clear hR3 hv3 hl3 hg3 HS
      have r1 : val zs = val xs / val ys := by
        rw [← HV3.out, HYV.out, Nat.mul_comm, Nat.mul_add_div hd1, Nat.div_eq_of_lt hr, Nat.add_zero]
      have r2 : r = val xs % val ys := by
        rw [← HV3.out, HYV.out, Nat.mul_comm, Nat.mul_add_mod, Nat.mod_eq_of_lt hr]
      have hB4 := Blk.new w3 [r]
      have hb4 : Below w3.heap.size w3 (w3.alloc (.cells (cellsOf [r]) 108)) := (Below.refl _ _).alloc (Nat.le_refl _) _
      have hO3 : Own w3 0 (.slice (some ⟨b, 0, none⟩) n c2) zs := ⟨hf3, b, c2, by rw [HL3.out], Nat.zero_le _, HR3.out, by rw [HL3.out]; exact hnc, by unfold maxLen; omega⟩
      have HLZ := hid (trim_lim (hO3.lim.below hb4 (Nat.le_refl _)))
      have HLR := hid (trim_lim (hB4.lim (Fits.single (show r < 4294967296 by omega)) 0 1 1 (by simp) (Nat.le_refl _) (by unfold maxLen; omega)))
      have B4 := hid (B3.out.trans (hb4.mono B3.out.size))
      have R1 := hid r1
      have R2 := hid r2
      clear r1 r2 hO3 hB4 hb4
      go_wp2_with fail
      refine HLZ.out.mono ?_
      rintro e w5 ⟨v1, rfl, hL1, rfl⟩
      go_wp2_with fail
      refine HLR.out.mono ?_
      rintro e w5 ⟨v2, rfl, hL2, rfl⟩
      go_wp2_with fail
      go_ret3
      exact ⟨v1, v2, _, _, rfl, hL1, hL2, trim_trimL _, trim_trimL _, by rw [val_trimL]; exact R1.out, by rw [val_trimL, ← R2.out]; exact val_single r, B4.out⟩
    · have hm2 : 2 ≤ m := by omega
      have hmn : m ≤ n := by
        apply Classical.byContradiction
        intro hh
        have := lt_of_length (x := xs) (y := ys) HX.out.1 HTY.out (by rw [HN.out, HM.out]; omega)
        omega
      have hb1 : ((m : Int) == 1) = false := by rw [beq_eq_false_iff_ne]; omega
      have hp0 := Nat.zero_lt_of_lt hm0
      go_enter Try.func89, Try.ntmps89
      go_wp2_with fail
      refine HT1.out.mono ?_
      rintro e w' ⟨rfl, rfl⟩
      go_wp2_with fail
      refine HT2.out.mono ?_
      rintro e w' ⟨rfl, rfl⟩
      go_wp2_with fail
      refine HL.out.mono ?_
      rintro e w' ⟨rfl, nd, rfl⟩
      have HC := hid (long_core (w := w.drewN nd) (p := p) (q := q) (c := c) (d := d) HX.out HY.out HN.out HM.out hm2 hmn hbig HTY.out (by omega))
      go_wp2_with fail
      refine HC.out.mono ?_
      rintro e w2 ⟨u, v, qs, rs, rfl, hu, hv, tq, tr, eq, er, hb2⟩
      have B2 := hid (show Below w.heap.size w w2 from (below_drewN (Below.refl _ _) nd).trans hb2)
      have E1 := hid eq
      have E2 := hid er
      have TQ := hid tq
      have TR := hid tr
      clear eq er hb2 HC tq tr
      go_wp2_with fail
      go_ret3
      exact ⟨u, v, qs, rs, rfl, hu, hv, TQ.out, TR.out, E1.out, E2.out, B2.out⟩

/-- Div tells how often, and what is left. -/
theorem div_lim {w : World} {v u : Value} {xs ys : List Nat} (h1 : Lim w v xs) (h2 : Lim w u ys) (b1 : xs.length ≤ 1099511627776) (b2 : ys.length ≤ 1099511627776) (hy : 0 < val ys) :
    Calls Try.prog 89 #[v, u] w fun e w' => Divided w (val xs) (val ys) e w' := by
  obtain ⟨p, c, rfl, hf, hc, hm, ha⟩ := lim_parts h1
  obtain ⟨q, d, rfl, hf2, hd, hm2, ha2⟩ := lim_parts h2
  have lx := tlen_le xs
  have ly := tlen_le ys
  have h := div_core p q c d xs.length ys.length (tlen xs) (tlen ys) (trimL xs) (trimL ys) w (lim_cut hf hc hm ha) (lim_cut hf2 hd hm2 ha2) (length_trimL xs) (length_trimL ys) (trim_trimL _) (trim_trimL _) (by omega) (by omega)
    (by
      apply Nat.pos_of_ne_zero
      intro e
      have h3 : trimL ys = [] := List.length_eq_zero_iff.1 (by rw [length_trimL]; exact e)
      have h4 := val_trimL ys
      rw [h3, val_nil] at h4
      omega)
    (trim_any p c xs w hf hc hm ha) (trim_any q d ys w hf2 hd hm2 ha2)
  rw [val_trimL, val_trimL] at h
  exact h

theorem div_lim_zero {w : World} {v u : Value} {xs ys : List Nat} (h1 : Lim w v xs) (h2 : Lim w u ys) (hy : val ys = 0) :
    Calls Try.prog 89 #[v, u] w fun e w' => e = .returned (.tuple #[.slice none 0 0, .slice none 0 0, errno 5]) ∧ w = w' := by
  obtain ⟨p, c, rfl, hf, hc, hm, ha⟩ := lim_parts h1
  obtain ⟨q, d, rfl, hf2, hd, hm2, ha2⟩ := lim_parts h2
  have h0 : tlen ys = 0 := by
    have h4 := (trim_trimL ys).zero_iff.1 (by rw [val_trimL]; exact hy)
    rw [← length_trimL, h4]; rfl
  have hT := trim_any q d ys w hf2 hd hm2 ha2
  rw [h0] at hT
  exact div_zero p q c d xs.length ys.length (tlen xs) w (trim_any p c xs w hf hc hm ha) hT

end Go.Proofs.Ytjeeepcnaaadmaa

