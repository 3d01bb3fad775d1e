import Derived.Test.YtjeeepcnaaadmaaTrim
namespace Go.Proofs.Ytjeeepcnaaadmaa
open Go.RowKit
open Num
set_option linter.unusedVariables false
set_option linter.unusedSimpArgs false

set_option maxHeartbeats 400000 in
theorem less_core (p q : Option Addr) (c d n0 m0 n m : Nat) (xs ys : List Nat) (w : World) (hx : Fits xs) (hy : Fits ys) (hcn : n ≤ c) (hdm : m ≤ d) (hn : n = xs.length) (hm : m = ys.length)
    (hc : c ≤ maxLen) (hd : d ≤ maxLen) (ha : AddrOk w p c xs) (hb : AddrOk w q d ys) (tx : Trim xs) (ty : Trim ys)
    (T1 : Calls Try.prog 91 #[.slice p n0 c] w fun e w' => e = .returned (.slice p n c) ∧ w = w')
    (T2 : Calls Try.prog 91 #[.slice q m0 d] w fun e w' => e = .returned (.slice q m d) ∧ w = w') (lt : Bool) (hlt : lt = decide (val xs < val ys)) :
    Calls Try.prog 86 #[.slice p n0 c, .slice q m0 d] w fun e w' => e = .returned (.bool lt) ∧ ∃ k, w' = w.drewN k := by
  have HT1 := hid T1
  have HT2 := hid T2
  have Hn := hid hn
  have Hm := hid hm
  have Hlt := hid hlt
  clear hn hm T1 T2 hlt
  unfold maxLen at hc hd
  have A1 : ∀ k, k < n → ∃ b off, p = some ⟨b, off, none⟩ ∧ w.cell? ⟨b, off + k, none⟩ = some (.int .u32 (dg xs k)) := by
    intro k hk
    rcases ha with ⟨_, h⟩ | ⟨b, off, h1, h2, h3⟩
    · omega
    · exact ⟨b, off, h1, h3 k (by rw [← Hn.out]; exact hk)⟩
  have A2 : ∀ k, k < m → ∃ b off, q = some ⟨b, off, none⟩ ∧ w.cell? ⟨b, off + k, none⟩ = some (.int .u32 (dg ys k)) := by
    intro k hk
    rcases hb with ⟨_, h⟩ | ⟨b, off, h1, h2, h3⟩
    · omega
    · exact ⟨b, off, h1, h3 k (by rw [← Hm.out]; exact hk)⟩
  have HA1 := hid A1
  have HA2 := hid A2
  clear A1 A2 ha hb
  by_cases hnm : n = m
  · subst hnm
    go_enter Try.func86, Try.ntmps86
    go_wp2_with fail
    refine HT1.out.mono ?_
    rintro e w' ⟨rfl, rfl⟩
    go_wp2_with fail
    refine HT2.out.mono ?_
    rintro e w' ⟨rfl, rfl⟩
    go_wp2
    go_loopw [5] (fun i wr => ∃ z : Int, -1 ≤ z ∧ z < n ∧ i = .int .i64 z ∧ Hid (xs.drop (z + 1).toNat = ys.drop (z + 1).toNat) ∧ ∃ j, wr = w.drewN j) (fun i _ => (intOf i + 1).toNat)
    case atStart =>
      refine ⟨(n : Int) - 1, by omega, by omega, rfl, ?_, 0, rfl⟩
      show _ = _
      rw [show ((n : Int) - 1 + 1).toNat = n by omega, List.drop_of_length_le (by rw [← Hn.out]; exact Nat.le_refl _), List.drop_of_length_le (by rw [← Hm.out]; exact Nat.le_refl _)]
    case round =>
      obtain ⟨z, hz1, hz2, rfl, hdr, j, rfl⟩ := hrel
      by_cases h0 : z = -1
      · subst h0
        have e : xs = ys := hdr.out
        have HE := hid e
        clear e
        go_wp2
        go_ret
        exact ⟨by rw [Hlt.out, HE.out]; simp, j, rfl⟩
      · obtain ⟨k, rfl⟩ := Int.eq_ofNat_of_zero_le (show 0 ≤ z by omega)
        obtain ⟨b1, o1, rfl, c1⟩ := HA1.out k (by omega)
        obtain ⟨b2, o2, rfl, c2⟩ := HA2.out k (by omega)
        by_cases heq : dg xs k = dg ys k
        · rw [heq] at c1
          have HE := hid heq
          clear heq
          go_wp2
          go_quiet (fail)
          go_wp2
          go_roundw
          case rel =>
            refine ⟨(k : Int) - 1, by omega, by omega, by go_num, ?_, _, rfl⟩
            show _ = _
            rw [show ((k : Int) - 1 + 1).toNat = k by omega]
            have hd1 := hdr.out
            rw [show ((k : Int) + 1).toNat = k + 1 by omega] at hd1
            rw [drop_dg (by rw [← Hn.out]; omega), drop_dg (l := ys) (by rw [← Hm.out]; omega), HE.out, hd1]
          case measure => simp [intOf]
        · have hd1 := hdr.out
          rw [show ((k : Int) + 1).toNat = k + 1 by omega] at hd1
          have hr : decide (val xs < val ys) = decide (dg xs k < dg ys k) := by
            rw [decide_eq_decide]
            exact val_lt_of_top hx hy hd1 (by rw [← Hn.out]; omega) (by rw [← Hm.out]; omega) heq
          have HR := hid hr
          clear hr hd1
          have hb1 : ((dg xs k : Int) != (dg ys k : Int)) = true := by rw [bne_iff_ne]; omega
          go_wp2
          go_quiet (fail)
          go_wp2
          go_quiet (fail)
          go_wp2
          go_ret
          exact ⟨by rw [Hlt.out, HR.out]; simp, _, by simp only [World.drewN_drewN]; rfl⟩
  · have hr : decide (val xs < val ys) = decide (n < m) := by
      rw [decide_eq_decide, Hn.out, Hm.out]
      constructor
      · intro h
        apply Classical.byContradiction
        intro hh
        have := lt_of_length (x := ys) (y := xs) hy tx (by have := Hn.out; have := Hm.out; omega)
        omega
      · intro h
        exact lt_of_length hx ty h
    have HR := hid hr
    clear hr
    have hb1 : ((n : Int) != (m : Int)) = true := by rw [bne_iff_ne]; omega
    go_enter Try.func86, Try.ntmps86
    go_wp2_with fail
    refine HT1.out.mono ?_
    rintro e w' ⟨rfl, rfl⟩
    go_wp2_with fail
    refine HT2.out.mono ?_
    rintro e w' ⟨rfl, rfl⟩
    go_wp2
    go_ret
    exact ⟨ret_bool (by rw [Hlt.out, HR.out]), 0, rfl⟩

/-- Less tells which number is less; nothing in memory changes. -/
theorem less_lim {w : World} {v u : Value} {xs ys : List Nat} (h1 : Lim w v xs) (h2 : Lim w u ys) :
    Calls Try.prog 86 #[v, u] w fun e w' => e = .returned (.bool (decide (val xs < val ys))) ∧ ∃ k, w' = w.drewN k := by
  obtain ⟨hf, p, c, rfl, hc, hm, ha⟩ := h1
  obtain ⟨hf2, q, d, rfl, hd, hm2, ha2⟩ := h2
  have lx := tlen_le xs
  have ly := tlen_le ys
  exact less_core p q c d xs.length ys.length (tlen xs) (tlen ys) (trimL xs) (trimL ys) w (fits_trimL hf) (fits_trimL hf2) (by omega) (by omega) (length_trimL xs).symm (length_trimL ys).symm hm hm2
    (AddrOk.take (xs := xs) ha _) (AddrOk.take (xs := ys) ha2 _) (trim_trimL _) (trim_trimL _) (trim_any p c xs w hf hc hm ha) (trim_any q d ys w hf2 hd hm2 ha2) _ (by rw [val_trimL, val_trimL])

end Go.Proofs.Ytjeeepcnaaadmaa

