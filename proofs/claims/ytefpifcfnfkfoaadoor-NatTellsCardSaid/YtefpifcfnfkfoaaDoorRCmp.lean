import Derived.Test.YtefpifcfnfkfoaaDoorRBase
namespace Go.Proofs.YtefpifcfnfkfoaaDoor
open Go.RowKit
open Num (dg dg_lt dg_ge dg_zeros dg_take dg_drop dg_set_self dg_set_ne tl tlen tl_zero tl_skip tl_stop tl_le tlen_le trimL length_trimL tl_top drop_dg)
open Num4
set_option linter.unusedVariables false
set_option linter.unusedSimpArgs false

def lenSlice : Value → Nat | .slice _ n _ => n | _ => 0

set_option maxHeartbeats 400000 in
theorem rtrim_at (b off n c : Nat) (xs : List Nat) (w : World) (hf : Fits xs) (hc : n ≤ c) (hm : c ≤ maxLen)
    (hcell : ∀ i, i < n → w.cell? ⟨b, off + i, none⟩ = some (.int .i64 (dg xs i))) :
    Calls Tryd.prog 25 #[.slice (some ⟨b, off, none⟩) n c] w fun e w' => e = .returned (.slice (some ⟨b, off, none⟩) (tl xs n) c) ∧ w = w' := by
  unfold maxLen at hm
  go_enter Tryd.func25, Tryd.ntmps25
  go_wp2
  go_loop [0] (fun a => ∃ k : Nat, k ≤ n ∧ a = .slice (some ⟨b, off, none⟩) k c ∧ Hid (tl xs k = tl xs n)) (fun a => lenSlice a)
  case atStart => exact ⟨n, Nat.le_refl _, rfl, rfl⟩
  case round =>
    obtain ⟨k, hk, rfl, ht⟩ := hrel
    match k, hk, ht with
    | 0, hk, ht =>
      go_wp2
      go_ret
      exact ⟨by rw [← ht.out]; rfl, rfl⟩
    | k + 1, hk, ht =>
      have hx := hcell k (by omega)
      by_cases h0 : dg xs k = 0
      · have H0 := hid h0
        rw [h0] at hx
        clear h0
        go_wp2
        go_round
        case rel => exact ⟨k, by omega, by first | rfl | simp, by have := ht.out; rw [tl_skip H0.out] at this; exact this⟩
        case measure => simp [lenSlice]
      · go_wp2
        go_ret
        exact ⟨by rw [← ht.out, tl_stop h0]; rfl, rfl⟩

set_option maxHeartbeats 400000 in
theorem rtrim_none (w : World) :
    Calls Tryd.prog 25 #[.slice none 0 0] w fun e w' => e = .returned (.slice none 0 0) ∧ w = w' := by
  go_enter Tryd.func25, Tryd.ntmps25
  go_wp2
  go_loop [0] (fun a => a = .slice none 0 0) (fun a => lenSlice a)
  case atStart => rfl
  case round =>
    obtain rfl := hrel
    go_wp2
    go_ret
    exact ⟨rfl, rfl⟩

theorem rtrim_any (p : Option Addr) (c : Nat) (xs : List Nat) (w : World) (hf : Fits xs) (hc : xs.length ≤ c) (hm : c ≤ maxLen) (ha : AddrR w p c xs) :
    Calls Tryd.prog 25 #[.slice p xs.length c] w fun e w' => e = .returned (.slice p (tlen xs) c) ∧ w = w' := by
  rcases ha with ⟨rfl, rfl⟩ | ⟨b, off, rfl, _, hcell⟩
  · have : xs = [] := List.length_eq_zero_iff.1 (by omega)
    subst this
    exact rtrim_none w
  · exact rtrim_at b off xs.length c xs w hf hc hm hcell

theorem rtrim_lim {w : World} {v : Value} {xs : List Nat} (h : LimR w v xs) :
    Calls Tryd.prog 25 #[v] w fun e w' => ∃ v', e = .returned v' ∧ LimR w' v' (trimL xs) ∧ w = w' := by
  obtain ⟨hf, p, c, rfl, hc, hm, ha⟩ := h
  refine (rtrim_any p c xs w hf hc hm ha).mono ?_
  rintro e w' ⟨rfl, rfl⟩
  refine ⟨_, rfl, ⟨fits_trimL hf, p, c, by rw [length_trimL], ?_, hm, AddrR.take (w := w) (p := p) (c := c) ha (tlen xs)⟩, rfl⟩
  rw [length_trimL]
  exact Nat.le_trans (tlen_le xs) hc

set_option maxHeartbeats 400000 in
theorem digit_lim {w : World} {v : Value} {xs : List Nat} (h : LimR w v xs) (i : Nat) (hi : i ≤ 4611686018427387904) :
    Calls Tryd.prog 24 #[v, .int .i64 i] w fun e w' => e = .returned (.int .i64 (dg xs i)) ∧ w = w' := by
  obtain ⟨p, c, rfl, hf, hc, hm, ha⟩ := limR_parts h
  have HA := hid (AddrR.at' ha rfl hc)
  obtain ⟨n, hn⟩ : ∃ n, xs.length = n := ⟨_, rfl⟩
  rw [hn] at hc ⊢
  have HN := hid hn
  clear h ha hn
  unfold maxLen at hm
  by_cases hlt : i < n
  · obtain ⟨b, off, rfl, hb, cx⟩ := HA.out i (by rw [HN.out]; exact hlt)
    go_enter Tryd.func24, Tryd.ntmps24
    go_wp2
    go_ret
    exact ⟨rfl, rfl⟩
  · have h0 : dg xs i = 0 := dg_ge (by rw [HN.out]; omega)
    have H0 := hid h0
    clear h0
    go_enter Tryd.func24, Tryd.ntmps24
    go_wp2
    go_ret
    exact ⟨ret_int (by rw [H0.out]; rfl), rfl⟩

/-- Less, the same, more: -1, 0, 1. -/
def cmpv (a b : Nat) : Int := if a < b then -1 else if b < a then 1 else 0

theorem cmpv_top {x y : List Nat} {k : Nat} (hx : Fits x) (hy : Fits y) (hd : x.drop (k + 1) = y.drop (k + 1)) (h1 : k < x.length) (h2 : k < y.length) (hne : dg x k ≠ dg y k) : cmpv (val x) (val y) = cmpv (dg x k) (dg y k) := by
  have e1 := val_lt_of_top hx hy hd h1 h2 hne
  have e2 := val_lt_of_top hy hx hd.symm h2 h1 hne.symm
  unfold cmpv
  simp only [e1, e2]

/-- Two numbers as long as the longer one. -/
def pad (l : List Nat) (n : Nat) : List Nat := l ++ List.replicate (n - l.length) 0
theorem dg_pad (l : List Nat) (n i : Nat) : dg (pad l n) i = dg l i := by
  by_cases h : i < l.length
  · simp only [dg, pad]; rw [List.getElem?_append_left h]
  · have e : dg l i = 0 := dg_ge (by omega)
    rw [e]
    simp only [dg, pad]; rw [List.getElem?_append_right (by omega), List.getElem?_replicate]; split <;> simp
theorem val_pad (l : List Nat) (n : Nat) : val (pad l n) = val l := by rw [pad, val_append, val_zeros]; omega
theorem length_pad {l : List Nat} {n : Nat} (h : l.length ≤ n) : (pad l n).length = n := by rw [pad, List.length_append, List.length_replicate]; omega
theorem fits_pad {l : List Nat} (h : Fits l) (n : Nat) : Fits (pad l n) := h.append (Fits.zeros _)

set_option maxHeartbeats 1000000 in
theorem cmp_lim {w : World} {v u : Value} {xs ys : List Nat} (h1 : LimR w v xs) (h2 : LimR w u ys) (b1 : xs.length ≤ 1099511627776) (b2 : ys.length ≤ 1099511627776) :
    Calls Tryd.prog 12 #[v, u] w fun e w' => e = .returned (.int .i64 (cmpv (val xs) (val ys))) ∧ w = w' := by
  have HD1 := hid (fun i hi => digit_lim h1 i hi)
  have HD2 := hid (fun i hi => digit_lim h2 i hi)
  obtain ⟨p, c, rfl, hfx, hc, hm, ha⟩ := limR_parts h1
  obtain ⟨q, d, rfl, hfy, hd, hm2, ha2⟩ := limR_parts h2
  clear h1 h2 ha ha2
  obtain ⟨n, hn⟩ : ∃ n, xs.length = n := ⟨_, rfl⟩
  obtain ⟨m, hmm⟩ : ∃ m, ys.length = m := ⟨_, rfl⟩
  rw [hn] at hc b1 ⊢
  rw [hmm] at hd b2 ⊢
  rw [hn] at HD1
  rw [hmm] at HD2
  have HN := hid hn
  have HM := hid hmm
  clear hn hmm
  obtain ⟨l, hl1, hl2, hl3⟩ : ∃ l : Nat, n ≤ l ∧ m ≤ l ∧ ((m ≤ n ∧ l = n) ∨ (n < m ∧ l = m)) := by
    by_cases h : m ≤ n
    · exact ⟨n, Nat.le_refl _, h, .inl ⟨h, rfl⟩⟩
    · exact ⟨m, by omega, Nat.le_refl _, .inr ⟨by omega, rfl⟩⟩
  have P1 := fits_pad hfx l
  have P2 := fits_pad hfy l
  have L1 : (pad xs l).length = l := length_pad (by rw [HN.out]; exact hl1)
  have L2 : (pad ys l).length = l := length_pad (by rw [HM.out]; exact hl2)
  have HL1 := hid L1
  have HL2 := hid L2
  have HXS := hid (val_pad xs l)
  have HYS := hid (val_pad ys l)
  have hb : l ≤ 1099511627776 := by omega
  clear L1 L2
  unfold maxLen at hm hm2
  have key : ∀ (z : Int), z = (l : Int) → Calls Tryd.prog 12 #[.slice p n c, .slice q m d] w fun e w' => e = .returned (.int .i64 (cmpv (val xs) (val ys))) ∧ w = w' := by
    intro z hz
    rcases hl3 with ⟨hx, hl⟩ | ⟨hx, hl⟩ <;>
    ( subst hl
      clear hz
      go_enter Tryd.func12, Tryd.ntmps12
      go_wp2_with fail
      go_loop [5] (fun i => ∃ z : Int, -1 ≤ z ∧ z ≤ l - 1 ∧ i = .int .i64 z ∧ Hid ((pad xs l).drop (z + 1).toNat = (pad ys l).drop (z + 1).toNat)) (fun i => (intOf i + 1).toNat)
      case atStart =>
        refine ⟨(l : Int) - 1, by omega, by omega, by first | rfl | (congr 1; omega), ?_⟩
        show _ = _
        rw [show ((l : Int) - 1 + 1).toNat = l by omega, List.drop_of_length_le (by rw [HL1.out]; exact Nat.le_refl _), List.drop_of_length_le (by rw [HL2.out]; exact Nat.le_refl _)]
      case round =>
        obtain ⟨z, hz1, hz2, rfl, hdr⟩ := hrel
        by_cases h0 : z = -1
        · subst h0
          have e : pad xs l = pad ys l := hdr.out
          have HE := hid e
          clear e
          go_wp2_with fail
          go_ret
          exact ⟨ret_int (by rw [← HXS.out, ← HYS.out, HE.out]; simp [cmpv]), rfl⟩
        · obtain ⟨k, rfl⟩ := Int.eq_ofNat_of_zero_le (show 0 ≤ z by omega)
          have C1 := hid (HD1.out k (by omega))
          have C2 := hid (HD2.out k (by omega))
          have bx := hfx k
          have bY := hfy k
          have hdr1 := hdr.out
          rw [show ((k : Int) + 1).toNat = k + 1 by omega] at hdr1
          by_cases heq : dg xs k = dg ys k
          · have hdr2 : (pad xs l).drop k = (pad ys l).drop k := by
              rw [drop_dg (l := pad xs l) (by rw [HL1.out]; omega), drop_dg (l := pad ys l) (by rw [HL2.out]; omega), dg_pad, dg_pad, heq, hdr1]
            have HDR := hid hdr2
            rw [heq] at C1
            clear heq hdr1 hdr2
            go_wp2_with fail
            refine C1.out.mono ?_
            rintro e w' ⟨rfl, rfl⟩
            go_wp2_with fail
            refine C2.out.mono ?_
            rintro e w' ⟨rfl, rfl⟩
            go_wp2_with fail
            refine C1.out.mono ?_
            rintro e w' ⟨rfl, rfl⟩
            go_wp2_with fail
            refine C2.out.mono ?_
            rintro e w' ⟨rfl, rfl⟩
            go_wp2_with fail
            go_round
            case rel =>
              refine ⟨(k : Int) - 1, by omega, by omega, by go_num, ?_⟩
              rw [show ((k : Int) - 1 + 1).toNat = k by omega]
              exact HDR
            case measure => simp [intOf]
          · have htop := cmpv_top P1 P2 hdr1 (by rw [HL1.out]; omega) (by rw [HL2.out]; omega) (by rw [dg_pad, dg_pad]; exact heq)
            rw [dg_pad, dg_pad, HXS.out, HYS.out] at htop
            have HTOP := hid htop
            clear htop hdr1
            by_cases hlt : dg xs k < dg ys k
            · go_wp2_with fail
              refine C1.out.mono ?_
              rintro e w' ⟨rfl, rfl⟩
              go_wp2_with fail
              refine C2.out.mono ?_
              rintro e w' ⟨rfl, rfl⟩
              go_wp2_with fail
              go_ret
              exact ⟨ret_int (by rw [HTOP.out]; simp [cmpv, hlt]), rfl⟩
            · have hgt : dg ys k < dg xs k := by omega
              go_wp2_with fail
              refine C1.out.mono ?_
              rintro e w' ⟨rfl, rfl⟩
              go_wp2_with fail
              refine C2.out.mono ?_
              rintro e w' ⟨rfl, rfl⟩
              go_wp2_with fail
              refine C1.out.mono ?_
              rintro e w' ⟨rfl, rfl⟩
              go_wp2_with fail
              refine C2.out.mono ?_
              rintro e w' ⟨rfl, rfl⟩
              go_wp2_with fail
              go_ret
              exact ⟨ret_int (by rw [HTOP.out]; simp [cmpv, hlt, hgt]), rfl⟩ )
  exact key _ rfl

end Go.Proofs.YtefpifcfnfkfoaaDoor
