import Derived.Test.YtjeeepcnaaadmaaBase
namespace Go.Proofs.Ytjeeepcnaaadmaa
open Go.RowKit
open Num
set_option linter.unusedVariables false
set_option linter.unusedSimpArgs false

def AddrOk (w : World) (p : Option Addr) (c : Nat) (xs : List Nat) : Prop :=
  (p = none ∧ c = 0) ∨ ∃ b off, p = some ⟨b, off, none⟩ ∧ b < w.heap.size ∧ ∀ i, i < xs.length → w.cell? ⟨b, off + i, none⟩ = some (.int .u32 (dg xs i))

set_option maxHeartbeats 400000 in
theorem trim_at (b off n c : Nat) (xs : List Nat) (w : World) (hf : Fits xs) (hn : n = xs.length) (hc : n ≤ c) (hm : c ≤ maxLen)
    (hcell : ∀ i, i < n → w.cell? ⟨b, off + i, none⟩ = some (.int .u32 (dg xs i))) :
    Calls Try.prog 91 #[.slice (some ⟨b, off, none⟩) n c] w fun e w' => e = .returned (.slice (some ⟨b, off, none⟩) (tl xs n) c) ∧ w = w' := by
  unfold maxLen at hm
  clear hn
  go_enter Try.func91, Try.ntmps91
  go_wp2
  go_loop [3] (fun i => ∃ k : Nat, k ≤ n ∧ i = .int .i64 k ∧ Hid (tl xs k = tl xs n)) (fun i => (intOf i).toNat)
  case atStart => exact ⟨n, Nat.le_refl _, rfl, rfl⟩
  case round =>
    obtain ⟨k, hk, rfl, ht⟩ := hrel
    match k, hk, ht with
    | 0, hk, ht =>
      go_wp2
      go_ret
      exact ⟨by rw [← ht.out]; rfl, rfl⟩
    | k + 1, hk, ht =>
      have hx := hcell k (by omega)
      have hb := hf k
      by_cases h0 : dg xs k = 0
      · have H0 := hid h0
        rw [h0] at hx
        clear h0 hb
        go_wp2
        go_round
        case rel => exact ⟨k, by omega, by go_num, by have := ht.out; rw [tl_skip H0.out] at this; exact this⟩
        case measure => simp [intOf]
      · go_wp2
        go_ret
        exact ⟨by rw [← ht.out, tl_stop h0]; go_num, rfl⟩

set_option maxHeartbeats 400000 in
theorem trim_none (w : World) :
    Calls Try.prog 91 #[.slice none 0 0] w fun e w' => e = .returned (.slice none 0 0) ∧ w = w' := by
  go_enter Try.func91, Try.ntmps91
  go_wp2
  go_loop [3] (fun i => i = .int .i64 0) (fun i => (intOf i).toNat)
  case atStart => rfl
  case round =>
    obtain rfl := hrel
    go_wp2
    go_ret
    exact ⟨rfl, rfl⟩

/-- trim: the same memory, as many limbs as count. -/
theorem trim_any (p : Option Addr) (c : Nat) (xs : List Nat) (w : World) (hf : Fits xs) (hc : xs.length ≤ c) (hm : c ≤ maxLen) (ha : AddrOk w p c xs) :
    Calls Try.prog 91 #[.slice p xs.length c] w fun e w' => e = .returned (.slice p (tlen xs) c) ∧ w = w' := by
  rcases ha with ⟨rfl, rfl⟩ | ⟨b, off, rfl, _, hcell⟩
  · have : xs = [] := List.length_eq_zero_iff.1 (by omega)
    subst this
    exact trim_none w
  · exact trim_at b off xs.length c xs w hf rfl hc hm hcell

theorem AddrOk.take {w : World} {p : Option Addr} {c : Nat} {xs : List Nat} (h : AddrOk w p c xs) (k : Nat) : AddrOk w p c (xs.take k) := by
  rcases h with h | ⟨b, off, h1, h2, h3⟩
  · exact .inl h
  · refine .inr ⟨b, off, h1, h2, fun i hi => ?_⟩
    rw [List.length_take] at hi
    rw [dg_take (by omega)]
    exact h3 i (by omega)

theorem AddrOk.below {w w' : World} {p : Option Addr} {c : Nat} {xs : List Nat} {K : Nat} (h : AddrOk w p c xs) (hb : Below K w w') (hK : w.heap.size ≤ K) : AddrOk w' p c xs := by
  rcases h with h5 | ⟨b, off, h6, h7, h8⟩
  · exact .inl h5
  · refine .inr ⟨b, off, h6, Nat.lt_of_lt_of_le h7 hb.size, fun i hi => ?_⟩
    rw [hb.cell (by exact Nat.lt_of_lt_of_le h7 hK)]
    exact h8 i hi

/-- trim of what reads as limbs reads as those that count. -/
theorem trim_lim {w : World} {v : Value} {xs : List Nat} (h : Lim w v xs) :
    Calls Try.prog 91 #[v] w fun e w' => ∃ v', e = .returned v' ∧ Lim w v' (trimL xs) ∧ w = w' := by
  obtain ⟨hf, p, c, rfl, hc, hm, ha⟩ := h
  refine (trim_any p c xs w hf hc hm ha).mono ?_
  rintro e w' ⟨rfl, rfl⟩
  refine ⟨_, rfl, ⟨fits_trimL hf, p, c, by rw [length_trimL], ?_, hm, AddrOk.take (w := w) (p := p) (c := c) ha (tlen xs)⟩, rfl⟩
  rw [length_trimL]
  exact Nat.le_trans (tlen_le xs) hc

end Go.Proofs.Ytjeeepcnaaadmaa

