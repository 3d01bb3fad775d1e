import Derived.Test.YtjeeepcnaaadmaaIsNat
namespace Go.Proofs.Ytjeeepcnaaadmaa
open Go.RowKit
open Num
set_option linter.unusedVariables false
set_option maxRecDepth 100000
set_option linter.unusedSimpArgs false

/-- Block b, of c cells of a kind, may be written and begins with these numbers. -/
def RowK (ty : TypeId) (kd : IntKind) (w : World) (b c : Nat) (xs : List Nat) : Prop :=
  ∃ cur : Array Value, w.heap[b]? = some (.cells cur ty (0, 0)) ∧ cur.size = c ∧ ∀ i, i < xs.length → cur[i]? = some (.int kd (dg xs i))
abbrev Row := RowK 108 .u32
abbrev Row8 := RowK 5 .u8
section
variable {ty : TypeId} {kd : IntKind} {w w' : World} {b c K : Nat} {xs : List Nat}
theorem RowK.cell (h : RowK ty kd w b c xs) {i : Nat} (hi : i < xs.length) : w.cell? ⟨b, i, none⟩ = some (.int kd (dg xs i)) := by
  obtain ⟨cur, h1, h2, h3⟩ := h
  simp [World.cell?, h1, h3 i hi]
theorem RowK.free (h : RowK ty kd w b c xs) (i : Nat) : w.frozen? ⟨b, i, none⟩ = false := by
  obtain ⟨cur, h1, h2, h3⟩ := h
  simp [World.frozen?, h1]
theorem RowK.lt (h : RowK ty kd w b c xs) : b < w.heap.size := by
  obtain ⟨cur, h1, h2, h3⟩ := h
  exact (Array.getElem?_eq_some_iff.1 h1).1
theorem RowK.set (h : RowK ty kd w b c xs) (i : Nat) (z : Int) (x : Nat) (hz : z = (x : Int)) (hi : i < c) : RowK ty kd (w.setCell ⟨b, i, none⟩ (.int kd z)) b c (xs.set i x) := by
  obtain ⟨cur, h1, h2, h3⟩ := h
  subst hz
  refine ⟨cur.setIfInBounds i (.int kd x), ?_, by simp [h2], fun j hj => ?_⟩
  · simp only [World.setCell, Array.getElem?_modify, h1]; simp
  · rw [List.length_set] at hj
    rw [Array.getElem?_setIfInBounds]
    by_cases e : i = j
    · subst e
      rw [if_pos rfl, if_pos (by omega), dg_set_self _ _ _ hj]
    · rw [if_neg e, dg_set_ne _ _ _ _ (by omega)]; exact h3 j hj
theorem RowK.block {h1 : w'.heap[b]? = w.heap[b]?} (h : RowK ty kd w b c xs) : RowK ty kd w' b c xs := by
  obtain ⟨cur, h2, h3⟩ := h
  exact ⟨cur, h1.trans h2, h3⟩
theorem RowK.below (h : RowK ty kd w b c xs) (hb : Below K w w') (hK : b < K) : RowK ty kd w' b c xs := h.block (h1 := hb.block b hK)
theorem RowK.grown (h : RowK ty kd w b c xs) {g : Option Nat} (hg : w.grownBy w' g) (hne : some b ≠ g) : RowK ty kd w' b c xs := h.block (h1 := hg.block b h.lt hne)
theorem RowK.drewN (h : RowK ty kd w b c xs) (n : Nat) : RowK ty kd (w.drewN n) b c xs := h
theorem RowK.take (h : RowK ty kd w b c xs) (k : Nat) : RowK ty kd w b c (xs.take k) := by
  obtain ⟨cur, h1, h2, h3⟩ := h
  refine ⟨cur, h1, h2, fun i hi => ?_⟩
  rw [List.length_take] at hi
  rw [dg_take (by omega)]
  exact h3 i (by omega)
end

def VK (kd : IntKind) (n : Nat) : Value := .int kd (n : Int)
abbrev V32 := VK .u32
abbrev V8 := VK .u8
theorem VK_map (kd : IntKind) (xs : List Nat) (i : Nat) (h : i < xs.length) : (xs.map (VK kd))[i]? = some (.int kd (dg xs i)) := by
  simp [VK, dg, h]
section
variable {ty : TypeId} {kd : IntKind} {w w' : World} {b c K n : Nat} {v : Value} {xs : List Nat}
theorem RowK.ownsK (h : RowK ty kd w b c xs) (hK : K ≤ b) (hn : xs.length ≤ c) (hm : c ≤ maxLen) : w.ownsRow K ty 1 (.slice (some ⟨b, 0, none⟩) xs.length c) xs.length (xs.map (VK kd)) := by
  obtain ⟨cur, h1, h2, h3⟩ := h
  refine ⟨by simp, .inr ⟨b, c, cur, rfl, hK, h1, hn, hm, by simpa using h2, ?_⟩⟩
  apply List.ext_getElem?
  intro i
  rw [List.getElem?_take, Nat.mul_one]
  by_cases hi : i < xs.length
  · rw [if_pos hi, VK_map kd xs i hi, Array.getElem?_toList, h3 i hi]
  · rw [if_neg hi, List.getElem?_eq_none (by simp; omega)]
theorem RowK.ofOwnsK (h : w.ownsRow K ty 1 v n (xs.map (VK kd))) (hn : 0 < n) : ∃ b c, v = .slice (some ⟨b, 0, none⟩) xs.length c ∧ K ≤ b ∧ RowK ty kd w b c xs ∧ xs.length ≤ c ∧ c ≤ maxLen := by
  obtain ⟨hl, h⟩ := h
  simp only [List.length_map, Nat.mul_one] at hl
  rcases h with ⟨_, h⟩ | ⟨g, cap, cur, rfl, hK, h1, h2, h3, h4, h5⟩
  · omega
  · refine ⟨g, cap, by rw [hl], hK, ⟨cur, h1, by simpa using h4, fun i hi => ?_⟩, by omega, h3⟩
    have h6 := VK_map kd xs i hi
    rw [← h5, List.getElem?_take, Nat.mul_one, if_pos (by omega), Array.getElem?_toList] at h6
    exact h6
theorem RowK.owns (h : Row w b c xs) (hK : K ≤ b) (hn : xs.length ≤ c) (hm : c ≤ maxLen) : w.ownsRow K 108 1 (.slice (some ⟨b, 0, none⟩) xs.length c) xs.length (xs.map V32) := h.ownsK hK hn hm
theorem RowK.ofOwns (h : w.ownsRow K 108 1 v n (xs.map V32)) (hn : 0 < n) : ∃ b c, v = .slice (some ⟨b, 0, none⟩) xs.length c ∧ K ≤ b ∧ Row w b c xs ∧ xs.length ≤ c ∧ c ≤ maxLen := RowK.ofOwnsK (kd := .u32) h hn
end

/-- A slice value over a block of the call's own (from block K on). -/
def Own (w : World) (K : Nat) (v : Value) (xs : List Nat) : Prop :=
  Fits xs ∧ ∃ b c, v = .slice (some ⟨b, 0, none⟩) xs.length c ∧ K ≤ b ∧ Row w b c xs ∧ xs.length ≤ c ∧ c ≤ maxLen
theorem Own.lim {w : World} {K : Nat} {v : Value} {xs : List Nat} (h : Own w K v xs) : Lim w v xs := by
  obtain ⟨hf, b, c, rfl, hK, hr, hn, hm⟩ := h
  exact ⟨hf, _, c, rfl, hn, hm, .inr ⟨b, 0, rfl, hr.lt, fun i hi => by rw [Nat.zero_add]; exact hr.cell hi⟩⟩
theorem Own.drewN {w : World} {K : Nat} {v : Value} {xs : List Nat} (h : Own w K v xs) (n : Nat) : Own (w.drewN n) K v xs := h

/-- One step of 'times s and m more'. -/
theorem grow_step {xs vs : List Nat} {k c s m z : Nat} (hk : k < vs.length) (hI : val (vs.take k) + c * B ^ k = val (xs.take k) * s + m) (hZ : dg vs k = dg xs k) (hz : z = c + dg vs k * s) :
    val ((vs.set k (z % 4294967296)).take (k + 1)) + z / 4294967296 * B ^ (k + 1) = val (xs.take (k + 1)) * s + m := by
  rw [val_take_set _ _ _ hk, val_take_succ]
  have h := carry_split z (B ^ k)
  rw [Nat.pow_succ]
  subst hz
  rw [Nat.add_mul] at h
  rw [Nat.add_mul (val _) _ s, ← hZ, Nat.mul_right_comm]
  omega

theorem val_append_one (l : List Nat) (c : Nat) : val (l ++ [c]) = val l + c * B ^ l.length := by
  rw [val_append, val_single, Nat.mul_comm]

theorem trim_of_low {l : List Nat} (hf : Fits l) (h : B ^ (l.length - 1) ≤ val l) : Trim l := by
  by_cases h0 : l = []
  · exact .inl h0
  · right
    have hl : 0 < l.length := by cases l <;> simp at h0 ⊢
    apply Nat.pos_of_ne_zero
    intro e
    have h1 := val_take_succ l (l.length - 1)
    rw [show l.length - 1 + 1 = l.length by omega, val_take_all l _ (Nat.le_refl _), e, Nat.zero_mul, Nat.add_zero] at h1
    have h2 := val_lt (hf.take (l.length - 1))
    rw [List.length_take, Nat.min_eq_left (by omega)] at h2
    omega
theorem trim_grown {xs zs : List Nat} {s m : Nat} (ht : Trim xs) (hf : Fits zs) (hl : zs.length = xs.length) (hm : m < s) (hv : val zs = val xs * s + m) : Trim zs := by
  by_cases h0 : xs = []
  · subst h0
    exact .inl (List.length_eq_zero_iff.1 hl)
  · refine trim_of_low hf ?_
    rw [hl, hv]
    have h1 := ht.low h0
    have h2 : val xs * 1 ≤ val xs * s := Nat.mul_le_mul_left _ (by omega)
    omega
theorem trim_snoc (l : List Nat) {c : Nat} (h : 0 < c) : Trim (l ++ [c]) := by
  right
  simp [dg, h]

set_option maxHeartbeats 1000000 in
theorem grow_own (K : Nat) (v : Value) (s m : Nat) (xs : List Nat) (w : World) (hO : Own w K v xs) (hn : xs.length ≤ 1099511627776) (hs : s ≤ 1000000000) (hmm : m < s) :
    Calls Try.prog 103 #[v, .int .u64 s, .int .u64 m] w fun e w' => ∃ v' zs, e = .returned v' ∧ Own w' K v' zs ∧ val zs = val xs * s + m ∧ zs.length ≤ xs.length + 1 ∧ Below K w w' ∧ (Trim xs → Trim zs) := by
  obtain ⟨i0, hi, hz0, hz1, hz2⟩ := info_parts infoU32
  obtain ⟨hf, b, c, rfl, hK, hR, hnc, hmax⟩ := hO
  obtain ⟨n, hN⟩ : ∃ n, xs.length = n := ⟨_, rfl⟩
  rw [hN] at hnc hn ⊢
  have HN := hid hN
  have HR := hid hR
  clear hN hR
  unfold maxLen at hmax
  go_enter Try.func103, Try.ntmps103
  go_wp2
  go_loopw [7, 13] (fun cy i wr => ∃ (k c0 : Nat) (vs : List Nat), k ≤ n ∧ i = .int .i64 k ∧ cy = .int .u64 c0 ∧ c0 < s ∧ Hid (Row wr b c vs) ∧ Hid (vs.length = n) ∧ Fits vs ∧
      Hid (val (vs.take k) + c0 * B ^ k = val (xs.take k) * s + m) ∧ Hid (∀ j, k ≤ j → dg vs j = dg xs j) ∧ Hid (Below K w wr)) (fun _ i _ => n - (intOf i).toNat)
  case atStart => exact ⟨0, m, xs, by omega, rfl, rfl, hmm, HR, HN, hf, hid (by simp [val_nil]), hid (fun j _ => rfl), Below.refl _ _⟩
  case round =>
    obtain ⟨k, c0, vs, hk, rfl, rfl, hc0, hB', hl, hf', hI, hZ, hbw⟩ := hrel
    by_cases hlt : k < n
    · have cu := hB'.out.cell (i := k) (by rw [hl.out]; omega)
      have fu := hB'.out.free k
      have bu := hf' k
      have bm : dg vs k * s ≤ 4294967295 * 1000000000 := Nat.mul_le_mul (by omega) hs
      have bm2 : c0 + dg vs k * s < 4294967296 * s := by
        have := Nat.mul_le_mul_right s (show dg vs k + 1 ≤ 4294967296 by omega)
        rw [Nat.add_mul] at this
        omega
      go_wp2
      go_roundw
      case rel =>
        refine ⟨k + 1, (c0 + dg vs k * s) / 4294967296, vs.set k ((c0 + dg vs k * s) % 4294967296), by omega, by go_num, val_int (by omega), by omega, hid (hB'.out.set k _ _ (by omega) (by omega)), hid (by rw [List.length_set]; exact hl.out), hf'.set _ _ (by omega),
          hid (grow_step (by rw [hl.out]; omega) hI.out (hZ.out k (Nat.le_refl _)) rfl), hid (fun j hj => ?_), hid (hbw.out.setCell (by exact hK) _)⟩
        rw [dg_set_ne _ _ _ _ (by omega)]
        exact hZ.out j (by omega)
      case measure => simp [intOf]; omega
    · obtain rfl : k = n := by omega
      have hv : val vs + c0 * B ^ k = val xs * s + m := by
        have h := hI.out
        rwa [val_take_all vs _ (by rw [hl.out]; exact Nat.le_refl _), val_take_all xs _ (by rw [HN.out]; exact Nat.le_refl _)] at h
      have HV := hid hv
      have hown := hB'.out.owns hK (by rw [hl.out]; exact hnc) (by unfold maxLen; omega)
      rw [hl.out] at hown
      have HO := hid hown
      clear hv hown
      by_cases hc : c0 = 0
      · subst hc
        go_wp2
        go_ret
        exact ⟨_, vs, rfl, ⟨hf', b, c, by rw [hl.out]; rfl, hK, hB'.out, by rw [hl.out]; exact hnc, by unfold maxLen; omega⟩, by have := HV.out; omega, by rw [hl.out]; omega, hbw.out, fun ht => trim_grown ht hf' (by rw [hl.out, HN.out]) hmm (by have := HV.out; omega)⟩
      · have hc' : 0 < c0 := by omega
        go_wp2_with (at_builtin; refine wpList_append_own _ rfl _ _ 47 rfl K 108 i0 (.int .u32 0) 1 4 Try.underlying47 hi hz0 hz1 hz2 rfl (by decide) _ _ _ rfl (HO.out.alloc _) ⟨wr.heap.size, 0, none⟩ 1 1 [.int .u32 c0] rfl rfl ?c1 ?c2 ?c3 ?c4 ?c5 ?_)
        case c1 =>
          intro j u hj
          match j, hj with
          | 0, hj => simp at hj; subst hj; simp [Addr.add]
        case c2 => intro u hu; simp at hu; subst hu; rfl
        case c3 => unfold maxLen; omega
        case c4 => omega
        case c5 => have := hB'.out.lt; simp; omega
        intro v' w1 hown' hgrow _
        have hz : c0 < 4294967296 := by omega
        have hown2 : w1.ownsRow K 108 1 v' (k + 1) ((vs ++ [c0]).map V32) := by rw [List.map_append]; exact hown'
        obtain ⟨b', c', rfl, hK', hR', hn', hm'⟩ := RowK.ofOwns hown2 (by omega)
        have HR' := hid hR'
        have hb2 : Below K w w1 := (hbw.out.alloc (by have := hB'.out.lt; omega) _).grown hgrow (by have := hB'.out.lt; simp; omega) (fun g hg => by simp [Value.ownBlock] at hg; omega)
        clear hown' hown2 hgrow hR'
        go_wp2
        go_ret
        exact ⟨_, vs ++ [c0], rfl, ⟨hf'.append (Fits.single hz), b', c', rfl, hK', HR'.out, hn', hm'⟩, by rw [val_append_one, hl.out]; exact HV.out, by rw [List.length_append, hl.out]; simp, hb2, fun _ => trim_snoc _ hc'⟩

end Go.Proofs.Ytjeeepcnaaadmaa

