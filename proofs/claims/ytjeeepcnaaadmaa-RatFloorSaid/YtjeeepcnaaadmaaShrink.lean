import Derived.Test.YtjeeepcnaaadmaaParse
import Derived.Laws.BitsAllLaws
namespace Go.Proofs.Ytjeeepcnaaadmaa
open Go.RowKit
open Num
set_option linter.unusedVariables false
set_option maxRecDepth 100000
set_option linter.unusedSimpArgs false

theorem grownBy_setCell {w w' : World} {b : Nat} (h : w.grownBy w' (some b)) (i : Nat) (u : Value) : w.grownBy (w'.setCell ⟨b, i, none⟩ u) (some b) :=
  ⟨h.os, h.tape, h.output, by have := h.size; simpa [World.setCell] using this, fun k hk hne => by rw [Below.heap_setCell _ _ _ _ (by simpa using hne)]; exact h.block k hk hne⟩

theorem eql_slice_nil {P : Program} (t e : TypeId) (h : P.underlying t = some (.slice e)) (a : Option Addr) (l c : Nat) (w : World) : (binOp .eql t (.slice a l c) (.slice none 0 0)).run P w = .ok (.bool a.isNone) w := by
  simp [binOp, run_equal_slice_nil w t e a l c h]

/-- Two limbs side by side. -/
theorem or_limb (r x : Nat) (hr : r < 4294967296) (hx : x < 4294967296) : ∃ P : Nat, P = r * 4294967296 + x ∧ bits BinOp.or IntKind.u64 ((r : Int) * 4294967296) (x : Int) = (P : Int) := by
  refine ⟨_, rfl, ?_⟩
  rw [show ((r : Int) * 4294967296) = ((r * 4294967296 : Nat) : Int) by omega, u64_or_nat _ _ (by omega) (by omega), nat_join 32 _ _ (by omega) (by omega)]

/-- One step of the division by a limb. -/
theorem shrink_step {xs vs : List Nat} {k d r P : Nat} (hk : k < vs.length) (hl : xs.length = vs.length) (hd : 0 < d) (hI : val (vs.drop (k + 1)) * d + r = val (xs.drop (k + 1))) (hZ : dg vs k = dg xs k) (hP : P = r * 4294967296 + dg vs k) :
    val ((vs.set k (P / d)).drop k) * d + P % d = val (xs.drop k) := by
  rw [drop_dg (by rw [List.length_set]; exact hk), dg_set_self _ _ _ hk, List.drop_set_of_lt (by omega), drop_dg (l := xs) (by omega), val_cons, val_cons, ← hZ, ← hI, Nat.add_mul, Nat.mul_add]
  have h := Nat.div_add_mod P d
  rw [Nat.mul_comm d] at h
  rw [Nat.mul_assoc, B_eq]
  omega

/-- The cells of limbs, at an address. -/
theorem limbs_at {w : World} {b off : Nat} {xs : List Nat} (h : ∀ i, i < xs.length → w.cell? ⟨b, off + i, none⟩ = some (.int .u32 (dg xs i))) (o : Obj) (hb : b < w.heap.size) : ∀ (j : Nat) (u : Value), (xs.map V32)[j]? = some u → (w.alloc o).cell? ((⟨b, off, none⟩ : Addr).add j) = some u := by
  intro j u hu
  have hj : j < xs.length := by
    apply Classical.byContradiction
    intro hn
    rw [List.getElem?_eq_none (by simp; omega)] at hu
    cases hu
  rw [VK_map .u32 xs j hj] at hu
  rw [← hu, ← h j hj]
  have e : ((⟨b, off, none⟩ : Addr).add j) = ⟨b, off + j, none⟩ := by unfold Addr.add; split <;> simp_all
  rw [e]
  exact World.cell?_of_block (Below.heap_alloc _ _ _ hb)

set_option maxHeartbeats 400000 in
theorem clone_nil (w : World) :
    Calls Try.prog 90 #[.slice none 0 0] w fun e w' => e = .returned (.slice none 0 0) ∧ w = w' := by
  have hq := eql_slice_nil 47 _ Try.underlying47
  go_enter Try.func90, Try.ntmps90
  go_wp2
  go_ret
  exact ⟨rfl, rfl⟩

set_option maxHeartbeats 1000000 in
theorem clone_at (b off n c : Nat) (xs : List Nat) (w : World) (hf : Fits xs) (hN : xs.length = n) (hn : n ≤ 1099511627776) (hb : b < w.heap.size) (hcell : ∀ i, i < xs.length → w.cell? ⟨b, off + i, none⟩ = some (.int .u32 (dg xs i))) :
    Calls Try.prog 90 #[.slice (some ⟨b, off, none⟩) n c] w fun e w' => ∃ v, e = .returned v ∧ w'.ownsRow w.heap.size 108 1 v n (xs.map V32) ∧ Below w.heap.size w w' := by
  obtain ⟨i0, hi, hz0, hz1, hz2⟩ := info_parts infoU32
  have HN := hid hN
  have hnews := limbs_at hcell (.cells #[] 108) hb
  have HNEWS := hid hnews
  have hown := World.ownsRow_made (base := w.heap.size) (e := 108) (size := 1) w #[] 0 (Nat.le_refl _) (by unfold maxLen; omega) rfl
  have HO := hid hown
  clear hcell hnews hown hN
  have hq := eql_slice_nil 47 _ Try.underlying47
  go_enter Try.func90, Try.ntmps90
  go_wp2_with (at_builtin; refine wpList_append_own _ rfl _ _ 47 rfl w.heap.size 108 i0 (.int .u32 0) 1 4 Try.underlying47 hi hz0 hz1 hz2 rfl (by decide) _ _ _ rfl HO.out ⟨b, off, none⟩ n c (xs.map V32) rfl ?c0 ?c1 ?c2 ?c3 ?c4 ?c5 ?_)
  case c0 => rw [List.length_map, HN.out, Nat.mul_one]
  case c1 => exact HNEWS.out
  case c2 =>
    intro u hu
    rw [List.mem_map] at hu
    obtain ⟨x, _, rfl⟩ := hu
    rfl
  case c3 => unfold maxLen; omega
  case c4 => omega
  case c5 => simp
  intro v' w1 hown' hgrow _
  have HO' := hid hown'
  have hb2 : Below w.heap.size w w1 := ((Below.refl _ _).alloc (Nat.le_refl _) _).grown hgrow (by simp) (fun g hg => by simp [Value.ownBlock] at hg; omega)
  clear hown' hgrow
  go_wp2
  go_ret
  exact ⟨_, rfl, HO'.out, hb2⟩

/-- A copy: the limbs again, in memory of its own. -/
theorem clone_lim {w : World} {v : Value} {xs : List Nat} (h : Lim w v xs) (hn : xs.length ≤ 1099511627776) :
    Calls Try.prog 90 #[v] w fun e w' => ∃ v', e = .returned v' ∧ Lim w' v' xs ∧ (xs ≠ [] → Own w' w.heap.size v' xs) ∧ Below w.heap.size w w' := by
  obtain ⟨p, c, rfl, hf, hc, hm, ha⟩ := lim_parts h
  rcases ha with ⟨rfl, rfl⟩ | ⟨b, off, rfl, hb, hcell⟩
  · have : xs = [] := List.length_eq_zero_iff.1 (by omega)
    subst this
    refine (clone_nil w).mono ?_
    rintro e w' ⟨rfl, rfl⟩
    exact ⟨_, rfl, Lim.nil w, fun h => absurd rfl h, Below.refl _ _⟩
  · refine (clone_at b off _ c xs w hf rfl hn hb hcell).mono ?_
    rintro e w' ⟨v', rfl, ho, hbw⟩
    by_cases hx : xs = []
    · subst hx
      refine ⟨v', rfl, ?_, fun h => absurd rfl h, hbw⟩
      rcases ho.2 with ⟨rfl, _⟩ | ⟨g, cap, cur, rfl, hK, h1, h2, h3, h4, h5⟩
      · exact Lim.nil _
      · exact ⟨Fits.nil, _, cap, rfl, by simp, h3, .inr ⟨g, 0, rfl, (Array.getElem?_eq_some_iff.1 h1).1, fun i hi => by simp at hi⟩⟩
    · obtain ⟨b', c', rfl, hK', hR', hn', hm'⟩ := RowK.ofOwns ho (List.length_pos_iff.2 hx)
      have hO : Own w' w.heap.size (.slice (some ⟨b', 0, none⟩) xs.length c') xs := ⟨hf, b', c', rfl, hK', hR', hn', hm'⟩
      exact ⟨_, rfl, hO.lim, fun _ => hO, hbw⟩

set_option maxHeartbeats 400000 in
theorem shrink_own (K b n c : Nat) (d : Nat) (xs : List Nat) (w : World) (hR : Row w b c xs) (hN : xs.length = n) (hf : Fits xs) (hnc : n ≤ c) (hmax : c ≤ maxLen) (hn : n ≤ 1099511627776) (hd : 0 < d) (hd2 : d < 4294967296) :
    Calls Try.prog 92 #[.slice (some ⟨b, 0, none⟩) n c, .int .u32 d] w fun e w' => ∃ (r : Nat) (zs : List Nat), e = .returned (.int .u32 r) ∧ r < d ∧ Row w' b c zs ∧ Fits zs ∧ zs.length = n ∧ val zs * d + r = val xs ∧ w.grownBy w' (some b) := by
  have HN := hid hN
  have HR := hid hR
  clear hN hR
  unfold maxLen at hmax
  go_enter Try.func92, Try.ntmps92
  go_wp2
  go_loopw [5, 6] (fun r i wr => ∃ (z : Int) (r0 : Nat) (vs : List Nat), -1 ≤ z ∧ z < n ∧ i = .int .i64 z ∧ r = .int .u64 r0 ∧ r0 < d ∧ Hid (Row wr b c vs) ∧ Hid (vs.length = n) ∧ Fits vs ∧
      Hid (val (vs.drop (z + 1).toNat) * d + r0 = val (xs.drop (z + 1).toNat)) ∧ Hid (∀ j, j < (z + 1).toNat → dg vs j = dg xs j) ∧ Hid (w.grownBy wr (some b))) (fun _ i _ => (intOf i + 1).toNat)
  case atStart =>
    refine ⟨(n : Int) - 1, 0, xs, by omega, by omega, rfl, rfl, hd, HR, HN, hf, ?_, hid (fun j _ => rfl), World.grownBy.refl _ _⟩
    show _ = _
    rw [show ((n : Int) - 1 + 1).toNat = n by omega, List.drop_of_length_le (by rw [HN.out]; exact Nat.le_refl _)]
    simp [val_nil]
  case round =>
    obtain ⟨z, r0, vs, hz1, hz2, rfl, rfl, hr0, hB, hl, hf', hI, hZ, hg⟩ := hrel
    by_cases h0 : z = -1
    · subst h0
      go_wp2
      go_ret
      exact ⟨r0, vs, rfl, hr0, hB.out, hf', hl.out, hI.out, hg.out⟩
    · obtain ⟨k, rfl⟩ := Int.eq_ofNat_of_zero_le (show 0 ≤ z by omega)
      have cu := hB.out.cell (i := k) (by rw [hl.out]; omega)
      have fu := hB.out.free k
      have bu := hf' k
      obtain ⟨P, hP, hor⟩ := or_limb r0 (dg vs k) (by omega) bu
      have hq : P / d < 4294967296 := by
        rw [Nat.div_lt_iff_lt_mul hd]
        have := Nat.mul_le_mul_right 4294967296 (show r0 + 1 ≤ d by omega)
        rw [Nat.add_mul] at this
        omega
      have hPb : P < 18446744073709551616 := by omega
      have hq0 : (0 : Int) ≤ (P : Int) / (d : Int) := Int.ediv_nonneg (by omega) (by omega)
      have HP := hid hP
      clear hP
      go_wp2
      go_roundw
      case rel =>
        refine ⟨(k : Int) - 1, P % d, vs.set k (P / d), by omega, by omega, by go_num, val_int (by omega), Nat.mod_lt _ hd, hid (hB.out.set k _ _ (by omega) (by omega)), hid (by rw [List.length_set]; exact hl.out), hf'.set _ _ hq, ?_, hid (fun j hj => ?_), ?_⟩
        · show _ = _
          have h1 := hI.out
          rw [show ((k : Int) + 1).toNat = k + 1 by omega] at h1
          rw [show ((k : Int) - 1 + 1).toNat = k by omega]
          exact shrink_step (by rw [hl.out]; omega) (by rw [hl.out]; exact HN.out) hd h1 (hZ.out k (by omega)) HP.out
        · rw [dg_set_ne _ _ _ _ (by omega)]
          exact hZ.out j (by omega)
        · exact grownBy_setCell hg.out _ _
      case measure => simp [intOf]

end Go.Proofs.Ytjeeepcnaaadmaa

