import Derived.Test.YtefpifcfnfkfoaaDoorRText
import Derived.Test.YtefpifcfnfkfoaaDoorIsNat
import Derived.Deep.RegionWith
import Derived.IntWalk
namespace Go.Proofs.YtefpifcfnfkfoaaDoor
open Go.RowKit
open Num (dg dg_lt dg_ge dg_zeros dg_take dg_drop dg_set_self dg_set_ne tl tlen tl_zero tl_skip tl_stop tl_le tlen_le trimL length_trimL tl_top drop_dg isDig isNat dval dtext dch toNat_dig isDig_dig)
open Num4
set_option linter.unusedVariables false
set_option linter.unusedSimpArgs false

theorem below_then {K : Nat} {a b c : World} (h : Below K a b) (hK : K ≤ a.heap.size) (h2 : Below b.heap.size b c) : Below K a c := h.trans (h2.mono (Nat.le_trans hK h.size))

/-- A text that was read as a natural; what is wrong. -/
def NatRead (w : World) (s : ByteArray) (e : Ending) (w' : World) : Prop :=
  (isNat s.data.toList = true ∧ ∃ v xs, e = .returned (.tuple #[v, .int .i64 0]) ∧ LimR w' v xs ∧ Trim xs ∧ val xs = dval s.data.toList ∧ Below w.heap.size w w') ∨
  (isNat s.data.toList = false ∧ e = .returned (.tuple #[.slice none 0 0, .int .i64 1]) ∧ Below w.heap.size w w')

theorem pow10_le (k : Nat) : 10 ^ k ≤ B ^ k := Nat.pow_le_pow_left (by decide) k

set_option maxHeartbeats 4000000 in
set_option maxRecDepth 100000 in
theorem natof_some (s : ByteArray) (w : World) (hs : s.size ≤ 100) (hpos : 0 < s.size) (hl : ¬ (s[0].toNat : Int) = 48 ∨ ((s[0].toNat : Int) = 48 ∧ s.size = 1)) :
    Calls Tryd.prog 5 #[.string s] w (NatRead w s) := by
  have htl : s.toList = s.data.toList := ByteArray.toList_eq s
  have hne0 : s.data.toList ≠ [] := by intro e; have h2 : s.size = 0 := congrArg List.length e; omega
  have hne : ¬ s.toList = [] := by rw [htl]; exact hne0
  have hie : s.toList.isEmpty = false := by simpa using hne
  have hrest : isNat s.data.toList = s.data.toList.all isDig := by
    refine Num.isNat_rest hne0 ?_
    rcases hl with h | ⟨h, h1⟩
    · left
      rw [head_at s hpos]
      intro e
      exact h ((u8_eq (a := s[0]) (n := 48) (by omega)).1 (by simpa using e))
    · right
      rw [str_cons4 s hpos, (u8_eq (a := s[0]) (n := 48) (by omega)).2 h]
      have : s.data.toList.drop 1 = [] := List.drop_of_length_le (by show s.size ≤ 1; omega)
      rw [this]; rfl
  have HRE := hid hrest
  clear htl hne0 hrest
  rcases hl with h48 | ⟨h48, h1⟩ <;>
  ( go_enter Tryd.func5, Tryd.ntmps5
    go_wp2_with fail
    go_loopw [4, 5] (fun out i wr => ∃ (k : Nat) (xs : List Nat), k ≤ s.size ∧ i = .int .i64 k ∧ Hid (LimR wr out xs) ∧ Hid (Trim xs) ∧ Hid (val xs = dval (s.data.toList.take k)) ∧ Hid ((s.data.toList.take k).all isDig = true) ∧ Hid (Below w.heap.size w wr)) (fun _ i _ => s.size - (intOf i).toNat)
    case atStart => exact ⟨0, [], by omega, rfl, LimR.nil _, .inl rfl, hid rfl, hid rfl, Below.refl _ _⟩
    case round =>
      obtain ⟨k, xs, hk, rfl, HL, HT, HV, HA, HB⟩ := hrel
      by_cases hlt : k < s.size
      · by_cases hd : 48 ≤ (s[k].toNat : Int) ∧ (s[k].toNat : Int) ≤ 57
        · obtain ⟨hd1, hd2⟩ := hd
          have hxl : xs.length ≤ 100 := by
            refine Nat.le_trans (length_le_of_val HT.out k ?_) (by omega)
            rw [HV.out]
            refine Nat.lt_of_lt_of_le (Num.dval_lt HA.out) ?_
            rw [List.length_take]
            exact Nat.le_trans (Nat.pow_le_pow_right (by omega) (Nat.min_le_left _ _)) (pow10_le k)
          have MUL : ∀ w' vt, Below wr.heap.size wr w' → LimR w' vt [10] → Calls Tryd.prog 11 #[u4, vt] w' fun e w2 => ∃ v' zs, e = .returned v' ∧ LimR w2 v' zs ∧ zs.length ≤ 101 ∧ val zs = val xs * 10 ∧ Below w'.heap.size w' w2 := by
            intro w' vt hb ht
            refine (rmul_lim (HL.out.below hb (Nat.le_refl _)) ht (by omega) (by simp)).mono ?_
            rintro e w2 ⟨v', zs, rfl, h1, h2, h3, h4⟩
            rw [val_single] at h3
            refine ⟨v', zs, rfl, h1, length_le_of_val h2 101 ?_, h3, h4⟩
            rw [h3, Nat.pow_succ]
            refine Nat.mul_lt_mul'' ?_ (by decide)
            exact Nat.lt_of_lt_of_le (val_lt HL.out.1) (Nat.pow_le_pow_right B_pos hxl)
          have SMA : ∀ w', Calls Tryd.prog 20 #[.int .i64 (IntKind.i64.wrap (IntKind.u8.wrap ((s[k].toNat : Int) - 48)))] w' fun e w2 => ∃ v' zs, e = .returned v' ∧ LimR w2 v' zs ∧ zs.length ≤ 9 ∧ val zs = s[k].toNat - 48 ∧ Below w'.heap.size w' w2 := by
            intro w'
            have hw : IntKind.i64.wrap (IntKind.u8.wrap ((s[k].toNat : Int) - 48)) = ((s[k].toNat - 48 : Nat) : Int) := by
              rw [IntWalk.u8_in _ (by omega), IntWalk.i64_in _ (by omega)]
              omega
            rw [hw]
            refine (rsmall_lim w' (s[k].toNat - 48) (by omega)).mono ?_
            rintro e w2 ⟨v', zs, rfl, h1, h2, h3, h4, h5⟩
            exact ⟨v', zs, rfl, h1, by omega, h3, h5⟩
          have MUL := hid MUL
          have SMA := hid SMA
          have T10 := hid (show LimR (wr.alloc (.cells #[.int .i64 10] 3)).drew (.slice (some ⟨wr.heap.size, 0, none⟩) 1 1) [10] from (Acc.one wr (K := wr.heap.size) (Nat.le_refl _) 10 10 rfl).lim (Fits.single (show 10 < 10000 by omega)))
          have BA := hid (((Below.refl wr.heap.size wr).alloc (Nat.le_refl _) (.cells #[.int .i64 10] 3)).drew)
          go_wp2_with fail
          go_region_with (first
            | (go_at_call 11; refine (MUL.out _ _ ?hb ?ht).mono ?_; (case hb => exact BA.out); (case ht => exact T10.out); rintro e wM ⟨vM, zM, rfl, hLM, hlM, hvM, hbM⟩)
            | (go_at_call 20; refine (SMA.out _).mono ?_; rintro e wS ⟨vS, zS, rfl, hLS, hlS, hvS, hbS⟩)
            | (go_at_call 10; refine (radd_lim (hLM.below hbS (Nat.le_refl _)) hLS ?b1 ?b2).mono ?_; (case b1 => omega); (case b2 => omega); rintro e wA ⟨vA, zA, rfl, hLA, hTA, hvA, hbA⟩))
          all_goals
          ( have HLA := hid hLA
            have HTA := hid hTA
            have HVA := hid (show val zA = dval (s.data.toList.take (k + 1)) by rw [hvA, hvM, hvS, HV.out, take_snoc s k hlt, Num.dval_snoc, Nat.mul_comm])
            have HAA := hid (show (s.data.toList.take (k + 1)).all isDig = true by
              rw [take_snoc s k hlt, List.all_append, HA.out]
              simp [isDig]; omega)
            have B1 := below_then BA.out (Nat.le_refl _) hbM
            have B2 := below_then B1 (Nat.le_refl _) hbS
            have B3 := below_then B2 (Nat.le_refl _) hbA
            have HBB := hid (HB.out.trans (B3.mono HB.out.size))
            clear hLM hlM hvM hbM hLS hlS hvS hbS hLA hTA hvA hbA B1 B2 B3 BA T10 SMA MUL
            go_wp2_with fail
            go_roundw
            case rel => exact ⟨k + 1, zA, by omega, by go_num, HLA, HTA, HVA, HAA, HBB⟩
            case measure => simp [intOf]; omega )
        · have hf : isNat s.data.toList = false := by
            rw [HRE.out, List.all_eq_false]
            refine ⟨s[k], List.mem_of_getElem? (toList_at s k hlt), ?_⟩
            simp [isDig]; omega
          have HF := hid hf
          clear hf
          by_cases hlo : (s[k].toNat : Int) < 48
          · clear hd
            go_wp2_with fail
            go_ret2
            exact .inr ⟨HF.out, rfl, HB.out⟩
          · have hhi : (57 : Int) < (s[k].toNat : Int) := by omega
            clear hd
            go_wp2_with fail
            go_ret2
            exact .inr ⟨HF.out, rfl, HB.out⟩
      · obtain rfl : k = s.size := by omega
        have hall : (s.data.toList.take s.size) = s.data.toList := List.take_of_length_le (Nat.le_refl _)
        have HF := hid (show isNat s.data.toList = true by rw [HRE.out, ← hall]; exact HA.out)
        have HV2 := hid (show val xs = dval s.data.toList by rw [← hall]; exact HV.out)
        clear hall
        go_wp2_with fail
        go_ret2
        exact .inl ⟨HF.out, _, xs, rfl, HL.out, HT.out, HV2.out, HB.out⟩ )

theorem natof_good {s : ByteArray} (w : World) (hs : s.size ≤ 100) (hn : isNat s.data.toList = true) :
    Calls Tryd.prog 5 #[.string s] w fun e w' => ∃ v xs, e = .returned (.tuple #[v, .int .i64 0]) ∧ LimR w' v xs ∧ Trim xs ∧ val xs = dval s.data.toList ∧ Below w.heap.size w w' := by
  have hne : s.data.toList ≠ [] := Num.isNat_ne hn
  have hpos : 0 < s.size := List.length_pos_iff.2 hne
  refine (natof_some s w hs hpos ?_).mono ?_
  · by_cases h : (s[0].toNat : Int) = 48
    · right
      refine ⟨h, ?_⟩
      apply Classical.byContradiction
      intro hh
      have h1 : isNat s.data.toList = false := by
        refine Num.isNat_lead ?_ ?_
        · rw [head_at s hpos, (u8_eq (a := s[0]) (n := 48) (by omega)).2 h]; rfl
        · rw [beq_eq_false_iff_ne]
          intro e
          have h2 : s.size = 1 := congrArg List.length e
          exact hh h2
      rw [hn] at h1
      exact absurd h1 (by decide)
    · exact .inl h
  · rintro e w' (⟨_, h⟩ | ⟨h, _⟩)
    · exact h
    · rw [hn] at h; exact absurd h (by decide)

set_option maxHeartbeats 1000000 in
set_option maxRecDepth 100000 in
theorem natof_bad {s : ByteArray} {k : Int} (w : World) (h63 : s.size ≤ maxLen) (hk : (100 < s.size ∧ k = 4) ∨ (s.size ≤ 100 ∧ isNat s.data.toList = false ∧ k = 1)) :
    Calls Tryd.prog 5 #[.string s] w fun e w' => e = .returned (.tuple #[.slice none 0 0, .int .i64 k]) ∧ Below w.heap.size w w' := by
  unfold maxLen at h63
  rcases hk with ⟨h, rfl⟩ | ⟨hs, hn, rfl⟩
  · go_enter Tryd.func5, Tryd.ntmps5
    go_wp2_with fail
    go_ret2
    exact ⟨rfl, Below.refl _ _⟩
  · have htl : s.toList = s.data.toList := ByteArray.toList_eq s
    by_cases h0 : s.size = 0
    · have he : s.data.toList = [] := List.length_eq_zero_iff.1 (by simpa using h0)
      have he2 : s.toList = [] := htl.trans he
      clear he htl hn
      go_enter Tryd.func5, Tryd.ntmps5
      go_wp2_with fail
      go_ret2
      exact ⟨rfl, Below.refl _ _⟩
    · have hpos : 0 < s.size := by omega
      by_cases hl : ¬ (s[0].toNat : Int) = 48 ∨ ((s[0].toNat : Int) = 48 ∧ s.size = 1)
      · refine (natof_some s w hs hpos hl).mono ?_
        rintro e w' (⟨h, _⟩ | ⟨_, h⟩)
        · rw [hn] at h; exact absurd h (by decide)
        · exact h
      · have hne0 : s.data.toList ≠ [] := by intro e; have h2 : s.size = 0 := congrArg List.length e; omega
        have hne : ¬ s.toList = [] := by rw [htl]; exact hne0
        have hie : s.toList.isEmpty = false := by simpa using hne
        have h48 : (s[0].toNat : Int) = 48 := by
          apply Classical.byContradiction
          intro h; exact hl (.inl h)
        have h1 : 1 < s.size := by
          apply Classical.byContradiction
          intro h; exact hl (.inr ⟨h48, by omega⟩)
        clear hl htl hne0 hn
        go_enter Tryd.func5, Tryd.ntmps5
        go_wp2_with fail
        go_ret2
        exact ⟨rfl, Below.refl _ _⟩

end Go.Proofs.YtefpifcfnfkfoaaDoor
