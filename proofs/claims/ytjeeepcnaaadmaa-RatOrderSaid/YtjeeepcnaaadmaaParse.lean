import Derived.Test.YtjeeepcnaaadmaaGrow
namespace Go.Proofs.Ytjeeepcnaaadmaa
open Go.RowKit
open Num
set_option linter.unusedVariables false
set_option maxRecDepth 100000
set_option linter.unusedSimpArgs false

def lenStr : Value → Nat | .string s => s.size | _ => 0
theorem Blk.own {w : World} {b m : Nat} (h : Blk w b (List.replicate m 0)) (hm : m ≤ maxLen) : Own w b (.slice (some ⟨b, 0, none⟩) 0 m) [] :=
  ⟨Fits.nil, b, m, rfl, Nat.le_refl _, ⟨_, h, by rw [size_cellsOf, List.length_replicate], fun i hi => by simp at hi⟩, Nat.zero_le _, hm⟩

theorem extract_end (t : ByteArray) (a : Nat) : (t.extract a t.size).data.toList = t.data.toList.drop a := by
  rw [ByteArray.data_extract, Array.toList_extract, List.extract]
  rw [List.take_of_length_le]
  simp
theorem size_extract_end (t : ByteArray) (a : Nat) : (t.extract a t.size).size = t.size - a := by
  rw [ByteArray.size_extract]; omega

set_option maxHeartbeats 400000 in
theorem parse_no (s : ByteArray) (w : World) (hs : s.size ≤ maxLen) (hn : isNat s.data.toList = false) :
    Calls Try.prog 94 #[.string s] w fun e w' => e = .returned (.tuple #[.slice none 0 0, errno 1]) ∧ w = w' := by
  have HC := hid (isNat_any s w hs false hn)
  clear hn
  go_enter Try.func94, Try.ntmps94
  go_wp2_with fail
  refine HC.out.mono ?_
  rintro e w' ⟨rfl, rfl⟩
  go_wp2_with fail
  go_ret2
  exact ⟨rfl, rfl⟩

set_option maxHeartbeats 1000000 in
theorem parse_trim (s : ByteArray) (w : World) (hs : s.size ≤ 1099511627776) (hn : isNat s.data.toList = true) :
    Calls Try.prog 94 #[.string s] w fun e w' => ∃ v xs, e = .returned (.tuple #[v, .nilIface]) ∧ Own w' w.heap.size v xs ∧ val xs = dval s.data.toList ∧ xs.length ≤ s.size ∧ Trim xs ∧ Below w.heap.size w w' := by
  obtain ⟨i0, hi, hz0, hz1, hz2⟩ := info_parts infoU32
  have HC := hid (isNat_any s w (by unfold maxLen; omega) true hn)
  have HA := hid (isNat_all hn)
  clear hn
  go_enter Try.func94, Try.ntmps94
  go_wp2_with fail
  refine HC.out.mono ?_
  rintro e w' ⟨rfl, rfl⟩
  go_wp2_with (refine wpList_make_limbs _ rfl _ _ 47 rfl i0 Try.underlying47 hi hz0 hz1 hz2 _ _ 0 (s.size / 9 + 1) rfl rfl ?cL ?cC (Nat.zero_le _) ?cb ?_)
  case cL => rfl
  case cC => omega
  case cb => omega
  intro w1 hblk hbelow hsz
  have HO := hid (hblk.own (by unfold maxLen; omega))
  clear hblk
  go_wp2
  go_loopw [0, 4] (fun a x wr => ∃ (t : ByteArray) (k : Nat) (xs : List Nat), a = .string t ∧ Hid (t.data.toList = s.data.toList.drop k) ∧ Hid (Own wr w.heap.size x xs) ∧ Hid (val xs = dval (s.data.toList.take k)) ∧ xs.length ≤ k ∧ Hid (k + t.size = s.size) ∧ Hid (Trim xs) ∧ Hid (Below w.heap.size w wr)) (fun a _ _ => lenStr a)
  case atStart => exact ⟨s, 0, [], rfl, hid rfl, HO, hid rfl, Nat.le_refl _, hid (by omega), hid (.inl rfl), hbelow⟩
  case round =>
    obtain ⟨t, k, xs, rfl, ht, hO, hv, hlen, hk, htr, hbw⟩ := hrel
    have hts : t.size ≤ 1099511627776 := by have := hk.out; omega
    have hta : t.data.toList.all isDig = true := by rw [ht.out]; exact all_drop HA.out k
    have HTA := hid hta
    clear hta
    by_cases h0 : t.size = 0
    · have hp : ¬ 0 < t.size := by omega
      have hfin : val xs = dval s.data.toList := by
        rw [hv.out, List.take_of_length_le]
        have := hk.out
        simp; omega
      have HF := hid hfin
      clear hfin h0
      go_wp2
      go_ret2
      exact ⟨_, xs, rfl, hO.out, HF.out, by have := hk.out; omega, htr.out, hbw.out⟩
    · have hp : 0 < t.size := by omega
      clear h0
      obtain ⟨n, hn, hn1, hn2, hmin⟩ : ∃ n : Nat, 0 < n ∧ n ≤ 9 ∧ n ≤ t.size ∧ ((t.size ≤ 9 ∧ n = t.size) ∨ (9 < t.size ∧ n = 9)) := by
        by_cases h : t.size ≤ 9
        · exact ⟨t.size, hp, h, Nat.le_refl _, .inl ⟨h, rfl⟩⟩
        · exact ⟨9, by omega, by omega, by omega, .inr ⟨by omega, rfl⟩⟩
      have hall : ∀ i, i < t.size → ∃ h : i < t.size, 48 ≤ (t[i].toNat : Int) ∧ (t[i].toNat : Int) ≤ 57 := by
        intro i hi
        refine ⟨hi, ?_⟩
        have h2 := HTA.out
        rw [List.all_eq_true] at h2
        have := h2 t[i] (List.mem_of_getElem? (toList_at t i hi))
        simp [isDig] at this
        omega
      have HALL := hid hall
      clear hall
      rcases hmin with ⟨h9, rfl⟩ | ⟨h9, rfl⟩ <;>
      ( go_wp2
        go_loop [6, 7, 25] (fun c sc i => ∃ (j c0 s0 : Nat), Hid (j ≤ t.size) ∧ j ≤ 9 ∧ j ≤ t.size ∧ i = .int .i64 j ∧ c = .int .u64 c0 ∧ sc = .int .u64 s0 ∧ c0 < s0 ∧ s0 ≤ 1000000000 ∧ Hid (c0 = dval (t.data.toList.take j)) ∧ Hid (s0 = 10 ^ j)) (fun _ _ i => 9 - (intOf i).toNat)
        case atStart => exact ⟨0, 0, 1, hid (by omega), by omega, by omega, rfl, rfl, rfl, by omega, by omega, hid rfl, hid rfl⟩
        case round =>
          obtain ⟨j, c0, s0, hj0, hj9, hjt, rfl, rfl, rfl, hcs, hs9, hc, hs0⟩ := hrel
          by_cases hlt : j < 9 ∧ j < t.size
          · obtain ⟨hl1, hl2⟩ := hlt
            obtain ⟨_, hd1, hd2⟩ := HALL.out j hl2
            have hs8 : s0 ≤ 100000000 := by
              rw [hs0.out]
              exact Nat.le_trans (Nat.pow_le_pow_right (by omega) (show j ≤ 8 by omega)) (by omega)
            go_wp2
            go_round
            case rel =>
              refine ⟨j + 1, 10 * c0 + (t[j].toNat - 48), 10 * s0, hid (by omega), by omega, by omega, by go_num, val_int (by omega), val_int (by omega), by omega, by omega, ?_, ?_⟩
              · show _ = _
                rw [take_snoc t j hl2, dval_snoc, hc.out]
              · show _ = _
                rw [hs0.out, Nat.pow_succ, Nat.mul_comm]
            case measure => simp [intOf]; omega
          · first
            | (have hge : t.size ≤ j := by omega)
            | (have hge : 9 ≤ j := by omega)
            clear hlt
            have HCall := hid (grow_own w.heap.size u4 s0 c0 xs wr hO.out (by have := hk.out; omega) hs9 hcs)
            go_wp2_with fail
            refine HCall.out.mono ?_
            rintro e w' ⟨v', zs, rfl, hO', hv', hl', hb', ht'⟩
            have HO' := hid hO'
            have HV' := hid hv'
            have HB' := hid (hbw.out.trans hb')
            have HT' := hid (ht' htr.out)
            clear hO' hv' hb' ht' HCall
            go_wp2_with fail
            go_roundw
            case rel =>
              refine ⟨_, k + j, zs, rfl, ?_, HO', ?_, by omega, ?_, HT', HB'⟩
              · show _ = _
                have h1 : s.data.toList.length = s.size := rfl
                have h2 := hk.out
                first
                | (rw [extract_end, ht.out, List.drop_drop]; congr 1; omega)
                | (rw [List.drop_of_length_le (by omega)]; rfl)
              · show _ = _
                rw [HV'.out, hv.out, hc.out, hs0.out, ht.out, List.take_add, dval_append]
                congr 1
                rw [List.length_take, List.length_drop]
                have h1 : s.data.toList.length = s.size := rfl
                have h2 := hk.out
                rw [h1, Nat.min_eq_left (by omega)]
              · show _ = _
                have h2 := hk.out
                first
                | (rw [size_extract_end]; omega)
                | (show k + j + 0 = _; omega)
            case measure =>
              first
              | (simp only [lenStr, size_extract_end]; omega)
              | (show 0 < t.size; omega))

theorem parse_yes (s : ByteArray) (w : World) (hs : s.size ≤ 1099511627776) (hn : isNat s.data.toList = true) :
    Calls Try.prog 94 #[.string s] w fun e w' => ∃ v xs, e = .returned (.tuple #[v, .nilIface]) ∧ Own w' w.heap.size v xs ∧ val xs = dval s.data.toList ∧ xs.length ≤ s.size ∧ Below w.heap.size w w' := by
  refine (parse_trim s w hs hn).mono ?_
  rintro e w' ⟨v, xs, h1, h2, h3, h4, _, h5⟩
  exact ⟨v, xs, h1, h2, h3, h4, h5⟩

end Go.Proofs.Ytjeeepcnaaadmaa

