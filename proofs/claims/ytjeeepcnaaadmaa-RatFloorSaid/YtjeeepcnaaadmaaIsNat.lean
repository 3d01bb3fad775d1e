import Derived.Test.YtjeeepcnaaadmaaMul
import Derived.Test.YtjeeepcnaaadmaaDec
namespace Go.Proofs.Ytjeeepcnaaadmaa
open Go.RowKit
open Num
set_option linter.unusedVariables false
set_option maxRecDepth 100000
set_option linter.unusedSimpArgs false

theorem toList_at (s : ByteArray) (k : Nat) (h : k < s.size) : s.data.toList[k]? = some s[k] := by
  rw [List.getElem?_eq_getElem (by simpa using h)]; rfl
theorem take_snoc (s : ByteArray) (k : Nat) (h : k < s.size) : s.data.toList.take (k + 1) = s.data.toList.take k ++ [s[k]] := by
  rw [List.take_succ_eq_append_getElem (by simpa using h)]; rfl
theorem head_at (s : ByteArray) (h : 0 < s.size) : s.data.toList.head? = some s[0] := by
  rw [List.head?_eq_getElem?]; exact toList_at s 0 h
theorem u8_eq {a : UInt8} {n : Nat} (hn : n < 256) : a = UInt8.ofNat n ↔ (a.toNat : Int) = (n : Int) := by
  constructor
  · rintro rfl; rw [UInt8.toNat_ofNat']; omega
  · intro h
    apply UInt8.toNat_inj.1
    rw [UInt8.toNat_ofNat']; omega

set_option maxHeartbeats 400000 in
theorem isNat_any (s : ByteArray) (w : World) (hs : s.size ≤ maxLen) (bv : Bool) (hbv : isNat s.data.toList = bv) :
    Calls Try.prog 102 #[.string s] w fun e w' => e = .returned (.bool bv) ∧ w = w' := by
  unfold maxLen at hs
  have HBV := hid hbv
  clear hbv
  have htl : s.toList = s.data.toList := ByteArray.toList_eq s
  by_cases h0 : s.size = 0
  · have he : s.data.toList = [] := List.length_eq_zero_iff.1 (by simpa using h0)
    have hn : s.toList = [] := htl.trans he
    have HE := hid he
    clear he htl h0
    go_enter Try.func102, Try.ntmps102
    go_wp2
    go_ret
    exact ⟨ret_bool (by rw [← HBV.out, HE.out]; rfl), rfl⟩
  · have hpos : 0 < s.size := by omega
    have hne0 : s.data.toList ≠ [] := by intro e; have h2 : s.size = 0 := congrArg List.length e; omega
    have hne : ¬ s.toList = [] := by rw [htl]; exact hne0
    have hie : s.toList.isEmpty = false := by simpa using hne
    have hh := head_at s hpos
    have HH := hid hh
    have HT := hid htl
    have HN0 := hid hne0
    clear hh htl h0 hne0
    by_cases hB : (s[0].toNat : Int) = 48 ∧ (s.toList == [48]) = false
    · obtain ⟨h48, hq⟩ := hB
      have hr : bv = false := by
        rw [← HBV.out]
        exact isNat_lead (by rw [HH.out, (u8_eq (n := 48) (by omega)).2 h48]; rfl) (by rw [← HT.out]; exact hq)
      have HR := hid hr
      clear hr
      go_enter Try.func102, Try.ntmps102
      go_wp2
      go_ret
      exact ⟨ret_bool HR.out.symm, rfl⟩
    · have hC : ¬ (s[0].toNat : Int) = 48 ∨ ((s[0].toNat : Int) = 48 ∧ (s.toList == [48]) = true) := by
        by_cases h : (s[0].toNat : Int) = 48
        · right
          refine ⟨h, ?_⟩
          cases hq : (s.toList == [48]) with
          | true => rfl
          | false => exact absurd ⟨h, hq⟩ hB
        · left; exact h
      have hr : isNat s.data.toList = s.data.toList.all isDig := by
        refine isNat_rest HN0.out ?_
        rcases hC with h | h
        · left
          intro e
          rw [HH.out] at e
          exact h ((u8_eq (a := s[0]) (n := 48) (by omega)).1 (by simpa using e))
        · right; rw [← HT.out]; exact h.2
      have HR := hid hr
      clear hr hB
      rcases hC with h48 | ⟨h48, hq⟩ <;>
      ( go_enter Try.func102, Try.ntmps102
        go_wp2
        go_loop [17] (fun i => ∃ k : Nat, k ≤ s.size ∧ i = .int .i64 k ∧ Hid ((s.data.toList.take k).all isDig = true)) (fun i => s.size - (intOf i).toNat)
        case atStart => exact ⟨0, by omega, rfl, hid (by simp)⟩
        case round =>
          obtain ⟨k, hk, rfl, ha⟩ := hrel
          by_cases hlt : k < s.size
          · by_cases hd : 48 ≤ (s[k].toNat : Int) ∧ (s[k].toNat : Int) ≤ 57
            · obtain ⟨hd1, hd2⟩ := hd
              go_wp2
              go_round
              case rel =>
                refine ⟨k + 1, by omega, by go_num, ?_⟩
                show _ = _
                rw [take_snoc s k hlt, List.all_append, ha.out]
                simp [isDig]; omega
              case measure => simp [intOf]; omega
            · have hf : bv = false := by
                rw [← HBV.out, HR.out, List.all_eq_false]
                refine ⟨s[k], List.mem_of_getElem? (toList_at s k hlt), ?_⟩
                simp [isDig]; omega
              have HF := hid hf
              clear hf
              by_cases hlo : (s[k].toNat : Int) < 48
              · clear hd
                go_wp2
                go_ret
                exact ⟨ret_bool HF.out.symm, rfl⟩
              · have hhi : (57 : Int) < (s[k].toNat : Int) := by omega
                clear hd
                go_wp2
                go_ret
                exact ⟨ret_bool HF.out.symm, rfl⟩
          · have hf : bv = true := by
              rw [← HBV.out, HR.out]
              have := ha.out
              rwa [List.take_of_length_le (by simp; omega)] at this
            have HF := hid hf
            clear hf
            go_wp2
            go_ret
            exact ⟨ret_bool HF.out.symm, rfl⟩)

end Go.Proofs.Ytjeeepcnaaadmaa

