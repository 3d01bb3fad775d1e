import Derived.Test.YtjeeepcnaaadmaaShrink
namespace Go.Proofs.Ytjeeepcnaaadmaa
open Go.RowKit
open Num
set_option linter.unusedVariables false
set_option maxRecDepth 100000
set_option linter.unusedSimpArgs false

set_option maxHeartbeats 1000000 in
theorem reverse_row (b n c : Nat) (xs : List Nat) (w : World) (hR : Row8 w b c xs) (hN : xs.length = n) (hnc : n ≤ c) (hn : n ≤ 1099511627776) :
    Calls Try.prog 93 #[.slice (some ⟨b, 0, none⟩) n c] w fun e w' => e = .returned (.tuple #[]) ∧ Row8 w' b c xs.reverse ∧ w.grownBy w' (some b) := by
  have HN := hid hN
  have HR := hid hR
  clear hN hR
  go_enter Try.func93, Try.ntmps93
  go_wp2
  go_loopw [2, 3] (fun i j wr => ∃ (k : Nat) (z : Int) (vs : List Nat), 2 * k ≤ n + 1 ∧ i = .int .i64 k ∧ j = .int .i64 z ∧ z = n - 1 - k ∧ Hid (Row8 wr b c vs) ∧ Hid (vs.length = n) ∧
      Hid (∀ t, t < n → dg vs t = if t < k ∨ n ≤ t + k then dg xs (n - 1 - t) else dg xs t) ∧ Hid (w.grownBy wr (some b))) (fun i _ _ => n - (intOf i).toNat)
  case atStart => exact ⟨0, (n : Int) - 1, xs, by omega, rfl, rfl, by omega, HR, HN, hid (fun t ht => by rw [if_neg (by omega)]), World.grownBy.refl _ _⟩
  case round =>
    obtain ⟨k, z, vs, hk, rfl, rfl, hz, hB, hl, hI, hg⟩ := hrel
    have HZ := hid hz
    by_cases hlt : (k : Int) < z
    · obtain ⟨j, hj⟩ := Int.eq_ofNat_of_zero_le (show 0 ≤ z by omega)
      subst hj
      have hj2 : j < n := by omega
      have hk2 : k < n := by omega
      have ci := hB.out.cell (i := k) (by rw [hl.out]; omega)
      have cj := hB.out.cell (i := j) (by rw [hl.out]; omega)
      have fi := hB.out.free k
      have fj := hB.out.free j
      clear hz
      go_wp2
      go_region
      all_goals go_wp2
      go_roundw
      case rel =>
        refine ⟨k + 1, (j : Int) - 1, (vs.set k (dg vs j)).set j (dg vs k), by have := HZ.out; omega, by go_num, rfl, by have := HZ.out; omega, hid (RowK.drewN ((hB.out.set k _ _ rfl (by omega)).set j _ _ rfl (by omega)) 1), hid (by rw [List.length_set, List.length_set]; exact hl.out), hid (fun t ht => ?_), ?_⟩
        · have hz := HZ.out
          have h1 := hI.out t ht
          have h2 := hI.out k hk2
          have h3 := hI.out j hj2
          have hlen := hl.out
          by_cases e1 : t = j
          · subst e1
            rw [dg_set_self _ _ _ (by rw [List.length_set]; omega), if_pos (by omega), h2, if_neg (by omega)]
            congr 1; omega
          · rw [dg_set_ne _ _ _ _ e1]
            by_cases e2 : t = k
            · subst e2
              rw [dg_set_self _ _ _ (by omega), if_pos (by omega), h3, if_neg (by omega)]
              congr 1; omega
            · rw [dg_set_ne _ _ _ _ e2, h1]
              by_cases e3 : t < k ∨ n ≤ t + k
              · rw [if_pos e3, if_pos (by omega)]
              · rw [if_neg e3, if_neg (by omega)]
        · have h := grownBy_setCell (grownBy_setCell hg.out k (.int .u8 (dg vs j))) j (.int .u8 (dg vs k))
          exact ⟨h.os, h.tape, h.output, h.size, h.block⟩
      case measure => simp [intOf]; omega
    · have he : vs = xs.reverse := by
        refine ext_dg (by rw [List.length_reverse, hl.out, HN.out]) (fun t ht => ?_)
        rw [hl.out] at ht
        have h1 := hI.out t ht
        rw [h1, dg_reverse (by rw [HN.out]; exact ht), HN.out]
        by_cases e : t < k ∨ n ≤ t + k
        · rw [if_pos e]
        · rw [if_neg e]; congr 1; omega
      have HE := hid he
      clear he hz
      go_wp2
      go_end0
      exact ⟨rfl, by rw [← HE.out]; exact hB.out, hg.out⟩

/-- A digit's byte. -/
def D8 (ds : List Nat) : List Nat := ds.map (48 + ·)
theorem length_D8 (ds : List Nat) : (D8 ds).length = ds.length := by simp [D8]
theorem dg_D8 {ds : List Nat} {i : Nat} (h : i < ds.length) : dg (D8 ds) i = 48 + dg ds i := by simp [dg, D8, h]
theorem D8_snoc (ds : List Nat) (d : Nat) : (D8 ds).map V8 ++ [.int .u8 ((48 + d : Nat) : Int)] = (D8 (ds ++ [d])).map V8 := by simp [D8, VK]
theorem D8_snoc' (ds : List Nat) (ch : Nat) : (D8 ds).map V8 ++ [.int .u8 (48 + (ch : Int) % 10)] = (D8 (ds ++ [ch % 10])).map V8 := by
  rw [← D8_snoc]
  rw [show ((48 + ch % 10 : Nat) : Int) = 48 + (ch : Int) % 10 by omega]
theorem D8_take (ds : List Nat) (k : Nat) : (D8 ds).take k = D8 (ds.take k) := by simp [D8, List.map_take]

/-- Bytes of digits turned round are the digits' text. -/
theorem D8_back {w : World} {g cap k : Nat} {ds : List Nat} (hr : Row8 w g cap (D8 ds).reverse) (hk : ds.length = k) (hl : Low ds) :
    (convert 96 9 (.slice (some ⟨g, 0, none⟩) k cap)).run Try.prog w = .ok (.string ⟨(rtext ds).toArray⟩) w := by
  have hlen : (rtext ds).length = k := by rw [rtext, List.length_map, List.length_reverse, hk]
  rw [← hlen]
  refine run_convert_bytes_back w _ _ _ ⟨g, 0, none⟩ cap (rtext ds) Try.underlying96 Try.underlying5 Try.underlying9 (fun j hj => ?_)
  have hj2 : j < ds.length := by omega
  have hlr : (D8 ds).reverse.length = ds.length := by rw [List.length_reverse, length_D8]
  have e : ((⟨g, 0, none⟩ : Addr).add j) = ⟨g, j, none⟩ := by unfold Addr.add; split <;> simp_all
  rw [e, hr.cell (i := j) (by omega)]
  congr 2
  rw [dg_reverse (by rw [length_D8]; exact hj2), length_D8, dg_D8 (by omega)]
  have h9 := hl (ds.length - 1 - j)
  have e2 : (rtext ds)[j] = dch (dg ds (ds.length - 1 - j)) := by
    simp only [rtext, List.getElem_map, List.getElem_reverse]
    rw [dg_lt (by omega)]
  rw [e2, toNat_dig h9]

def lenSl : Value → Nat | .slice _ n _ => n | _ => 0

def txt (n : Nat) : ByteArray := ⟨(dtext n).toArray⟩
theorem txt_list (n : Nat) : (txt n).data.toList = dtext n := by simp [txt]

set_option maxHeartbeats 1000000 in
theorem string_zero {w : World} {v : Value} {xs : List Nat} (h : Lim w v xs) (hz : val xs = 0) (hn : xs.length ≤ 1099511627776) :
    Calls Try.prog 67 #[v] w fun e w' => e = .returned (.string (txt 0)) ∧ Below w.heap.size w w' := by
  have h0 : trimL xs = [] := (trim_trimL xs).zero_iff.1 (by rw [val_trimL]; exact hz)
  have HT := hid (trim_lim h)
  clear h hz
  go_enter Try.func67, Try.ntmps67
  go_wp2_with fail
  refine HT.out.mono ?_
  rintro e w' ⟨v1, rfl, hL1, rfl⟩
  rw [h0] at hL1
  have HC := hid (clone_lim hL1 (by simp))
  clear hL1 h0
  go_wp2_with fail
  refine HC.out.mono ?_
  rintro e w' ⟨v2, rfl, hL2, _, hb2⟩
  obtain ⟨_, p, c, rfl, _⟩ := hL2
  go_wp2_with fail
  go_ret
  refine ⟨?_, hb2⟩
  rw [show txt 0 = ⟨#[48]⟩ by rw [txt, dtext_zero]]
  rfl

end Go.Proofs.Ytjeeepcnaaadmaa

