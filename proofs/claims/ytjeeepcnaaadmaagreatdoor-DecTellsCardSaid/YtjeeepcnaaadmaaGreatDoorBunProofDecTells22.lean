import Derived.Test.YtjeeepcnaaadmaaGreatDoorBunProofDecTells21
/-
  THE REFERENCE: RatOf, behind the slash, more.
-/
namespace Go.Proofs.YtjeeepcnaaadmaaGreatDoor
open Go.RowKit
open Num4
open Num (dg isNat dval)
set_option linter.unusedVariables false
set_option maxRecDepth 100000
set_option linter.unusedSimpArgs false

set_option maxHeartbeats 4000000 in
theorem ratofH (s : ByteArray) (w : World) (hs : s.size ≤ 100) (hsl : hasSl s.data.toList = true) (hA : isWhl (cutB s.data.toList) = true) (hB : isNat (cutA s.data.toList) = true) (hZ : whlOf (cutB s.data.toList) ≠ 0) (hD0 : dval (cutA s.data.toList) = 0) :
    Calls Tryz.prog 7 #[.string s] w fun e w' => ∃ s p n c p' n' c', e = .returned (.tuple #[.agg #[.bool s, .slice p n c, .slice p' n' c'], .int .i64 1]) ∧ Below w.heap.size w w' := by
  have Hhsl := hid hsl
  have HhA := hid hA
  have HhB := hid hB
  have HhZ := hid hZ
  have HhD0 := hid hD0
  have HS := hid hs
  obtain ⟨N, hN⟩ : ∃ N, (cutB s.data.toList).length = N := ⟨_, rfl⟩
  have hNle : N ≤ s.size := by rw [← hN]; exact cutB_le _
  have HN := hid hN
  have HF := hid (cut_front hN)
  obtain ⟨hlt, h47, hbk⟩ := cut_some hN hsl
  have HBK := hid hbk
  clear hbk
  have hsz : (s.size : Int) ≤ 100 := by omega
  have B := hid (Below.refl w.heap.size w)
  have hb1 := (Below.refl _ _).alloc (Nat.le_refl w.heap.size) (.cells #[.bool false, .slice none 0 0, .slice none 0 0] 28)
  have hx2 := Qbx.new w false none 0 0 none 0 0
  replace B := bb B hb1
  have XQ := hid hx2
  have hs3 : (w.alloc (.cells #[.bool false, .slice none 0 0, .slice none 0 0] 28)).heap.size = w.heap.size + 1 := by simp
  clear hb1 hx2
  clear hs3 hN hsl hA hB hZ hD0
  go_enter Tryz.func7, Tryz.ntmps7
  obtain ⟨cc4a, cc4b, cc4c⟩ := XQ.out.cells
  go_wp2_with fail
  generalize hW : w.alloc (.cells #[.bool false, .slice none 0 0, .slice none 0 0] 28) = W5 at *
  clear hW
  go_loop [4] (fun i => ∃ k : Nat, k ≤ N ∧ i = .int .i64 k) (fun i => N - (intOf i).toNat)
  case atStart => exact ⟨0, Nat.zero_le _, rfl⟩
  case round =>
    obtain ⟨k, hk, rfl⟩ := hrel
    by_cases hkN : k < N
    · have hks : k < s.size := by omega
      have hby := cut_byte HN.out hkN hks
      clear h47
      go_wp2_with fail
      go_round
      case rel => exact ⟨k + 1, by omega, by go_num⟩
      case measure => simp [intOf]; omega
    · obtain rfl : k = N := by omega
      clear hkN hk
      have hi1 : IntKind.i64.wrap ((k : Int) + 1) = (k : Int) + 1 := IntWalk.i64_in _ (by omega)
      have hi2 : ((k : Int) + 1).toNat = k + 1 := by omega
      have hi3 : (0 : Int) ≤ (k : Int) + 1 := by omega
      have hi4 : (k : Int) + 1 ≤ (s.size : Int) := by omega
      have hi5 : ¬ (k : Int) = (s.size : Int) := by omega
      go_wp2_with fail
      refine (rwholeof_good (s := s.extract 0 k) ⟨(by rw [ByteArray.size_extract]; have := HS.out; omega), by rw [HF.out]; exact HhA.out⟩ _).mono ?_
      rintro e w6 ⟨v, rfl, hv, hb⟩
      unfold znum at hv
      rw [HF.out] at hv
      obtain ⟨s5, p5, n5, c5, rfl⟩ := hv.opened
      replace XQ := qx XQ hb
      replace B := bb B hb
      clear cc4a cc4b cc4c
      have HT := hid hv
      clear hb hv
      have hb7 := (Below.refl _ _).alloc (Nat.le_refl w6.heap.size) (.cells #[.bool s5, .slice p5 n5 c5] 26)
      have hx8 := BoxR.new w6 s5 p5 n5 c5
      have L0 := hid XQ.out.lt
      replace XQ := qx XQ hb7
      replace HT := wr HT hb7
      replace B := bb B hb7
      have X5 := hid hx8
      have hs9 : (w6.alloc (.cells #[.bool s5, .slice p5 n5 c5] 26)).heap.size = w6.heap.size + 1 := by simp
      clear hb7 hx8
      obtain ⟨cc10a, cc10b, cc10c⟩ := XQ.out.cells
      obtain ⟨cc11a, cc11b⟩ := X5.out.both
      go_wp2_with fail
      generalize hW : w6.alloc (.cells #[.bool s5, .slice p5 n5 c5] 26) = W12 at *
      clear hW
      refine (natof_r HBK.out (by rw [ByteArray.size_extract]; have := HS.out; omega) HhB.out _).mono ?_
      rintro e w13 ⟨p6, n6, c6, rfl, hv, hb⟩
      replace XQ := qx XQ hb
      replace X5 := br X5 hb
      replace HT := wr HT hb
      replace B := bb B hb
      clear cc10a cc10b cc10c cc11a cc11b
      have HU := hid hv.value
      clear hb hv
      obtain ⟨cc14a, cc14b, cc14c⟩ := XQ.out.cells
      obtain ⟨cc15a, cc15b⟩ := X5.out.both
      have hn5 : ¬ (n5 : Int) = 0 := by have h1 := HT.out.inside.1.len; have h2 := HhZ.out; omega
      go_wp2_with fail
      have h1o := (natR_one w13).value
      have hb16 := (Below.refl _ _).alloc (Nat.le_refl w13.heap.size) (.cells #[.int .i64 1] 3)
      replace XQ := qx XQ hb16
      replace X5 := br X5 hb16
      replace HT := wr HT hb16
      replace HU := wr HU hb16
      replace B := bb B hb16
      have H1O := hid h1o
      clear h1o hb16
      have hc := rcmpn HU.out.nat H1O.out.nat (by omega) (by omega)
      rw [HhD0.out] at hc
      rw [show cmpv 0 1 = -1 by decide] at hc
      refine (hc).mono ?_
      rintro e w17 ⟨rfl, hb⟩
      replace XQ := qx XQ hb
      replace X5 := br X5 hb
      replace HT := wr HT hb
      replace HU := wr HU hb
      replace H1O := wr H1O hb
      replace B := bb B hb
      clear cc14a cc14b cc14c cc15a cc15b
      clear hb hc
      obtain ⟨cc18a, cc18b, cc18c⟩ := XQ.out.cells
      obtain ⟨cc19a, cc19b⟩ := X5.out.both
      obtain ⟨⟨cc20a, cc20b⟩, ⟨cc20c, cc20d⟩, cc20e, cc20f⟩ := XQ.out.stores
      obtain ⟨r21a, r21b, r21c⟩ := XQ.out.last B.out (by have := L0.out; omega) false none 0 0 none 0 0
      replace X5 := hid (((X5.out.other (g2 := w.heap.size) (by have := L0.out; omega) 0 (.bool false)).other (g2 := w.heap.size) (by have := L0.out; omega) 1 (.slice none 0 0)).other (g2 := w.heap.size) (by have := L0.out; omega) 2 (.slice none 0 0))
      replace HT := hid (r21c HT.out)
      replace HU := hid (r21c HU.out)
      replace H1O := hid (r21c H1O.out)
      replace XQ := hid r21a
      replace B := hid r21b
      clear r21a r21b r21c
      go_wp2_with fail
      refine bodyPost_ret (res_q_tmp rfl rfl rfl XQ.out) rfl ?_
      exact ⟨_, _, _, _, _, _, _, rfl, B.out⟩

set_option maxHeartbeats 4000000 in
theorem ratofF (s : ByteArray) (w : World) (hs : s.size ≤ 100) (hsl : hasSl s.data.toList = true) (hA : isWhl (cutB s.data.toList) = true) (hB : isNat (cutA s.data.toList) = true) (hZ : whlOf (cutB s.data.toList) ≠ 0) (hD : 1 < dval (cutA s.data.toList)) (hG0 : Nat.gcd (whlOf (cutB s.data.toList)).natAbs (dval (cutA s.data.toList)) ≠ 1) :
    Calls Tryz.prog 7 #[.string s] w fun e w' => ∃ s p n c p' n' c', e = .returned (.tuple #[.agg #[.bool s, .slice p n c, .slice p' n' c'], .int .i64 1]) ∧ Below w.heap.size w w' := by
  have Hhsl := hid hsl
  have HhA := hid hA
  have HhB := hid hB
  have HhZ := hid hZ
  have HhD := hid hD
  have HhG0 := hid hG0
  have HS := hid hs
  obtain ⟨N, hN⟩ : ∃ N, (cutB s.data.toList).length = N := ⟨_, rfl⟩
  have hNle : N ≤ s.size := by rw [← hN]; exact cutB_le _
  have HN := hid hN
  have HF := hid (cut_front hN)
  obtain ⟨hlt, h47, hbk⟩ := cut_some hN hsl
  have HBK := hid hbk
  clear hbk
  have hsz : (s.size : Int) ≤ 100 := by omega
  have B := hid (Below.refl w.heap.size w)
  have hb1 := (Below.refl _ _).alloc (Nat.le_refl w.heap.size) (.cells #[.bool false, .slice none 0 0, .slice none 0 0] 28)
  have hx2 := Qbx.new w false none 0 0 none 0 0
  replace B := bb B hb1
  have XQ := hid hx2
  have hs3 : (w.alloc (.cells #[.bool false, .slice none 0 0, .slice none 0 0] 28)).heap.size = w.heap.size + 1 := by simp
  clear hb1 hx2
  clear hs3 hN hsl hA hB hZ hD hG0
  go_enter Tryz.func7, Tryz.ntmps7
  obtain ⟨cc4a, cc4b, cc4c⟩ := XQ.out.cells
  go_wp2_with fail
  generalize hW : w.alloc (.cells #[.bool false, .slice none 0 0, .slice none 0 0] 28) = W5 at *
  clear hW
  go_loop [4] (fun i => ∃ k : Nat, k ≤ N ∧ i = .int .i64 k) (fun i => N - (intOf i).toNat)
  case atStart => exact ⟨0, Nat.zero_le _, rfl⟩
  case round =>
    obtain ⟨k, hk, rfl⟩ := hrel
    by_cases hkN : k < N
    · have hks : k < s.size := by omega
      have hby := cut_byte HN.out hkN hks
      clear h47
      go_wp2_with fail
      go_round
      case rel => exact ⟨k + 1, by omega, by go_num⟩
      case measure => simp [intOf]; omega
    · obtain rfl : k = N := by omega
      clear hkN hk
      have hi1 : IntKind.i64.wrap ((k : Int) + 1) = (k : Int) + 1 := IntWalk.i64_in _ (by omega)
      have hi2 : ((k : Int) + 1).toNat = k + 1 := by omega
      have hi3 : (0 : Int) ≤ (k : Int) + 1 := by omega
      have hi4 : (k : Int) + 1 ≤ (s.size : Int) := by omega
      have hi5 : ¬ (k : Int) = (s.size : Int) := by omega
      go_wp2_with fail
      refine (rwholeof_good (s := s.extract 0 k) ⟨(by rw [ByteArray.size_extract]; have := HS.out; omega), by rw [HF.out]; exact HhA.out⟩ _).mono ?_
      rintro e w6 ⟨v, rfl, hv, hb⟩
      unfold znum at hv
      rw [HF.out] at hv
      obtain ⟨s5, p5, n5, c5, rfl⟩ := hv.opened
      replace XQ := qx XQ hb
      replace B := bb B hb
      clear cc4a cc4b cc4c
      have HT := hid hv
      clear hb hv
      have hb7 := (Below.refl _ _).alloc (Nat.le_refl w6.heap.size) (.cells #[.bool s5, .slice p5 n5 c5] 26)
      have hx8 := BoxR.new w6 s5 p5 n5 c5
      have L0 := hid XQ.out.lt
      replace XQ := qx XQ hb7
      replace HT := wr HT hb7
      replace B := bb B hb7
      have X5 := hid hx8
      have hs9 : (w6.alloc (.cells #[.bool s5, .slice p5 n5 c5] 26)).heap.size = w6.heap.size + 1 := by simp
      clear hb7 hx8
      obtain ⟨cc10a, cc10b, cc10c⟩ := XQ.out.cells
      obtain ⟨cc11a, cc11b⟩ := X5.out.both
      go_wp2_with fail
      generalize hW : w6.alloc (.cells #[.bool s5, .slice p5 n5 c5] 26) = W12 at *
      clear hW
      refine (natof_r HBK.out (by rw [ByteArray.size_extract]; have := HS.out; omega) HhB.out _).mono ?_
      rintro e w13 ⟨p6, n6, c6, rfl, hv, hb⟩
      replace XQ := qx XQ hb
      replace X5 := br X5 hb
      replace HT := wr HT hb
      replace B := bb B hb
      clear cc10a cc10b cc10c cc11a cc11b
      have HU := hid hv.value
      clear hb hv
      obtain ⟨cc14a, cc14b, cc14c⟩ := XQ.out.cells
      obtain ⟨cc15a, cc15b⟩ := X5.out.both
      have hn5 : ¬ (n5 : Int) = 0 := by have h1 := HT.out.inside.1.len; have h2 := HhZ.out; omega
      go_wp2_with fail
      have h1o := (natR_one w13).value
      have hb16 := (Below.refl _ _).alloc (Nat.le_refl w13.heap.size) (.cells #[.int .i64 1] 3)
      replace XQ := qx XQ hb16
      replace X5 := br X5 hb16
      replace HT := wr HT hb16
      replace HU := wr HU hb16
      replace B := bb B hb16
      have H1O := hid h1o
      clear h1o hb16
      have hc := rcmpn HU.out.nat H1O.out.nat (by omega) (by omega)
      rw [cmpv_one (by have := HhD.out; omega), if_neg (by have := HhD.out; omega)] at hc
      refine (hc).mono ?_
      rintro e w17 ⟨rfl, hb⟩
      replace XQ := qx XQ hb
      replace X5 := br X5 hb
      replace HT := wr HT hb
      replace HU := wr HU hb
      replace H1O := wr H1O hb
      replace B := bb B hb
      clear cc14a cc14b cc14c cc15a cc15b
      clear hb hc
      obtain ⟨cc18a, cc18b, cc18c⟩ := XQ.out.cells
      obtain ⟨cc19a, cc19b⟩ := X5.out.both
      go_wp2_with fail
      refine (rgcdn HT.out.abs.nat HU.out.nat (by omega)).mono ?_
      rintro e w20 ⟨p7, n7, c7, rfl, hv, hb⟩
      replace XQ := qx XQ hb
      replace X5 := br X5 hb
      replace HT := wr HT hb
      replace HU := wr HU hb
      replace H1O := wr H1O hb
      replace B := bb B hb
      clear cc18a cc18b cc18c cc19a cc19b
      have HV := hid hv.value
      clear hb hv
      obtain ⟨cc21a, cc21b, cc21c⟩ := XQ.out.cells
      obtain ⟨cc22a, cc22b⟩ := X5.out.both
      go_wp2_with fail
      have h1o := (natR_one w20).value
      have hb23 := (Below.refl _ _).alloc (Nat.le_refl w20.heap.size) (.cells #[.int .i64 1] 3)
      replace XQ := qx XQ hb23
      replace X5 := br X5 hb23
      replace HT := wr HT hb23
      replace HU := wr HU hb23
      replace H1O := wr H1O hb23
      replace HV := wr HV hb23
      replace B := bb B hb23
      have H1O := hid h1o
      clear h1o hb23
      have hc := rcmpn HV.out.nat H1O.out.nat (by omega) (by omega)
      rw [cmpv_one (Nat.gcd_pos_of_pos_right _ (by have := HhD.out; omega)), if_neg HhG0.out] at hc
      refine (hc).mono ?_
      rintro e w24 ⟨rfl, hb⟩
      replace XQ := qx XQ hb
      replace X5 := br X5 hb
      replace HT := wr HT hb
      replace HU := wr HU hb
      replace H1O := wr H1O hb
      replace HV := wr HV hb
      replace B := bb B hb
      clear cc21a cc21b cc21c cc22a cc22b
      clear hb hc
      obtain ⟨cc25a, cc25b, cc25c⟩ := XQ.out.cells
      obtain ⟨cc26a, cc26b⟩ := X5.out.both
      obtain ⟨⟨cc27a, cc27b⟩, ⟨cc27c, cc27d⟩, cc27e, cc27f⟩ := XQ.out.stores
      obtain ⟨r28a, r28b, r28c⟩ := XQ.out.last B.out (by have := L0.out; omega) false none 0 0 none 0 0
      replace X5 := hid (((X5.out.other (g2 := w.heap.size) (by have := L0.out; omega) 0 (.bool false)).other (g2 := w.heap.size) (by have := L0.out; omega) 1 (.slice none 0 0)).other (g2 := w.heap.size) (by have := L0.out; omega) 2 (.slice none 0 0))
      replace HT := hid (r28c HT.out)
      replace HU := hid (r28c HU.out)
      replace H1O := hid (r28c H1O.out)
      replace HV := hid (r28c HV.out)
      replace XQ := hid r28a
      replace B := hid r28b
      clear r28a r28b r28c
      go_wp2_with fail
      refine bodyPost_ret (res_q_tmp rfl rfl rfl XQ.out) rfl ?_
      exact ⟨_, _, _, _, _, _, _, rfl, B.out⟩

set_option maxHeartbeats 4000000 in
theorem ratofG (s : ByteArray) (w : World) (hs : s.size ≤ 100) (hsl : hasSl s.data.toList = true) (hA : isWhl (cutB s.data.toList) = true) (hB : isNat (cutA s.data.toList) = true) (hZ : whlOf (cutB s.data.toList) ≠ 0) (hD : 1 < dval (cutA s.data.toList)) (hG : Nat.gcd (whlOf (cutB s.data.toList)).natAbs (dval (cutA s.data.toList)) = 1) :
    Calls Tryz.prog 7 #[.string s] w fun e w' => ∃ v, e = .returned (.tuple #[v, .int .i64 0]) ∧ QR w' v (ratOf s.data.toList) 100 ∧ Below w.heap.size w w' := by
  have Hhsl := hid hsl
  have HhA := hid hA
  have HhB := hid hB
  have HhZ := hid hZ
  have HhD := hid hD
  have HhG := hid hG
  have HS := hid hs
  obtain ⟨N, hN⟩ : ∃ N, (cutB s.data.toList).length = N := ⟨_, rfl⟩
  have hNle : N ≤ s.size := by rw [← hN]; exact cutB_le _
  have HN := hid hN
  have HF := hid (cut_front hN)
  obtain ⟨hlt, h47, hbk⟩ := cut_some hN hsl
  have HBK := hid hbk
  clear hbk
  have hsz : (s.size : Int) ≤ 100 := by omega
  have B := hid (Below.refl w.heap.size w)
  have hb1 := (Below.refl _ _).alloc (Nat.le_refl w.heap.size) (.cells #[.bool false, .slice none 0 0, .slice none 0 0] 28)
  have hx2 := Qbx.new w false none 0 0 none 0 0
  replace B := bb B hb1
  have XQ := hid hx2
  have hs3 : (w.alloc (.cells #[.bool false, .slice none 0 0, .slice none 0 0] 28)).heap.size = w.heap.size + 1 := by simp
  clear hb1 hx2
  clear hs3 hN hsl hA hB hZ hD hG
  go_enter Tryz.func7, Tryz.ntmps7
  obtain ⟨cc4a, cc4b, cc4c⟩ := XQ.out.cells
  go_wp2_with fail
  generalize hW : w.alloc (.cells #[.bool false, .slice none 0 0, .slice none 0 0] 28) = W5 at *
  clear hW
  go_loop [4] (fun i => ∃ k : Nat, k ≤ N ∧ i = .int .i64 k) (fun i => N - (intOf i).toNat)
  case atStart => exact ⟨0, Nat.zero_le _, rfl⟩
  case round =>
    obtain ⟨k, hk, rfl⟩ := hrel
    by_cases hkN : k < N
    · have hks : k < s.size := by omega
      have hby := cut_byte HN.out hkN hks
      clear h47
      go_wp2_with fail
      go_round
      case rel => exact ⟨k + 1, by omega, by go_num⟩
      case measure => simp [intOf]; omega
    · obtain rfl : k = N := by omega
      clear hkN hk
      have hi1 : IntKind.i64.wrap ((k : Int) + 1) = (k : Int) + 1 := IntWalk.i64_in _ (by omega)
      have hi2 : ((k : Int) + 1).toNat = k + 1 := by omega
      have hi3 : (0 : Int) ≤ (k : Int) + 1 := by omega
      have hi4 : (k : Int) + 1 ≤ (s.size : Int) := by omega
      have hi5 : ¬ (k : Int) = (s.size : Int) := by omega
      go_wp2_with fail
      refine (rwholeof_good (s := s.extract 0 k) ⟨(by rw [ByteArray.size_extract]; have := HS.out; omega), by rw [HF.out]; exact HhA.out⟩ _).mono ?_
      rintro e w6 ⟨v, rfl, hv, hb⟩
      unfold znum at hv
      rw [HF.out] at hv
      obtain ⟨s5, p5, n5, c5, rfl⟩ := hv.opened
      replace XQ := qx XQ hb
      replace B := bb B hb
      clear cc4a cc4b cc4c
      have HT := hid hv
      clear hb hv
      have hb7 := (Below.refl _ _).alloc (Nat.le_refl w6.heap.size) (.cells #[.bool s5, .slice p5 n5 c5] 26)
      have hx8 := BoxR.new w6 s5 p5 n5 c5
      have L0 := hid XQ.out.lt
      replace XQ := qx XQ hb7
      replace HT := wr HT hb7
      replace B := bb B hb7
      have X5 := hid hx8
      have hs9 : (w6.alloc (.cells #[.bool s5, .slice p5 n5 c5] 26)).heap.size = w6.heap.size + 1 := by simp
      clear hb7 hx8
      obtain ⟨cc10a, cc10b, cc10c⟩ := XQ.out.cells
      obtain ⟨cc11a, cc11b⟩ := X5.out.both
      go_wp2_with fail
      generalize hW : w6.alloc (.cells #[.bool s5, .slice p5 n5 c5] 26) = W12 at *
      clear hW
      refine (natof_r HBK.out (by rw [ByteArray.size_extract]; have := HS.out; omega) HhB.out _).mono ?_
      rintro e w13 ⟨p6, n6, c6, rfl, hv, hb⟩
      replace XQ := qx XQ hb
      replace X5 := br X5 hb
      replace HT := wr HT hb
      replace B := bb B hb
      clear cc10a cc10b cc10c cc11a cc11b
      have HU := hid hv.value
      clear hb hv
      obtain ⟨cc14a, cc14b, cc14c⟩ := XQ.out.cells
      obtain ⟨cc15a, cc15b⟩ := X5.out.both
      have hn5 : ¬ (n5 : Int) = 0 := by have h1 := HT.out.inside.1.len; have h2 := HhZ.out; omega
      go_wp2_with fail
      have h1o := (natR_one w13).value
      have hb16 := (Below.refl _ _).alloc (Nat.le_refl w13.heap.size) (.cells #[.int .i64 1] 3)
      replace XQ := qx XQ hb16
      replace X5 := br X5 hb16
      replace HT := wr HT hb16
      replace HU := wr HU hb16
      replace B := bb B hb16
      have H1O := hid h1o
      clear h1o hb16
      have hc := rcmpn HU.out.nat H1O.out.nat (by omega) (by omega)
      rw [cmpv_one (by have := HhD.out; omega), if_neg (by have := HhD.out; omega)] at hc
      refine (hc).mono ?_
      rintro e w17 ⟨rfl, hb⟩
      replace XQ := qx XQ hb
      replace X5 := br X5 hb
      replace HT := wr HT hb
      replace HU := wr HU hb
      replace H1O := wr H1O hb
      replace B := bb B hb
      clear cc14a cc14b cc14c cc15a cc15b
      clear hb hc
      obtain ⟨cc18a, cc18b, cc18c⟩ := XQ.out.cells
      obtain ⟨cc19a, cc19b⟩ := X5.out.both
      go_wp2_with fail
      refine (rgcdn HT.out.abs.nat HU.out.nat (by omega)).mono ?_
      rintro e w20 ⟨p7, n7, c7, rfl, hv, hb⟩
      replace XQ := qx XQ hb
      replace X5 := br X5 hb
      replace HT := wr HT hb
      replace HU := wr HU hb
      replace H1O := wr H1O hb
      replace B := bb B hb
      clear cc18a cc18b cc18c cc19a cc19b
      have HV := hid hv.value
      clear hb hv
      obtain ⟨cc21a, cc21b, cc21c⟩ := XQ.out.cells
      obtain ⟨cc22a, cc22b⟩ := X5.out.both
      go_wp2_with fail
      have h1o := (natR_one w20).value
      have hb23 := (Below.refl _ _).alloc (Nat.le_refl w20.heap.size) (.cells #[.int .i64 1] 3)
      replace XQ := qx XQ hb23
      replace X5 := br X5 hb23
      replace HT := wr HT hb23
      replace HU := wr HU hb23
      replace H1O := wr H1O hb23
      replace HV := wr HV hb23
      replace B := bb B hb23
      have H1O := hid h1o
      clear h1o hb23
      have hc := rcmpn HV.out.nat H1O.out.nat (by omega) (by omega)
      rw [cmpv_one (Nat.gcd_pos_of_pos_right _ (by have := HhD.out; omega)), if_pos HhG.out] at hc
      refine (hc).mono ?_
      rintro e w24 ⟨rfl, hb⟩
      replace XQ := qx XQ hb
      replace X5 := br X5 hb
      replace HT := wr HT hb
      replace HU := wr HU hb
      replace H1O := wr H1O hb
      replace HV := wr HV hb
      replace B := bb B hb
      clear cc21a cc21b cc21c cc22a cc22b
      clear hb hc
      obtain ⟨cc25a, cc25b, cc25c⟩ := XQ.out.cells
      obtain ⟨cc26a, cc26b⟩ := X5.out.both
      obtain ⟨⟨cc27a, cc27b⟩, ⟨cc27c, cc27d⟩, cc27e, cc27f⟩ := XQ.out.stores
      obtain ⟨r28a, r28b, r28c⟩ := XQ.out.last B.out (by have := L0.out; omega) s5 p5 n5 c5 p6 n6 c6
      replace X5 := hid (((X5.out.other (g2 := w.heap.size) (by have := L0.out; omega) 0 (.bool s5)).other (g2 := w.heap.size) (by have := L0.out; omega) 1 (.slice p5 n5 c5)).other (g2 := w.heap.size) (by have := L0.out; omega) 2 (.slice p6 n6 c6))
      replace HT := hid (r28c HT.out)
      replace HU := hid (r28c HU.out)
      replace H1O := hid (r28c H1O.out)
      replace HV := hid (r28c HV.out)
      replace XQ := hid r28a
      replace B := hid r28b
      clear r28a r28b r28c
      go_wp2_with fail
      refine bodyPost_ret (res_q_tmp rfl rfl rfl XQ.out) rfl ?_
      have hwd : whlOf (cutA s.data.toList) = (dval (cutA s.data.toList) : Int) := whlOf_nat HhB.out
      obtain ⟨e1, e2⟩ := divInt_coprime (n := whlOf (cutB s.data.toList)) (d := whlOf (cutA s.data.toList)) (by rw [hwd]; have := HhD.out; omega) (by rw [hwd]; simpa [Int.gcd] using HhG.out)
      refine ⟨_, rfl, ?_, B.out⟩
      rw [ratOf, if_pos Hhsl.out]
      exact QR.mk2 (by rw [e1]; exact HT.out) (by rw [e2, hwd]; exact HU.out)

end Go.Proofs.YtjeeepcnaaadmaaGreatDoor

/-
  THE REFERENCE: RatOf.
-/
namespace Go.Proofs.YtjeeepcnaaadmaaGreatDoor
open Go.RowKit
open Num4
open Num (dg isNat dval)
set_option linter.unusedVariables false
set_option maxRecDepth 100000
set_option linter.unusedSimpArgs false

/-- A text with a slash that reads as a fraction: its parts. -/
theorem isRat_slash {l : List UInt8} (hs : hasSl l = true) (hA : isWhl (cutB l) = true) : isRat l = true ↔ (isNat (cutA l) = true ∧ whlOf (cutB l) ≠ 0 ∧ 1 < dval (cutA l) ∧ Nat.gcd (whlOf (cutB l)).natAbs (dval (cutA l)) = 1) := by
  rw [isRat, if_pos hs]
  simp only [hA, Bool.true_and, Bool.and_eq_true, decide_eq_true_eq]
  constructor
  · rintro ⟨⟨h1, h2⟩, h3⟩
    have hN : isNat (cutA l) = true := by
      cases hb : ((cutA l).head? == some 45)
      · rw [isWhl, hb] at h1; simpa using h1
      · exfalso
        have : whlOf (cutA l) = -(dval (cutA l).tail : Int) := by rw [whlOf, hb]; rfl
        omega
    have e := whlOf_nat hN
    rw [e] at h2 h3
    refine ⟨hN, ?_, by omega, by simpa [Int.gcd] using h3⟩
    intro e0
    rw [e0] at h3
    have h4 : Int.gcd 0 (dval (cutA l) : Int) = dval (cutA l) := by simp
    omega
  · rintro ⟨h1, h2, h3, h4⟩
    have e := whlOf_nat h1
    refine ⟨⟨isWhl_nat h1, by rw [e]; omega⟩, by rw [e]; simpa [Int.gcd] using h4⟩
theorem ratof_good {s : ByteArray} (h : GoodQ s) (w : World) :
    Calls Tryz.prog 7 #[.string s] w fun e w' => ∃ v, e = .returned (.tuple #[v, .int .i64 0]) ∧ QR w' v (qnum s) 100 ∧ Below w.heap.size w w' := by
  obtain ⟨hs, hn⟩ := h
  cases hsl : hasSl s.data.toList
  · have e : cutB s.data.toList = s.data.toList := by
      rcases index_cut s.data.toList with ⟨_, _, e⟩ | ⟨e, _⟩
      · exact e
      · rw [hsl] at e; cases e
    have hw : isWhl s.data.toList = true := by rw [isRat, hsl] at hn; simpa using hn
    exact ratofB s w hs hsl (by rw [e]; exact hw)
  · have hA : isWhl (cutB s.data.toList) = true := by
      rw [isRat, hsl] at hn
      simp only [if_true, Bool.and_eq_true] at hn
      exact hn.1.1.1
    obtain ⟨h1, h2, h3, h4⟩ := (isRat_slash hsl hA).1 hn
    exact ratofG s w hs hsl hA h1 h2 h3 h4
theorem ratof_bad {s : ByteArray} {k : Int} (h : BadQ s k) (w : World) (hm : s.size ≤ maxLen) :
    Calls Tryz.prog 7 #[.string s] w fun e w' => ∃ s p n c p' n' c', e = .returned (.tuple #[.agg #[.bool s, .slice p n c, .slice p' n' c'], .int .i64 k]) ∧ Below w.heap.size w w' := by
  rcases h with ⟨h, rfl⟩ | ⟨hs, hn, rfl⟩
  · exact ratof_long s w h hm
  · cases hA : isWhl (cutB s.data.toList)
    · cases hsl : hasSl s.data.toList
      · exact ratofA s w hs hsl hA
      · exact ratofA2 s w hs hsl hA
    · cases hsl : hasSl s.data.toList
      · exfalso
        have e : cutB s.data.toList = s.data.toList := by
          rcases index_cut s.data.toList with ⟨_, _, e⟩ | ⟨e, _⟩
          · exact e
          · rw [hsl] at e; cases e
        rw [e] at hA
        rw [isRat, hsl] at hn
        simp [hA] at hn
      · have hno := mt (isRat_slash hsl hA).2 (by rw [hn]; decide)
        cases hB : isNat (cutA s.data.toList)
        · exact ratofC s w hs hsl hA hB
        · by_cases hZ : whlOf (cutB s.data.toList) = 0
          · exact ratofD s w hs hsl hA hB hZ
          · rcases (show dval (cutA s.data.toList) = 0 ∨ dval (cutA s.data.toList) = 1 ∨ 1 < dval (cutA s.data.toList) by omega) with hd | hd | hd
            · exact ratofH s w hs hsl hA hB hZ hd
            · exact ratofE s w hs hsl hA hB hZ hd
            · by_cases hG : Nat.gcd (whlOf (cutB s.data.toList)).natAbs (dval (cutA s.data.toList)) = 1
              · exact absurd ⟨hB, hZ, hd, hG⟩ hno
              · exact ratofF s w hs hsl hA hB hZ hd hG

end Go.Proofs.YtjeeepcnaaadmaaGreatDoor
