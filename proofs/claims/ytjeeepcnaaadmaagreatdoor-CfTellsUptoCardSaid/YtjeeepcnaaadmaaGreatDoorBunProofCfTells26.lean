import Derived.Test.YtjeeepcnaaadmaaGreatDoorBunProofCfTells25
/-
  CfTells: a case.
-/
namespace Go.Proofs.YtjeeepcnaaadmaaGreatDoor
open Go.RowKit
open Num4
open Num (dg isNat dval)
set_option linter.unusedVariables false
set_option maxRecDepth 100000
set_option linter.unusedSimpArgs false

set_option maxHeartbeats 16000000 in
theorem cft_gg_bad (a d : ByteArray) (v : Value) (ss : List ByteArray) (sa : a.size ≤ maxLen) (sd : d.size ≤ maxLen) (w : World) (hv : TxsW w v ss) (hs : ∀ i, i < ss.length → (tx ss i).size ≤ maxLen) (hr : ss.length ≤ 1048576) {ka kl kd : Int} (ha : GoodQ a) (hl : GoodL ss) (hdb : Bad d kd) (hd : Door w) :
    Calls Tryz.prog 4 #[.string a, v, .string d] w fun e w' => e = .returned (.bool true) ∧ Below w.heap.size w w' := by
  have Hha := hid ha
  have Hhl := hid hl
  have Hhdb := hid hdb
  have hkd : (kd == 0) = false := by rcases hdb with ⟨_, h⟩ | ⟨_, _, h⟩ <;> subst h <;> rfl
  have HKD := hid (show kd ≠ 0 by rcases hdb with ⟨_, h⟩ | ⟨_, _, h⟩ <;> omega)
  have HDR := hid hd
  have V0 := hid hv
  have HS := hid hs
  have HMX := hid (show ss.length ≤ 1099511627776 by omega)
  have hne := errv_neq
  obtain ⟨pv, nv, cv, rfl⟩ : ∃ p n c, v = .slice p n c := by obtain ⟨p, c, h, _⟩ := hv; exact ⟨p, _, c, h⟩
  have B := hid (Below.refl w.heap.size w)
  clear  ha hl hdb hd hv hs hr
  go_enter Tryz.func4, Tryz.ntmps4
  go_wp2_with fail
  refine (golden_true w).mono ?_
  rintro e w1 ⟨rfl, hb⟩
  replace B := bb B hb
  clear hb 
  go_wp2_with fail
  refine (ratof_good Hha.out w1).mono ?_
  rintro e w2 ⟨v, rfl, hv, hb⟩
  obtain ⟨s1a, p1a, n1a, c1a, p1b, n1b, c1b, rfl⟩ := hv.opened
  obtain ⟨ht1, hu1⟩ := hv.two
  replace B := bb B hb
  have HN1 := hid ht1
  have HD1 := hid hu1
  clear hb hv ht1 hu1
  have hb3 := (Below.refl _ _).alloc (Nat.le_refl w2.heap.size) (.cells #[.bool s1a, .slice p1a n1a c1a, .slice p1b n1b c1b] 28)
  have hx4 := Qbx.new w2 s1a p1a n1a c1a p1b n1b c1b
  replace HN1 := wr HN1 hb3
  replace HD1 := wr HD1 hb3
  replace B := bb B hb3
  have X8 := hid hx4
  have hs5 : (w2.alloc (.cells #[.bool s1a, .slice p1a n1a c1a, .slice p1b n1b c1b] 28)).heap.size = w2.heap.size + 1 := by simp
  clear hb3 hx4
  obtain ⟨cc6a, cc6b, cc6c⟩ := X8.out.cells
  go_wp2_with fail
  generalize hW : w2.alloc (.cells #[.bool s1a, .slice p1a n1a c1a, .slice p1b n1b c1b] 28) = W7 at *
  clear hW
  have hCF := rcfof (k := 100) (by omega) (by omega) ((qnum a).den + 1) _ _ _ (QR.mk2 HN1.out HD1.out) HN1.out.lt (by simpa using HD1.out.lt) (Nat.lt_succ_self _)
  refine (hCF).mono ?_
  rintro e w8 ⟨u, rfl, hu, hb⟩
  obtain ⟨pw, nw, cw, rfl⟩ : ∃ p n c, u = .slice p n c := by obtain ⟨p, c, h, _⟩ := hu.txs; exact ⟨p, _, c, h⟩
  have HWT := hid hu.txs
  replace X8 := qx X8 hb
  replace B := bb B hb
  clear cc6a cc6b cc6c
  clear hb hu hCF
  obtain ⟨cc9a, cc9b, cc9c⟩ := X8.out.cells
  go_wp2_with fail
  refine (of_good Hha.out w8).mono ?_
  rintro e w10 ⟨u, rfl, hu, hb⟩
  replace HWT := hid (HWT.out.on hb)
  obtain ⟨pc, nc, cc, rfl⟩ : ∃ p n c, u = .slice p n c := by obtain ⟨p, c, h, _⟩ := hu.txs; exact ⟨p, _, c, h⟩
  have HCT := hid hu.txs
  replace X8 := qx X8 hb
  replace B := bb B hb
  clear cc9a cc9b cc9c
  clear hb hu
  obtain ⟨cc11a, cc11b, cc11c⟩ := X8.out.cells
  go_wp2_with fail
  refine (same_nil w10 (HDR.out.below B.out)).mono ?_
  rintro e w12 ⟨rfl, hb⟩
  replace HWT := hid (HWT.out.on hb)
  replace HCT := hid (HCT.out.on hb)
  replace X8 := qx X8 hb
  replace B := bb B hb
  clear cc11a cc11b cc11c
  clear hb 
  obtain ⟨cc13a, cc13b, cc13c⟩ := X8.out.cells
  go_wp2_with fail
  have hst := same_texts HCT.out HWT.out
  rw [decide_eq_true rfl] at hst
  refine (hst).mono ?_
  rintro e w14 ⟨rfl, hb⟩
  replace X8 := qx X8 hb
  replace B := bb B hb
  clear cc13a cc13b cc13c
  clear hb hst HWT HCT
  obtain ⟨cc15a, cc15b, cc15c⟩ := X8.out.cells
  go_wp2_with fail
  refine (rcfback_good (V0.out.below B.out (Nat.le_refl _)) HS.out HMX.out Hhl.out).mono ?_
  rintro e w16 ⟨v, rfl, hv, hb⟩
  obtain ⟨s5a, p5a, n5a, c5a, p5b, n5b, c5b, rfl⟩ := hv.opened
  obtain ⟨ht5, hu5⟩ := hv.two
  replace X8 := qx X8 hb
  replace B := bb B hb
  clear cc15a cc15b cc15c
  have HN5 := hid ht5
  have HD5 := hid hu5
  clear hb hv ht5 hu5
  have hb17 := (Below.refl _ _).alloc (Nat.le_refl w16.heap.size) (.cells #[.bool s5a, .slice p5a n5a c5a, .slice p5b n5b c5b] 28)
  have hx18 := Qbx.new w16 s5a p5a n5a c5a p5b n5b c5b
  have L0 := hid X8.out.lt
  replace X8 := qx X8 hb17
  replace HN5 := wr HN5 hb17
  replace HD5 := wr HD5 hb17
  replace B := bb B hb17
  have X15 := hid hx18
  have hs19 : (w16.alloc (.cells #[.bool s5a, .slice p5a n5a c5a, .slice p5b n5b c5b] 28)).heap.size = w16.heap.size + 1 := by simp
  clear hb17 hx18
  obtain ⟨cc20a, cc20b, cc20c⟩ := X8.out.cells
  obtain ⟨cc21a, cc21b, cc21c⟩ := X15.out.cells
  go_wp2_with fail
  generalize hW : w16.alloc (.cells #[.bool s5a, .slice p5a n5a c5a, .slice p5b n5b c5b] 28) = W22 at *
  clear hW
  refine (rqtext (QR.mk2 HN5.out HD5.out) (by omega)).mono ?_
  rintro e w23 ⟨rfl, hb⟩
  replace X8 := qx X8 hb
  replace B := bb B hb
  clear cc20a cc20b cc20c cc21a cc21b cc21c
  clear hb 
  obtain ⟨cc24a, cc24b, cc24c⟩ := X8.out.cells
  go_wp2_with fail
  refine (back_good (V0.out.below B.out (Nat.le_refl _)) HS.out Hhl.out).mono ?_
  rintro e w25 ⟨rfl, hb⟩
  replace X8 := qx X8 hb
  replace B := bb B hb
  clear cc24a cc24b cc24c
  clear hb 
  obtain ⟨cc26a, cc26b, cc26c⟩ := X8.out.cells
  go_wp2_with fail
  refine (same_nil w25 (HDR.out.below B.out)).mono ?_
  rintro e w27 ⟨rfl, hb⟩
  replace X8 := qx X8 hb
  replace B := bb B hb
  clear cc26a cc26b cc26c
  clear hb 
  obtain ⟨cc28a, cc28b, cc28c⟩ := X8.out.cells
  go_wp2_with fail
  refine (natof_bad w27 sd Hhdb.out).mono ?_
  rintro e w29 ⟨rfl, hb⟩
  replace X8 := qx X8 hb
  replace B := bb B hb
  clear cc28a cc28b cc28c
  clear hb 
  obtain ⟨cc30a, cc30b, cc30c⟩ := X8.out.cells
  go_wp2_with fail
  refine (two_zero _ w29).mono ?_
  rintro e w' ⟨rfl, rfl⟩
  obtain ⟨cc32a, cc32b, cc32c⟩ := X8.out.cells
  go_wp2_with fail
  refine (near_d Hha.out Hhdb.out sd w29).mono ?_
  rintro e w33 ⟨rfl, hb⟩
  replace B := bb B hb
  clear cc30a cc30b cc30c cc32a cc32b cc32c
  clear hb 
  go_wp2_with fail
  refine (same_no kd HKD.out w33 (HDR.out.below B.out)).mono ?_
  rintro e w34 ⟨rfl, hb⟩
  replace B := bb B hb
  clear hb 
  go_wp2_with fail
  go_ret
  exact ⟨rfl, B.out⟩

end Go.Proofs.YtjeeepcnaaadmaaGreatDoor

/-
  CfTells: a case.
-/
namespace Go.Proofs.YtjeeepcnaaadmaaGreatDoor
open Go.RowKit
open Num4
open Num (dg isNat dval)
set_option linter.unusedVariables false
set_option maxRecDepth 100000
set_option linter.unusedSimpArgs false

set_option maxHeartbeats 16000000 in
theorem cft_gg_zero (a d : ByteArray) (v : Value) (ss : List ByteArray) (sa : a.size ≤ maxLen) (sd : d.size ≤ maxLen) (w : World) (hv : TxsW w v ss) (hs : ∀ i, i < ss.length → (tx ss i).size ≤ maxLen) (hr : ss.length ≤ 1048576) {ka kl kd : Int} (ha : GoodQ a) (hl : GoodL ss) (hdg : Good d) (hdr : num d = 0) (hd : Door w) :
    Calls Tryz.prog 4 #[.string a, v, .string d] w fun e w' => e = .returned (.bool true) ∧ Below w.heap.size w w' := by
  have Hha := hid ha
  have Hhl := hid hl
  have Hhdg := hid hdg
  have Hhdr := hid hdr
  have HDR := hid hd
  have V0 := hid hv
  have HS := hid hs
  have HMX := hid (show ss.length ≤ 1099511627776 by omega)
  have hne := errv_neq
  obtain ⟨pv, nv, cv, rfl⟩ : ∃ p n c, v = .slice p n c := by obtain ⟨p, c, h, _⟩ := hv; exact ⟨p, _, c, h⟩
  have B := hid (Below.refl w.heap.size w)
  clear  ha hl hdg hdr hd hv hs hr
  go_enter Tryz.func4, Tryz.ntmps4
  go_wp2_with fail
  refine (golden_true w).mono ?_
  rintro e w1 ⟨rfl, hb⟩
  replace B := bb B hb
  clear hb 
  go_wp2_with fail
  refine (ratof_good Hha.out w1).mono ?_
  rintro e w2 ⟨v, rfl, hv, hb⟩
  obtain ⟨s1a, p1a, n1a, c1a, p1b, n1b, c1b, rfl⟩ := hv.opened
  obtain ⟨ht1, hu1⟩ := hv.two
  replace B := bb B hb
  have HN1 := hid ht1
  have HD1 := hid hu1
  clear hb hv ht1 hu1
  have hb3 := (Below.refl _ _).alloc (Nat.le_refl w2.heap.size) (.cells #[.bool s1a, .slice p1a n1a c1a, .slice p1b n1b c1b] 28)
  have hx4 := Qbx.new w2 s1a p1a n1a c1a p1b n1b c1b
  replace HN1 := wr HN1 hb3
  replace HD1 := wr HD1 hb3
  replace B := bb B hb3
  have X8 := hid hx4
  have hs5 : (w2.alloc (.cells #[.bool s1a, .slice p1a n1a c1a, .slice p1b n1b c1b] 28)).heap.size = w2.heap.size + 1 := by simp
  clear hb3 hx4
  obtain ⟨cc6a, cc6b, cc6c⟩ := X8.out.cells
  go_wp2_with fail
  generalize hW : w2.alloc (.cells #[.bool s1a, .slice p1a n1a c1a, .slice p1b n1b c1b] 28) = W7 at *
  clear hW
  have hCF := rcfof (k := 100) (by omega) (by omega) ((qnum a).den + 1) _ _ _ (QR.mk2 HN1.out HD1.out) HN1.out.lt (by simpa using HD1.out.lt) (Nat.lt_succ_self _)
  refine (hCF).mono ?_
  rintro e w8 ⟨u, rfl, hu, hb⟩
  obtain ⟨pw, nw, cw, rfl⟩ : ∃ p n c, u = .slice p n c := by obtain ⟨p, c, h, _⟩ := hu.txs; exact ⟨p, _, c, h⟩
  have HWT := hid hu.txs
  replace X8 := qx X8 hb
  replace B := bb B hb
  clear cc6a cc6b cc6c
  clear hb hu hCF
  obtain ⟨cc9a, cc9b, cc9c⟩ := X8.out.cells
  go_wp2_with fail
  refine (of_good Hha.out w8).mono ?_
  rintro e w10 ⟨u, rfl, hu, hb⟩
  replace HWT := hid (HWT.out.on hb)
  obtain ⟨pc, nc, cc, rfl⟩ : ∃ p n c, u = .slice p n c := by obtain ⟨p, c, h, _⟩ := hu.txs; exact ⟨p, _, c, h⟩
  have HCT := hid hu.txs
  replace X8 := qx X8 hb
  replace B := bb B hb
  clear cc9a cc9b cc9c
  clear hb hu
  obtain ⟨cc11a, cc11b, cc11c⟩ := X8.out.cells
  go_wp2_with fail
  refine (same_nil w10 (HDR.out.below B.out)).mono ?_
  rintro e w12 ⟨rfl, hb⟩
  replace HWT := hid (HWT.out.on hb)
  replace HCT := hid (HCT.out.on hb)
  replace X8 := qx X8 hb
  replace B := bb B hb
  clear cc11a cc11b cc11c
  clear hb 
  obtain ⟨cc13a, cc13b, cc13c⟩ := X8.out.cells
  go_wp2_with fail
  have hst := same_texts HCT.out HWT.out
  rw [decide_eq_true rfl] at hst
  refine (hst).mono ?_
  rintro e w14 ⟨rfl, hb⟩
  replace X8 := qx X8 hb
  replace B := bb B hb
  clear cc13a cc13b cc13c
  clear hb hst HWT HCT
  obtain ⟨cc15a, cc15b, cc15c⟩ := X8.out.cells
  go_wp2_with fail
  refine (rcfback_good (V0.out.below B.out (Nat.le_refl _)) HS.out HMX.out Hhl.out).mono ?_
  rintro e w16 ⟨v, rfl, hv, hb⟩
  obtain ⟨s5a, p5a, n5a, c5a, p5b, n5b, c5b, rfl⟩ := hv.opened
  obtain ⟨ht5, hu5⟩ := hv.two
  replace X8 := qx X8 hb
  replace B := bb B hb
  clear cc15a cc15b cc15c
  have HN5 := hid ht5
  have HD5 := hid hu5
  clear hb hv ht5 hu5
  have hb17 := (Below.refl _ _).alloc (Nat.le_refl w16.heap.size) (.cells #[.bool s5a, .slice p5a n5a c5a, .slice p5b n5b c5b] 28)
  have hx18 := Qbx.new w16 s5a p5a n5a c5a p5b n5b c5b
  have L0 := hid X8.out.lt
  replace X8 := qx X8 hb17
  replace HN5 := wr HN5 hb17
  replace HD5 := wr HD5 hb17
  replace B := bb B hb17
  have X15 := hid hx18
  have hs19 : (w16.alloc (.cells #[.bool s5a, .slice p5a n5a c5a, .slice p5b n5b c5b] 28)).heap.size = w16.heap.size + 1 := by simp
  clear hb17 hx18
  obtain ⟨cc20a, cc20b, cc20c⟩ := X8.out.cells
  obtain ⟨cc21a, cc21b, cc21c⟩ := X15.out.cells
  go_wp2_with fail
  generalize hW : w16.alloc (.cells #[.bool s5a, .slice p5a n5a c5a, .slice p5b n5b c5b] 28) = W22 at *
  clear hW
  refine (rqtext (QR.mk2 HN5.out HD5.out) (by omega)).mono ?_
  rintro e w23 ⟨rfl, hb⟩
  replace X8 := qx X8 hb
  replace B := bb B hb
  clear cc20a cc20b cc20c cc21a cc21b cc21c
  clear hb 
  obtain ⟨cc24a, cc24b, cc24c⟩ := X8.out.cells
  go_wp2_with fail
  refine (back_good (V0.out.below B.out (Nat.le_refl _)) HS.out Hhl.out).mono ?_
  rintro e w25 ⟨rfl, hb⟩
  replace X8 := qx X8 hb
  replace B := bb B hb
  clear cc24a cc24b cc24c
  clear hb 
  obtain ⟨cc26a, cc26b, cc26c⟩ := X8.out.cells
  go_wp2_with fail
  refine (same_nil w25 (HDR.out.below B.out)).mono ?_
  rintro e w27 ⟨rfl, hb⟩
  replace X8 := qx X8 hb
  replace B := bb B hb
  clear cc26a cc26b cc26c
  clear hb 
  obtain ⟨cc28a, cc28b, cc28c⟩ := X8.out.cells
  go_wp2_with fail
  refine (natof_good w27 Hhdg.out.1 Hhdg.out.2).mono ?_
  rintro e w29 ⟨vn, xs, rfl, hln, htn, hvn, hb⟩
  obtain ⟨pn, cn, rfl⟩ := lim_none hln htn (hvn.trans Hhdr.out)
  replace X8 := qx X8 hb
  replace B := bb B hb
  clear cc28a cc28b cc28c
  clear hb hln htn hvn
  obtain ⟨cc30a, cc30b, cc30c⟩ := X8.out.cells
  go_wp2_with fail
  refine (two_zero _ w29).mono ?_
  rintro e w' ⟨rfl, rfl⟩
  obtain ⟨cc32a, cc32b, cc32c⟩ := X8.out.cells
  go_wp2_with fail
  refine (near_r Hha.out Hhdg.out (by have := Hhdr.out; omega) w29).mono ?_
  rintro e w33 ⟨rfl, hb⟩
  replace B := bb B hb
  clear cc30a cc30b cc30c cc32a cc32b cc32c
  clear hb 
  go_wp2_with fail
  refine (same_no 2 (by decide) w33 (HDR.out.below B.out)).mono ?_
  rintro e w34 ⟨rfl, hb⟩
  replace B := bb B hb
  clear hb 
  go_wp2_with fail
  go_ret
  exact ⟨rfl, B.out⟩

end Go.Proofs.YtjeeepcnaaadmaaGreatDoor

/-
  CfTells: a case.
-/
namespace Go.Proofs.YtjeeepcnaaadmaaGreatDoor
open Go.RowKit
open Num4
open Num (dg isNat dval)
set_option linter.unusedVariables false
set_option maxRecDepth 100000
set_option linter.unusedSimpArgs false

set_option maxHeartbeats 16000000 in
theorem cft_gg_great (a d : ByteArray) (v : Value) (ss : List ByteArray) (sa : a.size ≤ maxLen) (sd : d.size ≤ maxLen) (w : World) (hv : TxsW w v ss) (hs : ∀ i, i < ss.length → (tx ss i).size ≤ maxLen) (hr : ss.length ≤ 1048576) {ka kl kd : Int} (ha : GoodQ a) (hl : GoodL ss) (hdg : Good d) (hdr : 1000 < num d) (hd : Door w) :
    Calls Tryz.prog 4 #[.string a, v, .string d] w fun e w' => e = .returned (.bool true) ∧ Below w.heap.size w w' := by
  have Hha := hid ha
  have Hhl := hid hl
  have Hhdg := hid hdg
  have Hhdr := hid hdr
  have HDR := hid hd
  have V0 := hid hv
  have HS := hid hs
  have HMX := hid (show ss.length ≤ 1099511627776 by omega)
  have hne := errv_neq
  obtain ⟨pv, nv, cv, rfl⟩ : ∃ p n c, v = .slice p n c := by obtain ⟨p, c, h, _⟩ := hv; exact ⟨p, _, c, h⟩
  have B := hid (Below.refl w.heap.size w)
  clear  ha hl hdg hdr hd hv hs hr
  go_enter Tryz.func4, Tryz.ntmps4
  go_wp2_with fail
  refine (golden_true w).mono ?_
  rintro e w1 ⟨rfl, hb⟩
  replace B := bb B hb
  clear hb 
  go_wp2_with fail
  refine (ratof_good Hha.out w1).mono ?_
  rintro e w2 ⟨v, rfl, hv, hb⟩
  obtain ⟨s1a, p1a, n1a, c1a, p1b, n1b, c1b, rfl⟩ := hv.opened
  obtain ⟨ht1, hu1⟩ := hv.two
  replace B := bb B hb
  have HN1 := hid ht1
  have HD1 := hid hu1
  clear hb hv ht1 hu1
  have hb3 := (Below.refl _ _).alloc (Nat.le_refl w2.heap.size) (.cells #[.bool s1a, .slice p1a n1a c1a, .slice p1b n1b c1b] 28)
  have hx4 := Qbx.new w2 s1a p1a n1a c1a p1b n1b c1b
  replace HN1 := wr HN1 hb3
  replace HD1 := wr HD1 hb3
  replace B := bb B hb3
  have X8 := hid hx4
  have hs5 : (w2.alloc (.cells #[.bool s1a, .slice p1a n1a c1a, .slice p1b n1b c1b] 28)).heap.size = w2.heap.size + 1 := by simp
  clear hb3 hx4
  obtain ⟨cc6a, cc6b, cc6c⟩ := X8.out.cells
  go_wp2_with fail
  generalize hW : w2.alloc (.cells #[.bool s1a, .slice p1a n1a c1a, .slice p1b n1b c1b] 28) = W7 at *
  clear hW
  have hCF := rcfof (k := 100) (by omega) (by omega) ((qnum a).den + 1) _ _ _ (QR.mk2 HN1.out HD1.out) HN1.out.lt (by simpa using HD1.out.lt) (Nat.lt_succ_self _)
  refine (hCF).mono ?_
  rintro e w8 ⟨u, rfl, hu, hb⟩
  obtain ⟨pw, nw, cw, rfl⟩ : ∃ p n c, u = .slice p n c := by obtain ⟨p, c, h, _⟩ := hu.txs; exact ⟨p, _, c, h⟩
  have HWT := hid hu.txs
  replace X8 := qx X8 hb
  replace B := bb B hb
  clear cc6a cc6b cc6c
  clear hb hu hCF
  obtain ⟨cc9a, cc9b, cc9c⟩ := X8.out.cells
  go_wp2_with fail
  refine (of_good Hha.out w8).mono ?_
  rintro e w10 ⟨u, rfl, hu, hb⟩
  replace HWT := hid (HWT.out.on hb)
  obtain ⟨pc, nc, cc, rfl⟩ : ∃ p n c, u = .slice p n c := by obtain ⟨p, c, h, _⟩ := hu.txs; exact ⟨p, _, c, h⟩
  have HCT := hid hu.txs
  replace X8 := qx X8 hb
  replace B := bb B hb
  clear cc9a cc9b cc9c
  clear hb hu
  obtain ⟨cc11a, cc11b, cc11c⟩ := X8.out.cells
  go_wp2_with fail
  refine (same_nil w10 (HDR.out.below B.out)).mono ?_
  rintro e w12 ⟨rfl, hb⟩
  replace HWT := hid (HWT.out.on hb)
  replace HCT := hid (HCT.out.on hb)
  replace X8 := qx X8 hb
  replace B := bb B hb
  clear cc11a cc11b cc11c
  clear hb 
  obtain ⟨cc13a, cc13b, cc13c⟩ := X8.out.cells
  go_wp2_with fail
  have hst := same_texts HCT.out HWT.out
  rw [decide_eq_true rfl] at hst
  refine (hst).mono ?_
  rintro e w14 ⟨rfl, hb⟩
  replace X8 := qx X8 hb
  replace B := bb B hb
  clear cc13a cc13b cc13c
  clear hb hst HWT HCT
  obtain ⟨cc15a, cc15b, cc15c⟩ := X8.out.cells
  go_wp2_with fail
  refine (rcfback_good (V0.out.below B.out (Nat.le_refl _)) HS.out HMX.out Hhl.out).mono ?_
  rintro e w16 ⟨v, rfl, hv, hb⟩
  obtain ⟨s5a, p5a, n5a, c5a, p5b, n5b, c5b, rfl⟩ := hv.opened
  obtain ⟨ht5, hu5⟩ := hv.two
  replace X8 := qx X8 hb
  replace B := bb B hb
  clear cc15a cc15b cc15c
  have HN5 := hid ht5
  have HD5 := hid hu5
  clear hb hv ht5 hu5
  have hb17 := (Below.refl _ _).alloc (Nat.le_refl w16.heap.size) (.cells #[.bool s5a, .slice p5a n5a c5a, .slice p5b n5b c5b] 28)
  have hx18 := Qbx.new w16 s5a p5a n5a c5a p5b n5b c5b
  have L0 := hid X8.out.lt
  replace X8 := qx X8 hb17
  replace HN5 := wr HN5 hb17
  replace HD5 := wr HD5 hb17
  replace B := bb B hb17
  have X15 := hid hx18
  have hs19 : (w16.alloc (.cells #[.bool s5a, .slice p5a n5a c5a, .slice p5b n5b c5b] 28)).heap.size = w16.heap.size + 1 := by simp
  clear hb17 hx18
  obtain ⟨cc20a, cc20b, cc20c⟩ := X8.out.cells
  obtain ⟨cc21a, cc21b, cc21c⟩ := X15.out.cells
  go_wp2_with fail
  generalize hW : w16.alloc (.cells #[.bool s5a, .slice p5a n5a c5a, .slice p5b n5b c5b] 28) = W22 at *
  clear hW
  refine (rqtext (QR.mk2 HN5.out HD5.out) (by omega)).mono ?_
  rintro e w23 ⟨rfl, hb⟩
  replace X8 := qx X8 hb
  replace B := bb B hb
  clear cc20a cc20b cc20c cc21a cc21b cc21c
  clear hb 
  obtain ⟨cc24a, cc24b, cc24c⟩ := X8.out.cells
  go_wp2_with fail
  refine (back_good (V0.out.below B.out (Nat.le_refl _)) HS.out Hhl.out).mono ?_
  rintro e w25 ⟨rfl, hb⟩
  replace X8 := qx X8 hb
  replace B := bb B hb
  clear cc24a cc24b cc24c
  clear hb 
  obtain ⟨cc26a, cc26b, cc26c⟩ := X8.out.cells
  go_wp2_with fail
  refine (same_nil w25 (HDR.out.below B.out)).mono ?_
  rintro e w27 ⟨rfl, hb⟩
  replace X8 := qx X8 hb
  replace B := bb B hb
  clear cc26a cc26b cc26c
  clear hb 
  obtain ⟨cc28a, cc28b, cc28c⟩ := X8.out.cells
  go_wp2_with fail
  refine (natof_good w27 Hhdg.out.1 Hhdg.out.2).mono ?_
  rintro e w29 ⟨vn, xs, rfl, hln, htn, hvn, hb⟩
  have HLN := hid (And.intro hln (And.intro htn hvn))
  obtain ⟨pn, nn, cn, rfl, hnn, _⟩ := good_trim hln htn hvn (by have := Hhdr.out; show 1 ≤ num d; omega)
  replace X8 := qx X8 hb
  replace B := bb B hb
  clear cc28a cc28b cc28c
  clear hb hln htn hvn
  obtain ⟨cc30a, cc30b, cc30c⟩ := X8.out.cells
  go_wp2_with fail
  refine (two_zero _ w29).mono ?_
  rintro e w' ⟨rfl, rfl⟩
  obtain ⟨cc32a, cc32b, cc32c⟩ := X8.out.cells
  go_wp2_with fail
  refine (rsmall_lim w29 1000 (by omega)).mono ?_
  rintro e w33 ⟨v1, zs1, rfl, hl1, ht1, hv1, hn1, hb⟩
  replace HLN := hid (And.intro (HLN.out.1.below hb (Nat.le_refl _)) HLN.out.2)
  have HL1 := hid (And.intro hl1 (And.intro hv1 hn1))
  replace X8 := qx X8 hb
  replace B := bb B hb
  clear cc30a cc30b cc30c cc32a cc32b cc32c
  clear hb hl1 ht1 hv1 hn1
  obtain ⟨cc34a, cc34b, cc34c⟩ := X8.out.cells
  go_wp2_with fail
  have hcm := cmp_lim HLN.out.1 HL1.out.1 (by have := good_len (w := w) (v := .nilIface) HLN.out.2.1 Hhdg.out HLN.out.2.2; omega) (by have := HL1.out.2.2; omega)
  rw [HLN.out.2.2, HL1.out.2.1] at hcm
  change Calls _ _ _ _ (fun e w' => e = .returned (.int .i64 (cmpv (num d) 1000)) ∧ _ = w') at hcm
  rw [show cmpv (num d) 1000 = 1 by have := Hhdr.out; unfold cmpv; rw [if_neg (by omega), if_pos (by omega)]] at hcm
  refine (hcm).mono ?_
  rintro e w' ⟨rfl, rfl⟩
  clear hcm HL1
  obtain ⟨cc36a, cc36b, cc36c⟩ := X8.out.cells
  go_wp2_with fail
  refine (near_r Hha.out Hhdg.out (by have := Hhdr.out; omega) w33).mono ?_
  rintro e w37 ⟨rfl, hb⟩
  replace B := bb B hb
  clear cc34a cc34b cc34c cc36a cc36b cc36c
  clear hb 
  go_wp2_with fail
  refine (same_no 2 (by decide) w37 (HDR.out.below B.out)).mono ?_
  rintro e w38 ⟨rfl, hb⟩
  replace B := bb B hb
  clear hb 
  go_wp2_with fail
  go_ret
  exact ⟨rfl, B.out⟩

end Go.Proofs.YtjeeepcnaaadmaaGreatDoor

/-
  CfTells: a case.
-/
namespace Go.Proofs.YtjeeepcnaaadmaaGreatDoor
open Go.RowKit
open Num4
open Num (dg isNat dval)
set_option linter.unusedVariables false
set_option maxRecDepth 100000
set_option linter.unusedSimpArgs false

set_option maxHeartbeats 16000000 in
theorem cft_gg_ok (a d : ByteArray) (v : Value) (ss : List ByteArray) (sa : a.size ≤ maxLen) (sd : d.size ≤ maxLen) (w : World) (hv : TxsW w v ss) (hs : ∀ i, i < ss.length → (tx ss i).size ≤ maxLen) (hr : ss.length ≤ 1048576) {ka kl kd : Int} (ha : GoodQ a) (hl : GoodL ss) (hdg : Good d) (hdr : 1 ≤ num d ∧ num d ≤ 1000) (hd : Door w) :
    Calls Tryz.prog 4 #[.string a, v, .string d] w fun e w' => e = .returned (.bool true) ∧ Below w.heap.size w w' := by
  have Hha := hid ha
  have Hhl := hid hl
  have Hhdg := hid hdg
  have Hhdr := hid hdr
  have HDR := hid hd
  have V0 := hid hv
  have HS := hid hs
  have HMX := hid (show ss.length ≤ 1099511627776 by omega)
  have hne := errv_neq
  obtain ⟨pv, nv, cv, rfl⟩ : ∃ p n c, v = .slice p n c := by obtain ⟨p, c, h, _⟩ := hv; exact ⟨p, _, c, h⟩
  have B := hid (Below.refl w.heap.size w)
  clear  ha hl hdg hdr hd hv hs hr
  go_enter Tryz.func4, Tryz.ntmps4
  go_wp2_with fail
  refine (golden_true w).mono ?_
  rintro e w1 ⟨rfl, hb⟩
  replace B := bb B hb
  clear hb 
  go_wp2_with fail
  refine (ratof_good Hha.out w1).mono ?_
  rintro e w2 ⟨v, rfl, hv, hb⟩
  obtain ⟨s1a, p1a, n1a, c1a, p1b, n1b, c1b, rfl⟩ := hv.opened
  obtain ⟨ht1, hu1⟩ := hv.two
  replace B := bb B hb
  have HN1 := hid ht1
  have HD1 := hid hu1
  clear hb hv ht1 hu1
  have hb3 := (Below.refl _ _).alloc (Nat.le_refl w2.heap.size) (.cells #[.bool s1a, .slice p1a n1a c1a, .slice p1b n1b c1b] 28)
  have hx4 := Qbx.new w2 s1a p1a n1a c1a p1b n1b c1b
  replace HN1 := wr HN1 hb3
  replace HD1 := wr HD1 hb3
  replace B := bb B hb3
  have X8 := hid hx4
  have hs5 : (w2.alloc (.cells #[.bool s1a, .slice p1a n1a c1a, .slice p1b n1b c1b] 28)).heap.size = w2.heap.size + 1 := by simp
  clear hb3 hx4
  obtain ⟨cc6a, cc6b, cc6c⟩ := X8.out.cells
  go_wp2_with fail
  generalize hW : w2.alloc (.cells #[.bool s1a, .slice p1a n1a c1a, .slice p1b n1b c1b] 28) = W7 at *
  clear hW
  have hCF := rcfof (k := 100) (by omega) (by omega) ((qnum a).den + 1) _ _ _ (QR.mk2 HN1.out HD1.out) HN1.out.lt (by simpa using HD1.out.lt) (Nat.lt_succ_self _)
  refine (hCF).mono ?_
  rintro e w8 ⟨u, rfl, hu, hb⟩
  obtain ⟨pw, nw, cw, rfl⟩ : ∃ p n c, u = .slice p n c := by obtain ⟨p, c, h, _⟩ := hu.txs; exact ⟨p, _, c, h⟩
  have HWT := hid hu.txs
  replace X8 := qx X8 hb
  replace HN1 := wr HN1 hb
  replace HD1 := wr HD1 hb
  replace B := bb B hb
  clear cc6a cc6b cc6c
  clear hb hu hCF
  obtain ⟨cc9a, cc9b, cc9c⟩ := X8.out.cells
  go_wp2_with fail
  refine (of_good Hha.out w8).mono ?_
  rintro e w10 ⟨u, rfl, hu, hb⟩
  replace HWT := hid (HWT.out.on hb)
  obtain ⟨pc, nc, cc, rfl⟩ : ∃ p n c, u = .slice p n c := by obtain ⟨p, c, h, _⟩ := hu.txs; exact ⟨p, _, c, h⟩
  have HCT := hid hu.txs
  replace X8 := qx X8 hb
  replace HN1 := wr HN1 hb
  replace HD1 := wr HD1 hb
  replace B := bb B hb
  clear cc9a cc9b cc9c
  clear hb hu
  obtain ⟨cc11a, cc11b, cc11c⟩ := X8.out.cells
  go_wp2_with fail
  refine (same_nil w10 (HDR.out.below B.out)).mono ?_
  rintro e w12 ⟨rfl, hb⟩
  replace HWT := hid (HWT.out.on hb)
  replace HCT := hid (HCT.out.on hb)
  replace X8 := qx X8 hb
  replace HN1 := wr HN1 hb
  replace HD1 := wr HD1 hb
  replace B := bb B hb
  clear cc11a cc11b cc11c
  clear hb 
  obtain ⟨cc13a, cc13b, cc13c⟩ := X8.out.cells
  go_wp2_with fail
  have hst := same_texts HCT.out HWT.out
  rw [decide_eq_true rfl] at hst
  refine (hst).mono ?_
  rintro e w14 ⟨rfl, hb⟩
  replace X8 := qx X8 hb
  replace HN1 := wr HN1 hb
  replace HD1 := wr HD1 hb
  replace B := bb B hb
  clear cc13a cc13b cc13c
  clear hb hst HWT HCT
  obtain ⟨cc15a, cc15b, cc15c⟩ := X8.out.cells
  go_wp2_with fail
  refine (rcfback_good (V0.out.below B.out (Nat.le_refl _)) HS.out HMX.out Hhl.out).mono ?_
  rintro e w16 ⟨v, rfl, hv, hb⟩
  obtain ⟨s5a, p5a, n5a, c5a, p5b, n5b, c5b, rfl⟩ := hv.opened
  obtain ⟨ht5, hu5⟩ := hv.two
  replace X8 := qx X8 hb
  replace HN1 := wr HN1 hb
  replace HD1 := wr HD1 hb
  replace B := bb B hb
  clear cc15a cc15b cc15c
  have HN5 := hid ht5
  have HD5 := hid hu5
  clear hb hv ht5 hu5
  have hb17 := (Below.refl _ _).alloc (Nat.le_refl w16.heap.size) (.cells #[.bool s5a, .slice p5a n5a c5a, .slice p5b n5b c5b] 28)
  have hx18 := Qbx.new w16 s5a p5a n5a c5a p5b n5b c5b
  have L0 := hid X8.out.lt
  replace X8 := qx X8 hb17
  replace HN1 := wr HN1 hb17
  replace HD1 := wr HD1 hb17
  replace HN5 := wr HN5 hb17
  replace HD5 := wr HD5 hb17
  replace B := bb B hb17
  have X15 := hid hx18
  have hs19 : (w16.alloc (.cells #[.bool s5a, .slice p5a n5a c5a, .slice p5b n5b c5b] 28)).heap.size = w16.heap.size + 1 := by simp
  clear hb17 hx18
  obtain ⟨cc20a, cc20b, cc20c⟩ := X8.out.cells
  obtain ⟨cc21a, cc21b, cc21c⟩ := X15.out.cells
  go_wp2_with fail
  generalize hW : w16.alloc (.cells #[.bool s5a, .slice p5a n5a c5a, .slice p5b n5b c5b] 28) = W22 at *
  clear hW
  refine (rqtext (QR.mk2 HN5.out HD5.out) (by omega)).mono ?_
  rintro e w23 ⟨rfl, hb⟩
  replace X8 := qx X8 hb
  replace HN1 := wr HN1 hb
  replace HD1 := wr HD1 hb
  replace B := bb B hb
  clear cc20a cc20b cc20c cc21a cc21b cc21c
  clear hb 
  obtain ⟨cc24a, cc24b, cc24c⟩ := X8.out.cells
  go_wp2_with fail
  refine (back_good (V0.out.below B.out (Nat.le_refl _)) HS.out Hhl.out).mono ?_
  rintro e w25 ⟨rfl, hb⟩
  replace X8 := qx X8 hb
  replace HN1 := wr HN1 hb
  replace HD1 := wr HD1 hb
  replace B := bb B hb
  clear cc24a cc24b cc24c
  clear hb 
  obtain ⟨cc26a, cc26b, cc26c⟩ := X8.out.cells
  go_wp2_with fail
  refine (same_nil w25 (HDR.out.below B.out)).mono ?_
  rintro e w27 ⟨rfl, hb⟩
  replace X8 := qx X8 hb
  replace HN1 := wr HN1 hb
  replace HD1 := wr HD1 hb
  replace B := bb B hb
  clear cc26a cc26b cc26c
  clear hb 
  obtain ⟨cc28a, cc28b, cc28c⟩ := X8.out.cells
  go_wp2_with fail
  refine (natof_good w27 Hhdg.out.1 Hhdg.out.2).mono ?_
  rintro e w29 ⟨vn, xs, rfl, hln, htn, hvn, hb⟩
  obtain ⟨bn, on_, cn, rfl, hcn, hbn, hcell⟩ := lim_single hln htn hvn Hhdr.out.1 Hhdr.out.2
  have LN := hid (And.intro hbn hcell)
  have HLN := hid (And.intro hln (And.intro htn hvn))
  have hln2 := good_len (w := w) (v := .nilIface) htn Hhdg.out hvn
  replace X8 := qx X8 hb
  replace HN1 := wr HN1 hb
  replace HD1 := wr HD1 hb
  replace B := bb B hb
  clear cc28a cc28b cc28c
  clear hb hln htn hvn hbn hcell
  obtain ⟨cc30a, cc30b, cc30c⟩ := X8.out.cells
  go_wp2_with fail
  refine (two_zero _ w29).mono ?_
  rintro e w' ⟨rfl, rfl⟩
  obtain ⟨cc32a, cc32b, cc32c⟩ := X8.out.cells
  go_wp2_with fail
  refine (rsmall_lim w29 1000 (by omega)).mono ?_
  rintro e w33 ⟨v1, zs1, rfl, hl1, ht1, hv1, hn1, hb⟩
  replace HLN := hid (And.intro (HLN.out.1.below hb (Nat.le_refl _)) HLN.out.2)
  replace LN := hid (And.intro (Nat.lt_of_lt_of_le LN.out.1 hb.size) ((hb.cell (p := ⟨bn, on_, none⟩) LN.out.1).trans LN.out.2))
  have HL1 := hid (And.intro hl1 (And.intro hv1 hn1))
  replace X8 := qx X8 hb
  replace HN1 := wr HN1 hb
  replace HD1 := wr HD1 hb
  replace B := bb B hb
  clear cc30a cc30b cc30c cc32a cc32b cc32c
  clear hb hl1 ht1 hv1 hn1
  obtain ⟨cc34a, cc34b, cc34c⟩ := X8.out.cells
  go_wp2_with fail
  have hcm := cmp_lim HLN.out.1 HL1.out.1 (by have := good_len (w := w) (v := .nilIface) HLN.out.2.1 Hhdg.out HLN.out.2.2; omega) (by have := HL1.out.2.2; omega)
  rw [HLN.out.2.2, HL1.out.2.1] at hcm
  change Calls _ _ _ _ (fun e w' => e = .returned (.int .i64 (cmpv (num d) 1000)) ∧ _ = w') at hcm
  have hcz : ¬ (0 : Int) < cmpv (num d) 1000 := by have := Hhdr.out.2; unfold cmpv; split <;> (try split) <;> omega
  generalize cmpv (num d) 1000 = cz at hcm hcz
  refine (hcm).mono ?_
  rintro e w' ⟨rfl, rfl⟩
  clear hcm HL1
  obtain ⟨cc36a, cc36b, cc36c⟩ := X8.out.cells
  go_wp2_with fail
  have HR := hid Hhdr.out
  obtain ⟨nq, hnq⟩ : ∃ q, q = nfold (qnum a) (num d) := ⟨_, rfl⟩
  have HNQ := hid hnq
  clear hnq
  clear cc34a cc34b cc34c cc36a cc36b cc36c
  refine region_ops (by kernel_rfl) (by kernel_rfl) (fun a f a' w' => ∃ u22 u86 u87 u88 u89 u90 u91 : Value, a' = { tmps := (((((((a.tmps.setIfInBounds 22 u22).setIfInBounds 86 u86).setIfInBounds 87 u87).setIfInBounds 88 u88).setIfInBounds 89 u89).setIfInBounds 90 u90).setIfInBounds 91 u91), defers := a.defers } ∧ Hid (Below w33.heap.size w33 w') ∧ Hid (f 0 = true → u86 = (.agg #[.bool s1a, .slice p1a n1a c1a, .slice p1b n1b c1b])) ∧ Hid (f 1 = true → u87 = .slice (some ⟨bn, on_, none⟩) 1 cn) ∧ Hid (f 2 = true → u88 = .pointer (some ⟨bn, on_, none⟩)) ∧ Hid (f 3 = true → u89 = .int .i64 (num d : Nat)) ∧ Hid (f 4 = true → QR w' u90 nq 101) ∧ Hid (f 5 = true → u91 = .string (qtxt nq)) ∧ Hid (f 6 = true → u22 = .string (qtxt nq))) ?h0 ⟨?s0, ?s1, ?s2, ?s3, ?s4, ?s5, ?s6, trivial⟩ ?hend
  case h0 =>
    simp only [List.setIfInBounds_toArray, List.set_cons_zero, List.set_cons_succ]
    exact ⟨_, _, _, _, _, _, _, rfl, hid (Below.drew (Below.refl _ _)), hid (fun h => by cases h), hid (fun h => by cases h), hid (fun h => by cases h), hid (fun h => by cases h), hid (fun h => by cases h), hid (fun h => by cases h), hid (fun h => by cases h)⟩
  case s0 =>
    rintro f a1 w1 ⟨u22, u86, u87, u88, u89, u90, u91, rfl, HBW, h0, h1, h2, h3, h4, h5, h6⟩ hf hd K hK
    simp only [List.setIfInBounds_toArray, List.set_cons_zero, List.set_cons_succ] at hK ⊢
    replace hK := hid hK
    obtain ⟨y1, y2, y3⟩ := (X8.out.below HBW.out X8.out.lt).cells
    go_simp
    exact hK.out _ _ ⟨_, _, _, _, _, _, _, rfl, HBW, hid (fun h => rfl), hid (fun h => h1.out h), hid (fun h => h2.out h), hid (fun h => h3.out h), hid (fun h => h4.out h), hid (fun h => h5.out h), hid (fun h => h6.out h)⟩
  case s1 =>
    rintro f a1 w1 ⟨u22, u86, u87, u88, u89, u90, u91, rfl, HBW, h0, h1, h2, h3, h4, h5, h6⟩ hf hd K hK
    simp only [List.setIfInBounds_toArray, List.set_cons_zero, List.set_cons_succ] at hK ⊢
    replace hK := hid hK
    go_simp
    exact hK.out _ _ ⟨_, _, _, _, _, _, _, rfl, HBW, hid (fun h => h0.out h), hid (fun h => rfl), hid (fun h => h2.out h), hid (fun h => h3.out h), hid (fun h => h4.out h), hid (fun h => h5.out h), hid (fun h => h6.out h)⟩
  case s2 =>
    rintro f a1 w1 ⟨u22, u86, u87, u88, u89, u90, u91, rfl, HBW, h0, h1, h2, h3, h4, h5, h6⟩ hf hd K hK
    simp only [List.setIfInBounds_toArray, List.set_cons_zero, List.set_cons_succ] at hK ⊢
    replace hK := hid hK
    simp [Region.binds] at hd
    obtain rfl := h1.out (by simp only [hd])
    go_simp
    exact hK.out _ _ ⟨_, _, _, _, _, _, _, rfl, HBW, hid (fun h => h0.out h), hid (fun h => h1.out h), hid (fun h => rfl), hid (fun h => h3.out h), hid (fun h => h4.out h), hid (fun h => h5.out h), hid (fun h => h6.out h)⟩
  case s3 =>
    rintro f a1 w1 ⟨u22, u86, u87, u88, u89, u90, u91, rfl, HBW, h0, h1, h2, h3, h4, h5, h6⟩ hf hd K hK
    simp only [List.setIfInBounds_toArray, List.set_cons_zero, List.set_cons_succ] at hK ⊢
    replace hK := hid hK
    simp [Region.binds] at hd
    obtain rfl := h2.out (by simp only [hd])
    have y1 := (HBW.out.cell (p := ⟨bn, on_, none⟩) LN.out.1).trans LN.out.2
    go_simp
    exact hK.out _ _ ⟨_, _, _, _, _, _, _, rfl, HBW, hid (fun h => h0.out h), hid (fun h => h1.out h), hid (fun h => h2.out h), hid (fun h => rfl), hid (fun h => h4.out h), hid (fun h => h5.out h), hid (fun h => h6.out h)⟩
  case s4 =>
    rintro f a1 w1 ⟨u22, u86, u87, u88, u89, u90, u91, rfl, HBW, h0, h1, h2, h3, h4, h5, h6⟩ hf hd K hK
    simp only [List.setIfInBounds_toArray, List.set_cons_zero, List.set_cons_succ] at hK ⊢
    replace hK := hid hK
    simp [Region.binds] at hd
    obtain rfl := h0.out (by simp only [hd])
    obtain rfl := h3.out (by simp only [hd])
    go_simp
    refine (rnearof (QR.mk2 (HN1.out.on HBW.out) (HD1.out.on HBW.out)) (by omega) (by omega) HR.out.1 HR.out.2).mono ?_
    rintro e w2 ⟨v, rfl, hv, hb⟩
    rw [← HNQ.out] at hv
    go_wp2_with fail
    exact hK.out _ _ ⟨_, _, _, _, _, _, _, rfl, hid (below_next HBW.out hb), hid (fun h => rfl), hid (fun h => h1.out h), hid (fun h => h2.out h), hid (fun h => rfl), hid (fun h => hv), hid (fun h => h5.out h), hid (fun h => h6.out h)⟩
  case s5 =>
    rintro f a1 w1 ⟨u22, u86, u87, u88, u89, u90, u91, rfl, HBW, h0, h1, h2, h3, h4, h5, h6⟩ hf hd K hK
    simp only [List.setIfInBounds_toArray, List.set_cons_zero, List.set_cons_succ] at hK ⊢
    replace hK := hid hK
    simp [Region.binds] at hd
    have hcc := rqtext (h4.out (by simp only [hd])) (by omega)
    go_simp
    refine (hcc).mono ?_
    rintro e w2 ⟨rfl, hb⟩
    go_wp2_with fail
    exact hK.out _ _ ⟨_, _, _, _, _, _, _, rfl, hid (below_next HBW.out hb), hid (fun h => h0.out h), hid (fun h => h1.out h), hid (fun h => h2.out h), hid (fun h => h3.out h), hid (fun h => (h4.out h).on hb), hid (fun h => rfl), hid (fun h => h6.out h)⟩
  case s6 =>
    rintro f a1 w1 ⟨u22, u86, u87, u88, u89, u90, u91, rfl, HBW, h0, h1, h2, h3, h4, h5, h6⟩ hf hd K hK
    simp only [List.setIfInBounds_toArray, List.set_cons_zero, List.set_cons_succ] at hK ⊢
    replace hK := hid hK
    simp [Region.binds] at hd
    obtain rfl := h5.out (by simp only [hd])
    go_simp
    exact hK.out _ _ ⟨_, _, _, _, _, _, _, rfl, HBW, hid (fun h => h0.out h), hid (fun h => h1.out h), hid (fun h => h2.out h), hid (fun h => h3.out h), hid (fun h => h4.out h), hid (fun h => rfl), hid (fun h => rfl)⟩
  case hend =>
    rintro f a1 w50 ⟨u22, u86, u87, u88, u89, u90, u91, rfl, HBW, h0, h1, h2, h3, h4, h5, h6⟩ hall
    simp only [List.setIfInBounds_toArray, List.set_cons_zero, List.set_cons_succ]
    obtain rfl := h6.out (hall 6 (by decide))
    replace B := bb B HBW.out
    clear h0 h1 h2 h3 h4 h5 h6 hall HBW
    go_wp2_with fail
    refine (near_ok Hha.out Hhdg.out Hhdr.out w50).mono ?_
    rintro e w901 ⟨p, rfl, hp, _, hb⟩
    obtain rfl : p = nq := by rw [HNQ.out]; exact hp.unique (nfold_best (qnum a) (num d) HR.out.1)
    replace B := bb B hb
    clear hb hp
    go_wp2_with fail
    refine (same_nil w901 (HDR.out.below B.out)).mono ?_
    rintro e w902 ⟨rfl, hb⟩
    replace B := bb B hb
    clear hb 
    go_wp2_with fail
    go_ret
    exact ⟨rfl, B.out⟩

end Go.Proofs.YtjeeepcnaaadmaaGreatDoor

/-
  CfTells: a case.
-/
namespace Go.Proofs.YtjeeepcnaaadmaaGreatDoor
open Go.RowKit
open Num4
open Num (dg isNat dval)
set_option linter.unusedVariables false
set_option maxRecDepth 100000
set_option linter.unusedSimpArgs false

set_option maxHeartbeats 16000000 in
theorem cft_gb_bad (a d : ByteArray) (v : Value) (ss : List ByteArray) (sa : a.size ≤ maxLen) (sd : d.size ≤ maxLen) (w : World) (hv : TxsW w v ss) (hs : ∀ i, i < ss.length → (tx ss i).size ≤ maxLen) (hr : ss.length ≤ 1048576) {ka kl kd : Int} (ha : GoodQ a) (hl : BadL ss kl) (hdb : Bad d kd) (hd : Door w) :
    Calls Tryz.prog 4 #[.string a, v, .string d] w fun e w' => e = .returned (.bool true) ∧ Below w.heap.size w w' := by
  have Hha := hid ha
  have Hhl := hid hl
  have Hhdb := hid hdb
  have hkl : (kl == 0) = false := by simpa using hl.ne
  have HKL := hid hl.ne
  have hkd : (kd == 0) = false := by rcases hdb with ⟨_, h⟩ | ⟨_, _, h⟩ <;> subst h <;> rfl
  have HKD := hid (show kd ≠ 0 by rcases hdb with ⟨_, h⟩ | ⟨_, _, h⟩ <;> omega)
  have HDR := hid hd
  have V0 := hid hv
  have HS := hid hs
  have HMX := hid (show ss.length ≤ 1099511627776 by omega)
  have hne := errv_neq
  obtain ⟨pv, nv, cv, rfl⟩ : ∃ p n c, v = .slice p n c := by obtain ⟨p, c, h, _⟩ := hv; exact ⟨p, _, c, h⟩
  have B := hid (Below.refl w.heap.size w)
  clear  ha hl hdb hd hv hs hr
  go_enter Tryz.func4, Tryz.ntmps4
  go_wp2_with fail
  refine (golden_true w).mono ?_
  rintro e w1 ⟨rfl, hb⟩
  replace B := bb B hb
  clear hb 
  go_wp2_with fail
  refine (ratof_good Hha.out w1).mono ?_
  rintro e w2 ⟨v, rfl, hv, hb⟩
  obtain ⟨s1a, p1a, n1a, c1a, p1b, n1b, c1b, rfl⟩ := hv.opened
  obtain ⟨ht1, hu1⟩ := hv.two
  replace B := bb B hb
  have HN1 := hid ht1
  have HD1 := hid hu1
  clear hb hv ht1 hu1
  have hb3 := (Below.refl _ _).alloc (Nat.le_refl w2.heap.size) (.cells #[.bool s1a, .slice p1a n1a c1a, .slice p1b n1b c1b] 28)
  have hx4 := Qbx.new w2 s1a p1a n1a c1a p1b n1b c1b
  replace HN1 := wr HN1 hb3
  replace HD1 := wr HD1 hb3
  replace B := bb B hb3
  have X8 := hid hx4
  have hs5 : (w2.alloc (.cells #[.bool s1a, .slice p1a n1a c1a, .slice p1b n1b c1b] 28)).heap.size = w2.heap.size + 1 := by simp
  clear hb3 hx4
  obtain ⟨cc6a, cc6b, cc6c⟩ := X8.out.cells
  go_wp2_with fail
  generalize hW : w2.alloc (.cells #[.bool s1a, .slice p1a n1a c1a, .slice p1b n1b c1b] 28) = W7 at *
  clear hW
  have hCF := rcfof (k := 100) (by omega) (by omega) ((qnum a).den + 1) _ _ _ (QR.mk2 HN1.out HD1.out) HN1.out.lt (by simpa using HD1.out.lt) (Nat.lt_succ_self _)
  refine (hCF).mono ?_
  rintro e w8 ⟨u, rfl, hu, hb⟩
  obtain ⟨pw, nw, cw, rfl⟩ : ∃ p n c, u = .slice p n c := by obtain ⟨p, c, h, _⟩ := hu.txs; exact ⟨p, _, c, h⟩
  have HWT := hid hu.txs
  replace X8 := qx X8 hb
  replace B := bb B hb
  clear cc6a cc6b cc6c
  clear hb hu hCF
  obtain ⟨cc9a, cc9b, cc9c⟩ := X8.out.cells
  go_wp2_with fail
  refine (of_good Hha.out w8).mono ?_
  rintro e w10 ⟨u, rfl, hu, hb⟩
  replace HWT := hid (HWT.out.on hb)
  obtain ⟨pc, nc, cc, rfl⟩ : ∃ p n c, u = .slice p n c := by obtain ⟨p, c, h, _⟩ := hu.txs; exact ⟨p, _, c, h⟩
  have HCT := hid hu.txs
  replace X8 := qx X8 hb
  replace B := bb B hb
  clear cc9a cc9b cc9c
  clear hb hu
  obtain ⟨cc11a, cc11b, cc11c⟩ := X8.out.cells
  go_wp2_with fail
  refine (same_nil w10 (HDR.out.below B.out)).mono ?_
  rintro e w12 ⟨rfl, hb⟩
  replace HWT := hid (HWT.out.on hb)
  replace HCT := hid (HCT.out.on hb)
  replace X8 := qx X8 hb
  replace B := bb B hb
  clear cc11a cc11b cc11c
  clear hb 
  obtain ⟨cc13a, cc13b, cc13c⟩ := X8.out.cells
  go_wp2_with fail
  have hst := same_texts HCT.out HWT.out
  rw [decide_eq_true rfl] at hst
  refine (hst).mono ?_
  rintro e w14 ⟨rfl, hb⟩
  replace X8 := qx X8 hb
  replace B := bb B hb
  clear cc13a cc13b cc13c
  clear hb hst HWT HCT
  obtain ⟨cc15a, cc15b, cc15c⟩ := X8.out.cells
  go_wp2_with fail
  refine (rcfback_bad (V0.out.below B.out (Nat.le_refl _)) HS.out HMX.out Hhl.out).mono ?_
  rintro e w16 ⟨rfl, hb⟩
  replace X8 := qx X8 hb
  replace B := bb B hb
  clear cc15a cc15b cc15c
  clear hb 
  have hb17 := (Below.refl _ _).alloc (Nat.le_refl w16.heap.size) (.cells #[.bool false, .slice none 0 0, .slice none 0 0] 28)
  have hx18 := Qbx.new w16 false none 0 0 none 0 0
  have L0 := hid X8.out.lt
  replace X8 := qx X8 hb17
  replace B := bb B hb17
  have X15 := hid hx18
  have hs19 : (w16.alloc (.cells #[.bool false, .slice none 0 0, .slice none 0 0] 28)).heap.size = w16.heap.size + 1 := by simp
  clear hb17 hx18
  obtain ⟨cc20a, cc20b, cc20c⟩ := X8.out.cells
  obtain ⟨cc21a, cc21b, cc21c⟩ := X15.out.cells
  go_wp2_with fail
  generalize hW : w16.alloc (.cells #[.bool false, .slice none 0 0, .slice none 0 0] 28) = W22 at *
  clear hW
  refine (back_bad (V0.out.below B.out (Nat.le_refl _)) HS.out Hhl.out).mono ?_
  rintro e w23 ⟨rfl, hb⟩
  replace X8 := qx X8 hb
  replace B := bb B hb
  clear cc20a cc20b cc20c cc21a cc21b cc21c
  clear hb 
  obtain ⟨cc24a, cc24b, cc24c⟩ := X8.out.cells
  go_wp2_with fail
  refine (same_no kl HKL.out w23 (HDR.out.below B.out)).mono ?_
  rintro e w25 ⟨rfl, hb⟩
  replace X8 := qx X8 hb
  replace B := bb B hb
  clear cc24a cc24b cc24c
  clear hb 
  obtain ⟨cc26a, cc26b, cc26c⟩ := X8.out.cells
  go_wp2_with fail
  refine (natof_bad w25 sd Hhdb.out).mono ?_
  rintro e w27 ⟨rfl, hb⟩
  replace X8 := qx X8 hb
  replace B := bb B hb
  clear cc26a cc26b cc26c
  clear hb 
  obtain ⟨cc28a, cc28b, cc28c⟩ := X8.out.cells
  go_wp2_with fail
  refine (two_zero _ w27).mono ?_
  rintro e w' ⟨rfl, rfl⟩
  obtain ⟨cc30a, cc30b, cc30c⟩ := X8.out.cells
  go_wp2_with fail
  refine (near_d Hha.out Hhdb.out sd w27).mono ?_
  rintro e w31 ⟨rfl, hb⟩
  replace B := bb B hb
  clear cc28a cc28b cc28c cc30a cc30b cc30c
  clear hb 
  go_wp2_with fail
  refine (same_no kd HKD.out w31 (HDR.out.below B.out)).mono ?_
  rintro e w32 ⟨rfl, hb⟩
  replace B := bb B hb
  clear hb 
  go_wp2_with fail
  go_ret
  exact ⟨rfl, B.out⟩

end Go.Proofs.YtjeeepcnaaadmaaGreatDoor

/-
  CfTells: a case.
-/
namespace Go.Proofs.YtjeeepcnaaadmaaGreatDoor
open Go.RowKit
open Num4
open Num (dg isNat dval)
set_option linter.unusedVariables false
set_option maxRecDepth 100000
set_option linter.unusedSimpArgs false

set_option maxHeartbeats 16000000 in
theorem cft_gb_zero (a d : ByteArray) (v : Value) (ss : List ByteArray) (sa : a.size ≤ maxLen) (sd : d.size ≤ maxLen) (w : World) (hv : TxsW w v ss) (hs : ∀ i, i < ss.length → (tx ss i).size ≤ maxLen) (hr : ss.length ≤ 1048576) {ka kl kd : Int} (ha : GoodQ a) (hl : BadL ss kl) (hdg : Good d) (hdr : num d = 0) (hd : Door w) :
    Calls Tryz.prog 4 #[.string a, v, .string d] w fun e w' => e = .returned (.bool true) ∧ Below w.heap.size w w' := by
  have Hha := hid ha
  have Hhl := hid hl
  have Hhdg := hid hdg
  have Hhdr := hid hdr
  have hkl : (kl == 0) = false := by simpa using hl.ne
  have HKL := hid hl.ne
  have HDR := hid hd
  have V0 := hid hv
  have HS := hid hs
  have HMX := hid (show ss.length ≤ 1099511627776 by omega)
  have hne := errv_neq
  obtain ⟨pv, nv, cv, rfl⟩ : ∃ p n c, v = .slice p n c := by obtain ⟨p, c, h, _⟩ := hv; exact ⟨p, _, c, h⟩
  have B := hid (Below.refl w.heap.size w)
  clear  ha hl hdg hdr hd hv hs hr
  go_enter Tryz.func4, Tryz.ntmps4
  go_wp2_with fail
  refine (golden_true w).mono ?_
  rintro e w1 ⟨rfl, hb⟩
  replace B := bb B hb
  clear hb 
  go_wp2_with fail
  refine (ratof_good Hha.out w1).mono ?_
  rintro e w2 ⟨v, rfl, hv, hb⟩
  obtain ⟨s1a, p1a, n1a, c1a, p1b, n1b, c1b, rfl⟩ := hv.opened
  obtain ⟨ht1, hu1⟩ := hv.two
  replace B := bb B hb
  have HN1 := hid ht1
  have HD1 := hid hu1
  clear hb hv ht1 hu1
  have hb3 := (Below.refl _ _).alloc (Nat.le_refl w2.heap.size) (.cells #[.bool s1a, .slice p1a n1a c1a, .slice p1b n1b c1b] 28)
  have hx4 := Qbx.new w2 s1a p1a n1a c1a p1b n1b c1b
  replace HN1 := wr HN1 hb3
  replace HD1 := wr HD1 hb3
  replace B := bb B hb3
  have X8 := hid hx4
  have hs5 : (w2.alloc (.cells #[.bool s1a, .slice p1a n1a c1a, .slice p1b n1b c1b] 28)).heap.size = w2.heap.size + 1 := by simp
  clear hb3 hx4
  obtain ⟨cc6a, cc6b, cc6c⟩ := X8.out.cells
  go_wp2_with fail
  generalize hW : w2.alloc (.cells #[.bool s1a, .slice p1a n1a c1a, .slice p1b n1b c1b] 28) = W7 at *
  clear hW
  have hCF := rcfof (k := 100) (by omega) (by omega) ((qnum a).den + 1) _ _ _ (QR.mk2 HN1.out HD1.out) HN1.out.lt (by simpa using HD1.out.lt) (Nat.lt_succ_self _)
  refine (hCF).mono ?_
  rintro e w8 ⟨u, rfl, hu, hb⟩
  obtain ⟨pw, nw, cw, rfl⟩ : ∃ p n c, u = .slice p n c := by obtain ⟨p, c, h, _⟩ := hu.txs; exact ⟨p, _, c, h⟩
  have HWT := hid hu.txs
  replace X8 := qx X8 hb
  replace B := bb B hb
  clear cc6a cc6b cc6c
  clear hb hu hCF
  obtain ⟨cc9a, cc9b, cc9c⟩ := X8.out.cells
  go_wp2_with fail
  refine (of_good Hha.out w8).mono ?_
  rintro e w10 ⟨u, rfl, hu, hb⟩
  replace HWT := hid (HWT.out.on hb)
  obtain ⟨pc, nc, cc, rfl⟩ : ∃ p n c, u = .slice p n c := by obtain ⟨p, c, h, _⟩ := hu.txs; exact ⟨p, _, c, h⟩
  have HCT := hid hu.txs
  replace X8 := qx X8 hb
  replace B := bb B hb
  clear cc9a cc9b cc9c
  clear hb hu
  obtain ⟨cc11a, cc11b, cc11c⟩ := X8.out.cells
  go_wp2_with fail
  refine (same_nil w10 (HDR.out.below B.out)).mono ?_
  rintro e w12 ⟨rfl, hb⟩
  replace HWT := hid (HWT.out.on hb)
  replace HCT := hid (HCT.out.on hb)
  replace X8 := qx X8 hb
  replace B := bb B hb
  clear cc11a cc11b cc11c
  clear hb 
  obtain ⟨cc13a, cc13b, cc13c⟩ := X8.out.cells
  go_wp2_with fail
  have hst := same_texts HCT.out HWT.out
  rw [decide_eq_true rfl] at hst
  refine (hst).mono ?_
  rintro e w14 ⟨rfl, hb⟩
  replace X8 := qx X8 hb
  replace B := bb B hb
  clear cc13a cc13b cc13c
  clear hb hst HWT HCT
  obtain ⟨cc15a, cc15b, cc15c⟩ := X8.out.cells
  go_wp2_with fail
  refine (rcfback_bad (V0.out.below B.out (Nat.le_refl _)) HS.out HMX.out Hhl.out).mono ?_
  rintro e w16 ⟨rfl, hb⟩
  replace X8 := qx X8 hb
  replace B := bb B hb
  clear cc15a cc15b cc15c
  clear hb 
  have hb17 := (Below.refl _ _).alloc (Nat.le_refl w16.heap.size) (.cells #[.bool false, .slice none 0 0, .slice none 0 0] 28)
  have hx18 := Qbx.new w16 false none 0 0 none 0 0
  have L0 := hid X8.out.lt
  replace X8 := qx X8 hb17
  replace B := bb B hb17
  have X15 := hid hx18
  have hs19 : (w16.alloc (.cells #[.bool false, .slice none 0 0, .slice none 0 0] 28)).heap.size = w16.heap.size + 1 := by simp
  clear hb17 hx18
  obtain ⟨cc20a, cc20b, cc20c⟩ := X8.out.cells
  obtain ⟨cc21a, cc21b, cc21c⟩ := X15.out.cells
  go_wp2_with fail
  generalize hW : w16.alloc (.cells #[.bool false, .slice none 0 0, .slice none 0 0] 28) = W22 at *
  clear hW
  refine (back_bad (V0.out.below B.out (Nat.le_refl _)) HS.out Hhl.out).mono ?_
  rintro e w23 ⟨rfl, hb⟩
  replace X8 := qx X8 hb
  replace B := bb B hb
  clear cc20a cc20b cc20c cc21a cc21b cc21c
  clear hb 
  obtain ⟨cc24a, cc24b, cc24c⟩ := X8.out.cells
  go_wp2_with fail
  refine (same_no kl HKL.out w23 (HDR.out.below B.out)).mono ?_
  rintro e w25 ⟨rfl, hb⟩
  replace X8 := qx X8 hb
  replace B := bb B hb
  clear cc24a cc24b cc24c
  clear hb 
  obtain ⟨cc26a, cc26b, cc26c⟩ := X8.out.cells
  go_wp2_with fail
  refine (natof_good w25 Hhdg.out.1 Hhdg.out.2).mono ?_
  rintro e w27 ⟨vn, xs, rfl, hln, htn, hvn, hb⟩
  obtain ⟨pn, cn, rfl⟩ := lim_none hln htn (hvn.trans Hhdr.out)
  replace X8 := qx X8 hb
  replace B := bb B hb
  clear cc26a cc26b cc26c
  clear hb hln htn hvn
  obtain ⟨cc28a, cc28b, cc28c⟩ := X8.out.cells
  go_wp2_with fail
  refine (two_zero _ w27).mono ?_
  rintro e w' ⟨rfl, rfl⟩
  obtain ⟨cc30a, cc30b, cc30c⟩ := X8.out.cells
  go_wp2_with fail
  refine (near_r Hha.out Hhdg.out (by have := Hhdr.out; omega) w27).mono ?_
  rintro e w31 ⟨rfl, hb⟩
  replace B := bb B hb
  clear cc28a cc28b cc28c cc30a cc30b cc30c
  clear hb 
  go_wp2_with fail
  refine (same_no 2 (by decide) w31 (HDR.out.below B.out)).mono ?_
  rintro e w32 ⟨rfl, hb⟩
  replace B := bb B hb
  clear hb 
  go_wp2_with fail
  go_ret
  exact ⟨rfl, B.out⟩

end Go.Proofs.YtjeeepcnaaadmaaGreatDoor

/-
  CfTells: a case.
-/
namespace Go.Proofs.YtjeeepcnaaadmaaGreatDoor
open Go.RowKit
open Num4
open Num (dg isNat dval)
set_option linter.unusedVariables false
set_option maxRecDepth 100000
set_option linter.unusedSimpArgs false

set_option maxHeartbeats 16000000 in
theorem cft_gb_great (a d : ByteArray) (v : Value) (ss : List ByteArray) (sa : a.size ≤ maxLen) (sd : d.size ≤ maxLen) (w : World) (hv : TxsW w v ss) (hs : ∀ i, i < ss.length → (tx ss i).size ≤ maxLen) (hr : ss.length ≤ 1048576) {ka kl kd : Int} (ha : GoodQ a) (hl : BadL ss kl) (hdg : Good d) (hdr : 1000 < num d) (hd : Door w) :
    Calls Tryz.prog 4 #[.string a, v, .string d] w fun e w' => e = .returned (.bool true) ∧ Below w.heap.size w w' := by
  have Hha := hid ha
  have Hhl := hid hl
  have Hhdg := hid hdg
  have Hhdr := hid hdr
  have hkl : (kl == 0) = false := by simpa using hl.ne
  have HKL := hid hl.ne
  have HDR := hid hd
  have V0 := hid hv
  have HS := hid hs
  have HMX := hid (show ss.length ≤ 1099511627776 by omega)
  have hne := errv_neq
  obtain ⟨pv, nv, cv, rfl⟩ : ∃ p n c, v = .slice p n c := by obtain ⟨p, c, h, _⟩ := hv; exact ⟨p, _, c, h⟩
  have B := hid (Below.refl w.heap.size w)
  clear  ha hl hdg hdr hd hv hs hr
  go_enter Tryz.func4, Tryz.ntmps4
  go_wp2_with fail
  refine (golden_true w).mono ?_
  rintro e w1 ⟨rfl, hb⟩
  replace B := bb B hb
  clear hb 
  go_wp2_with fail
  refine (ratof_good Hha.out w1).mono ?_
  rintro e w2 ⟨v, rfl, hv, hb⟩
  obtain ⟨s1a, p1a, n1a, c1a, p1b, n1b, c1b, rfl⟩ := hv.opened
  obtain ⟨ht1, hu1⟩ := hv.two
  replace B := bb B hb
  have HN1 := hid ht1
  have HD1 := hid hu1
  clear hb hv ht1 hu1
  have hb3 := (Below.refl _ _).alloc (Nat.le_refl w2.heap.size) (.cells #[.bool s1a, .slice p1a n1a c1a, .slice p1b n1b c1b] 28)
  have hx4 := Qbx.new w2 s1a p1a n1a c1a p1b n1b c1b
  replace HN1 := wr HN1 hb3
  replace HD1 := wr HD1 hb3
  replace B := bb B hb3
  have X8 := hid hx4
  have hs5 : (w2.alloc (.cells #[.bool s1a, .slice p1a n1a c1a, .slice p1b n1b c1b] 28)).heap.size = w2.heap.size + 1 := by simp
  clear hb3 hx4
  obtain ⟨cc6a, cc6b, cc6c⟩ := X8.out.cells
  go_wp2_with fail
  generalize hW : w2.alloc (.cells #[.bool s1a, .slice p1a n1a c1a, .slice p1b n1b c1b] 28) = W7 at *
  clear hW
  have hCF := rcfof (k := 100) (by omega) (by omega) ((qnum a).den + 1) _ _ _ (QR.mk2 HN1.out HD1.out) HN1.out.lt (by simpa using HD1.out.lt) (Nat.lt_succ_self _)
  refine (hCF).mono ?_
  rintro e w8 ⟨u, rfl, hu, hb⟩
  obtain ⟨pw, nw, cw, rfl⟩ : ∃ p n c, u = .slice p n c := by obtain ⟨p, c, h, _⟩ := hu.txs; exact ⟨p, _, c, h⟩
  have HWT := hid hu.txs
  replace X8 := qx X8 hb
  replace B := bb B hb
  clear cc6a cc6b cc6c
  clear hb hu hCF
  obtain ⟨cc9a, cc9b, cc9c⟩ := X8.out.cells
  go_wp2_with fail
  refine (of_good Hha.out w8).mono ?_
  rintro e w10 ⟨u, rfl, hu, hb⟩
  replace HWT := hid (HWT.out.on hb)
  obtain ⟨pc, nc, cc, rfl⟩ : ∃ p n c, u = .slice p n c := by obtain ⟨p, c, h, _⟩ := hu.txs; exact ⟨p, _, c, h⟩
  have HCT := hid hu.txs
  replace X8 := qx X8 hb
  replace B := bb B hb
  clear cc9a cc9b cc9c
  clear hb hu
  obtain ⟨cc11a, cc11b, cc11c⟩ := X8.out.cells
  go_wp2_with fail
  refine (same_nil w10 (HDR.out.below B.out)).mono ?_
  rintro e w12 ⟨rfl, hb⟩
  replace HWT := hid (HWT.out.on hb)
  replace HCT := hid (HCT.out.on hb)
  replace X8 := qx X8 hb
  replace B := bb B hb
  clear cc11a cc11b cc11c
  clear hb 
  obtain ⟨cc13a, cc13b, cc13c⟩ := X8.out.cells
  go_wp2_with fail
  have hst := same_texts HCT.out HWT.out
  rw [decide_eq_true rfl] at hst
  refine (hst).mono ?_
  rintro e w14 ⟨rfl, hb⟩
  replace X8 := qx X8 hb
  replace B := bb B hb
  clear cc13a cc13b cc13c
  clear hb hst HWT HCT
  obtain ⟨cc15a, cc15b, cc15c⟩ := X8.out.cells
  go_wp2_with fail
  refine (rcfback_bad (V0.out.below B.out (Nat.le_refl _)) HS.out HMX.out Hhl.out).mono ?_
  rintro e w16 ⟨rfl, hb⟩
  replace X8 := qx X8 hb
  replace B := bb B hb
  clear cc15a cc15b cc15c
  clear hb 
  have hb17 := (Below.refl _ _).alloc (Nat.le_refl w16.heap.size) (.cells #[.bool false, .slice none 0 0, .slice none 0 0] 28)
  have hx18 := Qbx.new w16 false none 0 0 none 0 0
  have L0 := hid X8.out.lt
  replace X8 := qx X8 hb17
  replace B := bb B hb17
  have X15 := hid hx18
  have hs19 : (w16.alloc (.cells #[.bool false, .slice none 0 0, .slice none 0 0] 28)).heap.size = w16.heap.size + 1 := by simp
  clear hb17 hx18
  obtain ⟨cc20a, cc20b, cc20c⟩ := X8.out.cells
  obtain ⟨cc21a, cc21b, cc21c⟩ := X15.out.cells
  go_wp2_with fail
  generalize hW : w16.alloc (.cells #[.bool false, .slice none 0 0, .slice none 0 0] 28) = W22 at *
  clear hW
  refine (back_bad (V0.out.below B.out (Nat.le_refl _)) HS.out Hhl.out).mono ?_
  rintro e w23 ⟨rfl, hb⟩
  replace X8 := qx X8 hb
  replace B := bb B hb
  clear cc20a cc20b cc20c cc21a cc21b cc21c
  clear hb 
  obtain ⟨cc24a, cc24b, cc24c⟩ := X8.out.cells
  go_wp2_with fail
  refine (same_no kl HKL.out w23 (HDR.out.below B.out)).mono ?_
  rintro e w25 ⟨rfl, hb⟩
  replace X8 := qx X8 hb
  replace B := bb B hb
  clear cc24a cc24b cc24c
  clear hb 
  obtain ⟨cc26a, cc26b, cc26c⟩ := X8.out.cells
  go_wp2_with fail
  refine (natof_good w25 Hhdg.out.1 Hhdg.out.2).mono ?_
  rintro e w27 ⟨vn, xs, rfl, hln, htn, hvn, hb⟩
  have HLN := hid (And.intro hln (And.intro htn hvn))
  obtain ⟨pn, nn, cn, rfl, hnn, _⟩ := good_trim hln htn hvn (by have := Hhdr.out; show 1 ≤ num d; omega)
  replace X8 := qx X8 hb
  replace B := bb B hb
  clear cc26a cc26b cc26c
  clear hb hln htn hvn
  obtain ⟨cc28a, cc28b, cc28c⟩ := X8.out.cells
  go_wp2_with fail
  refine (two_zero _ w27).mono ?_
  rintro e w' ⟨rfl, rfl⟩
  obtain ⟨cc30a, cc30b, cc30c⟩ := X8.out.cells
  go_wp2_with fail
  refine (rsmall_lim w27 1000 (by omega)).mono ?_
  rintro e w31 ⟨v1, zs1, rfl, hl1, ht1, hv1, hn1, hb⟩
  replace HLN := hid (And.intro (HLN.out.1.below hb (Nat.le_refl _)) HLN.out.2)
  have HL1 := hid (And.intro hl1 (And.intro hv1 hn1))
  replace X8 := qx X8 hb
  replace B := bb B hb
  clear cc28a cc28b cc28c cc30a cc30b cc30c
  clear hb hl1 ht1 hv1 hn1
  obtain ⟨cc32a, cc32b, cc32c⟩ := X8.out.cells
  go_wp2_with fail
  have hcm := cmp_lim HLN.out.1 HL1.out.1 (by have := good_len (w := w) (v := .nilIface) HLN.out.2.1 Hhdg.out HLN.out.2.2; omega) (by have := HL1.out.2.2; omega)
  rw [HLN.out.2.2, HL1.out.2.1] at hcm
  change Calls _ _ _ _ (fun e w' => e = .returned (.int .i64 (cmpv (num d) 1000)) ∧ _ = w') at hcm
  rw [show cmpv (num d) 1000 = 1 by have := Hhdr.out; unfold cmpv; rw [if_neg (by omega), if_pos (by omega)]] at hcm
  refine (hcm).mono ?_
  rintro e w' ⟨rfl, rfl⟩
  clear hcm HL1
  obtain ⟨cc34a, cc34b, cc34c⟩ := X8.out.cells
  go_wp2_with fail
  refine (near_r Hha.out Hhdg.out (by have := Hhdr.out; omega) w31).mono ?_
  rintro e w35 ⟨rfl, hb⟩
  replace B := bb B hb
  clear cc32a cc32b cc32c cc34a cc34b cc34c
  clear hb 
  go_wp2_with fail
  refine (same_no 2 (by decide) w35 (HDR.out.below B.out)).mono ?_
  rintro e w36 ⟨rfl, hb⟩
  replace B := bb B hb
  clear hb 
  go_wp2_with fail
  go_ret
  exact ⟨rfl, B.out⟩

end Go.Proofs.YtjeeepcnaaadmaaGreatDoor

/-
  CfTells: a case.
-/
namespace Go.Proofs.YtjeeepcnaaadmaaGreatDoor
open Go.RowKit
open Num4
open Num (dg isNat dval)
set_option linter.unusedVariables false
set_option maxRecDepth 100000
set_option linter.unusedSimpArgs false

set_option maxHeartbeats 16000000 in
theorem cft_gb_ok (a d : ByteArray) (v : Value) (ss : List ByteArray) (sa : a.size ≤ maxLen) (sd : d.size ≤ maxLen) (w : World) (hv : TxsW w v ss) (hs : ∀ i, i < ss.length → (tx ss i).size ≤ maxLen) (hr : ss.length ≤ 1048576) {ka kl kd : Int} (ha : GoodQ a) (hl : BadL ss kl) (hdg : Good d) (hdr : 1 ≤ num d ∧ num d ≤ 1000) (hd : Door w) :
    Calls Tryz.prog 4 #[.string a, v, .string d] w fun e w' => e = .returned (.bool true) ∧ Below w.heap.size w w' := by
  have Hha := hid ha
  have Hhl := hid hl
  have Hhdg := hid hdg
  have Hhdr := hid hdr
  have hkl : (kl == 0) = false := by simpa using hl.ne
  have HKL := hid hl.ne
  have HDR := hid hd
  have V0 := hid hv
  have HS := hid hs
  have HMX := hid (show ss.length ≤ 1099511627776 by omega)
  have hne := errv_neq
  obtain ⟨pv, nv, cv, rfl⟩ : ∃ p n c, v = .slice p n c := by obtain ⟨p, c, h, _⟩ := hv; exact ⟨p, _, c, h⟩
  have B := hid (Below.refl w.heap.size w)
  clear  ha hl hdg hdr hd hv hs hr
  go_enter Tryz.func4, Tryz.ntmps4
  go_wp2_with fail
  refine (golden_true w).mono ?_
  rintro e w1 ⟨rfl, hb⟩
  replace B := bb B hb
  clear hb 
  go_wp2_with fail
  refine (ratof_good Hha.out w1).mono ?_
  rintro e w2 ⟨v, rfl, hv, hb⟩
  obtain ⟨s1a, p1a, n1a, c1a, p1b, n1b, c1b, rfl⟩ := hv.opened
  obtain ⟨ht1, hu1⟩ := hv.two
  replace B := bb B hb
  have HN1 := hid ht1
  have HD1 := hid hu1
  clear hb hv ht1 hu1
  have hb3 := (Below.refl _ _).alloc (Nat.le_refl w2.heap.size) (.cells #[.bool s1a, .slice p1a n1a c1a, .slice p1b n1b c1b] 28)
  have hx4 := Qbx.new w2 s1a p1a n1a c1a p1b n1b c1b
  replace HN1 := wr HN1 hb3
  replace HD1 := wr HD1 hb3
  replace B := bb B hb3
  have X8 := hid hx4
  have hs5 : (w2.alloc (.cells #[.bool s1a, .slice p1a n1a c1a, .slice p1b n1b c1b] 28)).heap.size = w2.heap.size + 1 := by simp
  clear hb3 hx4
  obtain ⟨cc6a, cc6b, cc6c⟩ := X8.out.cells
  go_wp2_with fail
  generalize hW : w2.alloc (.cells #[.bool s1a, .slice p1a n1a c1a, .slice p1b n1b c1b] 28) = W7 at *
  clear hW
  have hCF := rcfof (k := 100) (by omega) (by omega) ((qnum a).den + 1) _ _ _ (QR.mk2 HN1.out HD1.out) HN1.out.lt (by simpa using HD1.out.lt) (Nat.lt_succ_self _)
  refine (hCF).mono ?_
  rintro e w8 ⟨u, rfl, hu, hb⟩
  obtain ⟨pw, nw, cw, rfl⟩ : ∃ p n c, u = .slice p n c := by obtain ⟨p, c, h, _⟩ := hu.txs; exact ⟨p, _, c, h⟩
  have HWT := hid hu.txs
  replace X8 := qx X8 hb
  replace HN1 := wr HN1 hb
  replace HD1 := wr HD1 hb
  replace B := bb B hb
  clear cc6a cc6b cc6c
  clear hb hu hCF
  obtain ⟨cc9a, cc9b, cc9c⟩ := X8.out.cells
  go_wp2_with fail
  refine (of_good Hha.out w8).mono ?_
  rintro e w10 ⟨u, rfl, hu, hb⟩
  replace HWT := hid (HWT.out.on hb)
  obtain ⟨pc, nc, cc, rfl⟩ : ∃ p n c, u = .slice p n c := by obtain ⟨p, c, h, _⟩ := hu.txs; exact ⟨p, _, c, h⟩
  have HCT := hid hu.txs
  replace X8 := qx X8 hb
  replace HN1 := wr HN1 hb
  replace HD1 := wr HD1 hb
  replace B := bb B hb
  clear cc9a cc9b cc9c
  clear hb hu
  obtain ⟨cc11a, cc11b, cc11c⟩ := X8.out.cells
  go_wp2_with fail
  refine (same_nil w10 (HDR.out.below B.out)).mono ?_
  rintro e w12 ⟨rfl, hb⟩
  replace HWT := hid (HWT.out.on hb)
  replace HCT := hid (HCT.out.on hb)
  replace X8 := qx X8 hb
  replace HN1 := wr HN1 hb
  replace HD1 := wr HD1 hb
  replace B := bb B hb
  clear cc11a cc11b cc11c
  clear hb 
  obtain ⟨cc13a, cc13b, cc13c⟩ := X8.out.cells
  go_wp2_with fail
  have hst := same_texts HCT.out HWT.out
  rw [decide_eq_true rfl] at hst
  refine (hst).mono ?_
  rintro e w14 ⟨rfl, hb⟩
  replace X8 := qx X8 hb
  replace HN1 := wr HN1 hb
  replace HD1 := wr HD1 hb
  replace B := bb B hb
  clear cc13a cc13b cc13c
  clear hb hst HWT HCT
  obtain ⟨cc15a, cc15b, cc15c⟩ := X8.out.cells
  go_wp2_with fail
  refine (rcfback_bad (V0.out.below B.out (Nat.le_refl _)) HS.out HMX.out Hhl.out).mono ?_
  rintro e w16 ⟨rfl, hb⟩
  replace X8 := qx X8 hb
  replace HN1 := wr HN1 hb
  replace HD1 := wr HD1 hb
  replace B := bb B hb
  clear cc15a cc15b cc15c
  clear hb 
  have hb17 := (Below.refl _ _).alloc (Nat.le_refl w16.heap.size) (.cells #[.bool false, .slice none 0 0, .slice none 0 0] 28)
  have hx18 := Qbx.new w16 false none 0 0 none 0 0
  have L0 := hid X8.out.lt
  replace X8 := qx X8 hb17
  replace HN1 := wr HN1 hb17
  replace HD1 := wr HD1 hb17
  replace B := bb B hb17
  have X15 := hid hx18
  have hs19 : (w16.alloc (.cells #[.bool false, .slice none 0 0, .slice none 0 0] 28)).heap.size = w16.heap.size + 1 := by simp
  clear hb17 hx18
  obtain ⟨cc20a, cc20b, cc20c⟩ := X8.out.cells
  obtain ⟨cc21a, cc21b, cc21c⟩ := X15.out.cells
  go_wp2_with fail
  generalize hW : w16.alloc (.cells #[.bool false, .slice none 0 0, .slice none 0 0] 28) = W22 at *
  clear hW
  refine (back_bad (V0.out.below B.out (Nat.le_refl _)) HS.out Hhl.out).mono ?_
  rintro e w23 ⟨rfl, hb⟩
  replace X8 := qx X8 hb
  replace HN1 := wr HN1 hb
  replace HD1 := wr HD1 hb
  replace B := bb B hb
  clear cc20a cc20b cc20c cc21a cc21b cc21c
  clear hb 
  obtain ⟨cc24a, cc24b, cc24c⟩ := X8.out.cells
  go_wp2_with fail
  refine (same_no kl HKL.out w23 (HDR.out.below B.out)).mono ?_
  rintro e w25 ⟨rfl, hb⟩
  replace X8 := qx X8 hb
  replace HN1 := wr HN1 hb
  replace HD1 := wr HD1 hb
  replace B := bb B hb
  clear cc24a cc24b cc24c
  clear hb 
  obtain ⟨cc26a, cc26b, cc26c⟩ := X8.out.cells
  go_wp2_with fail
  refine (natof_good w25 Hhdg.out.1 Hhdg.out.2).mono ?_
  rintro e w27 ⟨vn, xs, rfl, hln, htn, hvn, hb⟩
  obtain ⟨bn, on_, cn, rfl, hcn, hbn, hcell⟩ := lim_single hln htn hvn Hhdr.out.1 Hhdr.out.2
  have LN := hid (And.intro hbn hcell)
  have HLN := hid (And.intro hln (And.intro htn hvn))
  have hln2 := good_len (w := w) (v := .nilIface) htn Hhdg.out hvn
  replace X8 := qx X8 hb
  replace HN1 := wr HN1 hb
  replace HD1 := wr HD1 hb
  replace B := bb B hb
  clear cc26a cc26b cc26c
  clear hb hln htn hvn hbn hcell
  obtain ⟨cc28a, cc28b, cc28c⟩ := X8.out.cells
  go_wp2_with fail
  refine (two_zero _ w27).mono ?_
  rintro e w' ⟨rfl, rfl⟩
  obtain ⟨cc30a, cc30b, cc30c⟩ := X8.out.cells
  go_wp2_with fail
  refine (rsmall_lim w27 1000 (by omega)).mono ?_
  rintro e w31 ⟨v1, zs1, rfl, hl1, ht1, hv1, hn1, hb⟩
  replace HLN := hid (And.intro (HLN.out.1.below hb (Nat.le_refl _)) HLN.out.2)
  replace LN := hid (And.intro (Nat.lt_of_lt_of_le LN.out.1 hb.size) ((hb.cell (p := ⟨bn, on_, none⟩) LN.out.1).trans LN.out.2))
  have HL1 := hid (And.intro hl1 (And.intro hv1 hn1))
  replace X8 := qx X8 hb
  replace HN1 := wr HN1 hb
  replace HD1 := wr HD1 hb
  replace B := bb B hb
  clear cc28a cc28b cc28c cc30a cc30b cc30c
  clear hb hl1 ht1 hv1 hn1
  obtain ⟨cc32a, cc32b, cc32c⟩ := X8.out.cells
  go_wp2_with fail
  have hcm := cmp_lim HLN.out.1 HL1.out.1 (by have := good_len (w := w) (v := .nilIface) HLN.out.2.1 Hhdg.out HLN.out.2.2; omega) (by have := HL1.out.2.2; omega)
  rw [HLN.out.2.2, HL1.out.2.1] at hcm
  change Calls _ _ _ _ (fun e w' => e = .returned (.int .i64 (cmpv (num d) 1000)) ∧ _ = w') at hcm
  have hcz : ¬ (0 : Int) < cmpv (num d) 1000 := by have := Hhdr.out.2; unfold cmpv; split <;> (try split) <;> omega
  generalize cmpv (num d) 1000 = cz at hcm hcz
  refine (hcm).mono ?_
  rintro e w' ⟨rfl, rfl⟩
  clear hcm HL1
  obtain ⟨cc34a, cc34b, cc34c⟩ := X8.out.cells
  go_wp2_with fail
  have HR := hid Hhdr.out
  obtain ⟨nq, hnq⟩ : ∃ q, q = nfold (qnum a) (num d) := ⟨_, rfl⟩
  have HNQ := hid hnq
  clear hnq
  clear cc32a cc32b cc32c cc34a cc34b cc34c
  refine region_ops (by kernel_rfl) (by kernel_rfl) (fun a f a' w' => ∃ u22 u86 u87 u88 u89 u90 u91 : Value, a' = { tmps := (((((((a.tmps.setIfInBounds 22 u22).setIfInBounds 86 u86).setIfInBounds 87 u87).setIfInBounds 88 u88).setIfInBounds 89 u89).setIfInBounds 90 u90).setIfInBounds 91 u91), defers := a.defers } ∧ Hid (Below w31.heap.size w31 w') ∧ Hid (f 0 = true → u86 = (.agg #[.bool s1a, .slice p1a n1a c1a, .slice p1b n1b c1b])) ∧ Hid (f 1 = true → u87 = .slice (some ⟨bn, on_, none⟩) 1 cn) ∧ Hid (f 2 = true → u88 = .pointer (some ⟨bn, on_, none⟩)) ∧ Hid (f 3 = true → u89 = .int .i64 (num d : Nat)) ∧ Hid (f 4 = true → QR w' u90 nq 101) ∧ Hid (f 5 = true → u91 = .string (qtxt nq)) ∧ Hid (f 6 = true → u22 = .string (qtxt nq))) ?h0 ⟨?s0, ?s1, ?s2, ?s3, ?s4, ?s5, ?s6, trivial⟩ ?hend
  case h0 =>
    simp only [List.setIfInBounds_toArray, List.set_cons_zero, List.set_cons_succ]
    exact ⟨_, _, _, _, _, _, _, rfl, hid (Below.drew (Below.refl _ _)), hid (fun h => by cases h), hid (fun h => by cases h), hid (fun h => by cases h), hid (fun h => by cases h), hid (fun h => by cases h), hid (fun h => by cases h), hid (fun h => by cases h)⟩
  case s0 =>
    rintro f a1 w1 ⟨u22, u86, u87, u88, u89, u90, u91, rfl, HBW, h0, h1, h2, h3, h4, h5, h6⟩ hf hd K hK
    simp only [List.setIfInBounds_toArray, List.set_cons_zero, List.set_cons_succ] at hK ⊢
    replace hK := hid hK
    obtain ⟨y1, y2, y3⟩ := (X8.out.below HBW.out X8.out.lt).cells
    go_simp
    exact hK.out _ _ ⟨_, _, _, _, _, _, _, rfl, HBW, hid (fun h => rfl), hid (fun h => h1.out h), hid (fun h => h2.out h), hid (fun h => h3.out h), hid (fun h => h4.out h), hid (fun h => h5.out h), hid (fun h => h6.out h)⟩
  case s1 =>
    rintro f a1 w1 ⟨u22, u86, u87, u88, u89, u90, u91, rfl, HBW, h0, h1, h2, h3, h4, h5, h6⟩ hf hd K hK
    simp only [List.setIfInBounds_toArray, List.set_cons_zero, List.set_cons_succ] at hK ⊢
    replace hK := hid hK
    go_simp
    exact hK.out _ _ ⟨_, _, _, _, _, _, _, rfl, HBW, hid (fun h => h0.out h), hid (fun h => rfl), hid (fun h => h2.out h), hid (fun h => h3.out h), hid (fun h => h4.out h), hid (fun h => h5.out h), hid (fun h => h6.out h)⟩
  case s2 =>
    rintro f a1 w1 ⟨u22, u86, u87, u88, u89, u90, u91, rfl, HBW, h0, h1, h2, h3, h4, h5, h6⟩ hf hd K hK
    simp only [List.setIfInBounds_toArray, List.set_cons_zero, List.set_cons_succ] at hK ⊢
    replace hK := hid hK
    simp [Region.binds] at hd
    obtain rfl := h1.out (by simp only [hd])
    go_simp
    exact hK.out _ _ ⟨_, _, _, _, _, _, _, rfl, HBW, hid (fun h => h0.out h), hid (fun h => h1.out h), hid (fun h => rfl), hid (fun h => h3.out h), hid (fun h => h4.out h), hid (fun h => h5.out h), hid (fun h => h6.out h)⟩
  case s3 =>
    rintro f a1 w1 ⟨u22, u86, u87, u88, u89, u90, u91, rfl, HBW, h0, h1, h2, h3, h4, h5, h6⟩ hf hd K hK
    simp only [List.setIfInBounds_toArray, List.set_cons_zero, List.set_cons_succ] at hK ⊢
    replace hK := hid hK
    simp [Region.binds] at hd
    obtain rfl := h2.out (by simp only [hd])
    have y1 := (HBW.out.cell (p := ⟨bn, on_, none⟩) LN.out.1).trans LN.out.2
    go_simp
    exact hK.out _ _ ⟨_, _, _, _, _, _, _, rfl, HBW, hid (fun h => h0.out h), hid (fun h => h1.out h), hid (fun h => h2.out h), hid (fun h => rfl), hid (fun h => h4.out h), hid (fun h => h5.out h), hid (fun h => h6.out h)⟩
  case s4 =>
    rintro f a1 w1 ⟨u22, u86, u87, u88, u89, u90, u91, rfl, HBW, h0, h1, h2, h3, h4, h5, h6⟩ hf hd K hK
    simp only [List.setIfInBounds_toArray, List.set_cons_zero, List.set_cons_succ] at hK ⊢
    replace hK := hid hK
    simp [Region.binds] at hd
    obtain rfl := h0.out (by simp only [hd])
    obtain rfl := h3.out (by simp only [hd])
    go_simp
    refine (rnearof (QR.mk2 (HN1.out.on HBW.out) (HD1.out.on HBW.out)) (by omega) (by omega) HR.out.1 HR.out.2).mono ?_
    rintro e w2 ⟨v, rfl, hv, hb⟩
    rw [← HNQ.out] at hv
    go_wp2_with fail
    exact hK.out _ _ ⟨_, _, _, _, _, _, _, rfl, hid (below_next HBW.out hb), hid (fun h => rfl), hid (fun h => h1.out h), hid (fun h => h2.out h), hid (fun h => rfl), hid (fun h => hv), hid (fun h => h5.out h), hid (fun h => h6.out h)⟩
  case s5 =>
    rintro f a1 w1 ⟨u22, u86, u87, u88, u89, u90, u91, rfl, HBW, h0, h1, h2, h3, h4, h5, h6⟩ hf hd K hK
    simp only [List.setIfInBounds_toArray, List.set_cons_zero, List.set_cons_succ] at hK ⊢
    replace hK := hid hK
    simp [Region.binds] at hd
    have hcc := rqtext (h4.out (by simp only [hd])) (by omega)
    go_simp
    refine (hcc).mono ?_
    rintro e w2 ⟨rfl, hb⟩
    go_wp2_with fail
    exact hK.out _ _ ⟨_, _, _, _, _, _, _, rfl, hid (below_next HBW.out hb), hid (fun h => h0.out h), hid (fun h => h1.out h), hid (fun h => h2.out h), hid (fun h => h3.out h), hid (fun h => (h4.out h).on hb), hid (fun h => rfl), hid (fun h => h6.out h)⟩
  case s6 =>
    rintro f a1 w1 ⟨u22, u86, u87, u88, u89, u90, u91, rfl, HBW, h0, h1, h2, h3, h4, h5, h6⟩ hf hd K hK
    simp only [List.setIfInBounds_toArray, List.set_cons_zero, List.set_cons_succ] at hK ⊢
    replace hK := hid hK
    simp [Region.binds] at hd
    obtain rfl := h5.out (by simp only [hd])
    go_simp
    exact hK.out _ _ ⟨_, _, _, _, _, _, _, rfl, HBW, hid (fun h => h0.out h), hid (fun h => h1.out h), hid (fun h => h2.out h), hid (fun h => h3.out h), hid (fun h => h4.out h), hid (fun h => rfl), hid (fun h => rfl)⟩
  case hend =>
    rintro f a1 w50 ⟨u22, u86, u87, u88, u89, u90, u91, rfl, HBW, h0, h1, h2, h3, h4, h5, h6⟩ hall
    simp only [List.setIfInBounds_toArray, List.set_cons_zero, List.set_cons_succ]
    obtain rfl := h6.out (hall 6 (by decide))
    replace B := bb B HBW.out
    clear h0 h1 h2 h3 h4 h5 h6 hall HBW
    go_wp2_with fail
    refine (near_ok Hha.out Hhdg.out Hhdr.out w50).mono ?_
    rintro e w901 ⟨p, rfl, hp, _, hb⟩
    obtain rfl : p = nq := by rw [HNQ.out]; exact hp.unique (nfold_best (qnum a) (num d) HR.out.1)
    replace B := bb B hb
    clear hb hp
    go_wp2_with fail
    refine (same_nil w901 (HDR.out.below B.out)).mono ?_
    rintro e w902 ⟨rfl, hb⟩
    replace B := bb B hb
    clear hb 
    go_wp2_with fail
    go_ret
    exact ⟨rfl, B.out⟩

end Go.Proofs.YtjeeepcnaaadmaaGreatDoor

/-
  THE LAW CfTells' WALK.
-/
namespace Go.Proofs.YtjeeepcnaaadmaaGreatDoor
open Go.RowKit
open Num4
open Num (dg isNat dval)
set_option linter.unusedVariables false
set_option maxRecDepth 100000
set_option linter.unusedSimpArgs false

theorem cftells_walk (a d : ByteArray) (v : Value) (ss : List ByteArray) (sa : a.size ≤ maxLen) (sd : d.size ≤ maxLen) (w : World) (hv : TxsW w v ss) (hs : ∀ i, i < ss.length → (tx ss i).size ≤ maxLen) (hr : ss.length ≤ 1048576) (hd : Door w) :
    Calls Tryz.prog 4 #[.string a, v, .string d] w fun e w' => e = .returned (.bool true) ∧ Below w.heap.size w w' := by
  rcases goodQ_or_bad a with ha | ⟨ka, ha⟩ <;> rcases goodL_or_bad ss with hl | ⟨kl, hl⟩
  · rcases good_or_bad d with hg | ⟨kd, hb⟩
    · by_cases h0 : num d = 0
      · exact cft_gg_zero a d v ss sa sd w hv hs hr (ka := 0) (kl := 0) (kd := 0) ha hl hg h0 hd
      · by_cases h1 : 1000 < num d
        · exact cft_gg_great a d v ss sa sd w hv hs hr (ka := 0) (kl := 0) (kd := 0) ha hl hg h1 hd
        · exact cft_gg_ok a d v ss sa sd w hv hs hr (ka := 0) (kl := 0) (kd := 0) ha hl hg ⟨by omega, by omega⟩ hd
    · exact cft_gg_bad a d v ss sa sd w hv hs hr (ka := 0) (kl := 0) ha hl hb hd
  · rcases good_or_bad d with hg | ⟨kd, hb⟩
    · by_cases h0 : num d = 0
      · exact cft_gb_zero a d v ss sa sd w hv hs hr (ka := 0) (kd := 0) ha hl hg h0 hd
      · by_cases h1 : 1000 < num d
        · exact cft_gb_great a d v ss sa sd w hv hs hr (ka := 0) (kd := 0) ha hl hg h1 hd
        · exact cft_gb_ok a d v ss sa sd w hv hs hr (ka := 0) (kd := 0) ha hl hg ⟨by omega, by omega⟩ hd
    · exact cft_gb_bad a d v ss sa sd w hv hs hr (ka := 0) ha hl hb hd
  · exact cft_bg_any a d v ss sa sd w hv hs hr (kl := 0) (kd := 0) ha hl hd
  · exact cft_bb_any a d v ss sa sd w hv hs hr (kd := 0) ha hl hd

end Go.Proofs.YtjeeepcnaaadmaaGreatDoor
