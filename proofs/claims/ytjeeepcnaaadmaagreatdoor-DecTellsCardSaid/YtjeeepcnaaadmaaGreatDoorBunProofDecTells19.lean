import Derived.Test.YtjeeepcnaaadmaaGreatDoorBunProofDecTells18
import Derived.Test.YtjeeepcnaaadmaaGreatDoorBunProofDecTells11
/-
  PACKAGE dec: read.
-/
namespace Go.Proofs.YtjeeepcnaaadmaaGreatDoor
open Go.RowKit
open Num
set_option linter.unusedVariables false
set_option maxRecDepth 100000
set_option linter.unusedSimpArgs false

set_option maxHeartbeats 1000000 in
theorem dread_a {a : ByteArray} {k d : Int} (h : BadQ a k) (ha : a.size ≤ maxLen) (w : World) :
    Calls Tryz.prog 80 #[.string a, .int .i64 d] w fun e w' => e = .returned (.tuple #[.agg #[.bool false, .slice none 0 0, .bool false, .slice none 0 0], errno k]) ∧ Below w.heap.size w w' := by
  have hne := errv_neq
  have hgd := errv_guard
  have hkk := errv_some h.ne
  have H1 := hid (fun w => qread_bad h w ha)
  have B := hid (Below.refl w.heap.size w)
  have hb1 := (Below.refl _ _).alloc (Nat.le_refl w.heap.size) (.cells #[.bool false, .slice none 0 0, .bool false, .slice none 0 0] 83)
  have hx2 := Nbx.new w false false (.slice none 0 0) (.slice none 0 0)
  replace B := bb B hb1
  have XR := hid hx2
  have hs3 : (w.alloc (.cells #[.bool false, .slice none 0 0, .bool false, .slice none 0 0] 83)).heap.size = w.heap.size + 1 := by simp
  clear hb1 hx2
  clear hs3 h
  go_enter Tryz.func80, Tryz.ntmps80
  obtain ⟨cc4a, cc4b, cc4c, cc4d⟩ := XR.out.cells
  go_wp2_with fail
  generalize hW : w.alloc (.cells #[.bool false, .slice none 0 0, .bool false, .slice none 0 0] 83) = W5 at *
  clear hW
  refine (H1.out _).mono ?_
  rintro e w6 ⟨rfl, hb⟩
  replace XR := nx XR hb
  replace B := bb B hb
  clear cc4a cc4b cc4c cc4d
  clear hb H1
  have hb7 := (Below.refl _ _).alloc (Nat.le_refl w6.heap.size) (.cells #[.bool false, .slice none 0 0, .bool false, .slice none 0 0] 83)
  have hx8 := Nbx.new w6 false false (.slice none 0 0) (.slice none 0 0)
  have L0 := hid XR.out.lt
  replace XR := nx XR hb7
  replace B := bb B hb7
  have XA := hid hx8
  have hs9 : (w6.alloc (.cells #[.bool false, .slice none 0 0, .bool false, .slice none 0 0] 83)).heap.size = w6.heap.size + 1 := by simp
  clear hb7 hx8
  obtain ⟨cc10a, cc10b, cc10c, cc10d⟩ := XR.out.cells
  obtain ⟨cc11a, cc11b, cc11c, cc11d⟩ := XA.out.cells
  obtain ⟨⟨cc12a, cc12b⟩, ⟨cc12c, cc12d⟩, ⟨cc12e, cc12f⟩, cc12g, cc12h⟩ := XR.out.stores
  obtain ⟨r13a, r13b, r13c⟩ := XR.out.last B.out (by have := L0.out; omega) false false none none 0 0 0 0
  replace XA := hid ((((XA.out.other (g2 := w.heap.size) (by have := L0.out; omega) 0 (.bool false)).other (g2 := w.heap.size) (by have := L0.out; omega) 1 (.slice none 0 0)).other (g2 := w.heap.size) (by have := L0.out; omega) 2 (.bool false)).other (g2 := w.heap.size) (by have := L0.out; omega) 3 (.slice none 0 0))
  replace XR := hid r13a
  replace B := hid r13b
  clear r13a r13b r13c
  obtain ⟨cc14a, cc14b, cc14c, cc14d⟩ := XR.out.cells
  obtain ⟨cc15a, cc15b, cc15c, cc15d⟩ := XA.out.cells
  go_wp2_with fail
  refine bodyPost_ret (res_num_tmp rfl rfl rfl XR.out) rfl ?_
  exact ⟨rfl, B.out⟩

set_option maxHeartbeats 1000000 in
theorem dread_r1 {a : ByteArray} {d : Int} (h : GoodQ a) (hd : d < 0) (w : World) :
    Calls Tryz.prog 80 #[.string a, .int .i64 d] w fun e w' => e = .returned (.tuple #[.agg #[.bool false, .slice none 0 0, .bool false, .slice none 0 0], errno 2]) ∧ Below w.heap.size w w' := by
  have hne := errv_neq
  have hgd := errv_guard
  have H1 := hid (fun w => qread_good h w)
  have B := hid (Below.refl w.heap.size w)
  have hb1 := (Below.refl _ _).alloc (Nat.le_refl w.heap.size) (.cells #[.bool false, .slice none 0 0, .bool false, .slice none 0 0] 83)
  have hx2 := Nbx.new w false false (.slice none 0 0) (.slice none 0 0)
  replace B := bb B hb1
  have XR := hid hx2
  have hs3 : (w.alloc (.cells #[.bool false, .slice none 0 0, .bool false, .slice none 0 0] 83)).heap.size = w.heap.size + 1 := by simp
  clear hb1 hx2
  clear hs3 h
  go_enter Tryz.func80, Tryz.ntmps80
  obtain ⟨cc4a, cc4b, cc4c, cc4d⟩ := XR.out.cells
  go_wp2_with fail
  generalize hW : w.alloc (.cells #[.bool false, .slice none 0 0, .bool false, .slice none 0 0] 83) = W5 at *
  clear hW
  refine (H1.out _).mono ?_
  rintro e w6 ⟨v, rfl, hv, hb⟩
  obtain ⟨s1a, p1a, n1a, c1a, s1b, p1b, n1b, c1b, rfl⟩ := hv.opened
  obtain ⟨ht1, d1, hu1, hd1⟩ := hv.two
  have HD1 := hid hd1
  replace XR := nx XR hb
  replace B := bb B hb
  clear cc4a cc4b cc4c cc4d
  have HT1 := hid ht1
  have HU1 := hid hu1
  clear hb hv ht1 hu1 hd1 H1
  have hb7 := (Below.refl _ _).alloc (Nat.le_refl w6.heap.size) (.cells #[.bool s1a, .slice p1a n1a c1a, .bool s1b, .slice p1b n1b c1b] 83)
  have hx8 := Nbx.new w6 s1a s1b (.slice p1a n1a c1a) (.slice p1b n1b c1b)
  have L0 := hid XR.out.lt
  replace XR := nx XR hb7
  replace HT1 := wl HT1 hb7
  replace HU1 := wl HU1 hb7
  replace B := bb B hb7
  have XA := hid hx8
  have hs9 : (w6.alloc (.cells #[.bool s1a, .slice p1a n1a c1a, .bool s1b, .slice p1b n1b c1b] 83)).heap.size = w6.heap.size + 1 := by simp
  clear hb7 hx8
  obtain ⟨cc10a, cc10b, cc10c, cc10d⟩ := XR.out.cells
  obtain ⟨cc11a, cc11b, cc11c, cc11d⟩ := XA.out.cells
  obtain ⟨⟨cc12a, cc12b⟩, ⟨cc12c, cc12d⟩, ⟨cc12e, cc12f⟩, cc12g, cc12h⟩ := XR.out.stores
  obtain ⟨r13a, r13b, r13c⟩ := XR.out.last B.out (by have := L0.out; omega) false false none none 0 0 0 0
  replace XA := hid ((((XA.out.other (g2 := w.heap.size) (by have := L0.out; omega) 0 (.bool false)).other (g2 := w.heap.size) (by have := L0.out; omega) 1 (.slice none 0 0)).other (g2 := w.heap.size) (by have := L0.out; omega) 2 (.bool false)).other (g2 := w.heap.size) (by have := L0.out; omega) 3 (.slice none 0 0))
  replace HT1 := hid (r13c HT1.out)
  replace HU1 := hid (r13c HU1.out)
  replace XR := hid r13a
  replace B := hid r13b
  clear r13a r13b r13c
  obtain ⟨cc14a, cc14b, cc14c, cc14d⟩ := XR.out.cells
  obtain ⟨cc15a, cc15b, cc15c, cc15d⟩ := XA.out.cells
  go_wp2_with fail
  refine bodyPost_ret (res_num_tmp rfl rfl rfl XR.out) rfl ?_
  exact ⟨rfl, B.out⟩

set_option maxHeartbeats 1000000 in
theorem dread_r2 {a : ByteArray} {d : Int} (h : GoodQ a) (h0 : ¬ d < 0) (hd : 30 < d) (w : World) :
    Calls Tryz.prog 80 #[.string a, .int .i64 d] w fun e w' => e = .returned (.tuple #[.agg #[.bool false, .slice none 0 0, .bool false, .slice none 0 0], errno 2]) ∧ Below w.heap.size w w' := by
  have hne := errv_neq
  have hgd := errv_guard
  have H1 := hid (fun w => qread_good h w)
  have B := hid (Below.refl w.heap.size w)
  have hb1 := (Below.refl _ _).alloc (Nat.le_refl w.heap.size) (.cells #[.bool false, .slice none 0 0, .bool false, .slice none 0 0] 83)
  have hx2 := Nbx.new w false false (.slice none 0 0) (.slice none 0 0)
  replace B := bb B hb1
  have XR := hid hx2
  have hs3 : (w.alloc (.cells #[.bool false, .slice none 0 0, .bool false, .slice none 0 0] 83)).heap.size = w.heap.size + 1 := by simp
  clear hb1 hx2
  clear hs3 h
  go_enter Tryz.func80, Tryz.ntmps80
  obtain ⟨cc4a, cc4b, cc4c, cc4d⟩ := XR.out.cells
  go_wp2_with fail
  generalize hW : w.alloc (.cells #[.bool false, .slice none 0 0, .bool false, .slice none 0 0] 83) = W5 at *
  clear hW
  refine (H1.out _).mono ?_
  rintro e w6 ⟨v, rfl, hv, hb⟩
  obtain ⟨s1a, p1a, n1a, c1a, s1b, p1b, n1b, c1b, rfl⟩ := hv.opened
  obtain ⟨ht1, d1, hu1, hd1⟩ := hv.two
  have HD1 := hid hd1
  replace XR := nx XR hb
  replace B := bb B hb
  clear cc4a cc4b cc4c cc4d
  have HT1 := hid ht1
  have HU1 := hid hu1
  clear hb hv ht1 hu1 hd1 H1
  have hb7 := (Below.refl _ _).alloc (Nat.le_refl w6.heap.size) (.cells #[.bool s1a, .slice p1a n1a c1a, .bool s1b, .slice p1b n1b c1b] 83)
  have hx8 := Nbx.new w6 s1a s1b (.slice p1a n1a c1a) (.slice p1b n1b c1b)
  have L0 := hid XR.out.lt
  replace XR := nx XR hb7
  replace HT1 := wl HT1 hb7
  replace HU1 := wl HU1 hb7
  replace B := bb B hb7
  have XA := hid hx8
  have hs9 : (w6.alloc (.cells #[.bool s1a, .slice p1a n1a c1a, .bool s1b, .slice p1b n1b c1b] 83)).heap.size = w6.heap.size + 1 := by simp
  clear hb7 hx8
  obtain ⟨cc10a, cc10b, cc10c, cc10d⟩ := XR.out.cells
  obtain ⟨cc11a, cc11b, cc11c, cc11d⟩ := XA.out.cells
  obtain ⟨⟨cc12a, cc12b⟩, ⟨cc12c, cc12d⟩, ⟨cc12e, cc12f⟩, cc12g, cc12h⟩ := XR.out.stores
  obtain ⟨r13a, r13b, r13c⟩ := XR.out.last B.out (by have := L0.out; omega) false false none none 0 0 0 0
  replace XA := hid ((((XA.out.other (g2 := w.heap.size) (by have := L0.out; omega) 0 (.bool false)).other (g2 := w.heap.size) (by have := L0.out; omega) 1 (.slice none 0 0)).other (g2 := w.heap.size) (by have := L0.out; omega) 2 (.bool false)).other (g2 := w.heap.size) (by have := L0.out; omega) 3 (.slice none 0 0))
  replace HT1 := hid (r13c HT1.out)
  replace HU1 := hid (r13c HU1.out)
  replace XR := hid r13a
  replace B := hid r13b
  clear r13a r13b r13c
  obtain ⟨cc14a, cc14b, cc14c, cc14d⟩ := XR.out.cells
  obtain ⟨cc15a, cc15b, cc15c, cc15d⟩ := XA.out.cells
  go_wp2_with fail
  refine bodyPost_ret (res_num_tmp rfl rfl rfl XR.out) rfl ?_
  exact ⟨rfl, B.out⟩

set_option maxHeartbeats 1000000 in
theorem dread_ok {a : ByteArray} {n : Nat} (h : GoodQ a) (hn : n ≤ 30) (w : World) :
    Calls Tryz.prog 80 #[.string a, .int .i64 (n : Int)] w fun e w' => ∃ v, e = .returned (.tuple #[v, .nilIface]) ∧ Rtl w' v (qnum a) 100 ∧ Below w.heap.size w w' := by
  have hne := errv_neq
  have hgd := errv_guard
  have H1 := hid (fun w => qread_good h w)
  have h1 : ¬ (n : Int) < 0 := by omega
  have h2 : ¬ (30 : Int) < (n : Int) := by omega
  clear hn
  have B := hid (Below.refl w.heap.size w)
  have hb1 := (Below.refl _ _).alloc (Nat.le_refl w.heap.size) (.cells #[.bool false, .slice none 0 0, .bool false, .slice none 0 0] 83)
  have hx2 := Nbx.new w false false (.slice none 0 0) (.slice none 0 0)
  replace B := bb B hb1
  have XR := hid hx2
  have hs3 : (w.alloc (.cells #[.bool false, .slice none 0 0, .bool false, .slice none 0 0] 83)).heap.size = w.heap.size + 1 := by simp
  clear hb1 hx2
  clear hs3 h
  go_enter Tryz.func80, Tryz.ntmps80
  obtain ⟨cc4a, cc4b, cc4c, cc4d⟩ := XR.out.cells
  go_wp2_with fail
  generalize hW : w.alloc (.cells #[.bool false, .slice none 0 0, .bool false, .slice none 0 0] 83) = W5 at *
  clear hW
  refine (H1.out _).mono ?_
  rintro e w6 ⟨v, rfl, hv, hb⟩
  obtain ⟨s1a, p1a, n1a, c1a, s1b, p1b, n1b, c1b, rfl⟩ := hv.opened
  obtain ⟨ht1, d1, hu1, hd1⟩ := hv.two
  have HD1 := hid hd1
  replace XR := nx XR hb
  replace B := bb B hb
  clear cc4a cc4b cc4c cc4d
  have HT1 := hid ht1
  have HU1 := hid hu1
  clear hb hv ht1 hu1 hd1 H1
  have hb7 := (Below.refl _ _).alloc (Nat.le_refl w6.heap.size) (.cells #[.bool s1a, .slice p1a n1a c1a, .bool s1b, .slice p1b n1b c1b] 83)
  have hx8 := Nbx.new w6 s1a s1b (.slice p1a n1a c1a) (.slice p1b n1b c1b)
  have L0 := hid XR.out.lt
  replace XR := nx XR hb7
  replace HT1 := wl HT1 hb7
  replace HU1 := wl HU1 hb7
  replace B := bb B hb7
  have XA := hid hx8
  have hs9 : (w6.alloc (.cells #[.bool s1a, .slice p1a n1a c1a, .bool s1b, .slice p1b n1b c1b] 83)).heap.size = w6.heap.size + 1 := by simp
  clear hb7 hx8
  obtain ⟨cc10a, cc10b, cc10c, cc10d⟩ := XR.out.cells
  obtain ⟨cc11a, cc11b, cc11c, cc11d⟩ := XA.out.cells
  obtain ⟨⟨cc12a, cc12b⟩, ⟨cc12c, cc12d⟩, ⟨cc12e, cc12f⟩, cc12g, cc12h⟩ := XR.out.stores
  obtain ⟨r13a, r13b, r13c⟩ := XR.out.last B.out (by have := L0.out; omega) s1a s1b p1a p1b n1a n1b c1a c1b
  replace XA := hid ((((XA.out.other (g2 := w.heap.size) (by have := L0.out; omega) 0 (.bool s1a)).other (g2 := w.heap.size) (by have := L0.out; omega) 1 (.slice p1a n1a c1a)).other (g2 := w.heap.size) (by have := L0.out; omega) 2 (.bool s1b)).other (g2 := w.heap.size) (by have := L0.out; omega) 3 (.slice p1b n1b c1b))
  replace HT1 := hid (r13c HT1.out)
  replace HU1 := hid (r13c HU1.out)
  replace XR := hid r13a
  replace B := hid r13b
  clear r13a r13b r13c
  obtain ⟨cc14a, cc14b, cc14c, cc14d⟩ := XR.out.cells
  obtain ⟨cc15a, cc15b, cc15c, cc15d⟩ := XA.out.cells
  go_wp2_with fail
  refine bodyPost_ret (res_num_tmp rfl rfl rfl XR.out) rfl ?_
  exact ⟨_, rfl, (Rtl.mk2 HT1.out HU1.out HD1.out), B.out⟩

/-- What is wrong with a number and its digits. -/
def BadD (a : ByteArray) (d k : Int) : Prop := BadQ a k ∨ (GoodQ a ∧ ¬ (0 ≤ d ∧ d ≤ 30) ∧ k = 2)
theorem BadD.ne {a : ByteArray} {d k : Int} (h : BadD a d k) : k ≠ 0 := by
  rcases h with h | ⟨_, _, rfl⟩
  · exact h.ne
  · decide
theorem BadD.not {a : ByteArray} {d k : Int} (h : BadD a d k) : ¬ (GoodQ a ∧ 0 ≤ d ∧ d ≤ 30) := by
  rintro ⟨h1, h2⟩
  rcases h with h | ⟨_, h3, _⟩
  · exact h.not h1
  · exact h3 h2
theorem dec_cases (a : ByteArray) (d : Int) : (GoodQ a ∧ ∃ n : Nat, n ≤ 30 ∧ d = (n : Int)) ∨ ∃ k, BadD a d k := by
  rcases goodQ_or_bad a with h | ⟨k, h⟩
  · by_cases hd : 0 ≤ d ∧ d ≤ 30
    · exact .inl ⟨h, d.toNat, by omega, by omega⟩
    · exact .inr ⟨2, .inr ⟨h, hd, rfl⟩⟩
  · exact .inr ⟨k, .inl h⟩
theorem dread_bad {a : ByteArray} {d k : Int} (h : BadD a d k) (ha : a.size ≤ maxLen) (w : World) :
    Calls Tryz.prog 80 #[.string a, .int .i64 d] w fun e w' => e = .returned (.tuple #[.agg #[.bool false, .slice none 0 0, .bool false, .slice none 0 0], errno k]) ∧ Below w.heap.size w w' := by
  rcases h with h | ⟨h, hd, rfl⟩
  · exact dread_a h ha w
  · by_cases h0 : d < 0
    · exact dread_r1 h h0 w
    · exact dread_r2 h h0 (by omega) w

end Go.Proofs.YtjeeepcnaaadmaaGreatDoor

/-
  PACKAGE dec: powerOfTen.
-/
namespace Go.Proofs.YtjeeepcnaaadmaaGreatDoor
open Go.RowKit
open Num
set_option linter.unusedVariables false
set_option maxRecDepth 100000
set_option linter.unusedSimpArgs false

set_option maxHeartbeats 4000000 in
theorem pot_whl (n : Nat) (hn : n ≤ 30) (w : World) :
    Calls Tryz.prog 110 #[.int .i64 (n : Int)] w fun e w' => ∃ v, e = .returned v ∧ Whl w' v (pten n : Int) 4 ∧ Below w.heap.size w w' := by
  have B := hid (Below.refl w.heap.size w)
  have hb1 := (Below.refl _ _).alloc (Nat.le_refl w.heap.size) (.cells #[.bool false, .slice none 0 0] 81)
  have hx2 := Box.new w false none 0 0
  replace B := bb B hb1
  have XR := hid hx2
  have hs3 : (w.alloc (.cells #[.bool false, .slice none 0 0] 81)).heap.size = w.heap.size + 1 := by simp
  clear hb1 hx2
  clear hs3 
  go_enter Tryz.func110, Tryz.ntmps110
  obtain ⟨cc4a, cc4b⟩ := XR.out.both
  go_wp2_with fail
  generalize hW : w.alloc (.cells #[.bool false, .slice none 0 0] 81) = W5 at *
  clear hW
  refine (of_small 1 (by decide) _).mono ?_
  rintro e w6 ⟨v, rfl, hv, hb⟩
  obtain ⟨s1, p1, n1, c1, rfl⟩ := hv.opened
  replace hv := hv.mono (show 1 ≤ 4 by decide)
  replace XR := bx XR hb
  replace B := bb B hb
  clear cc4a cc4b
  have HP := hid hv
  clear hb hv
  have hb7 := (Below.refl _ _).alloc (Nat.le_refl w6.heap.size) (.cells #[.bool s1, .slice p1 n1 c1] 81)
  have hx8 := Box.new w6 s1 p1 n1 c1
  have L0 := hid XR.out.lt
  replace XR := bx XR hb7
  replace HP := wl HP hb7
  replace B := bb B hb7
  have XP := hid hx8
  have hs9 : (w6.alloc (.cells #[.bool s1, .slice p1 n1 c1] 81)).heap.size = w6.heap.size + 1 := by simp
  clear hb7 hx8
  obtain ⟨cc10a, cc10b⟩ := XR.out.both
  obtain ⟨cc11a, cc11b⟩ := XP.out.both
  go_wp2_with fail
  generalize hW : w6.alloc (.cells #[.bool s1, .slice p1 n1 c1] 81) = W12 at *
  clear hW
  clear cc10a cc10b cc11a cc11b
  obtain ⟨G, hG⟩ : ∃ G, G = w6.heap.size := ⟨_, rfl⟩
  rw [← hG] at XP
  have LG := hid (show w.heap.size < G by have := L0.out; omega)
  rw [← hG]
  clear hG
  go_loopw [6] (fun i wr => ∃ (k : Nat) (sa : Bool) (pa : Option Addr) (na ca : Nat), k ≤ n ∧ i = .int .i64 k ∧ Hid (Box wr w.heap.size false (.slice none 0 0)) ∧ Hid (Box wr G sa (.slice pa na ca)) ∧ Hid (Whl wr (.agg #[.bool sa, .slice pa na ca]) (pten k : Int) 4) ∧ Hid (Below w.heap.size w wr)) (fun i _ => n - (intOf i).toNat)
  case atStart => exact ⟨0, _, _, _, _, Nat.zero_le _, rfl, XR, XP, HP, B⟩
  case round =>
    obtain ⟨k, sa, pa, na, ca, hk, rfl, XR, XP, HP, B⟩ := hrel
    by_cases hlt : k < n
    · obtain ⟨cc201a, cc201b⟩ := XR.out.both
      obtain ⟨cc202a, cc202b⟩ := XP.out.both
      go_wp2_with fail
      obtain ⟨cc203a, cc203b⟩ := XP.out.both
      replace XR := hid XR.out.dr
      replace XP := hid XP.out.dr
      replace HP := hid HP.out.drew
      replace B := hid (Below.drew B.out)
      obtain ⟨cc204a, cc204b⟩ := XP.out.both
      go_region_with (first
        | (have hm := mk205_0; clear hm; go_at_call 94; refine (mul_whl HP.out HT.out (by decide) (by decide)).mono ?_; rintro e w208 ⟨v, rfl, hv, hb⟩; rw [pten_int] at hv; replace hv := hv.fit 4 (pten_fit (by omega)); obtain ⟨s3, p3, n3, c3, rfl⟩ := hv.opened; replace XR := bx XR hb; replace XP := bx XP hb; replace HP := wl HP hb; replace HT := wl HT hb; replace B := bb B hb; clear cc207a cc207b; have HM := hid hv; clear hb hv; obtain ⟨cc209a, cc209b⟩ := XP.out.both; obtain ⟨cc210a, cc210b, cc210c, cc210d⟩ := XP.out.stores; obtain ⟨r211a, r211b, r211c⟩ := XP.out.last B.out (by have := LG.out; omega) s3 p3 n3 c3; replace XR := hid ((XR.out.other (g2 := G) (by have := LG.out; omega) 0 (.bool s3)).other (g2 := G) (by have := LG.out; omega) 1 (.slice p3 n3 c3)); replace HP := hid (r211c HP.out); replace HT := hid (r211c HT.out); replace HM := hid (r211c HM.out); replace XP := hid r211a; replace B := hid r211b; clear r211a r211b r211c; obtain ⟨cc212a, cc212b⟩ := XP.out.both; have mk205_1 := hid True.intro)
        | (go_at_call 101; refine (of_small 10 (by decide) _).mono ?_; rintro e w206 ⟨v, rfl, hv, hb⟩; obtain ⟨s2, p2, n2, c2, rfl⟩ := hv.opened; replace XR := bx XR hb; replace XP := bx XP hb; replace HP := wl HP hb; replace B := bb B hb; clear cc201a cc201b cc202a cc202b cc203a cc203b cc204a cc204b; have HT := hid hv; clear hb hv; obtain ⟨cc207a, cc207b⟩ := XP.out.both; have mk205_0 := hid True.intro))
      all_goals
        go_wp2_with fail
        go_roundw
        case rel => exact ⟨k + 1, _, _, _, _, by omega, by go_num, XR, XP, HM, B⟩
        case measure => simp [intOf]; omega
    · obtain rfl : k = n := by omega
      obtain ⟨cc301a, cc301b⟩ := XR.out.both
      obtain ⟨cc302a, cc302b⟩ := XP.out.both
      obtain ⟨cc303a, cc303b, cc303c, cc303d⟩ := XR.out.stores
      obtain ⟨r304a, r304b, r304c⟩ := XR.out.last B.out (by have := LG.out; omega) sa pa na ca
      replace XP := hid ((XP.out.other (g2 := w.heap.size) (by have := LG.out; omega) 0 (.bool sa)).other (g2 := w.heap.size) (by have := LG.out; omega) 1 (.slice pa na ca))
      replace HP := hid (r304c HP.out)
      replace XR := hid r304a
      replace B := hid r304b
      clear r304a r304b r304c
      go_wp2_with fail
      refine bodyPost_ret (res_one rfl rfl XR.out) rfl ?_
      exact ⟨_, rfl, HP.out, B.out⟩

end Go.Proofs.YtjeeepcnaaadmaaGreatDoor

/-
  PACKAGE dec: around.
-/
namespace Go.Proofs.YtjeeepcnaaadmaaGreatDoor
open Go.RowKit
open Num
set_option linter.unusedVariables false
set_option maxRecDepth 100000
set_option linter.unusedSimpArgs false

set_option maxHeartbeats 8000000 in
theorem around_even {w : World} {v : Value} {q : Rat} {n : Nat} (h : Rtl w v q 100) (hn : n ≤ 30) (he : resu q n = 0) :
    Calls Tryz.prog 83 #[v, .int .i64 (n : Int)] w fun e w' => ∃ v u, e = .returned (.tuple #[v, u]) ∧ Dcl w' v (lowu q n) n 106 ∧ Dcl w' u (highu q n) n 106 ∧ Below w.heap.size w w' := by
  obtain ⟨s1a, p1a, n1a, c1a, s1b, p1b, n1b, c1b, rfl⟩ := h.opened
  obtain ⟨ht1, d1, hu1, hd1⟩ := h.two
  have HD1 := hid hd1
  have HN := hid hn
  have HE := hid he
  have B := hid (Below.refl w.heap.size w)
  have HT1 := hid ht1
  have HU1 := hid hu1
  have hb1 := (Below.refl _ _).alloc (Nat.le_refl w.heap.size) (.cells #[.bool s1a, .slice p1a n1a c1a, .bool s1b, .slice p1b n1b c1b] 83)
  have hx2 := Nbx.new w s1a s1b (.slice p1a n1a c1a) (.slice p1b n1b c1b)
  replace HT1 := wl HT1 hb1
  replace HU1 := wl HU1 hb1
  replace B := bb B hb1
  have X1 := hid hx2
  have hs3 : (w.alloc (.cells #[.bool s1a, .slice p1a n1a c1a, .bool s1b, .slice p1b n1b c1b] 83)).heap.size = w.heap.size + 1 := by simp
  clear hb1 hx2
  have hb4 := (Below.refl _ _).alloc (Nat.le_refl (w.alloc (.cells #[.bool s1a, .slice p1a n1a c1a, .bool s1b, .slice p1b n1b c1b] 83)).heap.size) (.cells #[.bool false, .slice none 0 0, .int .i64 0] 119)
  have hx5 := Dbx.new (w.alloc (.cells #[.bool s1a, .slice p1a n1a c1a, .bool s1b, .slice p1b n1b c1b] 83)) false none 0 0 0
  rw [hs3] at hx5
  replace X1 := nx X1 hb4
  replace HT1 := wl HT1 hb4
  replace HU1 := wl HU1 hb4
  replace B := bb B hb4
  have R4 := hid hx5
  have hs6 : ((w.alloc (.cells #[.bool s1a, .slice p1a n1a c1a, .bool s1b, .slice p1b n1b c1b] 83)).alloc (.cells #[.bool false, .slice none 0 0, .int .i64 0] 119)).heap.size = w.heap.size + 1 + 1 := by simp [hs3]
  clear hb4 hx5
  have hb7 := (Below.refl _ _).alloc (Nat.le_refl ((w.alloc (.cells #[.bool s1a, .slice p1a n1a c1a, .bool s1b, .slice p1b n1b c1b] 83)).alloc (.cells #[.bool false, .slice none 0 0, .int .i64 0] 119)).heap.size) (.cells #[.bool false, .slice none 0 0, .int .i64 0] 119)
  have hx8 := Dbx.new ((w.alloc (.cells #[.bool s1a, .slice p1a n1a c1a, .bool s1b, .slice p1b n1b c1b] 83)).alloc (.cells #[.bool false, .slice none 0 0, .int .i64 0] 119)) false none 0 0 0
  rw [hs6] at hx8
  replace X1 := nx X1 hb7
  replace R4 := dx R4 hb7
  replace HT1 := wl HT1 hb7
  replace HU1 := wl HU1 hb7
  replace B := bb B hb7
  have R5 := hid hx8
  have hs9 : (((w.alloc (.cells #[.bool s1a, .slice p1a n1a c1a, .bool s1b, .slice p1b n1b c1b] 83)).alloc (.cells #[.bool false, .slice none 0 0, .int .i64 0] 119)).alloc (.cells #[.bool false, .slice none 0 0, .int .i64 0] 119)).heap.size = w.heap.size + 1 + 1 + 1 := by simp [hs6]
  clear hb7 hx8
  clear hs9 h ht1 hu1 hd1 hn he
  go_enter Tryz.func83, Tryz.ntmps83
  obtain ⟨cc10a, cc10b, cc10c, cc10d⟩ := X1.out.cells
  obtain ⟨cc11a, cc11b, cc11c⟩ := R4.out.cells
  obtain ⟨cc12a, cc12b, cc12c⟩ := R5.out.cells
  go_wp2_with fail
  generalize hW : ((w.alloc (.cells #[.bool s1a, .slice p1a n1a c1a, .bool s1b, .slice p1b n1b c1b] 83)).alloc (.cells #[.bool false, .slice none 0 0, .int .i64 0] 119)).alloc (.cells #[.bool false, .slice none 0 0, .int .i64 0] 119) = W13 at *
  clear hW
  refine (parts_rtl (Rtl.mk2 HT1.out HU1.out HD1.out) (by decide)).mono ?_
  rintro e w14 ⟨v, u, rfl, hv, hu, hb⟩
  obtain ⟨s3, p3, n3, c3, rfl⟩ := hv.opened
  obtain ⟨s4, p4, n4, c4, rfl⟩ := hu.opened
  replace R4 := dx R4 hb
  replace R5 := dx R5 hb
  replace B := bb B hb
  clear cc10a cc10b cc10c cc10d cc11a cc11b cc11c cc12a cc12b cc12c
  have HA := hid hv
  have HB := hid hu
  clear hb hv hu
  have hb15 := (Below.refl _ _).alloc (Nat.le_refl w14.heap.size) (.cells #[.bool s3, .slice p3 n3 c3] 81)
  have hx16 := Box.new w14 s3 p3 n3 c3
  have L0 := hid R5.out.lt
  replace R4 := dx R4 hb15
  replace R5 := dx R5 hb15
  replace HA := wl HA hb15
  replace HB := wl HB hb15
  replace B := bb B hb15
  have XA := hid hx16
  have hs17 : (w14.alloc (.cells #[.bool s3, .slice p3 n3 c3] 81)).heap.size = w14.heap.size + 1 := by simp
  clear hb15 hx16
  have hb18 := (Below.refl _ _).alloc (Nat.le_refl (w14.alloc (.cells #[.bool s3, .slice p3 n3 c3] 81)).heap.size) (.cells #[.bool s4, .slice p4 n4 c4] 81)
  have hx19 := Box.new (w14.alloc (.cells #[.bool s3, .slice p3 n3 c3] 81)) s4 p4 n4 c4
  rw [hs17] at hx19
  replace R4 := dx R4 hb18
  replace R5 := dx R5 hb18
  replace XA := bx XA hb18
  replace HA := wl HA hb18
  replace HB := wl HB hb18
  replace B := bb B hb18
  have XB := hid hx19
  have hs20 : ((w14.alloc (.cells #[.bool s3, .slice p3 n3 c3] 81)).alloc (.cells #[.bool s4, .slice p4 n4 c4] 81)).heap.size = w14.heap.size + 1 + 1 := by simp [hs17]
  clear hb18 hx19
  obtain ⟨cc21a, cc21b, cc21c⟩ := R4.out.cells
  obtain ⟨cc22a, cc22b, cc22c⟩ := R5.out.cells
  obtain ⟨cc23a, cc23b⟩ := XA.out.both
  obtain ⟨cc24a, cc24b⟩ := XB.out.both
  go_wp2_with fail
  generalize hW : (w14.alloc (.cells #[.bool s3, .slice p3 n3 c3] 81)).alloc (.cells #[.bool s4, .slice p4 n4 c4] 81) = W25 at *
  clear hW
  clear cc21a cc21b cc21c cc22a cc22b cc22c cc23a cc23b cc24a cc24b
  have LQ := hid R5.out.lt
  refine region_ops (by kernel_rfl) (by kernel_rfl) (fun a f a' w' => ∃ u8 u9 u10 u16 u17 u18 u19 u20 u21 u22 u23 u24 u25 v9 va : Value, a' = { tmps := (((((((((((((a.tmps.setIfInBounds 8 u8).setIfInBounds 9 u9).setIfInBounds 10 u10).setIfInBounds 16 u16).setIfInBounds 17 u17).setIfInBounds 18 u18).setIfInBounds 19 u19).setIfInBounds 20 u20).setIfInBounds 21 u21).setIfInBounds 22 u22).setIfInBounds 23 u23).setIfInBounds 24 u24).setIfInBounds 25 u25), defers := a.defers } ∧ Hid (Below W25.heap.size W25 w') ∧ Hid (f 0 = true → u17 = (.agg #[.bool s3, .slice p3 n3 c3])) ∧ Hid (f 1 = true → u18 = .int .i64 (n : Int)) ∧ Hid (f 2 = true → Whl w' u19 (pten n : Int) 4) ∧ Hid (f 3 = true → Whl w' u20 (q.num * (pten n : Int)) 104) ∧ Hid (f 4 = true → u21 = (.agg #[.bool s4, .slice p4 n4 c4])) ∧ Hid (f 5 = true → (u22 = .tuple #[v9, va, .nilIface] ∧ Whl w' v9 (lowu q n) 105 ∧ Whl w' va (resu q n) 100)) ∧ Hid (f 6 = true → u16 = .tuple #[v9, va, .nilIface]) ∧ Hid (f 7 = true → u23 = v9) ∧ Hid (f 8 = true → u24 = va) ∧ Hid (f 9 = true → u25 = .nilIface) ∧ Hid (f 10 = true → NewI W25 w' u8 (f 12) v9) ∧ Hid (f 11 = true → NewI W25 w' u9 (f 13) va) ∧ Hid (f 14 = true → u10 = .nilIface) ∧ (f 6 = true → f 5 = true) ∧ (f 7 = true → f 6 = true) ∧ (f 8 = true → f 6 = true) ∧ (f 9 = true → f 6 = true) ∧ (f 12 = true → f 10 = true) ∧ (f 12 = true → f 7 = true) ∧ (f 13 = true → f 11 = true) ∧ (f 13 = true → f 8 = true) ∧ (f 10 = true → f 11 = true → u8 ≠ u9)) ?h0 ⟨?s0, ?s1, ?s2, ?s3, ?s4, ?s5, ?s6, ?s7, ?s8, ?s9, ?s10, ?s11, ?s12, ?s13, ?s14, trivial⟩ ?hend
  case h0 =>
    simp only [List.setIfInBounds_toArray, List.set_cons_zero, List.set_cons_succ]
    exact ⟨_, _, _, _, _, _, _, _, _, _, _, _, _, .nilIface, .nilIface, rfl, hid (Below.drew (Below.refl _ _)), hid (fun h => by cases h), hid (fun h => by cases h), hid (fun h => by cases h), hid (fun h => by cases h), hid (fun h => by cases h), hid (fun h => by cases h), hid (fun h => by cases h), hid (fun h => by cases h), hid (fun h => by cases h), hid (fun h => by cases h), hid (fun h => by cases h), hid (fun h => by cases h), hid (fun h => by cases h), fun h => h, fun h => h, fun h => h, fun h => h, fun h => h, fun h => h, fun h => h, fun h => h, fun h => by cases h⟩
  case s0 =>
    rintro f a1 w1 ⟨u8, u9, u10, u16, u17, u18, u19, u20, u21, u22, u23, u24, u25, v9, va, rfl, HBW, h0, h1, h2, h3, h4, h5, h6, h7, h8, h9, h10, h11, h14, o6_5, o7_6, o8_6, o9_6, o12_10, o12_7, o13_11, o13_8, hne⟩ hf hd K hK
    simp only [List.setIfInBounds_toArray, List.set_cons_zero, List.set_cons_succ] at hK ⊢
    replace hK := hid hK
    obtain ⟨y1, y2⟩ := (XA.out.below HBW.out XA.out.lt).both
    go_simp
    exact hK.out _ _ ⟨_, _, _, _, _, _, _, _, _, _, _, _, _, v9, va, rfl, HBW, hid (fun h => rfl), hid (fun h => h1.out h), hid (fun h => h2.out h), hid (fun h => h3.out h), hid (fun h => h4.out h), hid (fun h => h5.out h), hid (fun h => h6.out h), hid (fun h => h7.out h), hid (fun h => h8.out h), hid (fun h => h9.out h), hid (fun h => h10.out h), hid (fun h => h11.out h), hid (fun h => h14.out h), fun h => o6_5 h, fun h => o7_6 h, fun h => o8_6 h, fun h => o9_6 h, fun h => o12_10 h, fun h => o12_7 h, fun h => o13_11 h, fun h => o13_8 h, fun h => hne h⟩
  case s1 =>
    rintro f a1 w1 ⟨u8, u9, u10, u16, u17, u18, u19, u20, u21, u22, u23, u24, u25, v9, va, rfl, HBW, h0, h1, h2, h3, h4, h5, h6, h7, h8, h9, h10, h11, h14, o6_5, o7_6, o8_6, o9_6, o12_10, o12_7, o13_11, o13_8, hne⟩ hf hd K hK
    simp only [List.setIfInBounds_toArray, List.set_cons_zero, List.set_cons_succ] at hK ⊢
    replace hK := hid hK
    go_simp
    exact hK.out _ _ ⟨_, _, _, _, _, _, _, _, _, _, _, _, _, v9, va, rfl, HBW, hid (fun h => h0.out h), hid (fun h => rfl), hid (fun h => h2.out h), hid (fun h => h3.out h), hid (fun h => h4.out h), hid (fun h => h5.out h), hid (fun h => h6.out h), hid (fun h => h7.out h), hid (fun h => h8.out h), hid (fun h => h9.out h), hid (fun h => h10.out h), hid (fun h => h11.out h), hid (fun h => h14.out h), fun h => o6_5 h, fun h => o7_6 h, fun h => o8_6 h, fun h => o9_6 h, fun h => o12_10 h, fun h => o12_7 h, fun h => o13_11 h, fun h => o13_8 h, fun h => hne h⟩
  case s2 =>
    rintro f a1 w1 ⟨u8, u9, u10, u16, u17, u18, u19, u20, u21, u22, u23, u24, u25, v9, va, rfl, HBW, h0, h1, h2, h3, h4, h5, h6, h7, h8, h9, h10, h11, h14, o6_5, o7_6, o8_6, o9_6, o12_10, o12_7, o13_11, o13_8, hne⟩ hf hd K hK
    simp only [List.setIfInBounds_toArray, List.set_cons_zero, List.set_cons_succ] at hK ⊢
    replace hK := hid hK
    simp [Region.binds] at hd
    obtain rfl := h1.out (by simp only [hd])
    go_simp
    refine (pot_whl n HN.out _).mono ?_
    rintro e w2 ⟨v, rfl, hv, hb⟩
    go_wp2_with fail
    exact hK.out _ _ ⟨_, _, _, _, _, _, _, _, _, _, _, _, _, v9, va, rfl, hid (below_next HBW.out hb), hid (fun h => h0.out h), hid (fun h => rfl), hid (fun h => hv), hid (fun h => (h3.out h).on hb), hid (fun h => h4.out h), hid (fun h => ⟨(h5.out h).1, (h5.out h).2.1.on hb, (h5.out h).2.2.on hb⟩), hid (fun h => h6.out h), hid (fun h => h7.out h), hid (fun h => h8.out h), hid (fun h => h9.out h), hid (fun h => (h10.out h).on hb), hid (fun h => (h11.out h).on hb), hid (fun h => h14.out h), fun h => o6_5 h, fun h => o7_6 h, fun h => o8_6 h, fun h => o9_6 h, fun h => o12_10 h, fun h => o12_7 h, fun h => o13_11 h, fun h => o13_8 h, fun h => hne h⟩
  case s3 =>
    rintro f a1 w1 ⟨u8, u9, u10, u16, u17, u18, u19, u20, u21, u22, u23, u24, u25, v9, va, rfl, HBW, h0, h1, h2, h3, h4, h5, h6, h7, h8, h9, h10, h11, h14, o6_5, o7_6, o8_6, o9_6, o12_10, o12_7, o13_11, o13_8, hne⟩ hf hd K hK
    simp only [List.setIfInBounds_toArray, List.set_cons_zero, List.set_cons_succ] at hK ⊢
    replace hK := hid hK
    simp [Region.binds] at hd
    obtain rfl := h0.out (by simp only [hd])
    go_simp
    refine (mul_whl (HA.out.below HBW.out (Nat.le_refl _)) (h2.out (by simp only [hd])) (by decide) (by decide)).mono ?_
    rintro e w2 ⟨v, rfl, hv, hb⟩
    go_wp2_with fail
    exact hK.out _ _ ⟨_, _, _, _, _, _, _, _, _, _, _, _, _, v9, va, rfl, hid (below_next HBW.out hb), hid (fun h => rfl), hid (fun h => h1.out h), hid (fun h => (h2.out h).on hb), hid (fun h => hv), hid (fun h => h4.out h), hid (fun h => ⟨(h5.out h).1, (h5.out h).2.1.on hb, (h5.out h).2.2.on hb⟩), hid (fun h => h6.out h), hid (fun h => h7.out h), hid (fun h => h8.out h), hid (fun h => h9.out h), hid (fun h => (h10.out h).on hb), hid (fun h => (h11.out h).on hb), hid (fun h => h14.out h), fun h => o6_5 h, fun h => o7_6 h, fun h => o8_6 h, fun h => o9_6 h, fun h => o12_10 h, fun h => o12_7 h, fun h => o13_11 h, fun h => o13_8 h, fun h => hne h⟩
  case s4 =>
    rintro f a1 w1 ⟨u8, u9, u10, u16, u17, u18, u19, u20, u21, u22, u23, u24, u25, v9, va, rfl, HBW, h0, h1, h2, h3, h4, h5, h6, h7, h8, h9, h10, h11, h14, o6_5, o7_6, o8_6, o9_6, o12_10, o12_7, o13_11, o13_8, hne⟩ hf hd K hK
    simp only [List.setIfInBounds_toArray, List.set_cons_zero, List.set_cons_succ] at hK ⊢
    replace hK := hid hK
    obtain ⟨y1, y2⟩ := (XB.out.below HBW.out XB.out.lt).both
    go_simp
    exact hK.out _ _ ⟨_, _, _, _, _, _, _, _, _, _, _, _, _, v9, va, rfl, HBW, hid (fun h => h0.out h), hid (fun h => h1.out h), hid (fun h => h2.out h), hid (fun h => h3.out h), hid (fun h => rfl), hid (fun h => h5.out h), hid (fun h => h6.out h), hid (fun h => h7.out h), hid (fun h => h8.out h), hid (fun h => h9.out h), hid (fun h => h10.out h), hid (fun h => h11.out h), hid (fun h => h14.out h), fun h => o6_5 h, fun h => o7_6 h, fun h => o8_6 h, fun h => o9_6 h, fun h => o12_10 h, fun h => o12_7 h, fun h => o13_11 h, fun h => o13_8 h, fun h => hne h⟩
  case s5 =>
    rintro f a1 w1 ⟨u8, u9, u10, u16, u17, u18, u19, u20, u21, u22, u23, u24, u25, v9, va, rfl, HBW, h0, h1, h2, h3, h4, h5, h6, h7, h8, h9, h10, h11, h14, o6_5, o7_6, o8_6, o9_6, o12_10, o12_7, o13_11, o13_8, hne⟩ hf hd K hK
    simp only [List.setIfInBounds_toArray, List.set_cons_zero, List.set_cons_succ] at hK ⊢
    replace hK := hid hK
    simp [Region.binds] at hd
    obtain rfl := h4.out (by simp only [hd])
    go_simp
    refine (div_whl (h3.out (by simp only [hd])) (HB.out.below HBW.out (Nat.le_refl _)) (den_ne q) (by decide) (by decide)).mono ?_
    rintro e w2 ⟨v, u, rfl, hv, hu, hb⟩
    go_wp2_with fail
    exact hK.out _ _ ⟨_, _, _, _, _, _, _, _, _, _, _, _, _, v, u, rfl, hid (below_next HBW.out hb), hid (fun h => h0.out h), hid (fun h => h1.out h), hid (fun h => (h2.out h).on hb), hid (fun h => (h3.out h).on hb), hid (fun h => rfl), hid (fun h => ⟨rfl, hv, hu⟩), hid (fun h => absurd (o6_5 h) (by rw [hf]; decide)), hid (fun h => absurd (o6_5 (o7_6 h)) (by rw [hf]; decide)), hid (fun h => absurd (o6_5 (o8_6 h)) (by rw [hf]; decide)), hid (fun h => h9.out h), hid (fun h => ((h10.out h).on hb).free (by cases e : f 12 with | false => rfl | true => exact absurd (o6_5 (o7_6 (o12_7 e))) (by rw [hf]; decide))), hid (fun h => ((h11.out h).on hb).free (by cases e : f 13 with | false => rfl | true => exact absurd (o6_5 (o8_6 (o13_8 e))) (by rw [hf]; decide))), hid (fun h => h14.out h), fun _ => rfl, fun h => o7_6 h, fun h => o8_6 h, fun h => o9_6 h, fun h => o12_10 h, fun h => o12_7 h, fun h => o13_11 h, fun h => o13_8 h, fun h => hne h⟩
  case s6 =>
    rintro f a1 w1 ⟨u8, u9, u10, u16, u17, u18, u19, u20, u21, u22, u23, u24, u25, v9, va, rfl, HBW, h0, h1, h2, h3, h4, h5, h6, h7, h8, h9, h10, h11, h14, o6_5, o7_6, o8_6, o9_6, o12_10, o12_7, o13_11, o13_8, hne⟩ hf hd K hK
    simp only [List.setIfInBounds_toArray, List.set_cons_zero, List.set_cons_succ] at hK ⊢
    replace hK := hid hK
    simp [Region.binds] at hd
    have g5 : f 5 = true := by simp only [hd]
    obtain ⟨rfl, e2⟩ := h5.out g5
    go_simp
    exact hK.out _ _ ⟨_, _, _, _, _, _, _, _, _, _, _, _, _, v9, va, rfl, HBW, hid (fun h => h0.out h), hid (fun h => h1.out h), hid (fun h => h2.out h), hid (fun h => h3.out h), hid (fun h => h4.out h), hid (fun h => ⟨rfl, e2⟩), hid (fun h => rfl), hid (fun h => h7.out h), hid (fun h => h8.out h), hid (fun h => h9.out h), hid (fun h => h10.out h), hid (fun h => h11.out h), hid (fun h => h14.out h), fun _ => g5, fun _ => rfl, fun _ => rfl, fun _ => rfl, fun h => o12_10 h, fun h => o12_7 h, fun h => o13_11 h, fun h => o13_8 h, fun h => hne h⟩
  case s7 =>
    rintro f a1 w1 ⟨u8, u9, u10, u16, u17, u18, u19, u20, u21, u22, u23, u24, u25, v9, va, rfl, HBW, h0, h1, h2, h3, h4, h5, h6, h7, h8, h9, h10, h11, h14, o6_5, o7_6, o8_6, o9_6, o12_10, o12_7, o13_11, o13_8, hne⟩ hf hd K hK
    simp only [List.setIfInBounds_toArray, List.set_cons_zero, List.set_cons_succ] at hK ⊢
    replace hK := hid hK
    simp [Region.binds] at hd
    have g6 : f 6 = true := by simp only [hd]
    have e1 := h6.out g6
    subst e1
    go_simp
    exact hK.out _ _ ⟨_, _, _, _, _, _, _, _, _, _, _, _, _, v9, va, rfl, HBW, hid (fun h => h0.out h), hid (fun h => h1.out h), hid (fun h => h2.out h), hid (fun h => h3.out h), hid (fun h => h4.out h), hid (fun h => h5.out h), hid (fun h => h6.out h), hid (fun h => rfl), hid (fun h => h8.out h), hid (fun h => h9.out h), hid (fun h => h10.out h), hid (fun h => h11.out h), hid (fun h => h14.out h), fun h => o6_5 h, fun _ => g6, fun h => o8_6 h, fun h => o9_6 h, fun h => o12_10 h, fun _ => rfl, fun h => o13_11 h, fun h => o13_8 h, fun h => hne h⟩
  case s8 =>
    rintro f a1 w1 ⟨u8, u9, u10, u16, u17, u18, u19, u20, u21, u22, u23, u24, u25, v9, va, rfl, HBW, h0, h1, h2, h3, h4, h5, h6, h7, h8, h9, h10, h11, h14, o6_5, o7_6, o8_6, o9_6, o12_10, o12_7, o13_11, o13_8, hne⟩ hf hd K hK
    simp only [List.setIfInBounds_toArray, List.set_cons_zero, List.set_cons_succ] at hK ⊢
    replace hK := hid hK
    simp [Region.binds] at hd
    have g6 : f 6 = true := by simp only [hd]
    have e1 := h6.out g6
    subst e1
    go_simp
    exact hK.out _ _ ⟨_, _, _, _, _, _, _, _, _, _, _, _, _, v9, va, rfl, HBW, hid (fun h => h0.out h), hid (fun h => h1.out h), hid (fun h => h2.out h), hid (fun h => h3.out h), hid (fun h => h4.out h), hid (fun h => h5.out h), hid (fun h => h6.out h), hid (fun h => h7.out h), hid (fun h => rfl), hid (fun h => h9.out h), hid (fun h => h10.out h), hid (fun h => h11.out h), hid (fun h => h14.out h), fun h => o6_5 h, fun h => o7_6 h, fun _ => g6, fun h => o9_6 h, fun h => o12_10 h, fun h => o12_7 h, fun h => o13_11 h, fun _ => rfl, fun h => hne h⟩
  case s9 =>
    rintro f a1 w1 ⟨u8, u9, u10, u16, u17, u18, u19, u20, u21, u22, u23, u24, u25, v9, va, rfl, HBW, h0, h1, h2, h3, h4, h5, h6, h7, h8, h9, h10, h11, h14, o6_5, o7_6, o8_6, o9_6, o12_10, o12_7, o13_11, o13_8, hne⟩ hf hd K hK
    simp only [List.setIfInBounds_toArray, List.set_cons_zero, List.set_cons_succ] at hK ⊢
    replace hK := hid hK
    simp [Region.binds] at hd
    have g6 : f 6 = true := by simp only [hd]
    have e1 := h6.out g6
    subst e1
    go_simp
    exact hK.out _ _ ⟨_, _, _, _, _, _, _, _, _, _, _, _, _, v9, va, rfl, HBW, hid (fun h => h0.out h), hid (fun h => h1.out h), hid (fun h => h2.out h), hid (fun h => h3.out h), hid (fun h => h4.out h), hid (fun h => h5.out h), hid (fun h => h6.out h), hid (fun h => h7.out h), hid (fun h => h8.out h), hid (fun h => rfl), hid (fun h => h10.out h), hid (fun h => h11.out h), hid (fun h => h14.out h), fun h => o6_5 h, fun h => o7_6 h, fun h => o8_6 h, fun _ => g6, fun h => o12_10 h, fun h => o12_7 h, fun h => o13_11 h, fun h => o13_8 h, fun h => hne h⟩
  case s10 =>
    rintro f a1 w1 ⟨u8, u9, u10, u16, u17, u18, u19, u20, u21, u22, u23, u24, u25, v9, va, rfl, HBW, h0, h1, h2, h3, h4, h5, h6, h7, h8, h9, h10, h11, h14, o6_5, o7_6, o8_6, o9_6, o12_10, o12_7, o13_11, o13_8, hne⟩ hf hd K hK
    simp only [List.setIfInBounds_toArray, List.set_cons_zero, List.set_cons_succ] at hK ⊢
    replace hK := hid hK
    go_simp
    exact hK.out _ _ ⟨_, _, _, _, _, _, _, _, _, _, _, _, _, v9, va, rfl, hid (below_next HBW.out ((Below.refl _ _).alloc (Nat.le_refl _) _)), hid (fun h => h0.out h), hid (fun h => h1.out h), hid (fun h => (h2.out h).on ((Below.refl _ _).alloc (Nat.le_refl _) _)), hid (fun h => (h3.out h).on ((Below.refl _ _).alloc (Nat.le_refl _) _)), hid (fun h => h4.out h), hid (fun h => ⟨(h5.out h).1, (h5.out h).2.1.on ((Below.refl _ _).alloc (Nat.le_refl _) _), (h5.out h).2.2.on ((Below.refl _ _).alloc (Nat.le_refl _) _)⟩), hid (fun h => h6.out h), hid (fun h => h7.out h), hid (fun h => h8.out h), hid (fun h => h9.out h), hid (fun h => ⟨w1.heap.size, rfl, HBW.out.size, fun _ => Box.new w1 false none 0 0, fun e => absurd (o12_10 e) (by rw [hf]; decide)⟩), hid (fun h => (h11.out h).on ((Below.refl _ _).alloc (Nat.le_refl _) _)), hid (fun h => h14.out h), fun h => o6_5 h, fun h => o7_6 h, fun h => o8_6 h, fun h => o9_6 h, fun _ => rfl, fun h => o12_7 h, fun h => o13_11 h, fun h => o13_8 h, fun _ a e => by obtain ⟨g, e2, hlt⟩ := (h11.out a).lt; rw [e2] at e; cases e; exact absurd hlt (Nat.lt_irrefl _)⟩
  case s11 =>
    rintro f a1 w1 ⟨u8, u9, u10, u16, u17, u18, u19, u20, u21, u22, u23, u24, u25, v9, va, rfl, HBW, h0, h1, h2, h3, h4, h5, h6, h7, h8, h9, h10, h11, h14, o6_5, o7_6, o8_6, o9_6, o12_10, o12_7, o13_11, o13_8, hne⟩ hf hd K hK
    simp only [List.setIfInBounds_toArray, List.set_cons_zero, List.set_cons_succ] at hK ⊢
    replace hK := hid hK
    go_simp
    exact hK.out _ _ ⟨_, _, _, _, _, _, _, _, _, _, _, _, _, v9, va, rfl, hid (below_next HBW.out ((Below.refl _ _).alloc (Nat.le_refl _) _)), hid (fun h => h0.out h), hid (fun h => h1.out h), hid (fun h => (h2.out h).on ((Below.refl _ _).alloc (Nat.le_refl _) _)), hid (fun h => (h3.out h).on ((Below.refl _ _).alloc (Nat.le_refl _) _)), hid (fun h => h4.out h), hid (fun h => ⟨(h5.out h).1, (h5.out h).2.1.on ((Below.refl _ _).alloc (Nat.le_refl _) _), (h5.out h).2.2.on ((Below.refl _ _).alloc (Nat.le_refl _) _)⟩), hid (fun h => h6.out h), hid (fun h => h7.out h), hid (fun h => h8.out h), hid (fun h => h9.out h), hid (fun h => (h10.out h).on ((Below.refl _ _).alloc (Nat.le_refl _) _)), hid (fun h => ⟨w1.heap.size, rfl, HBW.out.size, fun _ => Box.new w1 false none 0 0, fun e => absurd (o13_11 e) (by rw [hf]; decide)⟩), hid (fun h => h14.out h), fun h => o6_5 h, fun h => o7_6 h, fun h => o8_6 h, fun h => o9_6 h, fun h => o12_10 h, fun h => o12_7 h, fun _ => rfl, fun h => o13_8 h, fun a _ e => by obtain ⟨g, e2, hlt⟩ := (h10.out a).lt; rw [e2] at e; cases e; exact absurd hlt (Nat.lt_irrefl _)⟩
  case s12 =>
    rintro f a1 w1 ⟨u8, u9, u10, u16, u17, u18, u19, u20, u21, u22, u23, u24, u25, v9, va, rfl, HBW, h0, h1, h2, h3, h4, h5, h6, h7, h8, h9, h10, h11, h14, o6_5, o7_6, o8_6, o9_6, o12_10, o12_7, o13_11, o13_8, hne⟩ hf hd K hK
    simp only [List.setIfInBounds_toArray, List.set_cons_zero, List.set_cons_succ] at hK ⊢
    replace hK := hid hK
    simp [Region.binds] at hd
    have gx : f 7 = true := by simp only [hd]
    have ga : f 10 = true := by simp only [hd]
    have gb : f 11 = true := by simp only [hd]
    have g3 : f 5 = true := o6_5 (o7_6 gx)
    have hne := hne (by simp only [hd]) (by simp only [hd])
    have e8 := h7.out gx
    subst e8
    obtain ⟨g, rfl, hg, hn, _⟩ := h10.out ga
    replace hn := hn hf
    have hv9 := (h5.out g3).2.1
    obtain ⟨s9, p9, n9, c9, rfl⟩ := hv9.opened
    obtain ⟨c1, c2, c3, c4⟩ := hn.stores
    obtain ⟨n1, n2, n3⟩ := hn.last HBW.out hg s9 p9 n9 c9
    have HN2 := hid (And.intro n1 n2)
    have HV := hid (fun v z k h => @n3 v z k h)
    have HO := hid ((h11.out gb).set (Ne.symm hne) (.bool s9) (.slice p9 n9 c9))
    clear n1 n2 n3
    go_simp
    exact hK.out _ _ ⟨_, _, _, _, _, _, _, _, _, _, _, _, _, _, va, rfl, hid HN2.out.2, hid (fun h => h0.out h), hid (fun h => h1.out h), hid (fun h => HV.out _ _ _ (h2.out h)), hid (fun h => HV.out _ _ _ (h3.out h)), hid (fun h => h4.out h), hid (fun h => ⟨(h5.out h).1, HV.out _ _ _ (h5.out h).2.1, HV.out _ _ _ (h5.out h).2.2⟩), hid (fun h => h6.out h), hid (fun h => h7.out h), hid (fun h => h8.out h), hid (fun h => h9.out h), hid (fun h => ⟨g, rfl, hg, fun e => by simp [more] at e, fun _ => ⟨_, _, _, _, rfl, HN2.out.1⟩⟩), hid (fun h => HO.out), hid (fun h => h14.out h), fun h => o6_5 h, fun h => o7_6 h, fun h => o8_6 h, fun h => o9_6 h, fun _ => ga, fun _ => gx, fun h => o13_11 h, fun h => o13_8 h, fun _ _ => hne⟩
  case s13 =>
    rintro f a1 w1 ⟨u8, u9, u10, u16, u17, u18, u19, u20, u21, u22, u23, u24, u25, v9, va, rfl, HBW, h0, h1, h2, h3, h4, h5, h6, h7, h8, h9, h10, h11, h14, o6_5, o7_6, o8_6, o9_6, o12_10, o12_7, o13_11, o13_8, hne⟩ hf hd K hK
    simp only [List.setIfInBounds_toArray, List.set_cons_zero, List.set_cons_succ] at hK ⊢
    replace hK := hid hK
    simp [Region.binds] at hd
    have gx : f 8 = true := by simp only [hd]
    have ga : f 11 = true := by simp only [hd]
    have gb : f 10 = true := by simp only [hd]
    have g3 : f 5 = true := o6_5 (o8_6 gx)
    have hne := hne (by simp only [hd]) (by simp only [hd])
    have e8 := h8.out gx
    subst e8
    obtain ⟨g, rfl, hg, hn, _⟩ := h11.out ga
    replace hn := hn hf
    have hv9 := (h5.out g3).2.2
    obtain ⟨s9, p9, n9, c9, rfl⟩ := hv9.opened
    obtain ⟨c1, c2, c3, c4⟩ := hn.stores
    obtain ⟨n1, n2, n3⟩ := hn.last HBW.out hg s9 p9 n9 c9
    have HN2 := hid (And.intro n1 n2)
    have HV := hid (fun v z k h => @n3 v z k h)
    have HO := hid ((h10.out gb).set hne (.bool s9) (.slice p9 n9 c9))
    clear n1 n2 n3
    go_simp
    exact hK.out _ _ ⟨_, _, _, _, _, _, _, _, _, _, _, _, _, v9, _, rfl, hid HN2.out.2, hid (fun h => h0.out h), hid (fun h => h1.out h), hid (fun h => HV.out _ _ _ (h2.out h)), hid (fun h => HV.out _ _ _ (h3.out h)), hid (fun h => h4.out h), hid (fun h => ⟨(h5.out h).1, HV.out _ _ _ (h5.out h).2.1, HV.out _ _ _ (h5.out h).2.2⟩), hid (fun h => h6.out h), hid (fun h => h7.out h), hid (fun h => h8.out h), hid (fun h => h9.out h), hid (fun h => HO.out), hid (fun h => ⟨g, rfl, hg, fun e => by simp [more] at e, fun _ => ⟨_, _, _, _, rfl, HN2.out.1⟩⟩), hid (fun h => h14.out h), fun h => o6_5 h, fun h => o7_6 h, fun h => o8_6 h, fun h => o9_6 h, fun h => o12_10 h, fun h => o12_7 h, fun _ => ga, fun _ => gx, fun _ _ => hne⟩
  case s14 =>
    rintro f a1 w1 ⟨u8, u9, u10, u16, u17, u18, u19, u20, u21, u22, u23, u24, u25, v9, va, rfl, HBW, h0, h1, h2, h3, h4, h5, h6, h7, h8, h9, h10, h11, h14, o6_5, o7_6, o8_6, o9_6, o12_10, o12_7, o13_11, o13_8, hne⟩ hf hd K hK
    simp only [List.setIfInBounds_toArray, List.set_cons_zero, List.set_cons_succ] at hK ⊢
    replace hK := hid hK
    simp [Region.binds] at hd
    obtain rfl := h9.out (by simp only [hd])
    go_simp
    exact hK.out _ _ ⟨_, _, _, _, _, _, _, _, _, _, _, _, _, v9, va, rfl, HBW, hid (fun h => h0.out h), hid (fun h => h1.out h), hid (fun h => h2.out h), hid (fun h => h3.out h), hid (fun h => h4.out h), hid (fun h => h5.out h), hid (fun h => h6.out h), hid (fun h => h7.out h), hid (fun h => h8.out h), hid (fun h => rfl), hid (fun h => h10.out h), hid (fun h => h11.out h), hid (fun h => rfl), fun h => o6_5 h, fun h => o7_6 h, fun h => o8_6 h, fun h => o9_6 h, fun h => o12_10 h, fun h => o12_7 h, fun h => o13_11 h, fun h => o13_8 h, fun h => hne h⟩
  case hend =>
    rintro f a1 w1 ⟨u8, u9, u10, u16, u17, u18, u19, u20, u21, u22, u23, u24, u25, v9, va, rfl, HBW, h0, h1, h2, h3, h4, h5, h6, h7, h8, h9, h10, h11, h14, o6_5, o7_6, o8_6, o9_6, o12_10, o12_7, o13_11, o13_8, hne⟩ hall
    simp only [List.setIfInBounds_toArray, List.set_cons_zero, List.set_cons_succ]
    have hne := hne (hall 10 (by decide)) (hall 11 (by decide))
    have hv9 := (h5.out (hall 5 (by decide))).2.1
    have hva := (h5.out (hall 5 (by decide))).2.2
    obtain ⟨g8, rfl, hg8, _, hn8⟩ := h10.out (hall 10 (by decide))
    obtain ⟨g9, rfl, hg9, _, hn9⟩ := h11.out (hall 11 (by decide))
    obtain ⟨s8, p8, n8, c8, rfl, hm8⟩ := hn8 (hall 12 (by decide))
    obtain ⟨s9, p9, n9, c9, rfl, hm9⟩ := hn9 (hall 13 (by decide))
    replace R4 := dx R4 HBW.out
    replace R5 := dx R5 HBW.out
    replace B := bb B HBW.out
    have XU := hid hm8
    have XV := hid hm9
    have HV8 := hid hv9
    rw [HE.out] at hva
    have HV9 := hid hva
    have L8 := hid hg8
    have L9 := hid hg9
    have LR := hid (show w.heap.size + 1 + 1 < W25.heap.size from LQ.out)
    clear h0 h1 h2 h3 h4 h5 h6 h7 h8 h9 h10 h11 h14 o6_5 o7_6 o8_6 o9_6 o12_10 o12_7 o13_11 o13_8 hall hn8 hn9 hm8 hm9 hg8 hg9 hv9 hva HBW hne
    obtain ⟨cc901a, cc901b⟩ := XU.out.both
    obtain ⟨cc902a, cc902b⟩ := XV.out.both
    obtain ⟨cc903a, cc903b, cc903c⟩ := R4.out.cells
    obtain ⟨cc904a, cc904b, cc904c⟩ := R5.out.cells
    obtain ⟨⟨cc905a, cc905b⟩, ⟨cc905c, cc905d⟩, cc905e, cc905f⟩ := R4.out.stores
    obtain ⟨r906a, r906b, r906c⟩ := R4.out.last B.out (by have := L8.out; have := L9.out; have := LR.out; omega) s8 p8 n8 c8 (n : Int)
    replace XU := hid (((XU.out.other (g2 := w.heap.size + 1) (by have := L8.out; have := L9.out; have := LR.out; omega) 0 (.bool s8)).other (g2 := w.heap.size + 1) (by have := L8.out; have := L9.out; have := LR.out; omega) 1 (.slice p8 n8 c8)).other (g2 := w.heap.size + 1) (by have := L8.out; have := L9.out; have := LR.out; omega) 2 (.int .i64 (n : Int)))
    replace XV := hid (((XV.out.other (g2 := w.heap.size + 1) (by have := L8.out; have := L9.out; have := LR.out; omega) 0 (.bool s8)).other (g2 := w.heap.size + 1) (by have := L8.out; have := L9.out; have := LR.out; omega) 1 (.slice p8 n8 c8)).other (g2 := w.heap.size + 1) (by have := L8.out; have := L9.out; have := LR.out; omega) 2 (.int .i64 (n : Int)))
    replace R5 := hid (((R5.out.other (g2 := w.heap.size + 1) (by have := L8.out; have := L9.out; have := LR.out; omega) 0 (.bool s8)).other (g2 := w.heap.size + 1) (by have := L8.out; have := L9.out; have := LR.out; omega) 1 (.slice p8 n8 c8)).other (g2 := w.heap.size + 1) (by have := L8.out; have := L9.out; have := LR.out; omega) 2 (.int .i64 (n : Int)))
    replace HV8 := hid (r906c HV8.out)
    replace HV9 := hid (r906c HV9.out)
    replace R4 := hid r906a
    replace B := hid r906b
    clear r906a r906b r906c
    obtain ⟨cc907a, cc907b⟩ := XU.out.both
    obtain ⟨cc908a, cc908b⟩ := XV.out.both
    obtain ⟨cc909a, cc909b, cc909c⟩ := R4.out.cells
    obtain ⟨cc910a, cc910b, cc910c⟩ := R5.out.cells
    go_wp2_with fail
    have HS := sgn_whl HV9.out
    rw [show (0 : Int).sign = 0 from rfl] at HS
    refine (HS).mono ?_
    rintro e w911 ⟨rfl, hb⟩
    replace XU := bx XU hb
    replace XV := bx XV hb
    replace R4 := dx R4 hb
    replace R5 := dx R5 hb
    replace HV8 := wl HV8 hb
    replace HV9 := wl HV9 hb
    replace B := bb B hb
    clear cc901a cc901b cc902a cc902b cc903a cc903b cc903c cc904a cc904b cc904c cc905a cc905b cc905c cc905d cc905e cc905f cc907a cc907b cc908a cc908b cc909a cc909b cc909c cc910a cc910b cc910c
    clear hb 
    clear HS
    obtain ⟨cc912a, cc912b⟩ := XU.out.both
    obtain ⟨cc913a, cc913b⟩ := XV.out.both
    obtain ⟨cc914a, cc914b, cc914c⟩ := R4.out.cells
    obtain ⟨cc915a, cc915b, cc915c⟩ := R5.out.cells
    obtain ⟨⟨cc916a, cc916b⟩, ⟨cc916c, cc916d⟩, cc916e, cc916f⟩ := R4.out.stores
    obtain ⟨r917a, r917b, r917c⟩ := R4.out.last B.out (by have := L8.out; have := L9.out; have := LR.out; omega) s8 p8 n8 c8 (n : Int)
    replace XU := hid (((XU.out.other (g2 := w.heap.size + 1) (by have := L8.out; have := L9.out; have := LR.out; omega) 0 (.bool s8)).other (g2 := w.heap.size + 1) (by have := L8.out; have := L9.out; have := LR.out; omega) 1 (.slice p8 n8 c8)).other (g2 := w.heap.size + 1) (by have := L8.out; have := L9.out; have := LR.out; omega) 2 (.int .i64 (n : Int)))
    replace XV := hid (((XV.out.other (g2 := w.heap.size + 1) (by have := L8.out; have := L9.out; have := LR.out; omega) 0 (.bool s8)).other (g2 := w.heap.size + 1) (by have := L8.out; have := L9.out; have := LR.out; omega) 1 (.slice p8 n8 c8)).other (g2 := w.heap.size + 1) (by have := L8.out; have := L9.out; have := LR.out; omega) 2 (.int .i64 (n : Int)))
    replace R5 := hid (((R5.out.other (g2 := w.heap.size + 1) (by have := L8.out; have := L9.out; have := LR.out; omega) 0 (.bool s8)).other (g2 := w.heap.size + 1) (by have := L8.out; have := L9.out; have := LR.out; omega) 1 (.slice p8 n8 c8)).other (g2 := w.heap.size + 1) (by have := L8.out; have := L9.out; have := LR.out; omega) 2 (.int .i64 (n : Int)))
    replace HV8 := hid (r917c HV8.out)
    replace HV9 := hid (r917c HV9.out)
    replace R4 := hid r917a
    replace B := hid r917b
    clear r917a r917b r917c
    obtain ⟨cc918a, cc918b⟩ := XU.out.both
    obtain ⟨cc919a, cc919b⟩ := XV.out.both
    obtain ⟨cc920a, cc920b, cc920c⟩ := R4.out.cells
    obtain ⟨cc921a, cc921b, cc921c⟩ := R5.out.cells
    obtain ⟨⟨cc922a, cc922b⟩, ⟨cc922c, cc922d⟩, cc922e, cc922f⟩ := R5.out.stores
    obtain ⟨r923a, r923b, r923c⟩ := R5.out.last B.out (by have := L8.out; have := L9.out; have := LR.out; omega) s8 p8 n8 c8 (n : Int)
    replace XU := hid (((XU.out.other (g2 := w.heap.size + 1 + 1) (by have := L8.out; have := L9.out; have := LR.out; omega) 0 (.bool s8)).other (g2 := w.heap.size + 1 + 1) (by have := L8.out; have := L9.out; have := LR.out; omega) 1 (.slice p8 n8 c8)).other (g2 := w.heap.size + 1 + 1) (by have := L8.out; have := L9.out; have := LR.out; omega) 2 (.int .i64 (n : Int)))
    replace XV := hid (((XV.out.other (g2 := w.heap.size + 1 + 1) (by have := L8.out; have := L9.out; have := LR.out; omega) 0 (.bool s8)).other (g2 := w.heap.size + 1 + 1) (by have := L8.out; have := L9.out; have := LR.out; omega) 1 (.slice p8 n8 c8)).other (g2 := w.heap.size + 1 + 1) (by have := L8.out; have := L9.out; have := LR.out; omega) 2 (.int .i64 (n : Int)))
    replace R4 := hid (((R4.out.other (g2 := w.heap.size + 1 + 1) (by have := L8.out; have := L9.out; have := LR.out; omega) 0 (.bool s8)).other (g2 := w.heap.size + 1 + 1) (by have := L8.out; have := L9.out; have := LR.out; omega) 1 (.slice p8 n8 c8)).other (g2 := w.heap.size + 1 + 1) (by have := L8.out; have := L9.out; have := LR.out; omega) 2 (.int .i64 (n : Int)))
    replace HV8 := hid (r923c HV8.out)
    replace HV9 := hid (r923c HV9.out)
    replace R5 := hid r923a
    replace B := hid r923b
    clear r923a r923b r923c
    obtain ⟨cc924a, cc924b⟩ := XU.out.both
    obtain ⟨cc925a, cc925b⟩ := XV.out.both
    obtain ⟨cc926a, cc926b, cc926c⟩ := R4.out.cells
    obtain ⟨cc927a, cc927b, cc927c⟩ := R5.out.cells
    go_wp2_with fail
    refine bodyPost_ret (res_dd rfl rfl rfl R4.out R5.out) rfl ?_
    exact ⟨_, _, rfl, Dcl.mk1 (HV8.out.mono (by decide)), (by rw [highu, if_pos HE.out]; exact Dcl.mk1 (HV8.out.mono (by decide))), B.out⟩

set_option maxHeartbeats 8000000 in
theorem around_odd {w : World} {v : Value} {q : Rat} {n : Nat} (h : Rtl w v q 100) (hn : n ≤ 30) (he : ¬ resu q n = 0) :
    Calls Tryz.prog 83 #[v, .int .i64 (n : Int)] w fun e w' => ∃ v u, e = .returned (.tuple #[v, u]) ∧ Dcl w' v (lowu q n) n 106 ∧ Dcl w' u (highu q n) n 106 ∧ Below w.heap.size w w' := by
  obtain ⟨s1a, p1a, n1a, c1a, s1b, p1b, n1b, c1b, rfl⟩ := h.opened
  obtain ⟨ht1, d1, hu1, hd1⟩ := h.two
  have HD1 := hid hd1
  have HN := hid hn
  have HE := hid he
  have B := hid (Below.refl w.heap.size w)
  have HT1 := hid ht1
  have HU1 := hid hu1
  have hb1 := (Below.refl _ _).alloc (Nat.le_refl w.heap.size) (.cells #[.bool s1a, .slice p1a n1a c1a, .bool s1b, .slice p1b n1b c1b] 83)
  have hx2 := Nbx.new w s1a s1b (.slice p1a n1a c1a) (.slice p1b n1b c1b)
  replace HT1 := wl HT1 hb1
  replace HU1 := wl HU1 hb1
  replace B := bb B hb1
  have X1 := hid hx2
  have hs3 : (w.alloc (.cells #[.bool s1a, .slice p1a n1a c1a, .bool s1b, .slice p1b n1b c1b] 83)).heap.size = w.heap.size + 1 := by simp
  clear hb1 hx2
  have hb4 := (Below.refl _ _).alloc (Nat.le_refl (w.alloc (.cells #[.bool s1a, .slice p1a n1a c1a, .bool s1b, .slice p1b n1b c1b] 83)).heap.size) (.cells #[.bool false, .slice none 0 0, .int .i64 0] 119)
  have hx5 := Dbx.new (w.alloc (.cells #[.bool s1a, .slice p1a n1a c1a, .bool s1b, .slice p1b n1b c1b] 83)) false none 0 0 0
  rw [hs3] at hx5
  replace X1 := nx X1 hb4
  replace HT1 := wl HT1 hb4
  replace HU1 := wl HU1 hb4
  replace B := bb B hb4
  have R4 := hid hx5
  have hs6 : ((w.alloc (.cells #[.bool s1a, .slice p1a n1a c1a, .bool s1b, .slice p1b n1b c1b] 83)).alloc (.cells #[.bool false, .slice none 0 0, .int .i64 0] 119)).heap.size = w.heap.size + 1 + 1 := by simp [hs3]
  clear hb4 hx5
  have hb7 := (Below.refl _ _).alloc (Nat.le_refl ((w.alloc (.cells #[.bool s1a, .slice p1a n1a c1a, .bool s1b, .slice p1b n1b c1b] 83)).alloc (.cells #[.bool false, .slice none 0 0, .int .i64 0] 119)).heap.size) (.cells #[.bool false, .slice none 0 0, .int .i64 0] 119)
  have hx8 := Dbx.new ((w.alloc (.cells #[.bool s1a, .slice p1a n1a c1a, .bool s1b, .slice p1b n1b c1b] 83)).alloc (.cells #[.bool false, .slice none 0 0, .int .i64 0] 119)) false none 0 0 0
  rw [hs6] at hx8
  replace X1 := nx X1 hb7
  replace R4 := dx R4 hb7
  replace HT1 := wl HT1 hb7
  replace HU1 := wl HU1 hb7
  replace B := bb B hb7
  have R5 := hid hx8
  have hs9 : (((w.alloc (.cells #[.bool s1a, .slice p1a n1a c1a, .bool s1b, .slice p1b n1b c1b] 83)).alloc (.cells #[.bool false, .slice none 0 0, .int .i64 0] 119)).alloc (.cells #[.bool false, .slice none 0 0, .int .i64 0] 119)).heap.size = w.heap.size + 1 + 1 + 1 := by simp [hs6]
  clear hb7 hx8
  clear hs9 h ht1 hu1 hd1 hn he
  go_enter Tryz.func83, Tryz.ntmps83
  obtain ⟨cc10a, cc10b, cc10c, cc10d⟩ := X1.out.cells
  obtain ⟨cc11a, cc11b, cc11c⟩ := R4.out.cells
  obtain ⟨cc12a, cc12b, cc12c⟩ := R5.out.cells
  go_wp2_with fail
  generalize hW : ((w.alloc (.cells #[.bool s1a, .slice p1a n1a c1a, .bool s1b, .slice p1b n1b c1b] 83)).alloc (.cells #[.bool false, .slice none 0 0, .int .i64 0] 119)).alloc (.cells #[.bool false, .slice none 0 0, .int .i64 0] 119) = W13 at *
  clear hW
  refine (parts_rtl (Rtl.mk2 HT1.out HU1.out HD1.out) (by decide)).mono ?_
  rintro e w14 ⟨v, u, rfl, hv, hu, hb⟩
  obtain ⟨s3, p3, n3, c3, rfl⟩ := hv.opened
  obtain ⟨s4, p4, n4, c4, rfl⟩ := hu.opened
  replace R4 := dx R4 hb
  replace R5 := dx R5 hb
  replace B := bb B hb
  clear cc10a cc10b cc10c cc10d cc11a cc11b cc11c cc12a cc12b cc12c
  have HA := hid hv
  have HB := hid hu
  clear hb hv hu
  have hb15 := (Below.refl _ _).alloc (Nat.le_refl w14.heap.size) (.cells #[.bool s3, .slice p3 n3 c3] 81)
  have hx16 := Box.new w14 s3 p3 n3 c3
  have L0 := hid R5.out.lt
  replace R4 := dx R4 hb15
  replace R5 := dx R5 hb15
  replace HA := wl HA hb15
  replace HB := wl HB hb15
  replace B := bb B hb15
  have XA := hid hx16
  have hs17 : (w14.alloc (.cells #[.bool s3, .slice p3 n3 c3] 81)).heap.size = w14.heap.size + 1 := by simp
  clear hb15 hx16
  have hb18 := (Below.refl _ _).alloc (Nat.le_refl (w14.alloc (.cells #[.bool s3, .slice p3 n3 c3] 81)).heap.size) (.cells #[.bool s4, .slice p4 n4 c4] 81)
  have hx19 := Box.new (w14.alloc (.cells #[.bool s3, .slice p3 n3 c3] 81)) s4 p4 n4 c4
  rw [hs17] at hx19
  replace R4 := dx R4 hb18
  replace R5 := dx R5 hb18
  replace XA := bx XA hb18
  replace HA := wl HA hb18
  replace HB := wl HB hb18
  replace B := bb B hb18
  have XB := hid hx19
  have hs20 : ((w14.alloc (.cells #[.bool s3, .slice p3 n3 c3] 81)).alloc (.cells #[.bool s4, .slice p4 n4 c4] 81)).heap.size = w14.heap.size + 1 + 1 := by simp [hs17]
  clear hb18 hx19
  obtain ⟨cc21a, cc21b, cc21c⟩ := R4.out.cells
  obtain ⟨cc22a, cc22b, cc22c⟩ := R5.out.cells
  obtain ⟨cc23a, cc23b⟩ := XA.out.both
  obtain ⟨cc24a, cc24b⟩ := XB.out.both
  go_wp2_with fail
  generalize hW : (w14.alloc (.cells #[.bool s3, .slice p3 n3 c3] 81)).alloc (.cells #[.bool s4, .slice p4 n4 c4] 81) = W25 at *
  clear hW
  clear cc21a cc21b cc21c cc22a cc22b cc22c cc23a cc23b cc24a cc24b
  have LQ := hid R5.out.lt
  refine region_ops (by kernel_rfl) (by kernel_rfl) (fun a f a' w' => ∃ u8 u9 u10 u16 u17 u18 u19 u20 u21 u22 u23 u24 u25 v9 va : Value, a' = { tmps := (((((((((((((a.tmps.setIfInBounds 8 u8).setIfInBounds 9 u9).setIfInBounds 10 u10).setIfInBounds 16 u16).setIfInBounds 17 u17).setIfInBounds 18 u18).setIfInBounds 19 u19).setIfInBounds 20 u20).setIfInBounds 21 u21).setIfInBounds 22 u22).setIfInBounds 23 u23).setIfInBounds 24 u24).setIfInBounds 25 u25), defers := a.defers } ∧ Hid (Below W25.heap.size W25 w') ∧ Hid (f 0 = true → u17 = (.agg #[.bool s3, .slice p3 n3 c3])) ∧ Hid (f 1 = true → u18 = .int .i64 (n : Int)) ∧ Hid (f 2 = true → Whl w' u19 (pten n : Int) 4) ∧ Hid (f 3 = true → Whl w' u20 (q.num * (pten n : Int)) 104) ∧ Hid (f 4 = true → u21 = (.agg #[.bool s4, .slice p4 n4 c4])) ∧ Hid (f 5 = true → (u22 = .tuple #[v9, va, .nilIface] ∧ Whl w' v9 (lowu q n) 105 ∧ Whl w' va (resu q n) 100)) ∧ Hid (f 6 = true → u16 = .tuple #[v9, va, .nilIface]) ∧ Hid (f 7 = true → u23 = v9) ∧ Hid (f 8 = true → u24 = va) ∧ Hid (f 9 = true → u25 = .nilIface) ∧ Hid (f 10 = true → NewI W25 w' u8 (f 12) v9) ∧ Hid (f 11 = true → NewI W25 w' u9 (f 13) va) ∧ Hid (f 14 = true → u10 = .nilIface) ∧ (f 6 = true → f 5 = true) ∧ (f 7 = true → f 6 = true) ∧ (f 8 = true → f 6 = true) ∧ (f 9 = true → f 6 = true) ∧ (f 12 = true → f 10 = true) ∧ (f 12 = true → f 7 = true) ∧ (f 13 = true → f 11 = true) ∧ (f 13 = true → f 8 = true) ∧ (f 10 = true → f 11 = true → u8 ≠ u9)) ?h0 ⟨?s0, ?s1, ?s2, ?s3, ?s4, ?s5, ?s6, ?s7, ?s8, ?s9, ?s10, ?s11, ?s12, ?s13, ?s14, trivial⟩ ?hend
  case h0 =>
    simp only [List.setIfInBounds_toArray, List.set_cons_zero, List.set_cons_succ]
    exact ⟨_, _, _, _, _, _, _, _, _, _, _, _, _, .nilIface, .nilIface, rfl, hid (Below.drew (Below.refl _ _)), hid (fun h => by cases h), hid (fun h => by cases h), hid (fun h => by cases h), hid (fun h => by cases h), hid (fun h => by cases h), hid (fun h => by cases h), hid (fun h => by cases h), hid (fun h => by cases h), hid (fun h => by cases h), hid (fun h => by cases h), hid (fun h => by cases h), hid (fun h => by cases h), hid (fun h => by cases h), fun h => h, fun h => h, fun h => h, fun h => h, fun h => h, fun h => h, fun h => h, fun h => h, fun h => by cases h⟩
  case s0 =>
    rintro f a1 w1 ⟨u8, u9, u10, u16, u17, u18, u19, u20, u21, u22, u23, u24, u25, v9, va, rfl, HBW, h0, h1, h2, h3, h4, h5, h6, h7, h8, h9, h10, h11, h14, o6_5, o7_6, o8_6, o9_6, o12_10, o12_7, o13_11, o13_8, hne⟩ hf hd K hK
    simp only [List.setIfInBounds_toArray, List.set_cons_zero, List.set_cons_succ] at hK ⊢
    replace hK := hid hK
    obtain ⟨y1, y2⟩ := (XA.out.below HBW.out XA.out.lt).both
    go_simp
    exact hK.out _ _ ⟨_, _, _, _, _, _, _, _, _, _, _, _, _, v9, va, rfl, HBW, hid (fun h => rfl), hid (fun h => h1.out h), hid (fun h => h2.out h), hid (fun h => h3.out h), hid (fun h => h4.out h), hid (fun h => h5.out h), hid (fun h => h6.out h), hid (fun h => h7.out h), hid (fun h => h8.out h), hid (fun h => h9.out h), hid (fun h => h10.out h), hid (fun h => h11.out h), hid (fun h => h14.out h), fun h => o6_5 h, fun h => o7_6 h, fun h => o8_6 h, fun h => o9_6 h, fun h => o12_10 h, fun h => o12_7 h, fun h => o13_11 h, fun h => o13_8 h, fun h => hne h⟩
  case s1 =>
    rintro f a1 w1 ⟨u8, u9, u10, u16, u17, u18, u19, u20, u21, u22, u23, u24, u25, v9, va, rfl, HBW, h0, h1, h2, h3, h4, h5, h6, h7, h8, h9, h10, h11, h14, o6_5, o7_6, o8_6, o9_6, o12_10, o12_7, o13_11, o13_8, hne⟩ hf hd K hK
    simp only [List.setIfInBounds_toArray, List.set_cons_zero, List.set_cons_succ] at hK ⊢
    replace hK := hid hK
    go_simp
    exact hK.out _ _ ⟨_, _, _, _, _, _, _, _, _, _, _, _, _, v9, va, rfl, HBW, hid (fun h => h0.out h), hid (fun h => rfl), hid (fun h => h2.out h), hid (fun h => h3.out h), hid (fun h => h4.out h), hid (fun h => h5.out h), hid (fun h => h6.out h), hid (fun h => h7.out h), hid (fun h => h8.out h), hid (fun h => h9.out h), hid (fun h => h10.out h), hid (fun h => h11.out h), hid (fun h => h14.out h), fun h => o6_5 h, fun h => o7_6 h, fun h => o8_6 h, fun h => o9_6 h, fun h => o12_10 h, fun h => o12_7 h, fun h => o13_11 h, fun h => o13_8 h, fun h => hne h⟩
  case s2 =>
    rintro f a1 w1 ⟨u8, u9, u10, u16, u17, u18, u19, u20, u21, u22, u23, u24, u25, v9, va, rfl, HBW, h0, h1, h2, h3, h4, h5, h6, h7, h8, h9, h10, h11, h14, o6_5, o7_6, o8_6, o9_6, o12_10, o12_7, o13_11, o13_8, hne⟩ hf hd K hK
    simp only [List.setIfInBounds_toArray, List.set_cons_zero, List.set_cons_succ] at hK ⊢
    replace hK := hid hK
    simp [Region.binds] at hd
    obtain rfl := h1.out (by simp only [hd])
    go_simp
    refine (pot_whl n HN.out _).mono ?_
    rintro e w2 ⟨v, rfl, hv, hb⟩
    go_wp2_with fail
    exact hK.out _ _ ⟨_, _, _, _, _, _, _, _, _, _, _, _, _, v9, va, rfl, hid (below_next HBW.out hb), hid (fun h => h0.out h), hid (fun h => rfl), hid (fun h => hv), hid (fun h => (h3.out h).on hb), hid (fun h => h4.out h), hid (fun h => ⟨(h5.out h).1, (h5.out h).2.1.on hb, (h5.out h).2.2.on hb⟩), hid (fun h => h6.out h), hid (fun h => h7.out h), hid (fun h => h8.out h), hid (fun h => h9.out h), hid (fun h => (h10.out h).on hb), hid (fun h => (h11.out h).on hb), hid (fun h => h14.out h), fun h => o6_5 h, fun h => o7_6 h, fun h => o8_6 h, fun h => o9_6 h, fun h => o12_10 h, fun h => o12_7 h, fun h => o13_11 h, fun h => o13_8 h, fun h => hne h⟩
  case s3 =>
    rintro f a1 w1 ⟨u8, u9, u10, u16, u17, u18, u19, u20, u21, u22, u23, u24, u25, v9, va, rfl, HBW, h0, h1, h2, h3, h4, h5, h6, h7, h8, h9, h10, h11, h14, o6_5, o7_6, o8_6, o9_6, o12_10, o12_7, o13_11, o13_8, hne⟩ hf hd K hK
    simp only [List.setIfInBounds_toArray, List.set_cons_zero, List.set_cons_succ] at hK ⊢
    replace hK := hid hK
    simp [Region.binds] at hd
    obtain rfl := h0.out (by simp only [hd])
    go_simp
    refine (mul_whl (HA.out.below HBW.out (Nat.le_refl _)) (h2.out (by simp only [hd])) (by decide) (by decide)).mono ?_
    rintro e w2 ⟨v, rfl, hv, hb⟩
    go_wp2_with fail
    exact hK.out _ _ ⟨_, _, _, _, _, _, _, _, _, _, _, _, _, v9, va, rfl, hid (below_next HBW.out hb), hid (fun h => rfl), hid (fun h => h1.out h), hid (fun h => (h2.out h).on hb), hid (fun h => hv), hid (fun h => h4.out h), hid (fun h => ⟨(h5.out h).1, (h5.out h).2.1.on hb, (h5.out h).2.2.on hb⟩), hid (fun h => h6.out h), hid (fun h => h7.out h), hid (fun h => h8.out h), hid (fun h => h9.out h), hid (fun h => (h10.out h).on hb), hid (fun h => (h11.out h).on hb), hid (fun h => h14.out h), fun h => o6_5 h, fun h => o7_6 h, fun h => o8_6 h, fun h => o9_6 h, fun h => o12_10 h, fun h => o12_7 h, fun h => o13_11 h, fun h => o13_8 h, fun h => hne h⟩
  case s4 =>
    rintro f a1 w1 ⟨u8, u9, u10, u16, u17, u18, u19, u20, u21, u22, u23, u24, u25, v9, va, rfl, HBW, h0, h1, h2, h3, h4, h5, h6, h7, h8, h9, h10, h11, h14, o6_5, o7_6, o8_6, o9_6, o12_10, o12_7, o13_11, o13_8, hne⟩ hf hd K hK
    simp only [List.setIfInBounds_toArray, List.set_cons_zero, List.set_cons_succ] at hK ⊢
    replace hK := hid hK
    obtain ⟨y1, y2⟩ := (XB.out.below HBW.out XB.out.lt).both
    go_simp
    exact hK.out _ _ ⟨_, _, _, _, _, _, _, _, _, _, _, _, _, v9, va, rfl, HBW, hid (fun h => h0.out h), hid (fun h => h1.out h), hid (fun h => h2.out h), hid (fun h => h3.out h), hid (fun h => rfl), hid (fun h => h5.out h), hid (fun h => h6.out h), hid (fun h => h7.out h), hid (fun h => h8.out h), hid (fun h => h9.out h), hid (fun h => h10.out h), hid (fun h => h11.out h), hid (fun h => h14.out h), fun h => o6_5 h, fun h => o7_6 h, fun h => o8_6 h, fun h => o9_6 h, fun h => o12_10 h, fun h => o12_7 h, fun h => o13_11 h, fun h => o13_8 h, fun h => hne h⟩
  case s5 =>
    rintro f a1 w1 ⟨u8, u9, u10, u16, u17, u18, u19, u20, u21, u22, u23, u24, u25, v9, va, rfl, HBW, h0, h1, h2, h3, h4, h5, h6, h7, h8, h9, h10, h11, h14, o6_5, o7_6, o8_6, o9_6, o12_10, o12_7, o13_11, o13_8, hne⟩ hf hd K hK
    simp only [List.setIfInBounds_toArray, List.set_cons_zero, List.set_cons_succ] at hK ⊢
    replace hK := hid hK
    simp [Region.binds] at hd
    obtain rfl := h4.out (by simp only [hd])
    go_simp
    refine (div_whl (h3.out (by simp only [hd])) (HB.out.below HBW.out (Nat.le_refl _)) (den_ne q) (by decide) (by decide)).mono ?_
    rintro e w2 ⟨v, u, rfl, hv, hu, hb⟩
    go_wp2_with fail
    exact hK.out _ _ ⟨_, _, _, _, _, _, _, _, _, _, _, _, _, v, u, rfl, hid (below_next HBW.out hb), hid (fun h => h0.out h), hid (fun h => h1.out h), hid (fun h => (h2.out h).on hb), hid (fun h => (h3.out h).on hb), hid (fun h => rfl), hid (fun h => ⟨rfl, hv, hu⟩), hid (fun h => absurd (o6_5 h) (by rw [hf]; decide)), hid (fun h => absurd (o6_5 (o7_6 h)) (by rw [hf]; decide)), hid (fun h => absurd (o6_5 (o8_6 h)) (by rw [hf]; decide)), hid (fun h => h9.out h), hid (fun h => ((h10.out h).on hb).free (by cases e : f 12 with | false => rfl | true => exact absurd (o6_5 (o7_6 (o12_7 e))) (by rw [hf]; decide))), hid (fun h => ((h11.out h).on hb).free (by cases e : f 13 with | false => rfl | true => exact absurd (o6_5 (o8_6 (o13_8 e))) (by rw [hf]; decide))), hid (fun h => h14.out h), fun _ => rfl, fun h => o7_6 h, fun h => o8_6 h, fun h => o9_6 h, fun h => o12_10 h, fun h => o12_7 h, fun h => o13_11 h, fun h => o13_8 h, fun h => hne h⟩
  case s6 =>
    rintro f a1 w1 ⟨u8, u9, u10, u16, u17, u18, u19, u20, u21, u22, u23, u24, u25, v9, va, rfl, HBW, h0, h1, h2, h3, h4, h5, h6, h7, h8, h9, h10, h11, h14, o6_5, o7_6, o8_6, o9_6, o12_10, o12_7, o13_11, o13_8, hne⟩ hf hd K hK
    simp only [List.setIfInBounds_toArray, List.set_cons_zero, List.set_cons_succ] at hK ⊢
    replace hK := hid hK
    simp [Region.binds] at hd
    have g5 : f 5 = true := by simp only [hd]
    obtain ⟨rfl, e2⟩ := h5.out g5
    go_simp
    exact hK.out _ _ ⟨_, _, _, _, _, _, _, _, _, _, _, _, _, v9, va, rfl, HBW, hid (fun h => h0.out h), hid (fun h => h1.out h), hid (fun h => h2.out h), hid (fun h => h3.out h), hid (fun h => h4.out h), hid (fun h => ⟨rfl, e2⟩), hid (fun h => rfl), hid (fun h => h7.out h), hid (fun h => h8.out h), hid (fun h => h9.out h), hid (fun h => h10.out h), hid (fun h => h11.out h), hid (fun h => h14.out h), fun _ => g5, fun _ => rfl, fun _ => rfl, fun _ => rfl, fun h => o12_10 h, fun h => o12_7 h, fun h => o13_11 h, fun h => o13_8 h, fun h => hne h⟩
  case s7 =>
    rintro f a1 w1 ⟨u8, u9, u10, u16, u17, u18, u19, u20, u21, u22, u23, u24, u25, v9, va, rfl, HBW, h0, h1, h2, h3, h4, h5, h6, h7, h8, h9, h10, h11, h14, o6_5, o7_6, o8_6, o9_6, o12_10, o12_7, o13_11, o13_8, hne⟩ hf hd K hK
    simp only [List.setIfInBounds_toArray, List.set_cons_zero, List.set_cons_succ] at hK ⊢
    replace hK := hid hK
    simp [Region.binds] at hd
    have g6 : f 6 = true := by simp only [hd]
    have e1 := h6.out g6
    subst e1
    go_simp
    exact hK.out _ _ ⟨_, _, _, _, _, _, _, _, _, _, _, _, _, v9, va, rfl, HBW, hid (fun h => h0.out h), hid (fun h => h1.out h), hid (fun h => h2.out h), hid (fun h => h3.out h), hid (fun h => h4.out h), hid (fun h => h5.out h), hid (fun h => h6.out h), hid (fun h => rfl), hid (fun h => h8.out h), hid (fun h => h9.out h), hid (fun h => h10.out h), hid (fun h => h11.out h), hid (fun h => h14.out h), fun h => o6_5 h, fun _ => g6, fun h => o8_6 h, fun h => o9_6 h, fun h => o12_10 h, fun _ => rfl, fun h => o13_11 h, fun h => o13_8 h, fun h => hne h⟩
  case s8 =>
    rintro f a1 w1 ⟨u8, u9, u10, u16, u17, u18, u19, u20, u21, u22, u23, u24, u25, v9, va, rfl, HBW, h0, h1, h2, h3, h4, h5, h6, h7, h8, h9, h10, h11, h14, o6_5, o7_6, o8_6, o9_6, o12_10, o12_7, o13_11, o13_8, hne⟩ hf hd K hK
    simp only [List.setIfInBounds_toArray, List.set_cons_zero, List.set_cons_succ] at hK ⊢
    replace hK := hid hK
    simp [Region.binds] at hd
    have g6 : f 6 = true := by simp only [hd]
    have e1 := h6.out g6
    subst e1
    go_simp
    exact hK.out _ _ ⟨_, _, _, _, _, _, _, _, _, _, _, _, _, v9, va, rfl, HBW, hid (fun h => h0.out h), hid (fun h => h1.out h), hid (fun h => h2.out h), hid (fun h => h3.out h), hid (fun h => h4.out h), hid (fun h => h5.out h), hid (fun h => h6.out h), hid (fun h => h7.out h), hid (fun h => rfl), hid (fun h => h9.out h), hid (fun h => h10.out h), hid (fun h => h11.out h), hid (fun h => h14.out h), fun h => o6_5 h, fun h => o7_6 h, fun _ => g6, fun h => o9_6 h, fun h => o12_10 h, fun h => o12_7 h, fun h => o13_11 h, fun _ => rfl, fun h => hne h⟩
  case s9 =>
    rintro f a1 w1 ⟨u8, u9, u10, u16, u17, u18, u19, u20, u21, u22, u23, u24, u25, v9, va, rfl, HBW, h0, h1, h2, h3, h4, h5, h6, h7, h8, h9, h10, h11, h14, o6_5, o7_6, o8_6, o9_6, o12_10, o12_7, o13_11, o13_8, hne⟩ hf hd K hK
    simp only [List.setIfInBounds_toArray, List.set_cons_zero, List.set_cons_succ] at hK ⊢
    replace hK := hid hK
    simp [Region.binds] at hd
    have g6 : f 6 = true := by simp only [hd]
    have e1 := h6.out g6
    subst e1
    go_simp
    exact hK.out _ _ ⟨_, _, _, _, _, _, _, _, _, _, _, _, _, v9, va, rfl, HBW, hid (fun h => h0.out h), hid (fun h => h1.out h), hid (fun h => h2.out h), hid (fun h => h3.out h), hid (fun h => h4.out h), hid (fun h => h5.out h), hid (fun h => h6.out h), hid (fun h => h7.out h), hid (fun h => h8.out h), hid (fun h => rfl), hid (fun h => h10.out h), hid (fun h => h11.out h), hid (fun h => h14.out h), fun h => o6_5 h, fun h => o7_6 h, fun h => o8_6 h, fun _ => g6, fun h => o12_10 h, fun h => o12_7 h, fun h => o13_11 h, fun h => o13_8 h, fun h => hne h⟩
  case s10 =>
    rintro f a1 w1 ⟨u8, u9, u10, u16, u17, u18, u19, u20, u21, u22, u23, u24, u25, v9, va, rfl, HBW, h0, h1, h2, h3, h4, h5, h6, h7, h8, h9, h10, h11, h14, o6_5, o7_6, o8_6, o9_6, o12_10, o12_7, o13_11, o13_8, hne⟩ hf hd K hK
    simp only [List.setIfInBounds_toArray, List.set_cons_zero, List.set_cons_succ] at hK ⊢
    replace hK := hid hK
    go_simp
    exact hK.out _ _ ⟨_, _, _, _, _, _, _, _, _, _, _, _, _, v9, va, rfl, hid (below_next HBW.out ((Below.refl _ _).alloc (Nat.le_refl _) _)), hid (fun h => h0.out h), hid (fun h => h1.out h), hid (fun h => (h2.out h).on ((Below.refl _ _).alloc (Nat.le_refl _) _)), hid (fun h => (h3.out h).on ((Below.refl _ _).alloc (Nat.le_refl _) _)), hid (fun h => h4.out h), hid (fun h => ⟨(h5.out h).1, (h5.out h).2.1.on ((Below.refl _ _).alloc (Nat.le_refl _) _), (h5.out h).2.2.on ((Below.refl _ _).alloc (Nat.le_refl _) _)⟩), hid (fun h => h6.out h), hid (fun h => h7.out h), hid (fun h => h8.out h), hid (fun h => h9.out h), hid (fun h => ⟨w1.heap.size, rfl, HBW.out.size, fun _ => Box.new w1 false none 0 0, fun e => absurd (o12_10 e) (by rw [hf]; decide)⟩), hid (fun h => (h11.out h).on ((Below.refl _ _).alloc (Nat.le_refl _) _)), hid (fun h => h14.out h), fun h => o6_5 h, fun h => o7_6 h, fun h => o8_6 h, fun h => o9_6 h, fun _ => rfl, fun h => o12_7 h, fun h => o13_11 h, fun h => o13_8 h, fun _ a e => by obtain ⟨g, e2, hlt⟩ := (h11.out a).lt; rw [e2] at e; cases e; exact absurd hlt (Nat.lt_irrefl _)⟩
  case s11 =>
    rintro f a1 w1 ⟨u8, u9, u10, u16, u17, u18, u19, u20, u21, u22, u23, u24, u25, v9, va, rfl, HBW, h0, h1, h2, h3, h4, h5, h6, h7, h8, h9, h10, h11, h14, o6_5, o7_6, o8_6, o9_6, o12_10, o12_7, o13_11, o13_8, hne⟩ hf hd K hK
    simp only [List.setIfInBounds_toArray, List.set_cons_zero, List.set_cons_succ] at hK ⊢
    replace hK := hid hK
    go_simp
    exact hK.out _ _ ⟨_, _, _, _, _, _, _, _, _, _, _, _, _, v9, va, rfl, hid (below_next HBW.out ((Below.refl _ _).alloc (Nat.le_refl _) _)), hid (fun h => h0.out h), hid (fun h => h1.out h), hid (fun h => (h2.out h).on ((Below.refl _ _).alloc (Nat.le_refl _) _)), hid (fun h => (h3.out h).on ((Below.refl _ _).alloc (Nat.le_refl _) _)), hid (fun h => h4.out h), hid (fun h => ⟨(h5.out h).1, (h5.out h).2.1.on ((Below.refl _ _).alloc (Nat.le_refl _) _), (h5.out h).2.2.on ((Below.refl _ _).alloc (Nat.le_refl _) _)⟩), hid (fun h => h6.out h), hid (fun h => h7.out h), hid (fun h => h8.out h), hid (fun h => h9.out h), hid (fun h => (h10.out h).on ((Below.refl _ _).alloc (Nat.le_refl _) _)), hid (fun h => ⟨w1.heap.size, rfl, HBW.out.size, fun _ => Box.new w1 false none 0 0, fun e => absurd (o13_11 e) (by rw [hf]; decide)⟩), hid (fun h => h14.out h), fun h => o6_5 h, fun h => o7_6 h, fun h => o8_6 h, fun h => o9_6 h, fun h => o12_10 h, fun h => o12_7 h, fun _ => rfl, fun h => o13_8 h, fun a _ e => by obtain ⟨g, e2, hlt⟩ := (h10.out a).lt; rw [e2] at e; cases e; exact absurd hlt (Nat.lt_irrefl _)⟩
  case s12 =>
    rintro f a1 w1 ⟨u8, u9, u10, u16, u17, u18, u19, u20, u21, u22, u23, u24, u25, v9, va, rfl, HBW, h0, h1, h2, h3, h4, h5, h6, h7, h8, h9, h10, h11, h14, o6_5, o7_6, o8_6, o9_6, o12_10, o12_7, o13_11, o13_8, hne⟩ hf hd K hK
    simp only [List.setIfInBounds_toArray, List.set_cons_zero, List.set_cons_succ] at hK ⊢
    replace hK := hid hK
    simp [Region.binds] at hd
    have gx : f 7 = true := by simp only [hd]
    have ga : f 10 = true := by simp only [hd]
    have gb : f 11 = true := by simp only [hd]
    have g3 : f 5 = true := o6_5 (o7_6 gx)
    have hne := hne (by simp only [hd]) (by simp only [hd])
    have e8 := h7.out gx
    subst e8
    obtain ⟨g, rfl, hg, hn, _⟩ := h10.out ga
    replace hn := hn hf
    have hv9 := (h5.out g3).2.1
    obtain ⟨s9, p9, n9, c9, rfl⟩ := hv9.opened
    obtain ⟨c1, c2, c3, c4⟩ := hn.stores
    obtain ⟨n1, n2, n3⟩ := hn.last HBW.out hg s9 p9 n9 c9
    have HN2 := hid (And.intro n1 n2)
    have HV := hid (fun v z k h => @n3 v z k h)
    have HO := hid ((h11.out gb).set (Ne.symm hne) (.bool s9) (.slice p9 n9 c9))
    clear n1 n2 n3
    go_simp
    exact hK.out _ _ ⟨_, _, _, _, _, _, _, _, _, _, _, _, _, _, va, rfl, hid HN2.out.2, hid (fun h => h0.out h), hid (fun h => h1.out h), hid (fun h => HV.out _ _ _ (h2.out h)), hid (fun h => HV.out _ _ _ (h3.out h)), hid (fun h => h4.out h), hid (fun h => ⟨(h5.out h).1, HV.out _ _ _ (h5.out h).2.1, HV.out _ _ _ (h5.out h).2.2⟩), hid (fun h => h6.out h), hid (fun h => h7.out h), hid (fun h => h8.out h), hid (fun h => h9.out h), hid (fun h => ⟨g, rfl, hg, fun e => by simp [more] at e, fun _ => ⟨_, _, _, _, rfl, HN2.out.1⟩⟩), hid (fun h => HO.out), hid (fun h => h14.out h), fun h => o6_5 h, fun h => o7_6 h, fun h => o8_6 h, fun h => o9_6 h, fun _ => ga, fun _ => gx, fun h => o13_11 h, fun h => o13_8 h, fun _ _ => hne⟩
  case s13 =>
    rintro f a1 w1 ⟨u8, u9, u10, u16, u17, u18, u19, u20, u21, u22, u23, u24, u25, v9, va, rfl, HBW, h0, h1, h2, h3, h4, h5, h6, h7, h8, h9, h10, h11, h14, o6_5, o7_6, o8_6, o9_6, o12_10, o12_7, o13_11, o13_8, hne⟩ hf hd K hK
    simp only [List.setIfInBounds_toArray, List.set_cons_zero, List.set_cons_succ] at hK ⊢
    replace hK := hid hK
    simp [Region.binds] at hd
    have gx : f 8 = true := by simp only [hd]
    have ga : f 11 = true := by simp only [hd]
    have gb : f 10 = true := by simp only [hd]
    have g3 : f 5 = true := o6_5 (o8_6 gx)
    have hne := hne (by simp only [hd]) (by simp only [hd])
    have e8 := h8.out gx
    subst e8
    obtain ⟨g, rfl, hg, hn, _⟩ := h11.out ga
    replace hn := hn hf
    have hv9 := (h5.out g3).2.2
    obtain ⟨s9, p9, n9, c9, rfl⟩ := hv9.opened
    obtain ⟨c1, c2, c3, c4⟩ := hn.stores
    obtain ⟨n1, n2, n3⟩ := hn.last HBW.out hg s9 p9 n9 c9
    have HN2 := hid (And.intro n1 n2)
    have HV := hid (fun v z k h => @n3 v z k h)
    have HO := hid ((h10.out gb).set hne (.bool s9) (.slice p9 n9 c9))
    clear n1 n2 n3
    go_simp
    exact hK.out _ _ ⟨_, _, _, _, _, _, _, _, _, _, _, _, _, v9, _, rfl, hid HN2.out.2, hid (fun h => h0.out h), hid (fun h => h1.out h), hid (fun h => HV.out _ _ _ (h2.out h)), hid (fun h => HV.out _ _ _ (h3.out h)), hid (fun h => h4.out h), hid (fun h => ⟨(h5.out h).1, HV.out _ _ _ (h5.out h).2.1, HV.out _ _ _ (h5.out h).2.2⟩), hid (fun h => h6.out h), hid (fun h => h7.out h), hid (fun h => h8.out h), hid (fun h => h9.out h), hid (fun h => HO.out), hid (fun h => ⟨g, rfl, hg, fun e => by simp [more] at e, fun _ => ⟨_, _, _, _, rfl, HN2.out.1⟩⟩), hid (fun h => h14.out h), fun h => o6_5 h, fun h => o7_6 h, fun h => o8_6 h, fun h => o9_6 h, fun h => o12_10 h, fun h => o12_7 h, fun _ => ga, fun _ => gx, fun _ _ => hne⟩
  case s14 =>
    rintro f a1 w1 ⟨u8, u9, u10, u16, u17, u18, u19, u20, u21, u22, u23, u24, u25, v9, va, rfl, HBW, h0, h1, h2, h3, h4, h5, h6, h7, h8, h9, h10, h11, h14, o6_5, o7_6, o8_6, o9_6, o12_10, o12_7, o13_11, o13_8, hne⟩ hf hd K hK
    simp only [List.setIfInBounds_toArray, List.set_cons_zero, List.set_cons_succ] at hK ⊢
    replace hK := hid hK
    simp [Region.binds] at hd
    obtain rfl := h9.out (by simp only [hd])
    go_simp
    exact hK.out _ _ ⟨_, _, _, _, _, _, _, _, _, _, _, _, _, v9, va, rfl, HBW, hid (fun h => h0.out h), hid (fun h => h1.out h), hid (fun h => h2.out h), hid (fun h => h3.out h), hid (fun h => h4.out h), hid (fun h => h5.out h), hid (fun h => h6.out h), hid (fun h => h7.out h), hid (fun h => h8.out h), hid (fun h => rfl), hid (fun h => h10.out h), hid (fun h => h11.out h), hid (fun h => rfl), fun h => o6_5 h, fun h => o7_6 h, fun h => o8_6 h, fun h => o9_6 h, fun h => o12_10 h, fun h => o12_7 h, fun h => o13_11 h, fun h => o13_8 h, fun h => hne h⟩
  case hend =>
    rintro f a1 w1 ⟨u8, u9, u10, u16, u17, u18, u19, u20, u21, u22, u23, u24, u25, v9, va, rfl, HBW, h0, h1, h2, h3, h4, h5, h6, h7, h8, h9, h10, h11, h14, o6_5, o7_6, o8_6, o9_6, o12_10, o12_7, o13_11, o13_8, hne⟩ hall
    simp only [List.setIfInBounds_toArray, List.set_cons_zero, List.set_cons_succ]
    have hne := hne (hall 10 (by decide)) (hall 11 (by decide))
    have hv9 := (h5.out (hall 5 (by decide))).2.1
    have hva := (h5.out (hall 5 (by decide))).2.2
    obtain ⟨g8, rfl, hg8, _, hn8⟩ := h10.out (hall 10 (by decide))
    obtain ⟨g9, rfl, hg9, _, hn9⟩ := h11.out (hall 11 (by decide))
    obtain ⟨s8, p8, n8, c8, rfl, hm8⟩ := hn8 (hall 12 (by decide))
    obtain ⟨s9, p9, n9, c9, rfl, hm9⟩ := hn9 (hall 13 (by decide))
    replace R4 := dx R4 HBW.out
    replace R5 := dx R5 HBW.out
    replace B := bb B HBW.out
    have XU := hid hm8
    have XV := hid hm9
    have HV8 := hid hv9
    have HV9 := hid hva
    have L8 := hid hg8
    have L9 := hid hg9
    have LR := hid (show w.heap.size + 1 + 1 < W25.heap.size from LQ.out)
    clear h0 h1 h2 h3 h4 h5 h6 h7 h8 h9 h10 h11 h14 o6_5 o7_6 o8_6 o9_6 o12_10 o12_7 o13_11 o13_8 hall hn8 hn9 hm8 hm9 hg8 hg9 hv9 hva HBW hne
    obtain ⟨cc901a, cc901b⟩ := XU.out.both
    obtain ⟨cc902a, cc902b⟩ := XV.out.both
    obtain ⟨cc903a, cc903b, cc903c⟩ := R4.out.cells
    obtain ⟨cc904a, cc904b, cc904c⟩ := R5.out.cells
    obtain ⟨⟨cc905a, cc905b⟩, ⟨cc905c, cc905d⟩, cc905e, cc905f⟩ := R4.out.stores
    obtain ⟨r906a, r906b, r906c⟩ := R4.out.last B.out (by have := L8.out; have := L9.out; have := LR.out; omega) s8 p8 n8 c8 (n : Int)
    replace XU := hid (((XU.out.other (g2 := w.heap.size + 1) (by have := L8.out; have := L9.out; have := LR.out; omega) 0 (.bool s8)).other (g2 := w.heap.size + 1) (by have := L8.out; have := L9.out; have := LR.out; omega) 1 (.slice p8 n8 c8)).other (g2 := w.heap.size + 1) (by have := L8.out; have := L9.out; have := LR.out; omega) 2 (.int .i64 (n : Int)))
    replace XV := hid (((XV.out.other (g2 := w.heap.size + 1) (by have := L8.out; have := L9.out; have := LR.out; omega) 0 (.bool s8)).other (g2 := w.heap.size + 1) (by have := L8.out; have := L9.out; have := LR.out; omega) 1 (.slice p8 n8 c8)).other (g2 := w.heap.size + 1) (by have := L8.out; have := L9.out; have := LR.out; omega) 2 (.int .i64 (n : Int)))
    replace R5 := hid (((R5.out.other (g2 := w.heap.size + 1) (by have := L8.out; have := L9.out; have := LR.out; omega) 0 (.bool s8)).other (g2 := w.heap.size + 1) (by have := L8.out; have := L9.out; have := LR.out; omega) 1 (.slice p8 n8 c8)).other (g2 := w.heap.size + 1) (by have := L8.out; have := L9.out; have := LR.out; omega) 2 (.int .i64 (n : Int)))
    replace HV8 := hid (r906c HV8.out)
    replace HV9 := hid (r906c HV9.out)
    replace R4 := hid r906a
    replace B := hid r906b
    clear r906a r906b r906c
    obtain ⟨cc907a, cc907b⟩ := XU.out.both
    obtain ⟨cc908a, cc908b⟩ := XV.out.both
    obtain ⟨cc909a, cc909b, cc909c⟩ := R4.out.cells
    obtain ⟨cc910a, cc910b, cc910c⟩ := R5.out.cells
    go_wp2_with fail
    have HS := sgn_whl HV9.out
    rw [Int.sign_eq_one_of_pos (by have := resu_nonneg q n; have := HE.out; omega)] at HS
    refine (HS).mono ?_
    rintro e w911 ⟨rfl, hb⟩
    replace XU := bx XU hb
    replace XV := bx XV hb
    replace R4 := dx R4 hb
    replace R5 := dx R5 hb
    replace HV8 := wl HV8 hb
    replace HV9 := wl HV9 hb
    replace B := bb B hb
    clear cc901a cc901b cc902a cc902b cc903a cc903b cc903c cc904a cc904b cc904c cc905a cc905b cc905c cc905d cc905e cc905f cc907a cc907b cc908a cc908b cc909a cc909b cc909c cc910a cc910b cc910c
    clear hb 
    clear HS
    obtain ⟨cc912a, cc912b⟩ := XU.out.both
    obtain ⟨cc913a, cc913b⟩ := XV.out.both
    obtain ⟨cc914a, cc914b, cc914c⟩ := R4.out.cells
    obtain ⟨cc915a, cc915b, cc915c⟩ := R5.out.cells
    go_wp2_with fail
    obtain ⟨cc916a, cc916b, cc916c⟩ := R4.out.cells
    obtain ⟨cc917a, cc917b⟩ := XU.out.both
    replace XU := hid XU.out.dr
    replace XV := hid XV.out.dr
    replace R4 := hid R4.out.dr
    replace R5 := hid R5.out.dr
    replace HV8 := hid HV8.out.drew
    replace HV9 := hid HV9.out.drew
    replace B := hid (Below.drew B.out)
    obtain ⟨cc918a, cc918b, cc918c⟩ := R4.out.cells
    obtain ⟨cc919a, cc919b⟩ := XU.out.both
    go_region_held3 (fun w' => w'.cell? ⟨w.heap.size + 1, 0, none⟩ = some (.bool s8) ∧ w'.cell? ⟨w.heap.size + 1, 1, none⟩ = some (.slice p8 n8 c8) ∧ w'.cell? ⟨w.heap.size + 1, 2, none⟩ = some (.int .i64 (n : Int)) ∧ w'.cell? ⟨g8, 0, none⟩ = some (.bool s8) ∧ w'.cell? ⟨g8, 1, none⟩ = some (.slice p8 n8 c8)) (go_keep) (first
      | (have hm := mk920_0; clear hm; go_at_call 95; refine (add_whl HV8.out HO.out (by decide) (by decide)).mono ?_; rintro e w924 ⟨v, rfl, hv, hb⟩; obtain ⟨s7, p7, n7, c7, rfl⟩ := hv.opened; replace XU := bx XU hb; replace XV := bx XV hb; replace R4 := dx R4 hb; replace R5 := dx R5 hb; replace HV8 := wl HV8 hb; replace HV9 := wl HV9 hb; replace HO := wl HO hb; replace B := bb B hb; clear cc922a cc922b cc922c cc923a cc923b; have HS7 := hid hv; clear hb hv; obtain ⟨cc925a, cc925b, cc925c⟩ := R4.out.cells; obtain ⟨cc926a, cc926b⟩ := XU.out.both; obtain ⟨⟨cc927a, cc927b⟩, ⟨cc927c, cc927d⟩, cc927e, cc927f⟩ := R4.out.stores; obtain ⟨r928a, r928b, r928c⟩ := R4.out.last B.out (by have := L8.out; have := L9.out; have := LR.out; omega) s8 p8 n8 c8 (n : Int); replace XU := hid (((XU.out.other (g2 := w.heap.size + 1) (by have := L8.out; have := L9.out; have := LR.out; omega) 0 (.bool s8)).other (g2 := w.heap.size + 1) (by have := L8.out; have := L9.out; have := LR.out; omega) 1 (.slice p8 n8 c8)).other (g2 := w.heap.size + 1) (by have := L8.out; have := L9.out; have := LR.out; omega) 2 (.int .i64 (n : Int))); replace XV := hid (((XV.out.other (g2 := w.heap.size + 1) (by have := L8.out; have := L9.out; have := LR.out; omega) 0 (.bool s8)).other (g2 := w.heap.size + 1) (by have := L8.out; have := L9.out; have := LR.out; omega) 1 (.slice p8 n8 c8)).other (g2 := w.heap.size + 1) (by have := L8.out; have := L9.out; have := LR.out; omega) 2 (.int .i64 (n : Int))); replace R5 := hid (((R5.out.other (g2 := w.heap.size + 1) (by have := L8.out; have := L9.out; have := LR.out; omega) 0 (.bool s8)).other (g2 := w.heap.size + 1) (by have := L8.out; have := L9.out; have := LR.out; omega) 1 (.slice p8 n8 c8)).other (g2 := w.heap.size + 1) (by have := L8.out; have := L9.out; have := LR.out; omega) 2 (.int .i64 (n : Int))); replace HV8 := hid (r928c HV8.out); replace HV9 := hid (r928c HV9.out); replace HO := hid (r928c HO.out); replace HS7 := hid (r928c HS7.out); replace R4 := hid r928a; replace B := hid r928b; clear r928a r928b r928c; obtain ⟨cc929a, cc929b, cc929c⟩ := R4.out.cells; obtain ⟨cc930a, cc930b⟩ := XU.out.both; obtain ⟨⟨cc931a, cc931b⟩, ⟨cc931c, cc931d⟩, cc931e, cc931f⟩ := R5.out.stores; obtain ⟨r932a, r932b, r932c⟩ := R5.out.last B.out (by have := L8.out; have := L9.out; have := LR.out; omega) s7 p7 n7 c7 (n : Int); replace XU := hid (((XU.out.other (g2 := w.heap.size + 1 + 1) (by have := L8.out; have := L9.out; have := LR.out; omega) 0 (.bool s7)).other (g2 := w.heap.size + 1 + 1) (by have := L8.out; have := L9.out; have := LR.out; omega) 1 (.slice p7 n7 c7)).other (g2 := w.heap.size + 1 + 1) (by have := L8.out; have := L9.out; have := LR.out; omega) 2 (.int .i64 (n : Int))); replace XV := hid (((XV.out.other (g2 := w.heap.size + 1 + 1) (by have := L8.out; have := L9.out; have := LR.out; omega) 0 (.bool s7)).other (g2 := w.heap.size + 1 + 1) (by have := L8.out; have := L9.out; have := LR.out; omega) 1 (.slice p7 n7 c7)).other (g2 := w.heap.size + 1 + 1) (by have := L8.out; have := L9.out; have := LR.out; omega) 2 (.int .i64 (n : Int))); replace R4 := hid (((R4.out.other (g2 := w.heap.size + 1 + 1) (by have := L8.out; have := L9.out; have := LR.out; omega) 0 (.bool s7)).other (g2 := w.heap.size + 1 + 1) (by have := L8.out; have := L9.out; have := LR.out; omega) 1 (.slice p7 n7 c7)).other (g2 := w.heap.size + 1 + 1) (by have := L8.out; have := L9.out; have := LR.out; omega) 2 (.int .i64 (n : Int))); replace HV8 := hid (r932c HV8.out); replace HV9 := hid (r932c HV9.out); replace HO := hid (r932c HO.out); replace HS7 := hid (r932c HS7.out); replace R5 := hid r932a; replace B := hid r932b; clear r932a r932b r932c; obtain ⟨cc933a, cc933b, cc933c⟩ := R4.out.cells; obtain ⟨cc934a, cc934b⟩ := XU.out.both; have mk920_1 := hid True.intro)
      | (go_at_call 101; refine (of_small 1 (by decide) _).mono ?_; rintro e w921 ⟨v, rfl, hv, hb⟩; obtain ⟨s6, p6, n6, c6, rfl⟩ := hv.opened; replace XU := bx XU hb; replace XV := bx XV hb; replace R4 := dx R4 hb; replace R5 := dx R5 hb; replace HV8 := wl HV8 hb; replace HV9 := wl HV9 hb; replace B := bb B hb; clear cc912a cc912b cc913a cc913b cc914a cc914b cc914c cc915a cc915b cc915c cc916a cc916b cc916c cc917a cc917b cc918a cc918b cc918c cc919a cc919b; have HO := hid hv; clear hb hv; obtain ⟨cc922a, cc922b, cc922c⟩ := R4.out.cells; obtain ⟨cc923a, cc923b⟩ := XU.out.both; have mk920_0 := hid True.intro))
    go_wp2_with fail
    refine bodyPost_ret (res_dd rfl rfl rfl R4.out R5.out) rfl ?_
    exact ⟨_, _, rfl, Dcl.mk1 (HV8.out.mono (by decide)), (by rw [highu, if_neg HE.out]; exact Dcl.mk1 (HS7.out.mono (by decide))), B.out⟩

theorem around_dec {w : World} {v : Value} {q : Rat} {n : Nat} (h : Rtl w v q 100) (hn : n ≤ 30) :
    Calls Tryz.prog 83 #[v, .int .i64 (n : Int)] w fun e w' => (∃ v u, e = .returned (.tuple #[v, u]) ∧ Dcl w' v (lowu q n) n 106 ∧ Dcl w' u (highu q n) n 106 ∧ Below w.heap.size w w') := by
  by_cases he : resu q n = 0
  · exact around_even h hn he
  · exact around_odd h hn he

end Go.Proofs.YtjeeepcnaaadmaaGreatDoor

/-
  PACKAGE dec: number.
-/
namespace Go.Proofs.YtjeeepcnaaadmaaGreatDoor
open Go.RowKit
open Num
set_option linter.unusedVariables false
set_option maxRecDepth 100000
set_option linter.unusedSimpArgs false

set_option maxHeartbeats 4000000 in
theorem number_dec {w : World} {v : Value} {z : Int} {n : Nat} (h : Dcl w v z n 106) (hn : n ≤ 30) :
    Calls Tryz.prog 84 #[v] w fun e w' => ∃ v, e = .returned v ∧ Rtl w' v (unq z n) 106 ∧ Below w.heap.size w w' := by
  obtain ⟨s1, p1, n1, c1, rfl⟩ := h.opened
  have h1 := h.one
  have HN := hid hn
  have B := hid (Below.refl w.heap.size w)
  have HZ := hid h1
  have hb1 := (Below.refl _ _).alloc (Nat.le_refl w.heap.size) (.cells #[.bool s1, .slice p1 n1 c1, .int .i64 (n : Int)] 119)
  have hx2 := Dbx.new w s1 p1 n1 c1 (n : Int)
  replace HZ := wl HZ hb1
  replace B := bb B hb1
  have X1 := hid hx2
  have hs3 : (w.alloc (.cells #[.bool s1, .slice p1 n1 c1, .int .i64 (n : Int)] 119)).heap.size = w.heap.size + 1 := by simp
  clear hb1 hx2
  have hb4 := (Below.refl _ _).alloc (Nat.le_refl (w.alloc (.cells #[.bool s1, .slice p1 n1 c1, .int .i64 (n : Int)] 119)).heap.size) (.cells #[.bool false, .slice none 0 0, .bool false, .slice none 0 0] 83)
  have hx5 := Nbx.new (w.alloc (.cells #[.bool s1, .slice p1 n1 c1, .int .i64 (n : Int)] 119)) false false (.slice none 0 0) (.slice none 0 0)
  rw [hs3] at hx5
  replace X1 := dx X1 hb4
  replace HZ := wl HZ hb4
  replace B := bb B hb4
  have XR := hid hx5
  have hs6 : ((w.alloc (.cells #[.bool s1, .slice p1 n1 c1, .int .i64 (n : Int)] 119)).alloc (.cells #[.bool false, .slice none 0 0, .bool false, .slice none 0 0] 83)).heap.size = w.heap.size + 1 + 1 := by simp [hs3]
  clear hb4 hx5
  clear hs6 h h1 hn
  go_enter Tryz.func84, Tryz.ntmps84
  obtain ⟨cc7a, cc7b, cc7c⟩ := X1.out.cells
  obtain ⟨cc8a, cc8b, cc8c, cc8d⟩ := XR.out.cells
  go_wp2_with fail
  generalize hW : (w.alloc (.cells #[.bool s1, .slice p1 n1 c1, .int .i64 (n : Int)] 119)).alloc (.cells #[.bool false, .slice none 0 0, .bool false, .slice none 0 0] 83) = W9 at *
  clear hW
  clear cc7a cc7b cc7c cc8a cc8b cc8c cc8d
  have LQ := hid XR.out.lt
  refine region_ops (by kernel_rfl) (by kernel_rfl) (fun a f a' w' => ∃ u3 u4 u5 u6 u7 u8 u9 u10 u11 u12 u13 v9 : Value, a' = { tmps := (((((((((((a.tmps.setIfInBounds 3 u3).setIfInBounds 4 u4).setIfInBounds 5 u5).setIfInBounds 6 u6).setIfInBounds 7 u7).setIfInBounds 8 u8).setIfInBounds 9 u9).setIfInBounds 10 u10).setIfInBounds 11 u11).setIfInBounds 12 u12).setIfInBounds 13 u13), defers := a.defers } ∧ Hid (Below W9.heap.size W9 w') ∧ Hid (f 0 = true → u6 = .pointer (some ⟨w.heap.size, 0, none⟩)) ∧ Hid (f 1 = true → u7 = (.agg #[.bool s1, .slice p1 n1 c1])) ∧ Hid (f 2 = true → u8 = .pointer (some ⟨w.heap.size, 2, none⟩)) ∧ Hid (f 3 = true → u9 = .int .i64 (n : Int)) ∧ Hid (f 4 = true → Whl w' u10 (pten n : Int) 4) ∧ Hid (f 5 = true → (u11 = .tuple #[v9, .nilIface] ∧ Rtl w' v9 (unq z n) 106)) ∧ Hid (f 6 = true → u5 = .tuple #[v9, .nilIface]) ∧ Hid (f 7 = true → u12 = v9) ∧ Hid (f 8 = true → u13 = .nilIface) ∧ Hid (f 9 = true → NewN W9 w' u3 (f 10) v9) ∧ Hid (f 11 = true → u4 = .nilIface) ∧ (f 6 = true → f 5 = true) ∧ (f 7 = true → f 6 = true) ∧ (f 8 = true → f 6 = true) ∧ (f 10 = true → f 9 = true) ∧ (f 10 = true → f 7 = true)) ?h0 ⟨?s0, ?s1, ?s2, ?s3, ?s4, ?s5, ?s6, ?s7, ?s8, ?s9, ?s10, ?s11, trivial⟩ ?hend
  case h0 =>
    simp only [List.setIfInBounds_toArray, List.set_cons_zero, List.set_cons_succ]
    exact ⟨_, _, _, _, _, _, _, _, _, _, _, .nilIface, rfl, hid (Below.drew (Below.refl _ _)), hid (fun h => by cases h), hid (fun h => by cases h), hid (fun h => by cases h), hid (fun h => by cases h), hid (fun h => by cases h), hid (fun h => by cases h), hid (fun h => by cases h), hid (fun h => by cases h), hid (fun h => by cases h), hid (fun h => by cases h), hid (fun h => by cases h), fun h => h, fun h => h, fun h => h, fun h => h, fun h => h⟩
  case s0 =>
    rintro f a1 w1 ⟨u3, u4, u5, u6, u7, u8, u9, u10, u11, u12, u13, v9, rfl, HBW, h0, h1, h2, h3, h4, h5, h6, h7, h8, h9, h11, o6_5, o7_6, o8_6, o10_9, o10_7⟩ hf hd K hK
    simp only [List.setIfInBounds_toArray, List.set_cons_zero, List.set_cons_succ] at hK ⊢
    replace hK := hid hK
    obtain ⟨y1, y2, y3⟩ := (X1.out.below HBW.out X1.out.lt).cells
    go_simp
    exact hK.out _ _ ⟨_, _, _, _, _, _, _, _, _, _, _, v9, rfl, HBW, hid (fun h => rfl), hid (fun h => h1.out h), hid (fun h => h2.out h), hid (fun h => h3.out h), hid (fun h => h4.out h), hid (fun h => h5.out h), hid (fun h => h6.out h), hid (fun h => h7.out h), hid (fun h => h8.out h), hid (fun h => h9.out h), hid (fun h => h11.out h), fun h => o6_5 h, fun h => o7_6 h, fun h => o8_6 h, fun h => o10_9 h, fun h => o10_7 h⟩
  case s1 =>
    rintro f a1 w1 ⟨u3, u4, u5, u6, u7, u8, u9, u10, u11, u12, u13, v9, rfl, HBW, h0, h1, h2, h3, h4, h5, h6, h7, h8, h9, h11, o6_5, o7_6, o8_6, o10_9, o10_7⟩ hf hd K hK
    simp only [List.setIfInBounds_toArray, List.set_cons_zero, List.set_cons_succ] at hK ⊢
    replace hK := hid hK
    simp [Region.binds] at hd
    obtain rfl := h0.out (by simp only [hd])
    obtain ⟨y1, y2, y3⟩ := (X1.out.below HBW.out X1.out.lt).cells
    go_simp
    exact hK.out _ _ ⟨_, _, _, _, _, _, _, _, _, _, _, v9, rfl, HBW, hid (fun h => rfl), hid (fun h => rfl), hid (fun h => h2.out h), hid (fun h => h3.out h), hid (fun h => h4.out h), hid (fun h => h5.out h), hid (fun h => h6.out h), hid (fun h => h7.out h), hid (fun h => h8.out h), hid (fun h => h9.out h), hid (fun h => h11.out h), fun h => o6_5 h, fun h => o7_6 h, fun h => o8_6 h, fun h => o10_9 h, fun h => o10_7 h⟩
  case s2 =>
    rintro f a1 w1 ⟨u3, u4, u5, u6, u7, u8, u9, u10, u11, u12, u13, v9, rfl, HBW, h0, h1, h2, h3, h4, h5, h6, h7, h8, h9, h11, o6_5, o7_6, o8_6, o10_9, o10_7⟩ hf hd K hK
    simp only [List.setIfInBounds_toArray, List.set_cons_zero, List.set_cons_succ] at hK ⊢
    replace hK := hid hK
    obtain ⟨y1, y2, y3⟩ := (X1.out.below HBW.out X1.out.lt).cells
    go_simp
    exact hK.out _ _ ⟨_, _, _, _, _, _, _, _, _, _, _, v9, rfl, HBW, hid (fun h => h0.out h), hid (fun h => h1.out h), hid (fun h => rfl), hid (fun h => h3.out h), hid (fun h => h4.out h), hid (fun h => h5.out h), hid (fun h => h6.out h), hid (fun h => h7.out h), hid (fun h => h8.out h), hid (fun h => h9.out h), hid (fun h => h11.out h), fun h => o6_5 h, fun h => o7_6 h, fun h => o8_6 h, fun h => o10_9 h, fun h => o10_7 h⟩
  case s3 =>
    rintro f a1 w1 ⟨u3, u4, u5, u6, u7, u8, u9, u10, u11, u12, u13, v9, rfl, HBW, h0, h1, h2, h3, h4, h5, h6, h7, h8, h9, h11, o6_5, o7_6, o8_6, o10_9, o10_7⟩ hf hd K hK
    simp only [List.setIfInBounds_toArray, List.set_cons_zero, List.set_cons_succ] at hK ⊢
    replace hK := hid hK
    simp [Region.binds] at hd
    obtain rfl := h2.out (by simp only [hd])
    obtain ⟨y1, y2, y3⟩ := (X1.out.below HBW.out X1.out.lt).cells
    go_simp
    exact hK.out _ _ ⟨_, _, _, _, _, _, _, _, _, _, _, v9, rfl, HBW, hid (fun h => h0.out h), hid (fun h => h1.out h), hid (fun h => rfl), hid (fun h => rfl), hid (fun h => h4.out h), hid (fun h => h5.out h), hid (fun h => h6.out h), hid (fun h => h7.out h), hid (fun h => h8.out h), hid (fun h => h9.out h), hid (fun h => h11.out h), fun h => o6_5 h, fun h => o7_6 h, fun h => o8_6 h, fun h => o10_9 h, fun h => o10_7 h⟩
  case s4 =>
    rintro f a1 w1 ⟨u3, u4, u5, u6, u7, u8, u9, u10, u11, u12, u13, v9, rfl, HBW, h0, h1, h2, h3, h4, h5, h6, h7, h8, h9, h11, o6_5, o7_6, o8_6, o10_9, o10_7⟩ hf hd K hK
    simp only [List.setIfInBounds_toArray, List.set_cons_zero, List.set_cons_succ] at hK ⊢
    replace hK := hid hK
    simp [Region.binds] at hd
    obtain rfl := h3.out (by simp only [hd])
    go_simp
    refine (pot_whl n HN.out _).mono ?_
    rintro e w2 ⟨v, rfl, hv, hb⟩
    go_wp2_with fail
    exact hK.out _ _ ⟨_, _, _, _, _, _, _, _, _, _, _, v9, rfl, hid (below_next HBW.out hb), hid (fun h => h0.out h), hid (fun h => h1.out h), hid (fun h => h2.out h), hid (fun h => rfl), hid (fun h => hv), hid (fun h => ⟨(h5.out h).1, (h5.out h).2.on hb⟩), hid (fun h => h6.out h), hid (fun h => h7.out h), hid (fun h => h8.out h), hid (fun h => (h9.out h).on hb), hid (fun h => h11.out h), fun h => o6_5 h, fun h => o7_6 h, fun h => o8_6 h, fun h => o10_9 h, fun h => o10_7 h⟩
  case s5 =>
    rintro f a1 w1 ⟨u3, u4, u5, u6, u7, u8, u9, u10, u11, u12, u13, v9, rfl, HBW, h0, h1, h2, h3, h4, h5, h6, h7, h8, h9, h11, o6_5, o7_6, o8_6, o10_9, o10_7⟩ hf hd K hK
    simp only [List.setIfInBounds_toArray, List.set_cons_zero, List.set_cons_succ] at hK ⊢
    replace hK := hid hK
    simp [Region.binds] at hd
    obtain rfl := h1.out (by simp only [hd])
    go_simp
    refine (quot_some (HZ.out.below HBW.out (Nat.le_refl _)) ((h4.out (by simp only [hd])).mono (show 4 ≤ 106 by decide)) (pten_ne n) (by decide)).mono ?_
    rintro e w2 ⟨v, rfl, hv, hb⟩
    go_wp2_with fail
    exact hK.out _ _ ⟨_, _, _, _, _, _, _, _, _, _, _, v, rfl, hid (below_next HBW.out hb), hid (fun h => h0.out h), hid (fun h => rfl), hid (fun h => h2.out h), hid (fun h => h3.out h), hid (fun h => (h4.out h).on hb), hid (fun h => ⟨rfl, hv⟩), hid (fun h => absurd (o6_5 h) (by rw [hf]; decide)), hid (fun h => absurd (o6_5 (o7_6 h)) (by rw [hf]; decide)), hid (fun h => h8.out h), hid (fun h => ((h9.out h).on hb).free (by cases e : f 10 with | false => rfl | true => exact absurd (o6_5 (o7_6 (o10_7 e))) (by rw [hf]; decide))), hid (fun h => h11.out h), fun _ => rfl, fun h => o7_6 h, fun h => o8_6 h, fun h => o10_9 h, fun h => o10_7 h⟩
  case s6 =>
    rintro f a1 w1 ⟨u3, u4, u5, u6, u7, u8, u9, u10, u11, u12, u13, v9, rfl, HBW, h0, h1, h2, h3, h4, h5, h6, h7, h8, h9, h11, o6_5, o7_6, o8_6, o10_9, o10_7⟩ hf hd K hK
    simp only [List.setIfInBounds_toArray, List.set_cons_zero, List.set_cons_succ] at hK ⊢
    replace hK := hid hK
    simp [Region.binds] at hd
    have g5 : f 5 = true := by simp only [hd]
    obtain ⟨rfl, e2⟩ := h5.out g5
    go_simp
    exact hK.out _ _ ⟨_, _, _, _, _, _, _, _, _, _, _, v9, rfl, HBW, hid (fun h => h0.out h), hid (fun h => h1.out h), hid (fun h => h2.out h), hid (fun h => h3.out h), hid (fun h => h4.out h), hid (fun h => ⟨rfl, e2⟩), hid (fun h => rfl), hid (fun h => h7.out h), hid (fun h => h8.out h), hid (fun h => h9.out h), hid (fun h => h11.out h), fun _ => g5, fun _ => rfl, fun _ => rfl, fun h => o10_9 h, fun h => o10_7 h⟩
  case s7 =>
    rintro f a1 w1 ⟨u3, u4, u5, u6, u7, u8, u9, u10, u11, u12, u13, v9, rfl, HBW, h0, h1, h2, h3, h4, h5, h6, h7, h8, h9, h11, o6_5, o7_6, o8_6, o10_9, o10_7⟩ hf hd K hK
    simp only [List.setIfInBounds_toArray, List.set_cons_zero, List.set_cons_succ] at hK ⊢
    replace hK := hid hK
    simp [Region.binds] at hd
    have g6 : f 6 = true := by simp only [hd]
    have e1 := h6.out g6
    subst e1
    go_simp
    exact hK.out _ _ ⟨_, _, _, _, _, _, _, _, _, _, _, v9, rfl, HBW, hid (fun h => h0.out h), hid (fun h => h1.out h), hid (fun h => h2.out h), hid (fun h => h3.out h), hid (fun h => h4.out h), hid (fun h => h5.out h), hid (fun h => h6.out h), hid (fun h => rfl), hid (fun h => h8.out h), hid (fun h => h9.out h), hid (fun h => h11.out h), fun h => o6_5 h, fun _ => g6, fun h => o8_6 h, fun h => o10_9 h, fun _ => rfl⟩
  case s8 =>
    rintro f a1 w1 ⟨u3, u4, u5, u6, u7, u8, u9, u10, u11, u12, u13, v9, rfl, HBW, h0, h1, h2, h3, h4, h5, h6, h7, h8, h9, h11, o6_5, o7_6, o8_6, o10_9, o10_7⟩ hf hd K hK
    simp only [List.setIfInBounds_toArray, List.set_cons_zero, List.set_cons_succ] at hK ⊢
    replace hK := hid hK
    simp [Region.binds] at hd
    have g6 : f 6 = true := by simp only [hd]
    have e1 := h6.out g6
    subst e1
    go_simp
    exact hK.out _ _ ⟨_, _, _, _, _, _, _, _, _, _, _, v9, rfl, HBW, hid (fun h => h0.out h), hid (fun h => h1.out h), hid (fun h => h2.out h), hid (fun h => h3.out h), hid (fun h => h4.out h), hid (fun h => h5.out h), hid (fun h => h6.out h), hid (fun h => h7.out h), hid (fun h => rfl), hid (fun h => h9.out h), hid (fun h => h11.out h), fun h => o6_5 h, fun h => o7_6 h, fun _ => g6, fun h => o10_9 h, fun h => o10_7 h⟩
  case s9 =>
    rintro f a1 w1 ⟨u3, u4, u5, u6, u7, u8, u9, u10, u11, u12, u13, v9, rfl, HBW, h0, h1, h2, h3, h4, h5, h6, h7, h8, h9, h11, o6_5, o7_6, o8_6, o10_9, o10_7⟩ hf hd K hK
    simp only [List.setIfInBounds_toArray, List.set_cons_zero, List.set_cons_succ] at hK ⊢
    replace hK := hid hK
    go_simp
    exact hK.out _ _ ⟨_, _, _, _, _, _, _, _, _, _, _, v9, rfl, hid (below_next HBW.out ((Below.refl _ _).alloc (Nat.le_refl _) _)), hid (fun h => h0.out h), hid (fun h => h1.out h), hid (fun h => h2.out h), hid (fun h => h3.out h), hid (fun h => (h4.out h).on ((Below.refl _ _).alloc (Nat.le_refl _) _)), hid (fun h => ⟨(h5.out h).1, (h5.out h).2.on ((Below.refl _ _).alloc (Nat.le_refl _) _)⟩), hid (fun h => h6.out h), hid (fun h => h7.out h), hid (fun h => h8.out h), hid (fun h => ⟨w1.heap.size, rfl, HBW.out.size, fun _ => Nbx.new w1 false false _ _, fun e => absurd (o10_9 e) (by rw [hf]; decide)⟩), hid (fun h => h11.out h), fun h => o6_5 h, fun h => o7_6 h, fun h => o8_6 h, fun _ => rfl, fun h => o10_7 h⟩
  case s10 =>
    rintro f a1 w1 ⟨u3, u4, u5, u6, u7, u8, u9, u10, u11, u12, u13, v9, rfl, HBW, h0, h1, h2, h3, h4, h5, h6, h7, h8, h9, h11, o6_5, o7_6, o8_6, o10_9, o10_7⟩ hf hd K hK
    simp only [List.setIfInBounds_toArray, List.set_cons_zero, List.set_cons_succ] at hK ⊢
    replace hK := hid hK
    simp [Region.binds] at hd
    have g7 : f 7 = true := by simp only [hd]
    have g9 : f 9 = true := by simp only [hd]
    have g5 : f 5 = true := o6_5 (o7_6 g7)
    have e8 := h7.out g7
    subst e8
    obtain ⟨g, rfl, hg, hn, _⟩ := h9.out g9
    replace hn := hn hf
    have hv9 := (h5.out g5).2
    obtain ⟨s9a, p9a, n9a, c9a, s9b, p9b, n9b, c9b, rfl⟩ := hv9.opened
    obtain ⟨t1, d9, t2, hd9⟩ := hv9.two
    obtain ⟨⟨c1, c2⟩, ⟨c3, c4⟩, ⟨c5, c6⟩, c7, c8⟩ := hn.stores
    obtain ⟨n1, n2, n3⟩ := hn.last HBW.out hg s9a s9b p9a p9b n9a n9b c9a c9b
    have HN2 := hid (And.intro n1 n2)
    have HV := hid (fun v z k h => @n3 v z k h)
    have H9 := hid (Rtl.mk2 (n3 t1) (n3 t2) hd9)
    clear n1 n2 n3
    go_simp
    exact hK.out _ _ ⟨_, _, _, _, _, _, _, _, _, _, _, _, rfl, hid HN2.out.2, hid (fun h => h0.out h), hid (fun h => h1.out h), hid (fun h => h2.out h), hid (fun h => h3.out h), hid (fun h => HV.out _ _ _ (h4.out h)), hid (fun h => ⟨(h5.out h).1, H9.out⟩), hid (fun h => h6.out h), hid (fun h => h7.out h), hid (fun h => h8.out h), hid (fun h => ⟨g, rfl, hg, fun e => by simp [more] at e, fun _ => ⟨_, _, _, _, _, _, _, _, rfl, HN2.out.1⟩⟩), hid (fun h => h11.out h), fun h => o6_5 h, fun h => o7_6 h, fun h => o8_6 h, fun _ => g9, fun _ => g7⟩
  case s11 =>
    rintro f a1 w1 ⟨u3, u4, u5, u6, u7, u8, u9, u10, u11, u12, u13, v9, rfl, HBW, h0, h1, h2, h3, h4, h5, h6, h7, h8, h9, h11, o6_5, o7_6, o8_6, o10_9, o10_7⟩ hf hd K hK
    simp only [List.setIfInBounds_toArray, List.set_cons_zero, List.set_cons_succ] at hK ⊢
    replace hK := hid hK
    simp [Region.binds] at hd
    obtain rfl := h8.out (by simp only [hd])
    go_simp
    exact hK.out _ _ ⟨_, _, _, _, _, _, _, _, _, _, _, v9, rfl, HBW, hid (fun h => h0.out h), hid (fun h => h1.out h), hid (fun h => h2.out h), hid (fun h => h3.out h), hid (fun h => h4.out h), hid (fun h => h5.out h), hid (fun h => h6.out h), hid (fun h => h7.out h), hid (fun h => rfl), hid (fun h => h9.out h), hid (fun h => rfl), fun h => o6_5 h, fun h => o7_6 h, fun h => o8_6 h, fun h => o10_9 h, fun h => o10_7 h⟩
  case hend =>
    rintro f a1 w1 ⟨u3, u4, u5, u6, u7, u8, u9, u10, u11, u12, u13, v9, rfl, HBW, h0, h1, h2, h3, h4, h5, h6, h7, h8, h9, h11, _⟩ hall
    simp only [List.setIfInBounds_toArray, List.set_cons_zero, List.set_cons_succ]
    have hv9 := (h5.out (hall 5 (by decide))).2
    obtain ⟨g, rfl, hg, _, hn⟩ := h9.out (hall 9 (by decide))
    obtain ⟨s9a, p9a, n9a, c9a, s9b, p9b, n9b, c9b, rfl, hn2⟩ := hn (hall 10 (by decide))
    obtain ⟨ht9, d9, hu9, hd9⟩ := hv9.two
    replace XR := nx XR HBW.out
    replace B := bb B HBW.out
    have XN := hid hn2
    have LN := hid hg
    have HT9 := hid ht9
    have HU9 := hid hu9
    have HD9 := hid hd9
    have LR := hid (show w.heap.size + 1 < W9.heap.size from LQ.out)
    clear h0 h1 h2 h3 h4 h5 h6 h7 h8 h9 h11 hall hn hn2 hg ht9 hu9 hd9 hv9 HBW
    obtain ⟨cc901a, cc901b, cc901c, cc901d⟩ := XN.out.cells
    obtain ⟨cc902a, cc902b, cc902c, cc902d⟩ := XR.out.cells
    obtain ⟨⟨cc903a, cc903b⟩, ⟨cc903c, cc903d⟩, ⟨cc903e, cc903f⟩, cc903g, cc903h⟩ := XR.out.stores
    obtain ⟨r904a, r904b, r904c⟩ := XR.out.last B.out (by have := LR.out; have := LN.out; omega) s9a s9b p9a p9b n9a n9b c9a c9b
    replace XN := hid ((((XN.out.other (g2 := w.heap.size + 1) (by have := LR.out; have := LN.out; omega) 0 (.bool s9a)).other (g2 := w.heap.size + 1) (by have := LR.out; have := LN.out; omega) 1 (.slice p9a n9a c9a)).other (g2 := w.heap.size + 1) (by have := LR.out; have := LN.out; omega) 2 (.bool s9b)).other (g2 := w.heap.size + 1) (by have := LR.out; have := LN.out; omega) 3 (.slice p9b n9b c9b))
    replace HT9 := hid (r904c HT9.out)
    replace HU9 := hid (r904c HU9.out)
    replace XR := hid r904a
    replace B := hid r904b
    clear r904a r904b r904c
    go_wp2_with fail
    refine bodyPost_ret (res_num rfl rfl XR.out) rfl ?_
    exact ⟨_, rfl, Rtl.mk2 HT9.out HU9.out HD9.out, B.out⟩

end Go.Proofs.YtjeeepcnaaadmaaGreatDoor

/-
  PACKAGE dec: isEven.
-/
namespace Go.Proofs.YtjeeepcnaaadmaaGreatDoor
open Go.RowKit
open Num
set_option linter.unusedVariables false
set_option maxRecDepth 100000
set_option linter.unusedSimpArgs false

set_option maxHeartbeats 4000000 in
theorem iseven_yes {w : World} {v : Value} {z : Int} {n : Nat} (h : Dcl w v z n 106) (he : z % 2 = 0) :
    Calls Tryz.prog 107 #[v] w fun e w' => e = .returned (.bool true) ∧ Below w.heap.size w w' := by
  obtain ⟨s1, p1, n1, c1, rfl⟩ := h.opened
  have h1 := h.one
  have HE := hid he
  have B := hid (Below.refl w.heap.size w)
  have HZ := hid h1
  have hb1 := (Below.refl _ _).alloc (Nat.le_refl w.heap.size) (.cells #[.bool s1, .slice p1 n1 c1, .int .i64 (n : Int)] 119)
  have hx2 := Dbx.new w s1 p1 n1 c1 (n : Int)
  replace HZ := wl HZ hb1
  replace B := bb B hb1
  have X1 := hid hx2
  have hs3 : (w.alloc (.cells #[.bool s1, .slice p1 n1 c1, .int .i64 (n : Int)] 119)).heap.size = w.heap.size + 1 := by simp
  clear hb1 hx2
  clear hs3 h h1 he
  go_enter Tryz.func107, Tryz.ntmps107
  obtain ⟨cc4a, cc4b, cc4c⟩ := X1.out.cells
  go_wp2_with fail
  generalize hW : w.alloc (.cells #[.bool s1, .slice p1 n1 c1, .int .i64 (n : Int)] 119) = W5 at *
  clear hW
  clear cc4a cc4b cc4c
  refine region_ops (by kernel_rfl) (by kernel_rfl) (fun a f a' w' => ∃ u3 u4 u5 u6 u7 u8 u9 u10 u11 u12 u13 v9 va : Value, a' = { tmps := (((((((((((a.tmps.setIfInBounds 3 u3).setIfInBounds 4 u4).setIfInBounds 5 u5).setIfInBounds 6 u6).setIfInBounds 7 u7).setIfInBounds 8 u8).setIfInBounds 9 u9).setIfInBounds 10 u10).setIfInBounds 11 u11).setIfInBounds 12 u12).setIfInBounds 13 u13), defers := a.defers } ∧ Hid (Below W5.heap.size W5 w') ∧ Hid (f 0 = true → u7 = .pointer (some ⟨w.heap.size, 0, none⟩)) ∧ Hid (f 1 = true → u8 = (.agg #[.bool s1, .slice p1 n1 c1])) ∧ Hid (f 2 = true → Whl w' u9 2 1) ∧ Hid (f 3 = true → (u10 = .tuple #[v9, va, .nilIface] ∧ Whl w' v9 (z / 2) 107 ∧ Whl w' va (z % 2) 1)) ∧ Hid (f 4 = true → u6 = .tuple #[v9, va, .nilIface]) ∧ Hid (f 5 = true → u11 = v9) ∧ Hid (f 6 = true → u12 = va) ∧ Hid (f 7 = true → u13 = .nilIface) ∧ Hid (f 8 = true → NewI W5 w' u3 (f 10) v9) ∧ Hid (f 9 = true → NewI W5 w' u4 (f 11) va) ∧ Hid (f 12 = true → u5 = .nilIface) ∧ (f 4 = true → f 3 = true) ∧ (f 5 = true → f 4 = true) ∧ (f 6 = true → f 4 = true) ∧ (f 7 = true → f 4 = true) ∧ (f 10 = true → f 8 = true) ∧ (f 10 = true → f 5 = true) ∧ (f 11 = true → f 9 = true) ∧ (f 11 = true → f 6 = true) ∧ (f 8 = true → f 9 = true → u3 ≠ u4)) ?h0 ⟨?s0, ?s1, ?s2, ?s3, ?s4, ?s5, ?s6, ?s7, ?s8, ?s9, ?s10, ?s11, ?s12, trivial⟩ ?hend
  case h0 =>
    simp only [List.setIfInBounds_toArray, List.set_cons_zero, List.set_cons_succ]
    exact ⟨_, _, _, _, _, _, _, _, _, _, _, .nilIface, .nilIface, rfl, hid (Below.drew (Below.refl _ _)), hid (fun h => by cases h), hid (fun h => by cases h), hid (fun h => by cases h), hid (fun h => by cases h), hid (fun h => by cases h), hid (fun h => by cases h), hid (fun h => by cases h), hid (fun h => by cases h), hid (fun h => by cases h), hid (fun h => by cases h), hid (fun h => by cases h), fun h => h, fun h => h, fun h => h, fun h => h, fun h => h, fun h => h, fun h => h, fun h => h, fun h => by cases h⟩
  case s0 =>
    rintro f a1 w1 ⟨u3, u4, u5, u6, u7, u8, u9, u10, u11, u12, u13, v9, va, rfl, HBW, h0, h1, h2, h3, h4, h5, h6, h7, h8, h9, h12, o4_3, o5_4, o6_4, o7_4, o10_8, o10_5, o11_9, o11_6, hne⟩ hf hd K hK
    simp only [List.setIfInBounds_toArray, List.set_cons_zero, List.set_cons_succ] at hK ⊢
    replace hK := hid hK
    obtain ⟨y1, y2, y3⟩ := (X1.out.below HBW.out X1.out.lt).cells
    go_simp
    exact hK.out _ _ ⟨_, _, _, _, _, _, _, _, _, _, _, v9, va, rfl, HBW, hid (fun h => rfl), hid (fun h => h1.out h), hid (fun h => h2.out h), hid (fun h => h3.out h), hid (fun h => h4.out h), hid (fun h => h5.out h), hid (fun h => h6.out h), hid (fun h => h7.out h), hid (fun h => h8.out h), hid (fun h => h9.out h), hid (fun h => h12.out h), fun h => o4_3 h, fun h => o5_4 h, fun h => o6_4 h, fun h => o7_4 h, fun h => o10_8 h, fun h => o10_5 h, fun h => o11_9 h, fun h => o11_6 h, fun h => hne h⟩
  case s1 =>
    rintro f a1 w1 ⟨u3, u4, u5, u6, u7, u8, u9, u10, u11, u12, u13, v9, va, rfl, HBW, h0, h1, h2, h3, h4, h5, h6, h7, h8, h9, h12, o4_3, o5_4, o6_4, o7_4, o10_8, o10_5, o11_9, o11_6, hne⟩ hf hd K hK
    simp only [List.setIfInBounds_toArray, List.set_cons_zero, List.set_cons_succ] at hK ⊢
    replace hK := hid hK
    simp [Region.binds] at hd
    obtain rfl := h0.out (by simp only [hd])
    obtain ⟨y1, y2, y3⟩ := (X1.out.below HBW.out X1.out.lt).cells
    go_simp
    exact hK.out _ _ ⟨_, _, _, _, _, _, _, _, _, _, _, v9, va, rfl, HBW, hid (fun h => rfl), hid (fun h => rfl), hid (fun h => h2.out h), hid (fun h => h3.out h), hid (fun h => h4.out h), hid (fun h => h5.out h), hid (fun h => h6.out h), hid (fun h => h7.out h), hid (fun h => h8.out h), hid (fun h => h9.out h), hid (fun h => h12.out h), fun h => o4_3 h, fun h => o5_4 h, fun h => o6_4 h, fun h => o7_4 h, fun h => o10_8 h, fun h => o10_5 h, fun h => o11_9 h, fun h => o11_6 h, fun h => hne h⟩
  case s2 =>
    rintro f a1 w1 ⟨u3, u4, u5, u6, u7, u8, u9, u10, u11, u12, u13, v9, va, rfl, HBW, h0, h1, h2, h3, h4, h5, h6, h7, h8, h9, h12, o4_3, o5_4, o6_4, o7_4, o10_8, o10_5, o11_9, o11_6, hne⟩ hf hd K hK
    simp only [List.setIfInBounds_toArray, List.set_cons_zero, List.set_cons_succ] at hK ⊢
    replace hK := hid hK
    go_simp
    refine (of_small 2 (by decide) _).mono ?_
    rintro e w2 ⟨v, rfl, hv, hb⟩
    go_wp2_with fail
    exact hK.out _ _ ⟨_, _, _, _, _, _, _, _, _, _, _, v9, va, rfl, hid (below_next HBW.out hb), hid (fun h => h0.out h), hid (fun h => h1.out h), hid (fun h => hv), hid (fun h => ⟨(h3.out h).1, (h3.out h).2.1.on hb, (h3.out h).2.2.on hb⟩), hid (fun h => h4.out h), hid (fun h => h5.out h), hid (fun h => h6.out h), hid (fun h => h7.out h), hid (fun h => (h8.out h).on hb), hid (fun h => (h9.out h).on hb), hid (fun h => h12.out h), fun h => o4_3 h, fun h => o5_4 h, fun h => o6_4 h, fun h => o7_4 h, fun h => o10_8 h, fun h => o10_5 h, fun h => o11_9 h, fun h => o11_6 h, fun h => hne h⟩
  case s3 =>
    rintro f a1 w1 ⟨u3, u4, u5, u6, u7, u8, u9, u10, u11, u12, u13, v9, va, rfl, HBW, h0, h1, h2, h3, h4, h5, h6, h7, h8, h9, h12, o4_3, o5_4, o6_4, o7_4, o10_8, o10_5, o11_9, o11_6, hne⟩ hf hd K hK
    simp only [List.setIfInBounds_toArray, List.set_cons_zero, List.set_cons_succ] at hK ⊢
    replace hK := hid hK
    simp [Region.binds] at hd
    obtain rfl := h1.out (by simp only [hd])
    go_simp
    refine (div_whl (HZ.out.below HBW.out (Nat.le_refl _)) (h2.out (by simp only [hd])) (by decide) (by decide) (by decide)).mono ?_
    rintro e w2 ⟨v, u, rfl, hv, hu, hb⟩
    go_wp2_with fail
    exact hK.out _ _ ⟨_, _, _, _, _, _, _, _, _, _, _, v, u, rfl, hid (below_next HBW.out hb), hid (fun h => h0.out h), hid (fun h => rfl), hid (fun h => (h2.out h).on hb), hid (fun h => ⟨rfl, hv, hu⟩), hid (fun h => absurd (o4_3 h) (by rw [hf]; decide)), hid (fun h => absurd (o4_3 (o5_4 h)) (by rw [hf]; decide)), hid (fun h => absurd (o4_3 (o6_4 h)) (by rw [hf]; decide)), hid (fun h => h7.out h), hid (fun h => ((h8.out h).on hb).free (by cases e : f 10 with | false => rfl | true => exact absurd (o4_3 (o5_4 (o10_5 e))) (by rw [hf]; decide))), hid (fun h => ((h9.out h).on hb).free (by cases e : f 11 with | false => rfl | true => exact absurd (o4_3 (o6_4 (o11_6 e))) (by rw [hf]; decide))), hid (fun h => h12.out h), fun _ => rfl, fun h => o5_4 h, fun h => o6_4 h, fun h => o7_4 h, fun h => o10_8 h, fun h => o10_5 h, fun h => o11_9 h, fun h => o11_6 h, fun h => hne h⟩
  case s4 =>
    rintro f a1 w1 ⟨u3, u4, u5, u6, u7, u8, u9, u10, u11, u12, u13, v9, va, rfl, HBW, h0, h1, h2, h3, h4, h5, h6, h7, h8, h9, h12, o4_3, o5_4, o6_4, o7_4, o10_8, o10_5, o11_9, o11_6, hne⟩ hf hd K hK
    simp only [List.setIfInBounds_toArray, List.set_cons_zero, List.set_cons_succ] at hK ⊢
    replace hK := hid hK
    simp [Region.binds] at hd
    have g3 : f 3 = true := by simp only [hd]
    obtain ⟨rfl, e2⟩ := h3.out g3
    go_simp
    exact hK.out _ _ ⟨_, _, _, _, _, _, _, _, _, _, _, v9, va, rfl, HBW, hid (fun h => h0.out h), hid (fun h => h1.out h), hid (fun h => h2.out h), hid (fun h => ⟨rfl, e2⟩), hid (fun h => rfl), hid (fun h => h5.out h), hid (fun h => h6.out h), hid (fun h => h7.out h), hid (fun h => h8.out h), hid (fun h => h9.out h), hid (fun h => h12.out h), fun _ => g3, fun _ => rfl, fun _ => rfl, fun _ => rfl, fun h => o10_8 h, fun h => o10_5 h, fun h => o11_9 h, fun h => o11_6 h, fun h => hne h⟩
  case s5 =>
    rintro f a1 w1 ⟨u3, u4, u5, u6, u7, u8, u9, u10, u11, u12, u13, v9, va, rfl, HBW, h0, h1, h2, h3, h4, h5, h6, h7, h8, h9, h12, o4_3, o5_4, o6_4, o7_4, o10_8, o10_5, o11_9, o11_6, hne⟩ hf hd K hK
    simp only [List.setIfInBounds_toArray, List.set_cons_zero, List.set_cons_succ] at hK ⊢
    replace hK := hid hK
    simp [Region.binds] at hd
    have g4 : f 4 = true := by simp only [hd]
    have e1 := h4.out g4
    subst e1
    go_simp
    exact hK.out _ _ ⟨_, _, _, _, _, _, _, _, _, _, _, v9, va, rfl, HBW, hid (fun h => h0.out h), hid (fun h => h1.out h), hid (fun h => h2.out h), hid (fun h => h3.out h), hid (fun h => h4.out h), hid (fun h => rfl), hid (fun h => h6.out h), hid (fun h => h7.out h), hid (fun h => h8.out h), hid (fun h => h9.out h), hid (fun h => h12.out h), fun h => o4_3 h, fun _ => g4, fun h => o6_4 h, fun h => o7_4 h, fun h => o10_8 h, fun _ => rfl, fun h => o11_9 h, fun h => o11_6 h, fun h => hne h⟩
  case s6 =>
    rintro f a1 w1 ⟨u3, u4, u5, u6, u7, u8, u9, u10, u11, u12, u13, v9, va, rfl, HBW, h0, h1, h2, h3, h4, h5, h6, h7, h8, h9, h12, o4_3, o5_4, o6_4, o7_4, o10_8, o10_5, o11_9, o11_6, hne⟩ hf hd K hK
    simp only [List.setIfInBounds_toArray, List.set_cons_zero, List.set_cons_succ] at hK ⊢
    replace hK := hid hK
    simp [Region.binds] at hd
    have g4 : f 4 = true := by simp only [hd]
    have e1 := h4.out g4
    subst e1
    go_simp
    exact hK.out _ _ ⟨_, _, _, _, _, _, _, _, _, _, _, v9, va, rfl, HBW, hid (fun h => h0.out h), hid (fun h => h1.out h), hid (fun h => h2.out h), hid (fun h => h3.out h), hid (fun h => h4.out h), hid (fun h => h5.out h), hid (fun h => rfl), hid (fun h => h7.out h), hid (fun h => h8.out h), hid (fun h => h9.out h), hid (fun h => h12.out h), fun h => o4_3 h, fun h => o5_4 h, fun _ => g4, fun h => o7_4 h, fun h => o10_8 h, fun h => o10_5 h, fun h => o11_9 h, fun _ => rfl, fun h => hne h⟩
  case s7 =>
    rintro f a1 w1 ⟨u3, u4, u5, u6, u7, u8, u9, u10, u11, u12, u13, v9, va, rfl, HBW, h0, h1, h2, h3, h4, h5, h6, h7, h8, h9, h12, o4_3, o5_4, o6_4, o7_4, o10_8, o10_5, o11_9, o11_6, hne⟩ hf hd K hK
    simp only [List.setIfInBounds_toArray, List.set_cons_zero, List.set_cons_succ] at hK ⊢
    replace hK := hid hK
    simp [Region.binds] at hd
    have g4 : f 4 = true := by simp only [hd]
    have e1 := h4.out g4
    subst e1
    go_simp
    exact hK.out _ _ ⟨_, _, _, _, _, _, _, _, _, _, _, v9, va, rfl, HBW, hid (fun h => h0.out h), hid (fun h => h1.out h), hid (fun h => h2.out h), hid (fun h => h3.out h), hid (fun h => h4.out h), hid (fun h => h5.out h), hid (fun h => h6.out h), hid (fun h => rfl), hid (fun h => h8.out h), hid (fun h => h9.out h), hid (fun h => h12.out h), fun h => o4_3 h, fun h => o5_4 h, fun h => o6_4 h, fun _ => g4, fun h => o10_8 h, fun h => o10_5 h, fun h => o11_9 h, fun h => o11_6 h, fun h => hne h⟩
  case s8 =>
    rintro f a1 w1 ⟨u3, u4, u5, u6, u7, u8, u9, u10, u11, u12, u13, v9, va, rfl, HBW, h0, h1, h2, h3, h4, h5, h6, h7, h8, h9, h12, o4_3, o5_4, o6_4, o7_4, o10_8, o10_5, o11_9, o11_6, hne⟩ hf hd K hK
    simp only [List.setIfInBounds_toArray, List.set_cons_zero, List.set_cons_succ] at hK ⊢
    replace hK := hid hK
    go_simp
    exact hK.out _ _ ⟨_, _, _, _, _, _, _, _, _, _, _, v9, va, rfl, hid (below_next HBW.out ((Below.refl _ _).alloc (Nat.le_refl _) _)), hid (fun h => h0.out h), hid (fun h => h1.out h), hid (fun h => (h2.out h).on ((Below.refl _ _).alloc (Nat.le_refl _) _)), hid (fun h => ⟨(h3.out h).1, (h3.out h).2.1.on ((Below.refl _ _).alloc (Nat.le_refl _) _), (h3.out h).2.2.on ((Below.refl _ _).alloc (Nat.le_refl _) _)⟩), hid (fun h => h4.out h), hid (fun h => h5.out h), hid (fun h => h6.out h), hid (fun h => h7.out h), hid (fun h => ⟨w1.heap.size, rfl, HBW.out.size, fun _ => Box.new w1 false none 0 0, fun e => absurd (o10_8 e) (by rw [hf]; decide)⟩), hid (fun h => (h9.out h).on ((Below.refl _ _).alloc (Nat.le_refl _) _)), hid (fun h => h12.out h), fun h => o4_3 h, fun h => o5_4 h, fun h => o6_4 h, fun h => o7_4 h, fun _ => rfl, fun h => o10_5 h, fun h => o11_9 h, fun h => o11_6 h, fun _ a e => by obtain ⟨g, e2, hlt⟩ := (h9.out a).lt; rw [e2] at e; cases e; exact absurd hlt (Nat.lt_irrefl _)⟩
  case s9 =>
    rintro f a1 w1 ⟨u3, u4, u5, u6, u7, u8, u9, u10, u11, u12, u13, v9, va, rfl, HBW, h0, h1, h2, h3, h4, h5, h6, h7, h8, h9, h12, o4_3, o5_4, o6_4, o7_4, o10_8, o10_5, o11_9, o11_6, hne⟩ hf hd K hK
    simp only [List.setIfInBounds_toArray, List.set_cons_zero, List.set_cons_succ] at hK ⊢
    replace hK := hid hK
    go_simp
    exact hK.out _ _ ⟨_, _, _, _, _, _, _, _, _, _, _, v9, va, rfl, hid (below_next HBW.out ((Below.refl _ _).alloc (Nat.le_refl _) _)), hid (fun h => h0.out h), hid (fun h => h1.out h), hid (fun h => (h2.out h).on ((Below.refl _ _).alloc (Nat.le_refl _) _)), hid (fun h => ⟨(h3.out h).1, (h3.out h).2.1.on ((Below.refl _ _).alloc (Nat.le_refl _) _), (h3.out h).2.2.on ((Below.refl _ _).alloc (Nat.le_refl _) _)⟩), hid (fun h => h4.out h), hid (fun h => h5.out h), hid (fun h => h6.out h), hid (fun h => h7.out h), hid (fun h => (h8.out h).on ((Below.refl _ _).alloc (Nat.le_refl _) _)), hid (fun h => ⟨w1.heap.size, rfl, HBW.out.size, fun _ => Box.new w1 false none 0 0, fun e => absurd (o11_9 e) (by rw [hf]; decide)⟩), hid (fun h => h12.out h), fun h => o4_3 h, fun h => o5_4 h, fun h => o6_4 h, fun h => o7_4 h, fun h => o10_8 h, fun h => o10_5 h, fun _ => rfl, fun h => o11_6 h, fun a _ e => by obtain ⟨g, e2, hlt⟩ := (h8.out a).lt; rw [e2] at e; cases e; exact absurd hlt (Nat.lt_irrefl _)⟩
  case s10 =>
    rintro f a1 w1 ⟨u3, u4, u5, u6, u7, u8, u9, u10, u11, u12, u13, v9, va, rfl, HBW, h0, h1, h2, h3, h4, h5, h6, h7, h8, h9, h12, o4_3, o5_4, o6_4, o7_4, o10_8, o10_5, o11_9, o11_6, hne⟩ hf hd K hK
    simp only [List.setIfInBounds_toArray, List.set_cons_zero, List.set_cons_succ] at hK ⊢
    replace hK := hid hK
    simp [Region.binds] at hd
    have gx : f 5 = true := by simp only [hd]
    have ga : f 8 = true := by simp only [hd]
    have gb : f 9 = true := by simp only [hd]
    have g3 : f 3 = true := o4_3 (o5_4 gx)
    have hne := hne (by simp only [hd]) (by simp only [hd])
    have e8 := h5.out gx
    subst e8
    obtain ⟨g, rfl, hg, hn, _⟩ := h8.out ga
    replace hn := hn hf
    have hv9 := (h3.out g3).2.1
    obtain ⟨s9, p9, n9, c9, rfl⟩ := hv9.opened
    obtain ⟨c1, c2, c3, c4⟩ := hn.stores
    obtain ⟨n1, n2, n3⟩ := hn.last HBW.out hg s9 p9 n9 c9
    have HN2 := hid (And.intro n1 n2)
    have HV := hid (fun v z k h => @n3 v z k h)
    have HO := hid ((h9.out gb).set (Ne.symm hne) (.bool s9) (.slice p9 n9 c9))
    clear n1 n2 n3
    go_simp
    exact hK.out _ _ ⟨_, _, _, _, _, _, _, _, _, _, _, _, va, rfl, hid HN2.out.2, hid (fun h => h0.out h), hid (fun h => h1.out h), hid (fun h => HV.out _ _ _ (h2.out h)), hid (fun h => ⟨(h3.out h).1, HV.out _ _ _ (h3.out h).2.1, HV.out _ _ _ (h3.out h).2.2⟩), hid (fun h => h4.out h), hid (fun h => h5.out h), hid (fun h => h6.out h), hid (fun h => h7.out h), hid (fun h => ⟨g, rfl, hg, fun e => by simp [more] at e, fun _ => ⟨_, _, _, _, rfl, HN2.out.1⟩⟩), hid (fun h => HO.out), hid (fun h => h12.out h), fun h => o4_3 h, fun h => o5_4 h, fun h => o6_4 h, fun h => o7_4 h, fun _ => ga, fun _ => gx, fun h => o11_9 h, fun h => o11_6 h, fun _ _ => hne⟩
  case s11 =>
    rintro f a1 w1 ⟨u3, u4, u5, u6, u7, u8, u9, u10, u11, u12, u13, v9, va, rfl, HBW, h0, h1, h2, h3, h4, h5, h6, h7, h8, h9, h12, o4_3, o5_4, o6_4, o7_4, o10_8, o10_5, o11_9, o11_6, hne⟩ hf hd K hK
    simp only [List.setIfInBounds_toArray, List.set_cons_zero, List.set_cons_succ] at hK ⊢
    replace hK := hid hK
    simp [Region.binds] at hd
    have gx : f 6 = true := by simp only [hd]
    have ga : f 9 = true := by simp only [hd]
    have gb : f 8 = true := by simp only [hd]
    have g3 : f 3 = true := o4_3 (o6_4 gx)
    have hne := hne (by simp only [hd]) (by simp only [hd])
    have e8 := h6.out gx
    subst e8
    obtain ⟨g, rfl, hg, hn, _⟩ := h9.out ga
    replace hn := hn hf
    have hv9 := (h3.out g3).2.2
    obtain ⟨s9, p9, n9, c9, rfl⟩ := hv9.opened
    obtain ⟨c1, c2, c3, c4⟩ := hn.stores
    obtain ⟨n1, n2, n3⟩ := hn.last HBW.out hg s9 p9 n9 c9
    have HN2 := hid (And.intro n1 n2)
    have HV := hid (fun v z k h => @n3 v z k h)
    have HO := hid ((h8.out gb).set hne (.bool s9) (.slice p9 n9 c9))
    clear n1 n2 n3
    go_simp
    exact hK.out _ _ ⟨_, _, _, _, _, _, _, _, _, _, _, v9, _, rfl, hid HN2.out.2, hid (fun h => h0.out h), hid (fun h => h1.out h), hid (fun h => HV.out _ _ _ (h2.out h)), hid (fun h => ⟨(h3.out h).1, HV.out _ _ _ (h3.out h).2.1, HV.out _ _ _ (h3.out h).2.2⟩), hid (fun h => h4.out h), hid (fun h => h5.out h), hid (fun h => h6.out h), hid (fun h => h7.out h), hid (fun h => HO.out), hid (fun h => ⟨g, rfl, hg, fun e => by simp [more] at e, fun _ => ⟨_, _, _, _, rfl, HN2.out.1⟩⟩), hid (fun h => h12.out h), fun h => o4_3 h, fun h => o5_4 h, fun h => o6_4 h, fun h => o7_4 h, fun h => o10_8 h, fun h => o10_5 h, fun _ => ga, fun _ => gx, fun _ _ => hne⟩
  case s12 =>
    rintro f a1 w1 ⟨u3, u4, u5, u6, u7, u8, u9, u10, u11, u12, u13, v9, va, rfl, HBW, h0, h1, h2, h3, h4, h5, h6, h7, h8, h9, h12, o4_3, o5_4, o6_4, o7_4, o10_8, o10_5, o11_9, o11_6, hne⟩ hf hd K hK
    simp only [List.setIfInBounds_toArray, List.set_cons_zero, List.set_cons_succ] at hK ⊢
    replace hK := hid hK
    simp [Region.binds] at hd
    obtain rfl := h7.out (by simp only [hd])
    go_simp
    exact hK.out _ _ ⟨_, _, _, _, _, _, _, _, _, _, _, v9, va, rfl, HBW, hid (fun h => h0.out h), hid (fun h => h1.out h), hid (fun h => h2.out h), hid (fun h => h3.out h), hid (fun h => h4.out h), hid (fun h => h5.out h), hid (fun h => h6.out h), hid (fun h => rfl), hid (fun h => h8.out h), hid (fun h => h9.out h), hid (fun h => rfl), fun h => o4_3 h, fun h => o5_4 h, fun h => o6_4 h, fun h => o7_4 h, fun h => o10_8 h, fun h => o10_5 h, fun h => o11_9 h, fun h => o11_6 h, fun h => hne h⟩
  case hend =>
    rintro f a1 w1 ⟨u3, u4, u5, u6, u7, u8, u9, u10, u11, u12, u13, v9, va, rfl, HBW, h0, h1, h2, h3, h4, h5, h6, h7, h8, h9, h12, _⟩ hall
    simp only [List.setIfInBounds_toArray, List.set_cons_zero, List.set_cons_succ]
    have hva := (h3.out (hall 3 (by decide))).2.2
    obtain ⟨g8, rfl, _⟩ := h8.out (hall 8 (by decide))
    obtain ⟨g, rfl, hg, _, hn⟩ := h9.out (hall 9 (by decide))
    obtain ⟨s9, p9, n9, c9, rfl, hn2⟩ := hn (hall 11 (by decide))
    replace B := bb B HBW.out
    have XN := hid hn2
    rw [HE.out] at hva
    have HV9 := hid hva
    clear h0 h1 h2 h3 h4 h5 h6 h7 h8 h9 h12 hall hn hn2 hg hva HBW
    obtain ⟨cc901a, cc901b⟩ := XN.out.both
    go_wp2_with fail
    have HS := sgn_whl HV9.out
    rw [show (0 : Int).sign = 0 from rfl] at HS
    refine (HS).mono ?_
    rintro e w902 ⟨rfl, hb⟩
    replace B := bb B hb
    clear cc901a cc901b
    clear hb 
    clear HS
    go_wp2_with fail
    go_ret
    exact ⟨rfl, B.out⟩

set_option maxHeartbeats 4000000 in
theorem iseven_no {w : World} {v : Value} {z : Int} {n : Nat} (h : Dcl w v z n 106) (he : z % 2 = 1) :
    Calls Tryz.prog 107 #[v] w fun e w' => e = .returned (.bool false) ∧ Below w.heap.size w w' := by
  obtain ⟨s1, p1, n1, c1, rfl⟩ := h.opened
  have h1 := h.one
  have HE := hid he
  have B := hid (Below.refl w.heap.size w)
  have HZ := hid h1
  have hb1 := (Below.refl _ _).alloc (Nat.le_refl w.heap.size) (.cells #[.bool s1, .slice p1 n1 c1, .int .i64 (n : Int)] 119)
  have hx2 := Dbx.new w s1 p1 n1 c1 (n : Int)
  replace HZ := wl HZ hb1
  replace B := bb B hb1
  have X1 := hid hx2
  have hs3 : (w.alloc (.cells #[.bool s1, .slice p1 n1 c1, .int .i64 (n : Int)] 119)).heap.size = w.heap.size + 1 := by simp
  clear hb1 hx2
  clear hs3 h h1 he
  go_enter Tryz.func107, Tryz.ntmps107
  obtain ⟨cc4a, cc4b, cc4c⟩ := X1.out.cells
  go_wp2_with fail
  generalize hW : w.alloc (.cells #[.bool s1, .slice p1 n1 c1, .int .i64 (n : Int)] 119) = W5 at *
  clear hW
  clear cc4a cc4b cc4c
  refine region_ops (by kernel_rfl) (by kernel_rfl) (fun a f a' w' => ∃ u3 u4 u5 u6 u7 u8 u9 u10 u11 u12 u13 v9 va : Value, a' = { tmps := (((((((((((a.tmps.setIfInBounds 3 u3).setIfInBounds 4 u4).setIfInBounds 5 u5).setIfInBounds 6 u6).setIfInBounds 7 u7).setIfInBounds 8 u8).setIfInBounds 9 u9).setIfInBounds 10 u10).setIfInBounds 11 u11).setIfInBounds 12 u12).setIfInBounds 13 u13), defers := a.defers } ∧ Hid (Below W5.heap.size W5 w') ∧ Hid (f 0 = true → u7 = .pointer (some ⟨w.heap.size, 0, none⟩)) ∧ Hid (f 1 = true → u8 = (.agg #[.bool s1, .slice p1 n1 c1])) ∧ Hid (f 2 = true → Whl w' u9 2 1) ∧ Hid (f 3 = true → (u10 = .tuple #[v9, va, .nilIface] ∧ Whl w' v9 (z / 2) 107 ∧ Whl w' va (z % 2) 1)) ∧ Hid (f 4 = true → u6 = .tuple #[v9, va, .nilIface]) ∧ Hid (f 5 = true → u11 = v9) ∧ Hid (f 6 = true → u12 = va) ∧ Hid (f 7 = true → u13 = .nilIface) ∧ Hid (f 8 = true → NewI W5 w' u3 (f 10) v9) ∧ Hid (f 9 = true → NewI W5 w' u4 (f 11) va) ∧ Hid (f 12 = true → u5 = .nilIface) ∧ (f 4 = true → f 3 = true) ∧ (f 5 = true → f 4 = true) ∧ (f 6 = true → f 4 = true) ∧ (f 7 = true → f 4 = true) ∧ (f 10 = true → f 8 = true) ∧ (f 10 = true → f 5 = true) ∧ (f 11 = true → f 9 = true) ∧ (f 11 = true → f 6 = true) ∧ (f 8 = true → f 9 = true → u3 ≠ u4)) ?h0 ⟨?s0, ?s1, ?s2, ?s3, ?s4, ?s5, ?s6, ?s7, ?s8, ?s9, ?s10, ?s11, ?s12, trivial⟩ ?hend
  case h0 =>
    simp only [List.setIfInBounds_toArray, List.set_cons_zero, List.set_cons_succ]
    exact ⟨_, _, _, _, _, _, _, _, _, _, _, .nilIface, .nilIface, rfl, hid (Below.drew (Below.refl _ _)), hid (fun h => by cases h), hid (fun h => by cases h), hid (fun h => by cases h), hid (fun h => by cases h), hid (fun h => by cases h), hid (fun h => by cases h), hid (fun h => by cases h), hid (fun h => by cases h), hid (fun h => by cases h), hid (fun h => by cases h), hid (fun h => by cases h), fun h => h, fun h => h, fun h => h, fun h => h, fun h => h, fun h => h, fun h => h, fun h => h, fun h => by cases h⟩
  case s0 =>
    rintro f a1 w1 ⟨u3, u4, u5, u6, u7, u8, u9, u10, u11, u12, u13, v9, va, rfl, HBW, h0, h1, h2, h3, h4, h5, h6, h7, h8, h9, h12, o4_3, o5_4, o6_4, o7_4, o10_8, o10_5, o11_9, o11_6, hne⟩ hf hd K hK
    simp only [List.setIfInBounds_toArray, List.set_cons_zero, List.set_cons_succ] at hK ⊢
    replace hK := hid hK
    obtain ⟨y1, y2, y3⟩ := (X1.out.below HBW.out X1.out.lt).cells
    go_simp
    exact hK.out _ _ ⟨_, _, _, _, _, _, _, _, _, _, _, v9, va, rfl, HBW, hid (fun h => rfl), hid (fun h => h1.out h), hid (fun h => h2.out h), hid (fun h => h3.out h), hid (fun h => h4.out h), hid (fun h => h5.out h), hid (fun h => h6.out h), hid (fun h => h7.out h), hid (fun h => h8.out h), hid (fun h => h9.out h), hid (fun h => h12.out h), fun h => o4_3 h, fun h => o5_4 h, fun h => o6_4 h, fun h => o7_4 h, fun h => o10_8 h, fun h => o10_5 h, fun h => o11_9 h, fun h => o11_6 h, fun h => hne h⟩
  case s1 =>
    rintro f a1 w1 ⟨u3, u4, u5, u6, u7, u8, u9, u10, u11, u12, u13, v9, va, rfl, HBW, h0, h1, h2, h3, h4, h5, h6, h7, h8, h9, h12, o4_3, o5_4, o6_4, o7_4, o10_8, o10_5, o11_9, o11_6, hne⟩ hf hd K hK
    simp only [List.setIfInBounds_toArray, List.set_cons_zero, List.set_cons_succ] at hK ⊢
    replace hK := hid hK
    simp [Region.binds] at hd
    obtain rfl := h0.out (by simp only [hd])
    obtain ⟨y1, y2, y3⟩ := (X1.out.below HBW.out X1.out.lt).cells
    go_simp
    exact hK.out _ _ ⟨_, _, _, _, _, _, _, _, _, _, _, v9, va, rfl, HBW, hid (fun h => rfl), hid (fun h => rfl), hid (fun h => h2.out h), hid (fun h => h3.out h), hid (fun h => h4.out h), hid (fun h => h5.out h), hid (fun h => h6.out h), hid (fun h => h7.out h), hid (fun h => h8.out h), hid (fun h => h9.out h), hid (fun h => h12.out h), fun h => o4_3 h, fun h => o5_4 h, fun h => o6_4 h, fun h => o7_4 h, fun h => o10_8 h, fun h => o10_5 h, fun h => o11_9 h, fun h => o11_6 h, fun h => hne h⟩
  case s2 =>
    rintro f a1 w1 ⟨u3, u4, u5, u6, u7, u8, u9, u10, u11, u12, u13, v9, va, rfl, HBW, h0, h1, h2, h3, h4, h5, h6, h7, h8, h9, h12, o4_3, o5_4, o6_4, o7_4, o10_8, o10_5, o11_9, o11_6, hne⟩ hf hd K hK
    simp only [List.setIfInBounds_toArray, List.set_cons_zero, List.set_cons_succ] at hK ⊢
    replace hK := hid hK
    go_simp
    refine (of_small 2 (by decide) _).mono ?_
    rintro e w2 ⟨v, rfl, hv, hb⟩
    go_wp2_with fail
    exact hK.out _ _ ⟨_, _, _, _, _, _, _, _, _, _, _, v9, va, rfl, hid (below_next HBW.out hb), hid (fun h => h0.out h), hid (fun h => h1.out h), hid (fun h => hv), hid (fun h => ⟨(h3.out h).1, (h3.out h).2.1.on hb, (h3.out h).2.2.on hb⟩), hid (fun h => h4.out h), hid (fun h => h5.out h), hid (fun h => h6.out h), hid (fun h => h7.out h), hid (fun h => (h8.out h).on hb), hid (fun h => (h9.out h).on hb), hid (fun h => h12.out h), fun h => o4_3 h, fun h => o5_4 h, fun h => o6_4 h, fun h => o7_4 h, fun h => o10_8 h, fun h => o10_5 h, fun h => o11_9 h, fun h => o11_6 h, fun h => hne h⟩
  case s3 =>
    rintro f a1 w1 ⟨u3, u4, u5, u6, u7, u8, u9, u10, u11, u12, u13, v9, va, rfl, HBW, h0, h1, h2, h3, h4, h5, h6, h7, h8, h9, h12, o4_3, o5_4, o6_4, o7_4, o10_8, o10_5, o11_9, o11_6, hne⟩ hf hd K hK
    simp only [List.setIfInBounds_toArray, List.set_cons_zero, List.set_cons_succ] at hK ⊢
    replace hK := hid hK
    simp [Region.binds] at hd
    obtain rfl := h1.out (by simp only [hd])
    go_simp
    refine (div_whl (HZ.out.below HBW.out (Nat.le_refl _)) (h2.out (by simp only [hd])) (by decide) (by decide) (by decide)).mono ?_
    rintro e w2 ⟨v, u, rfl, hv, hu, hb⟩
    go_wp2_with fail
    exact hK.out _ _ ⟨_, _, _, _, _, _, _, _, _, _, _, v, u, rfl, hid (below_next HBW.out hb), hid (fun h => h0.out h), hid (fun h => rfl), hid (fun h => (h2.out h).on hb), hid (fun h => ⟨rfl, hv, hu⟩), hid (fun h => absurd (o4_3 h) (by rw [hf]; decide)), hid (fun h => absurd (o4_3 (o5_4 h)) (by rw [hf]; decide)), hid (fun h => absurd (o4_3 (o6_4 h)) (by rw [hf]; decide)), hid (fun h => h7.out h), hid (fun h => ((h8.out h).on hb).free (by cases e : f 10 with | false => rfl | true => exact absurd (o4_3 (o5_4 (o10_5 e))) (by rw [hf]; decide))), hid (fun h => ((h9.out h).on hb).free (by cases e : f 11 with | false => rfl | true => exact absurd (o4_3 (o6_4 (o11_6 e))) (by rw [hf]; decide))), hid (fun h => h12.out h), fun _ => rfl, fun h => o5_4 h, fun h => o6_4 h, fun h => o7_4 h, fun h => o10_8 h, fun h => o10_5 h, fun h => o11_9 h, fun h => o11_6 h, fun h => hne h⟩
  case s4 =>
    rintro f a1 w1 ⟨u3, u4, u5, u6, u7, u8, u9, u10, u11, u12, u13, v9, va, rfl, HBW, h0, h1, h2, h3, h4, h5, h6, h7, h8, h9, h12, o4_3, o5_4, o6_4, o7_4, o10_8, o10_5, o11_9, o11_6, hne⟩ hf hd K hK
    simp only [List.setIfInBounds_toArray, List.set_cons_zero, List.set_cons_succ] at hK ⊢
    replace hK := hid hK
    simp [Region.binds] at hd
    have g3 : f 3 = true := by simp only [hd]
    obtain ⟨rfl, e2⟩ := h3.out g3
    go_simp
    exact hK.out _ _ ⟨_, _, _, _, _, _, _, _, _, _, _, v9, va, rfl, HBW, hid (fun h => h0.out h), hid (fun h => h1.out h), hid (fun h => h2.out h), hid (fun h => ⟨rfl, e2⟩), hid (fun h => rfl), hid (fun h => h5.out h), hid (fun h => h6.out h), hid (fun h => h7.out h), hid (fun h => h8.out h), hid (fun h => h9.out h), hid (fun h => h12.out h), fun _ => g3, fun _ => rfl, fun _ => rfl, fun _ => rfl, fun h => o10_8 h, fun h => o10_5 h, fun h => o11_9 h, fun h => o11_6 h, fun h => hne h⟩
  case s5 =>
    rintro f a1 w1 ⟨u3, u4, u5, u6, u7, u8, u9, u10, u11, u12, u13, v9, va, rfl, HBW, h0, h1, h2, h3, h4, h5, h6, h7, h8, h9, h12, o4_3, o5_4, o6_4, o7_4, o10_8, o10_5, o11_9, o11_6, hne⟩ hf hd K hK
    simp only [List.setIfInBounds_toArray, List.set_cons_zero, List.set_cons_succ] at hK ⊢
    replace hK := hid hK
    simp [Region.binds] at hd
    have g4 : f 4 = true := by simp only [hd]
    have e1 := h4.out g4
    subst e1
    go_simp
    exact hK.out _ _ ⟨_, _, _, _, _, _, _, _, _, _, _, v9, va, rfl, HBW, hid (fun h => h0.out h), hid (fun h => h1.out h), hid (fun h => h2.out h), hid (fun h => h3.out h), hid (fun h => h4.out h), hid (fun h => rfl), hid (fun h => h6.out h), hid (fun h => h7.out h), hid (fun h => h8.out h), hid (fun h => h9.out h), hid (fun h => h12.out h), fun h => o4_3 h, fun _ => g4, fun h => o6_4 h, fun h => o7_4 h, fun h => o10_8 h, fun _ => rfl, fun h => o11_9 h, fun h => o11_6 h, fun h => hne h⟩
  case s6 =>
    rintro f a1 w1 ⟨u3, u4, u5, u6, u7, u8, u9, u10, u11, u12, u13, v9, va, rfl, HBW, h0, h1, h2, h3, h4, h5, h6, h7, h8, h9, h12, o4_3, o5_4, o6_4, o7_4, o10_8, o10_5, o11_9, o11_6, hne⟩ hf hd K hK
    simp only [List.setIfInBounds_toArray, List.set_cons_zero, List.set_cons_succ] at hK ⊢
    replace hK := hid hK
    simp [Region.binds] at hd
    have g4 : f 4 = true := by simp only [hd]
    have e1 := h4.out g4
    subst e1
    go_simp
    exact hK.out _ _ ⟨_, _, _, _, _, _, _, _, _, _, _, v9, va, rfl, HBW, hid (fun h => h0.out h), hid (fun h => h1.out h), hid (fun h => h2.out h), hid (fun h => h3.out h), hid (fun h => h4.out h), hid (fun h => h5.out h), hid (fun h => rfl), hid (fun h => h7.out h), hid (fun h => h8.out h), hid (fun h => h9.out h), hid (fun h => h12.out h), fun h => o4_3 h, fun h => o5_4 h, fun _ => g4, fun h => o7_4 h, fun h => o10_8 h, fun h => o10_5 h, fun h => o11_9 h, fun _ => rfl, fun h => hne h⟩
  case s7 =>
    rintro f a1 w1 ⟨u3, u4, u5, u6, u7, u8, u9, u10, u11, u12, u13, v9, va, rfl, HBW, h0, h1, h2, h3, h4, h5, h6, h7, h8, h9, h12, o4_3, o5_4, o6_4, o7_4, o10_8, o10_5, o11_9, o11_6, hne⟩ hf hd K hK
    simp only [List.setIfInBounds_toArray, List.set_cons_zero, List.set_cons_succ] at hK ⊢
    replace hK := hid hK
    simp [Region.binds] at hd
    have g4 : f 4 = true := by simp only [hd]
    have e1 := h4.out g4
    subst e1
    go_simp
    exact hK.out _ _ ⟨_, _, _, _, _, _, _, _, _, _, _, v9, va, rfl, HBW, hid (fun h => h0.out h), hid (fun h => h1.out h), hid (fun h => h2.out h), hid (fun h => h3.out h), hid (fun h => h4.out h), hid (fun h => h5.out h), hid (fun h => h6.out h), hid (fun h => rfl), hid (fun h => h8.out h), hid (fun h => h9.out h), hid (fun h => h12.out h), fun h => o4_3 h, fun h => o5_4 h, fun h => o6_4 h, fun _ => g4, fun h => o10_8 h, fun h => o10_5 h, fun h => o11_9 h, fun h => o11_6 h, fun h => hne h⟩
  case s8 =>
    rintro f a1 w1 ⟨u3, u4, u5, u6, u7, u8, u9, u10, u11, u12, u13, v9, va, rfl, HBW, h0, h1, h2, h3, h4, h5, h6, h7, h8, h9, h12, o4_3, o5_4, o6_4, o7_4, o10_8, o10_5, o11_9, o11_6, hne⟩ hf hd K hK
    simp only [List.setIfInBounds_toArray, List.set_cons_zero, List.set_cons_succ] at hK ⊢
    replace hK := hid hK
    go_simp
    exact hK.out _ _ ⟨_, _, _, _, _, _, _, _, _, _, _, v9, va, rfl, hid (below_next HBW.out ((Below.refl _ _).alloc (Nat.le_refl _) _)), hid (fun h => h0.out h), hid (fun h => h1.out h), hid (fun h => (h2.out h).on ((Below.refl _ _).alloc (Nat.le_refl _) _)), hid (fun h => ⟨(h3.out h).1, (h3.out h).2.1.on ((Below.refl _ _).alloc (Nat.le_refl _) _), (h3.out h).2.2.on ((Below.refl _ _).alloc (Nat.le_refl _) _)⟩), hid (fun h => h4.out h), hid (fun h => h5.out h), hid (fun h => h6.out h), hid (fun h => h7.out h), hid (fun h => ⟨w1.heap.size, rfl, HBW.out.size, fun _ => Box.new w1 false none 0 0, fun e => absurd (o10_8 e) (by rw [hf]; decide)⟩), hid (fun h => (h9.out h).on ((Below.refl _ _).alloc (Nat.le_refl _) _)), hid (fun h => h12.out h), fun h => o4_3 h, fun h => o5_4 h, fun h => o6_4 h, fun h => o7_4 h, fun _ => rfl, fun h => o10_5 h, fun h => o11_9 h, fun h => o11_6 h, fun _ a e => by obtain ⟨g, e2, hlt⟩ := (h9.out a).lt; rw [e2] at e; cases e; exact absurd hlt (Nat.lt_irrefl _)⟩
  case s9 =>
    rintro f a1 w1 ⟨u3, u4, u5, u6, u7, u8, u9, u10, u11, u12, u13, v9, va, rfl, HBW, h0, h1, h2, h3, h4, h5, h6, h7, h8, h9, h12, o4_3, o5_4, o6_4, o7_4, o10_8, o10_5, o11_9, o11_6, hne⟩ hf hd K hK
    simp only [List.setIfInBounds_toArray, List.set_cons_zero, List.set_cons_succ] at hK ⊢
    replace hK := hid hK
    go_simp
    exact hK.out _ _ ⟨_, _, _, _, _, _, _, _, _, _, _, v9, va, rfl, hid (below_next HBW.out ((Below.refl _ _).alloc (Nat.le_refl _) _)), hid (fun h => h0.out h), hid (fun h => h1.out h), hid (fun h => (h2.out h).on ((Below.refl _ _).alloc (Nat.le_refl _) _)), hid (fun h => ⟨(h3.out h).1, (h3.out h).2.1.on ((Below.refl _ _).alloc (Nat.le_refl _) _), (h3.out h).2.2.on ((Below.refl _ _).alloc (Nat.le_refl _) _)⟩), hid (fun h => h4.out h), hid (fun h => h5.out h), hid (fun h => h6.out h), hid (fun h => h7.out h), hid (fun h => (h8.out h).on ((Below.refl _ _).alloc (Nat.le_refl _) _)), hid (fun h => ⟨w1.heap.size, rfl, HBW.out.size, fun _ => Box.new w1 false none 0 0, fun e => absurd (o11_9 e) (by rw [hf]; decide)⟩), hid (fun h => h12.out h), fun h => o4_3 h, fun h => o5_4 h, fun h => o6_4 h, fun h => o7_4 h, fun h => o10_8 h, fun h => o10_5 h, fun _ => rfl, fun h => o11_6 h, fun a _ e => by obtain ⟨g, e2, hlt⟩ := (h8.out a).lt; rw [e2] at e; cases e; exact absurd hlt (Nat.lt_irrefl _)⟩
  case s10 =>
    rintro f a1 w1 ⟨u3, u4, u5, u6, u7, u8, u9, u10, u11, u12, u13, v9, va, rfl, HBW, h0, h1, h2, h3, h4, h5, h6, h7, h8, h9, h12, o4_3, o5_4, o6_4, o7_4, o10_8, o10_5, o11_9, o11_6, hne⟩ hf hd K hK
    simp only [List.setIfInBounds_toArray, List.set_cons_zero, List.set_cons_succ] at hK ⊢
    replace hK := hid hK
    simp [Region.binds] at hd
    have gx : f 5 = true := by simp only [hd]
    have ga : f 8 = true := by simp only [hd]
    have gb : f 9 = true := by simp only [hd]
    have g3 : f 3 = true := o4_3 (o5_4 gx)
    have hne := hne (by simp only [hd]) (by simp only [hd])
    have e8 := h5.out gx
    subst e8
    obtain ⟨g, rfl, hg, hn, _⟩ := h8.out ga
    replace hn := hn hf
    have hv9 := (h3.out g3).2.1
    obtain ⟨s9, p9, n9, c9, rfl⟩ := hv9.opened
    obtain ⟨c1, c2, c3, c4⟩ := hn.stores
    obtain ⟨n1, n2, n3⟩ := hn.last HBW.out hg s9 p9 n9 c9
    have HN2 := hid (And.intro n1 n2)
    have HV := hid (fun v z k h => @n3 v z k h)
    have HO := hid ((h9.out gb).set (Ne.symm hne) (.bool s9) (.slice p9 n9 c9))
    clear n1 n2 n3
    go_simp
    exact hK.out _ _ ⟨_, _, _, _, _, _, _, _, _, _, _, _, va, rfl, hid HN2.out.2, hid (fun h => h0.out h), hid (fun h => h1.out h), hid (fun h => HV.out _ _ _ (h2.out h)), hid (fun h => ⟨(h3.out h).1, HV.out _ _ _ (h3.out h).2.1, HV.out _ _ _ (h3.out h).2.2⟩), hid (fun h => h4.out h), hid (fun h => h5.out h), hid (fun h => h6.out h), hid (fun h => h7.out h), hid (fun h => ⟨g, rfl, hg, fun e => by simp [more] at e, fun _ => ⟨_, _, _, _, rfl, HN2.out.1⟩⟩), hid (fun h => HO.out), hid (fun h => h12.out h), fun h => o4_3 h, fun h => o5_4 h, fun h => o6_4 h, fun h => o7_4 h, fun _ => ga, fun _ => gx, fun h => o11_9 h, fun h => o11_6 h, fun _ _ => hne⟩
  case s11 =>
    rintro f a1 w1 ⟨u3, u4, u5, u6, u7, u8, u9, u10, u11, u12, u13, v9, va, rfl, HBW, h0, h1, h2, h3, h4, h5, h6, h7, h8, h9, h12, o4_3, o5_4, o6_4, o7_4, o10_8, o10_5, o11_9, o11_6, hne⟩ hf hd K hK
    simp only [List.setIfInBounds_toArray, List.set_cons_zero, List.set_cons_succ] at hK ⊢
    replace hK := hid hK
    simp [Region.binds] at hd
    have gx : f 6 = true := by simp only [hd]
    have ga : f 9 = true := by simp only [hd]
    have gb : f 8 = true := by simp only [hd]
    have g3 : f 3 = true := o4_3 (o6_4 gx)
    have hne := hne (by simp only [hd]) (by simp only [hd])
    have e8 := h6.out gx
    subst e8
    obtain ⟨g, rfl, hg, hn, _⟩ := h9.out ga
    replace hn := hn hf
    have hv9 := (h3.out g3).2.2
    obtain ⟨s9, p9, n9, c9, rfl⟩ := hv9.opened
    obtain ⟨c1, c2, c3, c4⟩ := hn.stores
    obtain ⟨n1, n2, n3⟩ := hn.last HBW.out hg s9 p9 n9 c9
    have HN2 := hid (And.intro n1 n2)
    have HV := hid (fun v z k h => @n3 v z k h)
    have HO := hid ((h8.out gb).set hne (.bool s9) (.slice p9 n9 c9))
    clear n1 n2 n3
    go_simp
    exact hK.out _ _ ⟨_, _, _, _, _, _, _, _, _, _, _, v9, _, rfl, hid HN2.out.2, hid (fun h => h0.out h), hid (fun h => h1.out h), hid (fun h => HV.out _ _ _ (h2.out h)), hid (fun h => ⟨(h3.out h).1, HV.out _ _ _ (h3.out h).2.1, HV.out _ _ _ (h3.out h).2.2⟩), hid (fun h => h4.out h), hid (fun h => h5.out h), hid (fun h => h6.out h), hid (fun h => h7.out h), hid (fun h => HO.out), hid (fun h => ⟨g, rfl, hg, fun e => by simp [more] at e, fun _ => ⟨_, _, _, _, rfl, HN2.out.1⟩⟩), hid (fun h => h12.out h), fun h => o4_3 h, fun h => o5_4 h, fun h => o6_4 h, fun h => o7_4 h, fun h => o10_8 h, fun h => o10_5 h, fun _ => ga, fun _ => gx, fun _ _ => hne⟩
  case s12 =>
    rintro f a1 w1 ⟨u3, u4, u5, u6, u7, u8, u9, u10, u11, u12, u13, v9, va, rfl, HBW, h0, h1, h2, h3, h4, h5, h6, h7, h8, h9, h12, o4_3, o5_4, o6_4, o7_4, o10_8, o10_5, o11_9, o11_6, hne⟩ hf hd K hK
    simp only [List.setIfInBounds_toArray, List.set_cons_zero, List.set_cons_succ] at hK ⊢
    replace hK := hid hK
    simp [Region.binds] at hd
    obtain rfl := h7.out (by simp only [hd])
    go_simp
    exact hK.out _ _ ⟨_, _, _, _, _, _, _, _, _, _, _, v9, va, rfl, HBW, hid (fun h => h0.out h), hid (fun h => h1.out h), hid (fun h => h2.out h), hid (fun h => h3.out h), hid (fun h => h4.out h), hid (fun h => h5.out h), hid (fun h => h6.out h), hid (fun h => rfl), hid (fun h => h8.out h), hid (fun h => h9.out h), hid (fun h => rfl), fun h => o4_3 h, fun h => o5_4 h, fun h => o6_4 h, fun h => o7_4 h, fun h => o10_8 h, fun h => o10_5 h, fun h => o11_9 h, fun h => o11_6 h, fun h => hne h⟩
  case hend =>
    rintro f a1 w1 ⟨u3, u4, u5, u6, u7, u8, u9, u10, u11, u12, u13, v9, va, rfl, HBW, h0, h1, h2, h3, h4, h5, h6, h7, h8, h9, h12, _⟩ hall
    simp only [List.setIfInBounds_toArray, List.set_cons_zero, List.set_cons_succ]
    have hva := (h3.out (hall 3 (by decide))).2.2
    obtain ⟨g8, rfl, _⟩ := h8.out (hall 8 (by decide))
    obtain ⟨g, rfl, hg, _, hn⟩ := h9.out (hall 9 (by decide))
    obtain ⟨s9, p9, n9, c9, rfl, hn2⟩ := hn (hall 11 (by decide))
    replace B := bb B HBW.out
    have XN := hid hn2
    rw [HE.out] at hva
    have HV9 := hid hva
    clear h0 h1 h2 h3 h4 h5 h6 h7 h8 h9 h12 hall hn hn2 hg hva HBW
    obtain ⟨cc901a, cc901b⟩ := XN.out.both
    go_wp2_with fail
    have HS := sgn_whl HV9.out
    rw [show (1 : Int).sign = 1 from rfl] at HS
    refine (HS).mono ?_
    rintro e w902 ⟨rfl, hb⟩
    replace B := bb B hb
    clear cc901a cc901b
    clear hb 
    clear HS
    go_wp2_with fail
    go_ret
    exact ⟨rfl, B.out⟩

end Go.Proofs.YtjeeepcnaaadmaaGreatDoor
