import Derived.Test.YtfgiocjpfapfkaaGreatDoorBunProofDecTells18
import Derived.Test.YtfgiocjpfapfkaaGreatDoorBunProofDecTells19
import Derived.Test.YtfgiocjpfapfkaaGreatDoorBunProofDecTells12
/-
  PACKAGE dec: Around.
-/
namespace Go.Proofs.YtfgiocjpfapfkaaGreatDoor
open Go.RowKit
open Num
set_option linter.unusedVariables false
set_option maxRecDepth 100000
set_option linter.unusedSimpArgs false

set_option maxHeartbeats 2000000 in
theorem darnd_ok {a : ByteArray} {n : Nat} (h : GoodQ a) (hn : n ≤ 30) (w : World) :
    Calls Tryz.prog 10 #[.string a, .int .i64 (n : Int)] w fun e w' => e = .returned (.tuple #[.agg #[.string (qtxt (unq (lowu (qnum a) n) n)), .string (qtxt (unq (highu (qnum a) n) n))], .nilIface]) ∧ Below w.heap.size w w' := by
  have hne := errv_neq
  have hgd := errv_guard
  have H1 := hid (fun w => dread_ok h hn w)
  have HN := hid hn
  have B := hid (Below.refl w.heap.size w)
  have hb1 := (Below.refl _ _).alloc (Nat.le_refl w.heap.size) (.cells #[.string ⟨#[]⟩, .string ⟨#[]⟩] 33)
  have hx2 := Vbx.new w ⟨#[]⟩ ⟨#[]⟩
  replace B := bb B hb1
  have XV := hid hx2
  have hs3 : (w.alloc (.cells #[.string ⟨#[]⟩, .string ⟨#[]⟩] 33)).heap.size = w.heap.size + 1 := by simp
  clear hb1 hx2
  clear hs3 h hn
  go_enter Tryz.func10, Tryz.ntmps10
  obtain ⟨cc4a, cc4b⟩ := XV.out.both
  go_wp2_with fail
  generalize hW : w.alloc (.cells #[.string ⟨#[]⟩, .string ⟨#[]⟩] 33) = W5 at *
  clear hW
  refine (H1.out _).mono ?_
  rintro e w6 ⟨v, rfl, hv, hb⟩
  obtain ⟨s1a, p1a, n1a, c1a, s1b, p1b, n1b, c1b, rfl⟩ := hv.opened
  obtain ⟨ht1, d1, hu1, hd1⟩ := hv.two
  have HD1 := hid hd1
  replace XV := vx XV hb
  replace B := bb B hb
  clear cc4a cc4b
  have HT1 := hid ht1
  have HU1 := hid hu1
  clear hb hv ht1 hu1 hd1 H1
  have hb7 := (Below.refl _ _).alloc (Nat.le_refl w6.heap.size) (.cells #[.bool s1a, .slice p1a n1a c1a, .bool s1b, .slice p1b n1b c1b] 66)
  have hx8 := Nbx.new w6 s1a s1b (.slice p1a n1a c1a) (.slice p1b n1b c1b)
  have L0 := hid XV.out.lt
  replace XV := vx XV hb7
  replace HT1 := wl HT1 hb7
  replace HU1 := wl HU1 hb7
  replace B := bb B hb7
  have XA := hid hx8
  have hs9 : (w6.alloc (.cells #[.bool s1a, .slice p1a n1a c1a, .bool s1b, .slice p1b n1b c1b] 66)).heap.size = w6.heap.size + 1 := by simp
  clear hb7 hx8
  obtain ⟨cc10a, cc10b⟩ := XV.out.both
  obtain ⟨cc11a, cc11b, cc11c, cc11d⟩ := XA.out.cells
  go_wp2_with fail
  generalize hW : w6.alloc (.cells #[.bool s1a, .slice p1a n1a c1a, .bool s1b, .slice p1b n1b c1b] 66) = W12 at *
  clear hW
  refine (around_dec (Rtl.mk2 HT1.out HU1.out HD1.out) HN.out).mono ?_
  rintro e w13 ⟨v, u, rfl, hv, hu, hb⟩
  obtain ⟨s2, p2, n2, c2, rfl⟩ := hv.opened
  obtain ⟨s3, p3, n3, c3, rfl⟩ := hu.opened
  replace hv := hv.one
  replace hu := hu.one
  replace XV := vx XV hb
  replace B := bb B hb
  clear cc10a cc10b cc11a cc11b cc11c cc11d
  have HL := hid hv
  have HH := hid hu
  clear hb hv hu
  have hb14 := (Below.refl _ _).alloc (Nat.le_refl w13.heap.size) (.cells #[.bool s2, .slice p2 n2 c2, .int .i64 (n : Int)] 70)
  have hx15 := Dbx.new w13 s2 p2 n2 c2 (n : Int)
  have L1 := hid XV.out.lt
  replace XV := vx XV hb14
  replace HL := wl HL hb14
  replace HH := wl HH hb14
  replace B := bb B hb14
  have XL := hid hx15
  have hs16 : (w13.alloc (.cells #[.bool s2, .slice p2 n2 c2, .int .i64 (n : Int)] 70)).heap.size = w13.heap.size + 1 := by simp
  clear hb14 hx15
  have hb17 := (Below.refl _ _).alloc (Nat.le_refl (w13.alloc (.cells #[.bool s2, .slice p2 n2 c2, .int .i64 (n : Int)] 70)).heap.size) (.cells #[.bool s3, .slice p3 n3 c3, .int .i64 (n : Int)] 70)
  have hx18 := Dbx.new (w13.alloc (.cells #[.bool s2, .slice p2 n2 c2, .int .i64 (n : Int)] 70)) s3 p3 n3 c3 (n : Int)
  rw [hs16] at hx18
  replace XV := vx XV hb17
  replace XL := dx XL hb17
  replace HL := wl HL hb17
  replace HH := wl HH hb17
  replace B := bb B hb17
  have XH := hid hx18
  have hs19 : ((w13.alloc (.cells #[.bool s2, .slice p2 n2 c2, .int .i64 (n : Int)] 70)).alloc (.cells #[.bool s3, .slice p3 n3 c3, .int .i64 (n : Int)] 70)).heap.size = w13.heap.size + 1 + 1 := by simp [hs16]
  clear hb17 hx18
  obtain ⟨cc20a, cc20b⟩ := XV.out.both
  obtain ⟨cc21a, cc21b, cc21c⟩ := XL.out.cells
  obtain ⟨cc22a, cc22b, cc22c⟩ := XH.out.cells
  go_wp2_with fail
  generalize hW : (w13.alloc (.cells #[.bool s2, .slice p2 n2 c2, .int .i64 (n : Int)] 70)).alloc (.cells #[.bool s3, .slice p3 n3 c3, .int .i64 (n : Int)] 70) = W23 at *
  clear hW
  obtain ⟨cc24a, cc24b, cc24c⟩ := XL.out.cells
  obtain ⟨cc25a, cc25b, cc25c⟩ := XH.out.cells
  replace XV := hid XV.out.dr
  replace XL := hid XL.out.dr
  replace XH := hid XH.out.dr
  replace HL := hid HL.out.drew
  replace HH := hid HH.out.drew
  replace B := hid (Below.drew B.out)
  obtain ⟨cc26a, cc26b, cc26c⟩ := XL.out.cells
  obtain ⟨cc27a, cc27b, cc27c⟩ := XH.out.cells
  go_region_held3 (fun w' => w'.cell? ⟨w13.heap.size, 0, none⟩ = some (.bool s2) ∧ w'.cell? ⟨w13.heap.size, 1, none⟩ = some (.slice p2 n2 c2) ∧ w'.cell? ⟨w13.heap.size, 2, none⟩ = some (.int .i64 (n : Int)) ∧ w'.cell? ⟨w13.heap.size + 1, 0, none⟩ = some (.bool s3) ∧ w'.cell? ⟨w13.heap.size + 1, 1, none⟩ = some (.slice p3 n3 c3) ∧ w'.cell? ⟨w13.heap.size + 1, 2, none⟩ = some (.int .i64 (n : Int))) (go_keep) (first
    | (have hm := mk28_2; clear hm; go_at_call 33; refine (qstring (Rtl.mk2 HT5.out HU5.out HD5.out) (by decide)).mono ?_; rintro e w38 ⟨rfl, hb⟩; replace XV := vx XV hb; replace XL := dx XL hb; replace XH := dx XH hb; replace HL := wl HL hb; replace HH := wl HH hb; replace HT4 := wl HT4 hb; replace HU4 := wl HU4 hb; replace HT5 := wl HT5 hb; replace HU5 := wl HU5 hb; replace B := bb B hb; clear cc36a cc36b cc36c cc37a cc37b cc37c; clear hb ; obtain ⟨cc39a, cc39b, cc39c⟩ := XL.out.cells; obtain ⟨cc40a, cc40b, cc40c⟩ := XH.out.cells; obtain ⟨cc41a, cc41b, cc41c, cc41d⟩ := XV.out.stores; obtain ⟨r42a, r42b, r42c⟩ := XV.out.last B.out (by have := L0.out; have := L1.out; omega) (qtxt (unq (lowu (qnum a) n) n)) (qtxt (unq (highu (qnum a) n) n)); replace XL := hid ((XL.out.other (g2 := w.heap.size) (by have := L0.out; have := L1.out; omega) 0 (.string (qtxt (unq (lowu (qnum a) n) n)))).other (g2 := w.heap.size) (by have := L0.out; have := L1.out; omega) 1 (.string (qtxt (unq (highu (qnum a) n) n)))); replace XH := hid ((XH.out.other (g2 := w.heap.size) (by have := L0.out; have := L1.out; omega) 0 (.string (qtxt (unq (lowu (qnum a) n) n)))).other (g2 := w.heap.size) (by have := L0.out; have := L1.out; omega) 1 (.string (qtxt (unq (highu (qnum a) n) n)))); replace HL := hid (r42c HL.out); replace HH := hid (r42c HH.out); replace HT4 := hid (r42c HT4.out); replace HU4 := hid (r42c HU4.out); replace HT5 := hid (r42c HT5.out); replace HU5 := hid (r42c HU5.out); replace XV := hid r42a; replace B := hid r42b; clear r42a r42b r42c; obtain ⟨cc43a, cc43b, cc43c⟩ := XL.out.cells; obtain ⟨cc44a, cc44b, cc44c⟩ := XH.out.cells; have mk28_3 := hid True.intro)
    | (have hm := mk28_1; clear hm; go_at_call 32; refine (number_dec (Dcl.mk1 (n := n) HH.out) HN.out).mono ?_; rintro e w35 ⟨v, rfl, hv, hb⟩; obtain ⟨s5a, p5a, n5a, c5a, s5b, p5b, n5b, c5b, rfl⟩ := hv.opened; obtain ⟨ht5, d5, hu5, hd5⟩ := hv.two; have HD5 := hid hd5; replace XV := vx XV hb; replace XL := dx XL hb; replace XH := dx XH hb; replace HL := wl HL hb; replace HH := wl HH hb; replace HT4 := wl HT4 hb; replace HU4 := wl HU4 hb; replace B := bb B hb; clear cc33a cc33b cc33c cc34a cc34b cc34c; have HT5 := hid ht5; have HU5 := hid hu5; clear hb hv ht5 hu5 hd5; obtain ⟨cc36a, cc36b, cc36c⟩ := XL.out.cells; obtain ⟨cc37a, cc37b, cc37c⟩ := XH.out.cells; have mk28_2 := hid True.intro)
    | (have hm := mk28_0; clear hm; go_at_call 33; refine (qstring (Rtl.mk2 HT4.out HU4.out HD4.out) (by decide)).mono ?_; rintro e w32 ⟨rfl, hb⟩; replace XV := vx XV hb; replace XL := dx XL hb; replace XH := dx XH hb; replace HL := wl HL hb; replace HH := wl HH hb; replace HT4 := wl HT4 hb; replace HU4 := wl HU4 hb; replace B := bb B hb; clear cc30a cc30b cc30c cc31a cc31b cc31c; clear hb ; obtain ⟨cc33a, cc33b, cc33c⟩ := XL.out.cells; obtain ⟨cc34a, cc34b, cc34c⟩ := XH.out.cells; have mk28_1 := hid True.intro)
    | (go_at_call 32; refine (number_dec (Dcl.mk1 (n := n) HL.out) HN.out).mono ?_; rintro e w29 ⟨v, rfl, hv, hb⟩; obtain ⟨s4a, p4a, n4a, c4a, s4b, p4b, n4b, c4b, rfl⟩ := hv.opened; obtain ⟨ht4, d4, hu4, hd4⟩ := hv.two; have HD4 := hid hd4; replace XV := vx XV hb; replace XL := dx XL hb; replace XH := dx XH hb; replace HL := wl HL hb; replace HH := wl HH hb; replace B := bb B hb; clear cc20a cc20b cc21a cc21b cc21c cc22a cc22b cc22c cc24a cc24b cc24c cc25a cc25b cc25c cc26a cc26b cc26c cc27a cc27b cc27c; have HT4 := hid ht4; have HU4 := hid hu4; clear hb hv ht4 hu4 hd4; obtain ⟨cc30a, cc30b, cc30c⟩ := XL.out.cells; obtain ⟨cc31a, cc31b, cc31c⟩ := XH.out.cells; have mk28_0 := hid True.intro))
  go_wp2_with fail
  refine bodyPost_ret (res_ival_tmp rfl rfl rfl XV.out) rfl ?_
  exact ⟨rfl, B.out⟩

set_option maxHeartbeats 2000000 in
theorem darnd_bad {a : ByteArray} {d k : Int} (h : BadD a d k) (ha : a.size ≤ maxLen) (w : World) :
    Calls Tryz.prog 10 #[.string a, .int .i64 d] w fun e w' => e = .returned (.tuple #[.agg #[.string ⟨#[]⟩, .string ⟨#[]⟩], errno k]) ∧ Below w.heap.size w w' := by
  have hne := errv_neq
  have hgd := errv_guard
  have hkk := errv_some h.ne
  have H1 := hid (fun w => dread_bad h ha w)
  have B := hid (Below.refl w.heap.size w)
  have hb1 := (Below.refl _ _).alloc (Nat.le_refl w.heap.size) (.cells #[.string ⟨#[]⟩, .string ⟨#[]⟩] 33)
  have hx2 := Vbx.new w ⟨#[]⟩ ⟨#[]⟩
  replace B := bb B hb1
  have XV := hid hx2
  have hs3 : (w.alloc (.cells #[.string ⟨#[]⟩, .string ⟨#[]⟩] 33)).heap.size = w.heap.size + 1 := by simp
  clear hb1 hx2
  clear hs3 h
  go_enter Tryz.func10, Tryz.ntmps10
  obtain ⟨cc4a, cc4b⟩ := XV.out.both
  go_wp2_with fail
  generalize hW : w.alloc (.cells #[.string ⟨#[]⟩, .string ⟨#[]⟩] 33) = W5 at *
  clear hW
  refine (H1.out _).mono ?_
  rintro e w6 ⟨rfl, hb⟩
  replace XV := vx XV hb
  replace B := bb B hb
  clear cc4a cc4b
  clear hb H1
  have hb7 := (Below.refl _ _).alloc (Nat.le_refl w6.heap.size) (.cells #[.bool false, .slice none 0 0, .bool false, .slice none 0 0] 66)
  have hx8 := Nbx.new w6 false false (.slice none 0 0) (.slice none 0 0)
  have L0 := hid XV.out.lt
  replace XV := vx XV hb7
  replace B := bb B hb7
  have XA := hid hx8
  have hs9 : (w6.alloc (.cells #[.bool false, .slice none 0 0, .bool false, .slice none 0 0] 66)).heap.size = w6.heap.size + 1 := by simp
  clear hb7 hx8
  obtain ⟨cc10a, cc10b⟩ := XV.out.both
  obtain ⟨cc11a, cc11b, cc11c, cc11d⟩ := XA.out.cells
  obtain ⟨cc12a, cc12b, cc12c, cc12d⟩ := XV.out.stores
  obtain ⟨r13a, r13b, r13c⟩ := XV.out.last B.out (by have := L0.out; omega) ⟨#[]⟩ ⟨#[]⟩
  replace XA := hid ((XA.out.other (g2 := w.heap.size) (by have := L0.out; omega) 0 (.string ⟨#[]⟩)).other (g2 := w.heap.size) (by have := L0.out; omega) 1 (.string ⟨#[]⟩))
  replace XV := hid r13a
  replace B := hid r13b
  clear r13a r13b r13c
  obtain ⟨cc14a, cc14b⟩ := XV.out.both
  obtain ⟨cc15a, cc15b, cc15c, cc15d⟩ := XA.out.cells
  go_wp2_with fail
  refine bodyPost_ret (res_ival_tmp rfl rfl rfl XV.out) rfl ?_
  exact ⟨rfl, B.out⟩

theorem units_lt {a : ByteArray} (h : GoodQ a) {n : Nat} (hn : n ≤ 30) : (lowu (qnum a) n).natAbs < 10 ^ 131 ∧ (highu (qnum a) n).natAbs < 10 ^ 131 := by
  have h1 := (qnum_lt h).1
  have h2 := pten_le hn
  have h3 : ((qnum a).num * (pten n : Int) / ((qnum a).den : Int)).natAbs ≤ ((qnum a).num * (pten n : Int)).natAbs := natAbs_ediv_le _ _
  rw [Int.natAbs_mul, Int.natAbs_natCast] at h3
  have h4 : (qnum a).num.natAbs * pten n ≤ 10 ^ 100 * 1000000000000000000000000000000 := Nat.mul_le_mul (Nat.le_of_lt h1) h2
  have h5 : (10 : Nat) ^ 100 * 1000000000000000000000000000000 + 1 < 10 ^ 131 := by decide +kernel
  have h6 : (lowu (qnum a) n).natAbs ≤ (qnum a).num.natAbs * pten n := h3
  have h7 : (highu (qnum a) n).natAbs ≤ (qnum a).num.natAbs * pten n + 1 := by
    unfold highu
    split <;> omega
  generalize (10 : Nat) ^ 100 * 1000000000000000000000000000000 = m at *
  generalize (10 : Nat) ^ 131 = l at *
  omega
theorem size_unq {z : Int} (hz : z.natAbs < 10 ^ 131) {n : Nat} (hn : n ≤ 30) : (qtxt (unq z n)).size ≤ 1000 := by
  obtain ⟨h1, h2⟩ := divInt_le z (pten n : Int)
  have h3 := pten_le hn
  have h4 := pten_pos n
  have h5 : (1000000000000000000000000000000 : Nat) < 10 ^ 131 := by decide +kernel
  have := size_qtxt (q := unq z n) 131 (by decide) (Nat.lt_of_le_of_lt h1 hz) (Nat.lt_of_le_of_lt h2 (by rw [Int.natAbs_natCast]; generalize (10 : Nat) ^ 131 = l at *; omega))
  omega
/-- What Around tells. -/
def RTells (a : ByteArray) (d : Int) (l h : ByteArray) (k : Int) : Prop :=
  (k = 0 ∧ GoodQ a ∧ ∃ n : Nat, n ≤ 30 ∧ d = (n : Int) ∧ l = qtxt (unq (lowu (qnum a) n) n) ∧ h = qtxt (unq (highu (qnum a) n) n)) ∨ (k ≠ 0 ∧ BadD a d k ∧ l = ⟨#[]⟩ ∧ h = ⟨#[]⟩)
theorem darnd_any (a : ByteArray) (d : Int) (ha : a.size ≤ maxLen) (w : World) :
    Calls Tryz.prog 10 #[.string a, .int .i64 d] w fun e w' => ∃ l h k, e = .returned (.tuple #[.agg #[.string l, .string h], errv k]) ∧ RTells a d l h k ∧ l.size ≤ 1000 ∧ h.size ≤ 1000 ∧ Below w.heap.size w w' := by
  rcases dec_cases a d with ⟨h, n, hn, rfl⟩ | ⟨k, h⟩
  · refine (darnd_ok h hn w).mono ?_
    rintro e w' ⟨rfl, hb⟩
    obtain ⟨u1, u2⟩ := units_lt h hn
    exact ⟨_, _, 0, rfl, .inl ⟨rfl, h, n, hn, rfl, rfl, rfl⟩, size_unq u1 hn, size_unq u2 hn, hb⟩
  · refine (darnd_bad h ha w).mono ?_
    rintro e w' ⟨rfl, hb⟩
    exact ⟨_, _, k, by rw [errv_some h.ne], .inr ⟨h.ne, h, rfl, rfl⟩, Nat.zero_le _, Nat.zero_le _, hb⟩

end Go.Proofs.YtfgiocjpfapfkaaGreatDoor
