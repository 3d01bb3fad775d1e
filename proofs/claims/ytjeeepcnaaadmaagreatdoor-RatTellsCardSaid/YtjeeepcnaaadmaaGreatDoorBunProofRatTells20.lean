import Derived.Test.YtjeeepcnaaadmaaGreatDoorBunProofRatTells19
import Derived.Test.YtjeeepcnaaadmaaGreatDoorBunProofRatTells18
import Derived.Test.YtjeeepcnaaadmaaGreatDoorBunProofRatTells13
import Derived.Test.YtjeeepcnaaadmaaGreatDoorBunProofRatTells8
import Derived.Deep.RegionHeld3
/-
  THE REFERENCE: Two.
-/
namespace Go.Proofs.YtjeeepcnaaadmaaGreatDoor
open Go.RowKit
open Num4
open Num (dg isNat dval)
set_option linter.unusedVariables false
set_option maxRecDepth 100000
set_option linter.unusedSimpArgs false

set_option maxHeartbeats 4000000 in
theorem rtwo1 {a b : ByteArray} {k : Int} (h1 : BadQ a k) (ha : a.size ≤ maxLen) (hb0 : b.size ≤ maxLen) (w : World) :
    Calls Tryz.prog 13 #[.string a, .string b] w fun e w' => ∃ s5a p5a n5a c5a p5b n5b c5b s6a p6a n6a c6a p6b n6b c6b, e = .returned (.tuple #[.agg #[.bool s5a, .slice p5a n5a c5a, .slice p5b n5b c5b], .agg #[.bool s6a, .slice p6a n6a c6a, .slice p6b n6b c6b], .int .i64 k]) ∧ Below w.heap.size w w' := by
  have H1 := hid h1
  have hk0 : ¬ k = 0 := h1.ne
  have B := hid (Below.refl w.heap.size w)
  have hb1 := (Below.refl _ _).alloc (Nat.le_refl w.heap.size) (.cells #[.bool false, .slice none 0 0, .slice none 0 0] 28)
  have hx2 := Qbx.new w false none 0 0 none 0 0
  replace B := bb B hb1
  have R1 := hid hx2
  have hs3 : (w.alloc (.cells #[.bool false, .slice none 0 0, .slice none 0 0] 28)).heap.size = w.heap.size + 1 := by simp
  clear hb1 hx2
  have hb4 := (Below.refl _ _).alloc (Nat.le_refl (w.alloc (.cells #[.bool false, .slice none 0 0, .slice none 0 0] 28)).heap.size) (.cells #[.bool false, .slice none 0 0, .slice none 0 0] 28)
  have hx5 := Qbx.new (w.alloc (.cells #[.bool false, .slice none 0 0, .slice none 0 0] 28)) false none 0 0 none 0 0
  rw [hs3] at hx5
  replace R1 := qx R1 hb4
  replace B := bb B hb4
  have R2 := hid hx5
  have hs6 : ((w.alloc (.cells #[.bool false, .slice none 0 0, .slice none 0 0] 28)).alloc (.cells #[.bool false, .slice none 0 0, .slice none 0 0] 28)).heap.size = w.heap.size + 1 + 1 := by simp [hs3]
  clear hb4 hx5
  clear hs6 h1
  go_enter Tryz.func13, Tryz.ntmps13
  obtain ⟨cc7a, cc7b, cc7c⟩ := R1.out.cells
  obtain ⟨cc8a, cc8b, cc8c⟩ := R2.out.cells
  go_wp2_with fail
  generalize hW : (w.alloc (.cells #[.bool false, .slice none 0 0, .slice none 0 0] 28)).alloc (.cells #[.bool false, .slice none 0 0, .slice none 0 0] 28) = W9 at *
  clear hW
  refine (ratof_bad H1.out _ ha).mono ?_
  rintro e w10 ⟨s5a, p5a, n5a, c5a, p5b, n5b, c5b, rfl, hb⟩
  replace R1 := qx R1 hb
  replace R2 := qx R2 hb
  replace B := bb B hb
  clear cc7a cc7b cc7c cc8a cc8b cc8c
  clear hb 
  have hb11 := (Below.refl _ _).alloc (Nat.le_refl w10.heap.size) (.cells #[.bool s5a, .slice p5a n5a c5a, .slice p5b n5b c5b] 28)
  have hx12 := Qbx.new w10 s5a p5a n5a c5a p5b n5b c5b
  have L0 := hid R2.out.lt
  replace R1 := qx R1 hb11
  replace R2 := qx R2 hb11
  replace B := bb B hb11
  have X7 := hid hx12
  have hs13 : (w10.alloc (.cells #[.bool s5a, .slice p5a n5a c5a, .slice p5b n5b c5b] 28)).heap.size = w10.heap.size + 1 := by simp
  clear hb11 hx12
  obtain ⟨cc14a, cc14b, cc14c⟩ := R1.out.cells
  obtain ⟨cc15a, cc15b, cc15c⟩ := R2.out.cells
  obtain ⟨cc16a, cc16b, cc16c⟩ := X7.out.cells
  go_wp2_with fail
  generalize hW : w10.alloc (.cells #[.bool s5a, .slice p5a n5a c5a, .slice p5b n5b c5b] 28) = W17 at *
  clear hW
  obtain ⟨cc18a, cc18b, cc18c⟩ := X7.out.cells
  obtain ⟨⟨cc19a, cc19b⟩, ⟨cc19c, cc19d⟩, cc19e, cc19f⟩ := R1.out.stores
  obtain ⟨r20a, r20b, r20c⟩ := R1.out.last B.out (by have := L0.out; omega) s5a p5a n5a c5a p5b n5b c5b
  replace R2 := hid (((R2.out.other (g2 := w.heap.size) (by have := L0.out; omega) 0 (.bool s5a)).other (g2 := w.heap.size) (by have := L0.out; omega) 1 (.slice p5a n5a c5a)).other (g2 := w.heap.size) (by have := L0.out; omega) 2 (.slice p5b n5b c5b))
  replace X7 := hid (((X7.out.other (g2 := w.heap.size) (by have := L0.out; omega) 0 (.bool s5a)).other (g2 := w.heap.size) (by have := L0.out; omega) 1 (.slice p5a n5a c5a)).other (g2 := w.heap.size) (by have := L0.out; omega) 2 (.slice p5b n5b c5b))
  replace R1 := hid r20a
  replace B := hid r20b
  clear r20a r20b r20c
  obtain ⟨cc21a, cc21b, cc21c⟩ := X7.out.cells
  obtain ⟨⟨cc22a, cc22b⟩, ⟨cc22c, cc22d⟩, cc22e, cc22f⟩ := R2.out.stores
  obtain ⟨r23a, r23b, r23c⟩ := R2.out.last B.out (by have := L0.out; omega) s5a p5a n5a c5a p5b n5b c5b
  replace R1 := hid (((R1.out.other (g2 := w.heap.size + 1) (by have := L0.out; omega) 0 (.bool s5a)).other (g2 := w.heap.size + 1) (by have := L0.out; omega) 1 (.slice p5a n5a c5a)).other (g2 := w.heap.size + 1) (by have := L0.out; omega) 2 (.slice p5b n5b c5b))
  replace X7 := hid (((X7.out.other (g2 := w.heap.size + 1) (by have := L0.out; omega) 0 (.bool s5a)).other (g2 := w.heap.size + 1) (by have := L0.out; omega) 1 (.slice p5a n5a c5a)).other (g2 := w.heap.size + 1) (by have := L0.out; omega) 2 (.slice p5b n5b c5b))
  replace R2 := hid r23a
  replace B := hid r23b
  clear r23a r23b r23c
  obtain ⟨cc24a, cc24b, cc24c⟩ := X7.out.cells
  go_region_held3 (fun w' => w'.cell? ⟨w10.heap.size, 0, none⟩ = some (.bool s5a) ∧ w'.cell? ⟨w10.heap.size, 1, none⟩ = some (.slice p5a n5a c5a) ∧ w'.cell? ⟨w10.heap.size, 2, none⟩ = some (.slice p5b n5b c5b)) (go_keep) (first | fail)
  replace R1 := hid R1.out.dr
  replace R2 := hid R2.out.dr
  replace X7 := hid X7.out.dr
  replace B := hid (Below.drew B.out)
  go_wp2_with fail
  refine bodyPost_ret (res_qq_tmp rfl rfl rfl rfl R1.out R2.out) rfl ?_
  exact ⟨_, _, _, _, _, _, _, _, _, _, _, _, _, _, rfl, B.out⟩

set_option maxHeartbeats 4000000 in
theorem rtwo2 {a b : ByteArray} {k : Int} (h1 : GoodQ a) (h2 : BadQ b k) (ha : a.size ≤ maxLen) (hb0 : b.size ≤ maxLen) (w : World) :
    Calls Tryz.prog 13 #[.string a, .string b] w fun e w' => ∃ s5a p5a n5a c5a p5b n5b c5b s6a p6a n6a c6a p6b n6b c6b, e = .returned (.tuple #[.agg #[.bool s5a, .slice p5a n5a c5a, .slice p5b n5b c5b], .agg #[.bool s6a, .slice p6a n6a c6a, .slice p6b n6b c6b], .int .i64 k]) ∧ Below w.heap.size w w' := by
  have H1 := hid h1
  have H2 := hid h2
  have hk0 : ¬ k = 0 := h2.ne
  have B := hid (Below.refl w.heap.size w)
  have hb1 := (Below.refl _ _).alloc (Nat.le_refl w.heap.size) (.cells #[.bool false, .slice none 0 0, .slice none 0 0] 28)
  have hx2 := Qbx.new w false none 0 0 none 0 0
  replace B := bb B hb1
  have R1 := hid hx2
  have hs3 : (w.alloc (.cells #[.bool false, .slice none 0 0, .slice none 0 0] 28)).heap.size = w.heap.size + 1 := by simp
  clear hb1 hx2
  have hb4 := (Below.refl _ _).alloc (Nat.le_refl (w.alloc (.cells #[.bool false, .slice none 0 0, .slice none 0 0] 28)).heap.size) (.cells #[.bool false, .slice none 0 0, .slice none 0 0] 28)
  have hx5 := Qbx.new (w.alloc (.cells #[.bool false, .slice none 0 0, .slice none 0 0] 28)) false none 0 0 none 0 0
  rw [hs3] at hx5
  replace R1 := qx R1 hb4
  replace B := bb B hb4
  have R2 := hid hx5
  have hs6 : ((w.alloc (.cells #[.bool false, .slice none 0 0, .slice none 0 0] 28)).alloc (.cells #[.bool false, .slice none 0 0, .slice none 0 0] 28)).heap.size = w.heap.size + 1 + 1 := by simp [hs3]
  clear hb4 hx5
  clear hs6 h1 h2
  go_enter Tryz.func13, Tryz.ntmps13
  obtain ⟨cc7a, cc7b, cc7c⟩ := R1.out.cells
  obtain ⟨cc8a, cc8b, cc8c⟩ := R2.out.cells
  go_wp2_with fail
  generalize hW : (w.alloc (.cells #[.bool false, .slice none 0 0, .slice none 0 0] 28)).alloc (.cells #[.bool false, .slice none 0 0, .slice none 0 0] 28) = W9 at *
  clear hW
  refine (ratof_good H1.out _).mono ?_
  rintro e w10 ⟨v, rfl, hv, hb⟩
  obtain ⟨s5a, p5a, n5a, c5a, p5b, n5b, c5b, rfl⟩ := hv.opened
  obtain ⟨ht5, hu5⟩ := hv.two
  replace R1 := qx R1 hb
  replace R2 := qx R2 hb
  replace B := bb B hb
  clear cc7a cc7b cc7c cc8a cc8b cc8c
  have HN5 := hid ht5
  have HD5 := hid hu5
  clear hb hv ht5 hu5
  have hb11 := (Below.refl _ _).alloc (Nat.le_refl w10.heap.size) (.cells #[.bool s5a, .slice p5a n5a c5a, .slice p5b n5b c5b] 28)
  have hx12 := Qbx.new w10 s5a p5a n5a c5a p5b n5b c5b
  have L0 := hid R2.out.lt
  replace R1 := qx R1 hb11
  replace R2 := qx R2 hb11
  replace HN5 := wr HN5 hb11
  replace HD5 := wr HD5 hb11
  replace B := bb B hb11
  have X7 := hid hx12
  have hs13 : (w10.alloc (.cells #[.bool s5a, .slice p5a n5a c5a, .slice p5b n5b c5b] 28)).heap.size = w10.heap.size + 1 := by simp
  clear hb11 hx12
  obtain ⟨cc14a, cc14b, cc14c⟩ := R1.out.cells
  obtain ⟨cc15a, cc15b, cc15c⟩ := R2.out.cells
  obtain ⟨cc16a, cc16b, cc16c⟩ := X7.out.cells
  go_wp2_with fail
  generalize hW : w10.alloc (.cells #[.bool s5a, .slice p5a n5a c5a, .slice p5b n5b c5b] 28) = W17 at *
  clear hW
  refine (ratof_bad H2.out _ hb0).mono ?_
  rintro e w18 ⟨s6a, p6a, n6a, c6a, p6b, n6b, c6b, rfl, hb⟩
  replace R1 := qx R1 hb
  replace R2 := qx R2 hb
  replace X7 := qx X7 hb
  replace HN5 := wr HN5 hb
  replace HD5 := wr HD5 hb
  replace B := bb B hb
  clear cc14a cc14b cc14c cc15a cc15b cc15c cc16a cc16b cc16c
  clear hb 
  have hb19 := (Below.refl _ _).alloc (Nat.le_refl w18.heap.size) (.cells #[.bool s6a, .slice p6a n6a c6a, .slice p6b n6b c6b] 28)
  have hx20 := Qbx.new w18 s6a p6a n6a c6a p6b n6b c6b
  have L1 := hid X7.out.lt
  replace R1 := qx R1 hb19
  replace R2 := qx R2 hb19
  replace X7 := qx X7 hb19
  replace HN5 := wr HN5 hb19
  replace HD5 := wr HD5 hb19
  replace B := bb B hb19
  have X9 := hid hx20
  have hs21 : (w18.alloc (.cells #[.bool s6a, .slice p6a n6a c6a, .slice p6b n6b c6b] 28)).heap.size = w18.heap.size + 1 := by simp
  clear hb19 hx20
  obtain ⟨cc22a, cc22b, cc22c⟩ := R1.out.cells
  obtain ⟨cc23a, cc23b, cc23c⟩ := R2.out.cells
  obtain ⟨cc24a, cc24b, cc24c⟩ := X7.out.cells
  obtain ⟨cc25a, cc25b, cc25c⟩ := X9.out.cells
  go_wp2_with fail
  generalize hW : w18.alloc (.cells #[.bool s6a, .slice p6a n6a c6a, .slice p6b n6b c6b] 28) = W26 at *
  clear hW
  obtain ⟨cc27a, cc27b, cc27c⟩ := X7.out.cells
  obtain ⟨cc28a, cc28b, cc28c⟩ := X9.out.cells
  obtain ⟨⟨cc29a, cc29b⟩, ⟨cc29c, cc29d⟩, cc29e, cc29f⟩ := R1.out.stores
  obtain ⟨r30a, r30b, r30c⟩ := R1.out.last B.out (by have := L0.out; have := L1.out; omega) s5a p5a n5a c5a p5b n5b c5b
  replace R2 := hid (((R2.out.other (g2 := w.heap.size) (by have := L0.out; have := L1.out; omega) 0 (.bool s5a)).other (g2 := w.heap.size) (by have := L0.out; have := L1.out; omega) 1 (.slice p5a n5a c5a)).other (g2 := w.heap.size) (by have := L0.out; have := L1.out; omega) 2 (.slice p5b n5b c5b))
  replace X7 := hid (((X7.out.other (g2 := w.heap.size) (by have := L0.out; have := L1.out; omega) 0 (.bool s5a)).other (g2 := w.heap.size) (by have := L0.out; have := L1.out; omega) 1 (.slice p5a n5a c5a)).other (g2 := w.heap.size) (by have := L0.out; have := L1.out; omega) 2 (.slice p5b n5b c5b))
  replace X9 := hid (((X9.out.other (g2 := w.heap.size) (by have := L0.out; have := L1.out; omega) 0 (.bool s5a)).other (g2 := w.heap.size) (by have := L0.out; have := L1.out; omega) 1 (.slice p5a n5a c5a)).other (g2 := w.heap.size) (by have := L0.out; have := L1.out; omega) 2 (.slice p5b n5b c5b))
  replace HN5 := hid (r30c HN5.out)
  replace HD5 := hid (r30c HD5.out)
  replace R1 := hid r30a
  replace B := hid r30b
  clear r30a r30b r30c
  obtain ⟨cc31a, cc31b, cc31c⟩ := X7.out.cells
  obtain ⟨cc32a, cc32b, cc32c⟩ := X9.out.cells
  obtain ⟨⟨cc33a, cc33b⟩, ⟨cc33c, cc33d⟩, cc33e, cc33f⟩ := R2.out.stores
  obtain ⟨r34a, r34b, r34c⟩ := R2.out.last B.out (by have := L0.out; have := L1.out; omega) s6a p6a n6a c6a p6b n6b c6b
  replace R1 := hid (((R1.out.other (g2 := w.heap.size + 1) (by have := L0.out; have := L1.out; omega) 0 (.bool s6a)).other (g2 := w.heap.size + 1) (by have := L0.out; have := L1.out; omega) 1 (.slice p6a n6a c6a)).other (g2 := w.heap.size + 1) (by have := L0.out; have := L1.out; omega) 2 (.slice p6b n6b c6b))
  replace X7 := hid (((X7.out.other (g2 := w.heap.size + 1) (by have := L0.out; have := L1.out; omega) 0 (.bool s6a)).other (g2 := w.heap.size + 1) (by have := L0.out; have := L1.out; omega) 1 (.slice p6a n6a c6a)).other (g2 := w.heap.size + 1) (by have := L0.out; have := L1.out; omega) 2 (.slice p6b n6b c6b))
  replace X9 := hid (((X9.out.other (g2 := w.heap.size + 1) (by have := L0.out; have := L1.out; omega) 0 (.bool s6a)).other (g2 := w.heap.size + 1) (by have := L0.out; have := L1.out; omega) 1 (.slice p6a n6a c6a)).other (g2 := w.heap.size + 1) (by have := L0.out; have := L1.out; omega) 2 (.slice p6b n6b c6b))
  replace HN5 := hid (r34c HN5.out)
  replace HD5 := hid (r34c HD5.out)
  replace R2 := hid r34a
  replace B := hid r34b
  clear r34a r34b r34c
  obtain ⟨cc35a, cc35b, cc35c⟩ := X7.out.cells
  obtain ⟨cc36a, cc36b, cc36c⟩ := X9.out.cells
  go_region_held3 (fun w' => w'.cell? ⟨w10.heap.size, 0, none⟩ = some (.bool s5a) ∧ w'.cell? ⟨w10.heap.size, 1, none⟩ = some (.slice p5a n5a c5a) ∧ w'.cell? ⟨w10.heap.size, 2, none⟩ = some (.slice p5b n5b c5b) ∧ w'.cell? ⟨w18.heap.size, 0, none⟩ = some (.bool s6a) ∧ w'.cell? ⟨w18.heap.size, 1, none⟩ = some (.slice p6a n6a c6a) ∧ w'.cell? ⟨w18.heap.size, 2, none⟩ = some (.slice p6b n6b c6b)) (go_keep) (first | fail)
  replace R1 := hid R1.out.dr
  replace R2 := hid R2.out.dr
  replace X7 := hid X7.out.dr
  replace X9 := hid X9.out.dr
  replace HN5 := hid HN5.out.drew
  replace HD5 := hid HD5.out.drew
  replace B := hid (Below.drew B.out)
  go_wp2_with fail
  refine bodyPost_ret (res_qq_tmp rfl rfl rfl rfl R1.out R2.out) rfl ?_
  exact ⟨_, _, _, _, _, _, _, _, _, _, _, _, _, _, rfl, B.out⟩

set_option maxHeartbeats 4000000 in
theorem rtwo3 {a b : ByteArray} {k : Int} (h1 : GoodQ a) (h2 : GoodQ b) (ha : a.size ≤ maxLen) (hb0 : b.size ≤ maxLen) (w : World) :
    Calls Tryz.prog 13 #[.string a, .string b] w fun e w' => ∃ v u, e = .returned (.tuple #[v, u, .int .i64 0]) ∧ QR w' v (qnum a) 100 ∧ QR w' u (qnum b) 100 ∧ Below w.heap.size w w' := by
  have H1 := hid h1
  have H2 := hid h2
  have B := hid (Below.refl w.heap.size w)
  have hb1 := (Below.refl _ _).alloc (Nat.le_refl w.heap.size) (.cells #[.bool false, .slice none 0 0, .slice none 0 0] 28)
  have hx2 := Qbx.new w false none 0 0 none 0 0
  replace B := bb B hb1
  have R1 := hid hx2
  have hs3 : (w.alloc (.cells #[.bool false, .slice none 0 0, .slice none 0 0] 28)).heap.size = w.heap.size + 1 := by simp
  clear hb1 hx2
  have hb4 := (Below.refl _ _).alloc (Nat.le_refl (w.alloc (.cells #[.bool false, .slice none 0 0, .slice none 0 0] 28)).heap.size) (.cells #[.bool false, .slice none 0 0, .slice none 0 0] 28)
  have hx5 := Qbx.new (w.alloc (.cells #[.bool false, .slice none 0 0, .slice none 0 0] 28)) false none 0 0 none 0 0
  rw [hs3] at hx5
  replace R1 := qx R1 hb4
  replace B := bb B hb4
  have R2 := hid hx5
  have hs6 : ((w.alloc (.cells #[.bool false, .slice none 0 0, .slice none 0 0] 28)).alloc (.cells #[.bool false, .slice none 0 0, .slice none 0 0] 28)).heap.size = w.heap.size + 1 + 1 := by simp [hs3]
  clear hb4 hx5
  clear hs6 h1 h2
  go_enter Tryz.func13, Tryz.ntmps13
  obtain ⟨cc7a, cc7b, cc7c⟩ := R1.out.cells
  obtain ⟨cc8a, cc8b, cc8c⟩ := R2.out.cells
  go_wp2_with fail
  generalize hW : (w.alloc (.cells #[.bool false, .slice none 0 0, .slice none 0 0] 28)).alloc (.cells #[.bool false, .slice none 0 0, .slice none 0 0] 28) = W9 at *
  clear hW
  refine (ratof_good H1.out _).mono ?_
  rintro e w10 ⟨v, rfl, hv, hb⟩
  obtain ⟨s5a, p5a, n5a, c5a, p5b, n5b, c5b, rfl⟩ := hv.opened
  obtain ⟨ht5, hu5⟩ := hv.two
  replace R1 := qx R1 hb
  replace R2 := qx R2 hb
  replace B := bb B hb
  clear cc7a cc7b cc7c cc8a cc8b cc8c
  have HN5 := hid ht5
  have HD5 := hid hu5
  clear hb hv ht5 hu5
  have hb11 := (Below.refl _ _).alloc (Nat.le_refl w10.heap.size) (.cells #[.bool s5a, .slice p5a n5a c5a, .slice p5b n5b c5b] 28)
  have hx12 := Qbx.new w10 s5a p5a n5a c5a p5b n5b c5b
  have L0 := hid R2.out.lt
  replace R1 := qx R1 hb11
  replace R2 := qx R2 hb11
  replace HN5 := wr HN5 hb11
  replace HD5 := wr HD5 hb11
  replace B := bb B hb11
  have X7 := hid hx12
  have hs13 : (w10.alloc (.cells #[.bool s5a, .slice p5a n5a c5a, .slice p5b n5b c5b] 28)).heap.size = w10.heap.size + 1 := by simp
  clear hb11 hx12
  obtain ⟨cc14a, cc14b, cc14c⟩ := R1.out.cells
  obtain ⟨cc15a, cc15b, cc15c⟩ := R2.out.cells
  obtain ⟨cc16a, cc16b, cc16c⟩ := X7.out.cells
  go_wp2_with fail
  generalize hW : w10.alloc (.cells #[.bool s5a, .slice p5a n5a c5a, .slice p5b n5b c5b] 28) = W17 at *
  clear hW
  refine (ratof_good H2.out _).mono ?_
  rintro e w18 ⟨v, rfl, hv, hb⟩
  obtain ⟨s6a, p6a, n6a, c6a, p6b, n6b, c6b, rfl⟩ := hv.opened
  obtain ⟨ht6, hu6⟩ := hv.two
  replace R1 := qx R1 hb
  replace R2 := qx R2 hb
  replace X7 := qx X7 hb
  replace HN5 := wr HN5 hb
  replace HD5 := wr HD5 hb
  replace B := bb B hb
  clear cc14a cc14b cc14c cc15a cc15b cc15c cc16a cc16b cc16c
  have HN6 := hid ht6
  have HD6 := hid hu6
  clear hb hv ht6 hu6
  have hb19 := (Below.refl _ _).alloc (Nat.le_refl w18.heap.size) (.cells #[.bool s6a, .slice p6a n6a c6a, .slice p6b n6b c6b] 28)
  have hx20 := Qbx.new w18 s6a p6a n6a c6a p6b n6b c6b
  have L1 := hid X7.out.lt
  replace R1 := qx R1 hb19
  replace R2 := qx R2 hb19
  replace X7 := qx X7 hb19
  replace HN5 := wr HN5 hb19
  replace HD5 := wr HD5 hb19
  replace HN6 := wr HN6 hb19
  replace HD6 := wr HD6 hb19
  replace B := bb B hb19
  have X9 := hid hx20
  have hs21 : (w18.alloc (.cells #[.bool s6a, .slice p6a n6a c6a, .slice p6b n6b c6b] 28)).heap.size = w18.heap.size + 1 := by simp
  clear hb19 hx20
  obtain ⟨cc22a, cc22b, cc22c⟩ := R1.out.cells
  obtain ⟨cc23a, cc23b, cc23c⟩ := R2.out.cells
  obtain ⟨cc24a, cc24b, cc24c⟩ := X7.out.cells
  obtain ⟨cc25a, cc25b, cc25c⟩ := X9.out.cells
  go_wp2_with fail
  generalize hW : w18.alloc (.cells #[.bool s6a, .slice p6a n6a c6a, .slice p6b n6b c6b] 28) = W26 at *
  clear hW
  obtain ⟨cc27a, cc27b, cc27c⟩ := X7.out.cells
  obtain ⟨cc28a, cc28b, cc28c⟩ := X9.out.cells
  obtain ⟨⟨cc29a, cc29b⟩, ⟨cc29c, cc29d⟩, cc29e, cc29f⟩ := R1.out.stores
  obtain ⟨r30a, r30b, r30c⟩ := R1.out.last B.out (by have := L0.out; have := L1.out; omega) s5a p5a n5a c5a p5b n5b c5b
  replace R2 := hid (((R2.out.other (g2 := w.heap.size) (by have := L0.out; have := L1.out; omega) 0 (.bool s5a)).other (g2 := w.heap.size) (by have := L0.out; have := L1.out; omega) 1 (.slice p5a n5a c5a)).other (g2 := w.heap.size) (by have := L0.out; have := L1.out; omega) 2 (.slice p5b n5b c5b))
  replace X7 := hid (((X7.out.other (g2 := w.heap.size) (by have := L0.out; have := L1.out; omega) 0 (.bool s5a)).other (g2 := w.heap.size) (by have := L0.out; have := L1.out; omega) 1 (.slice p5a n5a c5a)).other (g2 := w.heap.size) (by have := L0.out; have := L1.out; omega) 2 (.slice p5b n5b c5b))
  replace X9 := hid (((X9.out.other (g2 := w.heap.size) (by have := L0.out; have := L1.out; omega) 0 (.bool s5a)).other (g2 := w.heap.size) (by have := L0.out; have := L1.out; omega) 1 (.slice p5a n5a c5a)).other (g2 := w.heap.size) (by have := L0.out; have := L1.out; omega) 2 (.slice p5b n5b c5b))
  replace HN5 := hid (r30c HN5.out)
  replace HD5 := hid (r30c HD5.out)
  replace HN6 := hid (r30c HN6.out)
  replace HD6 := hid (r30c HD6.out)
  replace R1 := hid r30a
  replace B := hid r30b
  clear r30a r30b r30c
  obtain ⟨cc31a, cc31b, cc31c⟩ := X7.out.cells
  obtain ⟨cc32a, cc32b, cc32c⟩ := X9.out.cells
  obtain ⟨⟨cc33a, cc33b⟩, ⟨cc33c, cc33d⟩, cc33e, cc33f⟩ := R2.out.stores
  obtain ⟨r34a, r34b, r34c⟩ := R2.out.last B.out (by have := L0.out; have := L1.out; omega) s6a p6a n6a c6a p6b n6b c6b
  replace R1 := hid (((R1.out.other (g2 := w.heap.size + 1) (by have := L0.out; have := L1.out; omega) 0 (.bool s6a)).other (g2 := w.heap.size + 1) (by have := L0.out; have := L1.out; omega) 1 (.slice p6a n6a c6a)).other (g2 := w.heap.size + 1) (by have := L0.out; have := L1.out; omega) 2 (.slice p6b n6b c6b))
  replace X7 := hid (((X7.out.other (g2 := w.heap.size + 1) (by have := L0.out; have := L1.out; omega) 0 (.bool s6a)).other (g2 := w.heap.size + 1) (by have := L0.out; have := L1.out; omega) 1 (.slice p6a n6a c6a)).other (g2 := w.heap.size + 1) (by have := L0.out; have := L1.out; omega) 2 (.slice p6b n6b c6b))
  replace X9 := hid (((X9.out.other (g2 := w.heap.size + 1) (by have := L0.out; have := L1.out; omega) 0 (.bool s6a)).other (g2 := w.heap.size + 1) (by have := L0.out; have := L1.out; omega) 1 (.slice p6a n6a c6a)).other (g2 := w.heap.size + 1) (by have := L0.out; have := L1.out; omega) 2 (.slice p6b n6b c6b))
  replace HN5 := hid (r34c HN5.out)
  replace HD5 := hid (r34c HD5.out)
  replace HN6 := hid (r34c HN6.out)
  replace HD6 := hid (r34c HD6.out)
  replace R2 := hid r34a
  replace B := hid r34b
  clear r34a r34b r34c
  obtain ⟨cc35a, cc35b, cc35c⟩ := X7.out.cells
  obtain ⟨cc36a, cc36b, cc36c⟩ := X9.out.cells
  go_region_held3 (fun w' => w'.cell? ⟨w10.heap.size, 0, none⟩ = some (.bool s5a) ∧ w'.cell? ⟨w10.heap.size, 1, none⟩ = some (.slice p5a n5a c5a) ∧ w'.cell? ⟨w10.heap.size, 2, none⟩ = some (.slice p5b n5b c5b) ∧ w'.cell? ⟨w18.heap.size, 0, none⟩ = some (.bool s6a) ∧ w'.cell? ⟨w18.heap.size, 1, none⟩ = some (.slice p6a n6a c6a) ∧ w'.cell? ⟨w18.heap.size, 2, none⟩ = some (.slice p6b n6b c6b)) (go_keep) (first | fail)
  replace R1 := hid R1.out.dr
  replace R2 := hid R2.out.dr
  replace X7 := hid X7.out.dr
  replace X9 := hid X9.out.dr
  replace HN5 := hid HN5.out.drew
  replace HD5 := hid HD5.out.drew
  replace HN6 := hid HN6.out.drew
  replace HD6 := hid HD6.out.drew
  replace B := hid (Below.drew B.out)
  go_wp2_with fail
  refine bodyPost_ret (res_qq_tmp rfl rfl rfl rfl R1.out R2.out) rfl ?_
  exact ⟨_, _, rfl, QR.mk2 HN5.out HD5.out, QR.mk2 HN6.out HD6.out, B.out⟩

end Go.Proofs.YtjeeepcnaaadmaaGreatDoor

/-
  RatTells: what its walks share.
-/
namespace Go.Proofs.YtjeeepcnaaadmaaGreatDoor
open Go.RowKit
open Num4
open Num (dg isNat dval)
set_option linter.unusedVariables false
set_option maxRecDepth 100000
set_option linter.unusedSimpArgs false

theorem made_neg {n d : Int} (h : d < 0) : Rat.divInt n d = Rat.divInt (-n) (d.natAbs : Int) := by
  have e : d = -(d.natAbs : Int) := by omega
  conv => lhs; rw [e]
  exact Rat.divInt_neg' ..
theorem made_pos {n d : Int} (h : 0 < d) : Rat.divInt n d = Rat.divInt n (d.natAbs : Int) := by
  have e : d = (d.natAbs : Int) := by omega
  conv => lhs; rw [e]
theorem less_sub (q r : Rat) : decide (q < r) = decide ((q - r).num.sign < 0) := by
  apply decide_eq_decide.2
  have h1 : q < r ↔ q - r < 0 := by grind
  rw [h1, Rat.lt_iff]
  simp
theorem BadQ.badZ {s : ByteArray} {k : Int} (h : BadQ s k) : BadZ s k := by
  rcases h with h | ⟨h1, h2, h3⟩
  · exact .inl h
  · refine .inr ⟨h1, ?_, h3⟩
    cases hw : isWhl s.data.toList
    · rfl
    · have := (qnum_whole (s := s) ⟨h1, hw⟩).1.2
      rw [this] at h2; cases h2
theorem BadZ.ne' {s : ByteArray} {k : Int} (h : BadZ s k) : k ≠ 0 := by
  rcases h with ⟨_, rfl⟩ | ⟨_, _, rfl⟩ <;> decide
theorem zero_whole {b : ByteArray} (h : GoodQ b) (h0 : qnum b = 0) : GoodZ b ∧ znum b = 0 := by
  have e := zero_text h h0
  subst e
  exact ⟨⟨by decide, by decide⟩, by decide⟩
theorem whole_zero {b : ByteArray} (h : GoodZ b) (h0 : qnum b ≠ 0) : znum b ≠ 0 := by
  intro e
  apply h0
  rw [(qnum_whole h).2, e]; rfl

end Go.Proofs.YtjeeepcnaaadmaaGreatDoor

/-
  RatTells: a case.
-/
namespace Go.Proofs.YtjeeepcnaaadmaaGreatDoor
open Go.RowKit
open Num4
open Num (dg isNat dval)
set_option linter.unusedVariables false
set_option maxRecDepth 100000
set_option linter.unusedSimpArgs false

set_option maxHeartbeats 32000000 in
theorem rtells_c1 (a b : ByteArray) (sa : a.size ≤ maxLen) (sb : b.size ≤ maxLen) {k i j : Int} (ha : BadQ a k) (hwa : BadZ a i) (hwb : (GoodZ b ∧ j = 0) ∨ BadZ b j) (hk0 : k ≠ 0) (hi0 : i ≠ 0) (w : World) (hd : Door w) :
    Calls Tryz.prog 3 #[.string a, .string b] w fun e w' => e = .returned (.bool true) ∧ Below w.heap.size w w' := by
  have Hha := hid ha
  have Hhwa := hid hwa
  have Hhwb := hid hwb
  have HK0 := hid hk0
  have HI0 := hid hi0
  have HDR := hid hd
  have B := hid (Below.refl w.heap.size w)
  have hkb : (k == 0) = false := by simpa using hk0
  have hib : (i == 0) = false := by simpa using hi0
  clear  ha hwa hwb hd
  go_enter Tryz.func3, Tryz.ntmps3
  go_wp2_with fail
  refine (halved_true w).mono ?_
  rintro e w1 ⟨rfl, hb⟩
  replace B := bb B hb
  clear hb 
  go_wp2_with fail
  refine (ratof_bad Hha.out w1 sa).mono ?_
  rintro e w2 ⟨s1a, p1a, n1a, c1a, p1b, n1b, c1b, rfl, hb⟩
  replace B := bb B hb
  clear hb 
  have hb3 := (Below.refl _ _).alloc (Nat.le_refl w2.heap.size) (.cells #[.bool s1a, .slice p1a n1a c1a, .slice p1b n1b c1b] 28)
  have hx4 := Qbx.new w2 s1a p1a n1a c1a p1b n1b c1b
  replace B := bb B hb3
  have X6 := hid hx4
  have hs5 : (w2.alloc (.cells #[.bool s1a, .slice p1a n1a c1a, .slice p1b n1b c1b] 28)).heap.size = w2.heap.size + 1 := by simp
  clear hb3 hx4
  obtain ⟨cc6a, cc6b, cc6c⟩ := X6.out.cells
  go_wp2_with fail
  generalize hW : w2.alloc (.cells #[.bool s1a, .slice p1a n1a c1a, .slice p1b n1b c1b] 28) = W7 at *
  clear hW
  refine (qcheck_bad Hha.out sa W7).mono ?_
  rintro e w8 ⟨rfl, hb⟩
  replace B := bb B hb
  clear cc6a cc6b cc6c
  clear hb 
  go_wp2_with fail
  refine (same_no k HK0.out w8 (HDR.out.below B.out)).mono ?_
  rintro e w9 ⟨rfl, hb⟩
  replace B := bb B hb
  clear hb 
  go_wp2_with fail
  refine (qfloor_bad Hha.out sa w9).mono ?_
  rintro e w10 ⟨rfl, hb⟩
  replace B := bb B hb
  clear hb 
  go_wp2_with fail
  refine (same_no k HK0.out w10 (HDR.out.below B.out)).mono ?_
  rintro e w11 ⟨rfl, hb⟩
  replace B := bb B hb
  clear hb 
  go_wp2_with fail
  refine (rtwo1 Hha.out sa sb w11).mono ?_
  rintro e w12 ⟨s3a, p3a, n3a, c3a, p3b, n3b, c3b, s4a, p4a, n4a, c4a, p4b, n4b, c4b, rfl, hb⟩
  replace B := bb B hb
  clear hb 
  have hb13 := (Below.refl _ _).alloc (Nat.le_refl w12.heap.size) (.cells #[.bool s3a, .slice p3a n3a c3a, .slice p3b n3b c3b] 28)
  have hx14 := Qbx.new w12 s3a p3a n3a c3a p3b n3b c3b
  replace B := bb B hb13
  have X13 := hid hx14
  have hs15 : (w12.alloc (.cells #[.bool s3a, .slice p3a n3a c3a, .slice p3b n3b c3b] 28)).heap.size = w12.heap.size + 1 := by simp
  clear hb13 hx14
  have hb16 := (Below.refl _ _).alloc (Nat.le_refl (w12.alloc (.cells #[.bool s3a, .slice p3a n3a c3a, .slice p3b n3b c3b] 28)).heap.size) (.cells #[.bool s4a, .slice p4a n4a c4a, .slice p4b n4b c4b] 28)
  have hx17 := Qbx.new (w12.alloc (.cells #[.bool s3a, .slice p3a n3a c3a, .slice p3b n3b c3b] 28)) s4a p4a n4a c4a p4b n4b c4b
  rw [hs15] at hx17
  replace X13 := qx X13 hb16
  replace B := bb B hb16
  have X14 := hid hx17
  have hs18 : ((w12.alloc (.cells #[.bool s3a, .slice p3a n3a c3a, .slice p3b n3b c3b] 28)).alloc (.cells #[.bool s4a, .slice p4a n4a c4a, .slice p4b n4b c4b] 28)).heap.size = w12.heap.size + 1 + 1 := by simp [hs15]
  clear hb16 hx17
  obtain ⟨cc19a, cc19b, cc19c⟩ := X13.out.cells
  obtain ⟨cc20a, cc20b, cc20c⟩ := X14.out.cells
  go_wp2_with fail
  generalize hW : (w12.alloc (.cells #[.bool s3a, .slice p3a n3a c3a, .slice p3b n3b c3b] 28)).alloc (.cells #[.bool s4a, .slice p4a n4a c4a, .slice p4b n4b c4b] 28) = W21 at *
  clear hW
  refine (rwholeof_bad Hhwa.out W21 sa).mono ?_
  rintro e w22 ⟨s8, p8, n8, c8, rfl, hb⟩
  replace B := bb B hb
  clear cc19a cc19b cc19c cc20a cc20b cc20c
  clear hb 
  have hb23 := (Below.refl _ _).alloc (Nat.le_refl w22.heap.size) (.cells #[.bool s8, .slice p8 n8 c8] 26)
  have hx24 := BoxR.new w22 s8 p8 n8 c8
  replace B := bb B hb23
  have X19 := hid hx24
  have hs25 : (w22.alloc (.cells #[.bool s8, .slice p8 n8 c8] 26)).heap.size = w22.heap.size + 1 := by simp
  clear hb23 hx24
  obtain ⟨cc26a, cc26b⟩ := X19.out.both
  go_wp2_with fail
  generalize hW : w22.alloc (.cells #[.bool s8, .slice p8 n8 c8] 26) = W27 at *
  clear hW
  refine (rwholeof_any Hhwb.out W27 sb).mono ?_
  rintro e w28 ⟨s9, p9, n9, c9, rfl, hb⟩
  replace X19 := br X19 hb
  replace B := bb B hb
  clear cc26a cc26b
  clear hb 
  have hb29 := (Below.refl _ _).alloc (Nat.le_refl w28.heap.size) (.cells #[.bool s9, .slice p9 n9 c9] 26)
  have hx30 := BoxR.new w28 s9 p9 n9 c9
  have L0 := hid X19.out.lt
  replace X19 := br X19 hb29
  replace B := bb B hb29
  have X21 := hid hx30
  have hs31 : (w28.alloc (.cells #[.bool s9, .slice p9 n9 c9] 26)).heap.size = w28.heap.size + 1 := by simp
  clear hb29 hx30
  obtain ⟨cc32a, cc32b⟩ := X19.out.both
  obtain ⟨cc33a, cc33b⟩ := X21.out.both
  go_wp2_with fail
  generalize hW : w28.alloc (.cells #[.bool s9, .slice p9 n9 c9] 26) = W34 at *
  clear hW
  refine (two_some i j HI0.out W34).mono ?_
  rintro e w' ⟨rfl, rfl⟩
  go_wp2_with fail
  refine (qadd_bad (k := k) (.inl Hha.out) sa sb W34).mono ?_
  rintro e w36 ⟨rfl, hb⟩
  replace B := bb B hb
  clear cc32a cc32b cc33a cc33b
  clear hb 
  go_wp2_with fail
  refine (same_no k HK0.out w36 (HDR.out.below B.out)).mono ?_
  rintro e w37 ⟨rfl, hb⟩
  replace B := bb B hb
  clear hb 
  go_wp2_with fail
  refine (qmul_bad (k := k) (.inl Hha.out) sa sb w37).mono ?_
  rintro e w38 ⟨rfl, hb⟩
  replace B := bb B hb
  clear hb 
  go_wp2_with fail
  refine (same_no k HK0.out w38 (HDR.out.below B.out)).mono ?_
  rintro e w39 ⟨rfl, hb⟩
  replace B := bb B hb
  clear hb 
  go_wp2_with fail
  refine (qdiv_bad (k := k) (.inl Hha.out) sa sb w39).mono ?_
  rintro e w40 ⟨rfl, hb⟩
  replace B := bb B hb
  clear hb 
  go_wp2_with fail
  refine (same_no k HK0.out w40 (HDR.out.below B.out)).mono ?_
  rintro e w41 ⟨rfl, hb⟩
  replace B := bb B hb
  clear hb 
  go_wp2_with fail
  refine (qless_bad (k := k) (.inl Hha.out) sa sb w41).mono ?_
  rintro e w42 ⟨rfl, hb⟩
  replace B := bb B hb
  clear hb 
  go_wp2_with fail
  refine (same_no k HK0.out w42 (HDR.out.below B.out)).mono ?_
  rintro e w43 ⟨rfl, hb⟩
  replace B := bb B hb
  clear hb 
  go_wp2_with fail
  refine (qmake_bad (k := i) (.inl Hhwa.out) sa sb w43).mono ?_
  rintro e w44 ⟨rfl, hb⟩
  replace B := bb B hb
  clear hb 
  go_wp2_with fail
  refine (same_no i HI0.out w44 (HDR.out.below B.out)).mono ?_
  rintro e w45 ⟨rfl, hb⟩
  replace B := bb B hb
  clear hb 
  go_wp2_with fail
  go_ret
  exact ⟨rfl, B.out⟩

end Go.Proofs.YtjeeepcnaaadmaaGreatDoor

/-
  RatTells: a case.
-/
namespace Go.Proofs.YtjeeepcnaaadmaaGreatDoor
open Go.RowKit
open Num4
open Num (dg isNat dval)
set_option linter.unusedVariables false
set_option maxRecDepth 100000
set_option linter.unusedSimpArgs false

set_option maxHeartbeats 32000000 in
theorem rtells_c2w (a b : ByteArray) (sa : a.size ≤ maxLen) (sb : b.size ≤ maxLen) {k i j : Int} (ha : GoodQ a) (hb : BadQ b k) (hwa : GoodZ a) (hwb : BadZ b j) (hk0 : k ≠ 0) (hj0 : j ≠ 0) (w : World) (hd : Door w) :
    Calls Tryz.prog 3 #[.string a, .string b] w fun e w' => e = .returned (.bool true) ∧ Below w.heap.size w w' := by
  have Hha := hid ha
  have Hhb := hid hb
  have Hhwa := hid hwa
  have Hhwb := hid hwb
  have HK0 := hid hk0
  have HJ0 := hid hj0
  have HDR := hid hd
  have B := hid (Below.refl w.heap.size w)
  have hkb : (k == 0) = false := by simpa using hk0
  have hjb : (j == 0) = false := by simpa using hj0
  clear  ha hb hwa hwb hd
  go_enter Tryz.func3, Tryz.ntmps3
  go_wp2_with fail
  refine (halved_true w).mono ?_
  rintro e w1 ⟨rfl, hb⟩
  replace B := bb B hb
  clear hb 
  go_wp2_with fail
  refine (ratof_good Hha.out w1).mono ?_
  rintro e w2 ⟨v, rfl, hv, hb⟩
  obtain ⟨s1a, p1a, n1a, c1a, p1b, n1b, c1b, rfl⟩ := hv.opened
  obtain ⟨ht1, hu1⟩ := hv.two
  replace B := bb B hb
  have HN1 := hid ht1
  have HD1 := hid hu1
  clear hb hv ht1 hu1
  have hb3 := (Below.refl _ _).alloc (Nat.le_refl w2.heap.size) (.cells #[.bool s1a, .slice p1a n1a c1a, .slice p1b n1b c1b] 28)
  have hx4 := Qbx.new w2 s1a p1a n1a c1a p1b n1b c1b
  replace HN1 := wr HN1 hb3
  replace HD1 := wr HD1 hb3
  replace B := bb B hb3
  have X6 := hid hx4
  have hs5 : (w2.alloc (.cells #[.bool s1a, .slice p1a n1a c1a, .slice p1b n1b c1b] 28)).heap.size = w2.heap.size + 1 := by simp
  clear hb3 hx4
  obtain ⟨cc6a, cc6b, cc6c⟩ := X6.out.cells
  go_wp2_with fail
  generalize hW : w2.alloc (.cells #[.bool s1a, .slice p1a n1a c1a, .slice p1b n1b c1b] 28) = W7 at *
  clear hW
  refine (qcheck_good Hha.out W7).mono ?_
  rintro e w8 ⟨rfl, hb⟩
  replace X6 := qx X6 hb
  replace HN1 := wr HN1 hb
  replace HD1 := wr HD1 hb
  replace B := bb B hb
  clear cc6a cc6b cc6c
  clear hb 
  obtain ⟨cc9a, cc9b, cc9c⟩ := X6.out.cells
  go_wp2_with fail
  refine (same_nil w8 (HDR.out.below B.out)).mono ?_
  rintro e w10 ⟨rfl, hb⟩
  replace X6 := qx X6 hb
  replace HN1 := wr HN1 hb
  replace HD1 := wr HD1 hb
  replace B := bb B hb
  clear cc9a cc9b cc9c
  clear hb 
  obtain ⟨cc11a, cc11b, cc11c⟩ := X6.out.cells
  go_wp2_with fail
  refine (rfloor (QR.mk2 HN1.out HD1.out) (by omega) (by omega)).mono ?_
  rintro e w12 ⟨v, rfl, hv, hb⟩
  obtain ⟨s2, p2, n2, c2, rfl⟩ := hv.opened
  replace X6 := qx X6 hb
  replace B := bb B hb
  clear cc11a cc11b cc11c
  have HF := hid hv
  clear hb hv
  obtain ⟨cc13a, cc13b, cc13c⟩ := X6.out.cells
  go_wp2_with fail
  refine (rtextz HF.out (by omega)).mono ?_
  rintro e w14 ⟨rfl, hb⟩
  replace X6 := qx X6 hb
  replace B := bb B hb
  clear cc13a cc13b cc13c
  clear hb 
  obtain ⟨cc15a, cc15b, cc15c⟩ := X6.out.cells
  go_wp2_with fail
  refine (qfloor_good Hha.out w14).mono ?_
  rintro e w16 ⟨rfl, hb⟩
  replace X6 := qx X6 hb
  replace B := bb B hb
  clear cc15a cc15b cc15c
  clear hb 
  obtain ⟨cc17a, cc17b, cc17c⟩ := X6.out.cells
  go_wp2_with fail
  refine (same_nil w16 (HDR.out.below B.out)).mono ?_
  rintro e w18 ⟨rfl, hb⟩
  replace X6 := qx X6 hb
  replace B := bb B hb
  clear cc17a cc17b cc17c
  clear hb 
  obtain ⟨cc19a, cc19b, cc19c⟩ := X6.out.cells
  go_wp2_with fail
  refine (rtwo2 Hha.out Hhb.out sa sb w18).mono ?_
  rintro e w20 ⟨s3a, p3a, n3a, c3a, p3b, n3b, c3b, s4a, p4a, n4a, c4a, p4b, n4b, c4b, rfl, hb⟩
  replace X6 := qx X6 hb
  replace B := bb B hb
  clear cc19a cc19b cc19c
  clear hb 
  have hb21 := (Below.refl _ _).alloc (Nat.le_refl w20.heap.size) (.cells #[.bool s3a, .slice p3a n3a c3a, .slice p3b n3b c3b] 28)
  have hx22 := Qbx.new w20 s3a p3a n3a c3a p3b n3b c3b
  have L0 := hid X6.out.lt
  replace X6 := qx X6 hb21
  replace B := bb B hb21
  have X13 := hid hx22
  have hs23 : (w20.alloc (.cells #[.bool s3a, .slice p3a n3a c3a, .slice p3b n3b c3b] 28)).heap.size = w20.heap.size + 1 := by simp
  clear hb21 hx22
  have hb24 := (Below.refl _ _).alloc (Nat.le_refl (w20.alloc (.cells #[.bool s3a, .slice p3a n3a c3a, .slice p3b n3b c3b] 28)).heap.size) (.cells #[.bool s4a, .slice p4a n4a c4a, .slice p4b n4b c4b] 28)
  have hx25 := Qbx.new (w20.alloc (.cells #[.bool s3a, .slice p3a n3a c3a, .slice p3b n3b c3b] 28)) s4a p4a n4a c4a p4b n4b c4b
  rw [hs23] at hx25
  replace X6 := qx X6 hb24
  replace X13 := qx X13 hb24
  replace B := bb B hb24
  have X14 := hid hx25
  have hs26 : ((w20.alloc (.cells #[.bool s3a, .slice p3a n3a c3a, .slice p3b n3b c3b] 28)).alloc (.cells #[.bool s4a, .slice p4a n4a c4a, .slice p4b n4b c4b] 28)).heap.size = w20.heap.size + 1 + 1 := by simp [hs23]
  clear hb24 hx25
  obtain ⟨cc27a, cc27b, cc27c⟩ := X6.out.cells
  obtain ⟨cc28a, cc28b, cc28c⟩ := X13.out.cells
  obtain ⟨cc29a, cc29b, cc29c⟩ := X14.out.cells
  go_wp2_with fail
  generalize hW : (w20.alloc (.cells #[.bool s3a, .slice p3a n3a c3a, .slice p3b n3b c3b] 28)).alloc (.cells #[.bool s4a, .slice p4a n4a c4a, .slice p4b n4b c4b] 28) = W30 at *
  clear hW
  refine (rwholeof_good Hhwa.out W30).mono ?_
  rintro e w31 ⟨v, rfl, hv, hb⟩
  obtain ⟨s8, p8, n8, c8, rfl⟩ := hv.opened
  replace B := bb B hb
  clear cc27a cc27b cc27c cc28a cc28b cc28c cc29a cc29b cc29c
  have HW8 := hid hv
  clear hb hv
  have hb32 := (Below.refl _ _).alloc (Nat.le_refl w31.heap.size) (.cells #[.bool s8, .slice p8 n8 c8] 26)
  have hx33 := BoxR.new w31 s8 p8 n8 c8
  replace B := bb B hb32
  have X19 := hid hx33
  have hs34 : (w31.alloc (.cells #[.bool s8, .slice p8 n8 c8] 26)).heap.size = w31.heap.size + 1 := by simp
  clear hb32 hx33
  obtain ⟨cc35a, cc35b⟩ := X19.out.both
  go_wp2_with fail
  generalize hW : w31.alloc (.cells #[.bool s8, .slice p8 n8 c8] 26) = W36 at *
  clear hW
  refine (rwholeof_bad Hhwb.out W36 sb).mono ?_
  rintro e w37 ⟨s9, p9, n9, c9, rfl, hb⟩
  replace X19 := br X19 hb
  replace B := bb B hb
  clear cc35a cc35b
  clear hb 
  have hb38 := (Below.refl _ _).alloc (Nat.le_refl w37.heap.size) (.cells #[.bool s9, .slice p9 n9 c9] 26)
  have hx39 := BoxR.new w37 s9 p9 n9 c9
  have L1 := hid X19.out.lt
  replace X19 := br X19 hb38
  replace B := bb B hb38
  have X21 := hid hx39
  have hs40 : (w37.alloc (.cells #[.bool s9, .slice p9 n9 c9] 26)).heap.size = w37.heap.size + 1 := by simp
  clear hb38 hx39
  obtain ⟨cc41a, cc41b⟩ := X19.out.both
  obtain ⟨cc42a, cc42b⟩ := X21.out.both
  go_wp2_with fail
  generalize hW : w37.alloc (.cells #[.bool s9, .slice p9 n9 c9] 26) = W43 at *
  clear hW
  refine (two_zero j W43).mono ?_
  rintro e w' ⟨rfl, rfl⟩
  obtain ⟨cc45a, cc45b⟩ := X19.out.both
  obtain ⟨cc46a, cc46b⟩ := X21.out.both
  go_wp2_with fail
  refine (qadd_bad (k := k) (.inr ⟨Hha.out, Hhb.out⟩) sa sb W43).mono ?_
  rintro e w47 ⟨rfl, hb⟩
  replace B := bb B hb
  clear cc41a cc41b cc42a cc42b cc45a cc45b cc46a cc46b
  clear hb 
  go_wp2_with fail
  refine (same_no k HK0.out w47 (HDR.out.below B.out)).mono ?_
  rintro e w48 ⟨rfl, hb⟩
  replace B := bb B hb
  clear hb 
  go_wp2_with fail
  refine (qmul_bad (k := k) (.inr ⟨Hha.out, Hhb.out⟩) sa sb w48).mono ?_
  rintro e w49 ⟨rfl, hb⟩
  replace B := bb B hb
  clear hb 
  go_wp2_with fail
  refine (same_no k HK0.out w49 (HDR.out.below B.out)).mono ?_
  rintro e w50 ⟨rfl, hb⟩
  replace B := bb B hb
  clear hb 
  go_wp2_with fail
  refine (qdiv_bad (k := k) (.inr ⟨Hha.out, Hhb.out⟩) sa sb w50).mono ?_
  rintro e w51 ⟨rfl, hb⟩
  replace B := bb B hb
  clear hb 
  go_wp2_with fail
  refine (same_no k HK0.out w51 (HDR.out.below B.out)).mono ?_
  rintro e w52 ⟨rfl, hb⟩
  replace B := bb B hb
  clear hb 
  go_wp2_with fail
  refine (qless_bad (k := k) (.inr ⟨Hha.out, Hhb.out⟩) sa sb w52).mono ?_
  rintro e w53 ⟨rfl, hb⟩
  replace B := bb B hb
  clear hb 
  go_wp2_with fail
  refine (same_no k HK0.out w53 (HDR.out.below B.out)).mono ?_
  rintro e w54 ⟨rfl, hb⟩
  replace B := bb B hb
  clear hb 
  go_wp2_with fail
  refine (qmake_bad (k := j) (.inr ⟨Hhwa.out, Hhwb.out⟩) sa sb w54).mono ?_
  rintro e w55 ⟨rfl, hb⟩
  replace B := bb B hb
  clear hb 
  go_wp2_with fail
  refine (same_no j HJ0.out w55 (HDR.out.below B.out)).mono ?_
  rintro e w56 ⟨rfl, hb⟩
  replace B := bb B hb
  clear hb 
  go_wp2_with fail
  go_ret
  exact ⟨rfl, B.out⟩

end Go.Proofs.YtjeeepcnaaadmaaGreatDoor

/-
  RatTells: a case.
-/
namespace Go.Proofs.YtjeeepcnaaadmaaGreatDoor
open Go.RowKit
open Num4
open Num (dg isNat dval)
set_option linter.unusedVariables false
set_option maxRecDepth 100000
set_option linter.unusedSimpArgs false

set_option maxHeartbeats 32000000 in
theorem rtells_c2n (a b : ByteArray) (sa : a.size ≤ maxLen) (sb : b.size ≤ maxLen) {k i j : Int} (ha : GoodQ a) (hb : BadQ b k) (hwa : BadZ a i) (hwb : (GoodZ b ∧ j = 0) ∨ BadZ b j) (hk0 : k ≠ 0) (hi0 : i ≠ 0) (w : World) (hd : Door w) :
    Calls Tryz.prog 3 #[.string a, .string b] w fun e w' => e = .returned (.bool true) ∧ Below w.heap.size w w' := by
  have Hha := hid ha
  have Hhb := hid hb
  have Hhwa := hid hwa
  have Hhwb := hid hwb
  have HK0 := hid hk0
  have HI0 := hid hi0
  have HDR := hid hd
  have B := hid (Below.refl w.heap.size w)
  have hkb : (k == 0) = false := by simpa using hk0
  have hib : (i == 0) = false := by simpa using hi0
  clear  ha hb hwa hwb hd
  go_enter Tryz.func3, Tryz.ntmps3
  go_wp2_with fail
  refine (halved_true w).mono ?_
  rintro e w1 ⟨rfl, hb⟩
  replace B := bb B hb
  clear hb 
  go_wp2_with fail
  refine (ratof_good Hha.out w1).mono ?_
  rintro e w2 ⟨v, rfl, hv, hb⟩
  obtain ⟨s1a, p1a, n1a, c1a, p1b, n1b, c1b, rfl⟩ := hv.opened
  obtain ⟨ht1, hu1⟩ := hv.two
  replace B := bb B hb
  have HN1 := hid ht1
  have HD1 := hid hu1
  clear hb hv ht1 hu1
  have hb3 := (Below.refl _ _).alloc (Nat.le_refl w2.heap.size) (.cells #[.bool s1a, .slice p1a n1a c1a, .slice p1b n1b c1b] 28)
  have hx4 := Qbx.new w2 s1a p1a n1a c1a p1b n1b c1b
  replace HN1 := wr HN1 hb3
  replace HD1 := wr HD1 hb3
  replace B := bb B hb3
  have X6 := hid hx4
  have hs5 : (w2.alloc (.cells #[.bool s1a, .slice p1a n1a c1a, .slice p1b n1b c1b] 28)).heap.size = w2.heap.size + 1 := by simp
  clear hb3 hx4
  obtain ⟨cc6a, cc6b, cc6c⟩ := X6.out.cells
  go_wp2_with fail
  generalize hW : w2.alloc (.cells #[.bool s1a, .slice p1a n1a c1a, .slice p1b n1b c1b] 28) = W7 at *
  clear hW
  refine (qcheck_good Hha.out W7).mono ?_
  rintro e w8 ⟨rfl, hb⟩
  replace X6 := qx X6 hb
  replace HN1 := wr HN1 hb
  replace HD1 := wr HD1 hb
  replace B := bb B hb
  clear cc6a cc6b cc6c
  clear hb 
  obtain ⟨cc9a, cc9b, cc9c⟩ := X6.out.cells
  go_wp2_with fail
  refine (same_nil w8 (HDR.out.below B.out)).mono ?_
  rintro e w10 ⟨rfl, hb⟩
  replace X6 := qx X6 hb
  replace HN1 := wr HN1 hb
  replace HD1 := wr HD1 hb
  replace B := bb B hb
  clear cc9a cc9b cc9c
  clear hb 
  obtain ⟨cc11a, cc11b, cc11c⟩ := X6.out.cells
  go_wp2_with fail
  refine (rfloor (QR.mk2 HN1.out HD1.out) (by omega) (by omega)).mono ?_
  rintro e w12 ⟨v, rfl, hv, hb⟩
  obtain ⟨s2, p2, n2, c2, rfl⟩ := hv.opened
  replace X6 := qx X6 hb
  replace B := bb B hb
  clear cc11a cc11b cc11c
  have HF := hid hv
  clear hb hv
  obtain ⟨cc13a, cc13b, cc13c⟩ := X6.out.cells
  go_wp2_with fail
  refine (rtextz HF.out (by omega)).mono ?_
  rintro e w14 ⟨rfl, hb⟩
  replace X6 := qx X6 hb
  replace B := bb B hb
  clear cc13a cc13b cc13c
  clear hb 
  obtain ⟨cc15a, cc15b, cc15c⟩ := X6.out.cells
  go_wp2_with fail
  refine (qfloor_good Hha.out w14).mono ?_
  rintro e w16 ⟨rfl, hb⟩
  replace X6 := qx X6 hb
  replace B := bb B hb
  clear cc15a cc15b cc15c
  clear hb 
  obtain ⟨cc17a, cc17b, cc17c⟩ := X6.out.cells
  go_wp2_with fail
  refine (same_nil w16 (HDR.out.below B.out)).mono ?_
  rintro e w18 ⟨rfl, hb⟩
  replace X6 := qx X6 hb
  replace B := bb B hb
  clear cc17a cc17b cc17c
  clear hb 
  obtain ⟨cc19a, cc19b, cc19c⟩ := X6.out.cells
  go_wp2_with fail
  refine (rtwo2 Hha.out Hhb.out sa sb w18).mono ?_
  rintro e w20 ⟨s3a, p3a, n3a, c3a, p3b, n3b, c3b, s4a, p4a, n4a, c4a, p4b, n4b, c4b, rfl, hb⟩
  replace X6 := qx X6 hb
  replace B := bb B hb
  clear cc19a cc19b cc19c
  clear hb 
  have hb21 := (Below.refl _ _).alloc (Nat.le_refl w20.heap.size) (.cells #[.bool s3a, .slice p3a n3a c3a, .slice p3b n3b c3b] 28)
  have hx22 := Qbx.new w20 s3a p3a n3a c3a p3b n3b c3b
  have L0 := hid X6.out.lt
  replace X6 := qx X6 hb21
  replace B := bb B hb21
  have X13 := hid hx22
  have hs23 : (w20.alloc (.cells #[.bool s3a, .slice p3a n3a c3a, .slice p3b n3b c3b] 28)).heap.size = w20.heap.size + 1 := by simp
  clear hb21 hx22
  have hb24 := (Below.refl _ _).alloc (Nat.le_refl (w20.alloc (.cells #[.bool s3a, .slice p3a n3a c3a, .slice p3b n3b c3b] 28)).heap.size) (.cells #[.bool s4a, .slice p4a n4a c4a, .slice p4b n4b c4b] 28)
  have hx25 := Qbx.new (w20.alloc (.cells #[.bool s3a, .slice p3a n3a c3a, .slice p3b n3b c3b] 28)) s4a p4a n4a c4a p4b n4b c4b
  rw [hs23] at hx25
  replace X6 := qx X6 hb24
  replace X13 := qx X13 hb24
  replace B := bb B hb24
  have X14 := hid hx25
  have hs26 : ((w20.alloc (.cells #[.bool s3a, .slice p3a n3a c3a, .slice p3b n3b c3b] 28)).alloc (.cells #[.bool s4a, .slice p4a n4a c4a, .slice p4b n4b c4b] 28)).heap.size = w20.heap.size + 1 + 1 := by simp [hs23]
  clear hb24 hx25
  obtain ⟨cc27a, cc27b, cc27c⟩ := X6.out.cells
  obtain ⟨cc28a, cc28b, cc28c⟩ := X13.out.cells
  obtain ⟨cc29a, cc29b, cc29c⟩ := X14.out.cells
  go_wp2_with fail
  generalize hW : (w20.alloc (.cells #[.bool s3a, .slice p3a n3a c3a, .slice p3b n3b c3b] 28)).alloc (.cells #[.bool s4a, .slice p4a n4a c4a, .slice p4b n4b c4b] 28) = W30 at *
  clear hW
  refine (rwholeof_bad Hhwa.out W30 sa).mono ?_
  rintro e w31 ⟨s8, p8, n8, c8, rfl, hb⟩
  replace B := bb B hb
  clear cc27a cc27b cc27c cc28a cc28b cc28c cc29a cc29b cc29c
  clear hb 
  have hb32 := (Below.refl _ _).alloc (Nat.le_refl w31.heap.size) (.cells #[.bool s8, .slice p8 n8 c8] 26)
  have hx33 := BoxR.new w31 s8 p8 n8 c8
  replace B := bb B hb32
  have X19 := hid hx33
  have hs34 : (w31.alloc (.cells #[.bool s8, .slice p8 n8 c8] 26)).heap.size = w31.heap.size + 1 := by simp
  clear hb32 hx33
  obtain ⟨cc35a, cc35b⟩ := X19.out.both
  go_wp2_with fail
  generalize hW : w31.alloc (.cells #[.bool s8, .slice p8 n8 c8] 26) = W36 at *
  clear hW
  refine (rwholeof_any Hhwb.out W36 sb).mono ?_
  rintro e w37 ⟨s9, p9, n9, c9, rfl, hb⟩
  replace X19 := br X19 hb
  replace B := bb B hb
  clear cc35a cc35b
  clear hb 
  have hb38 := (Below.refl _ _).alloc (Nat.le_refl w37.heap.size) (.cells #[.bool s9, .slice p9 n9 c9] 26)
  have hx39 := BoxR.new w37 s9 p9 n9 c9
  have L1 := hid X19.out.lt
  replace X19 := br X19 hb38
  replace B := bb B hb38
  have X21 := hid hx39
  have hs40 : (w37.alloc (.cells #[.bool s9, .slice p9 n9 c9] 26)).heap.size = w37.heap.size + 1 := by simp
  clear hb38 hx39
  obtain ⟨cc41a, cc41b⟩ := X19.out.both
  obtain ⟨cc42a, cc42b⟩ := X21.out.both
  go_wp2_with fail
  generalize hW : w37.alloc (.cells #[.bool s9, .slice p9 n9 c9] 26) = W43 at *
  clear hW
  refine (two_some i j HI0.out W43).mono ?_
  rintro e w' ⟨rfl, rfl⟩
  go_wp2_with fail
  refine (qadd_bad (k := k) (.inr ⟨Hha.out, Hhb.out⟩) sa sb W43).mono ?_
  rintro e w45 ⟨rfl, hb⟩
  replace B := bb B hb
  clear cc41a cc41b cc42a cc42b
  clear hb 
  go_wp2_with fail
  refine (same_no k HK0.out w45 (HDR.out.below B.out)).mono ?_
  rintro e w46 ⟨rfl, hb⟩
  replace B := bb B hb
  clear hb 
  go_wp2_with fail
  refine (qmul_bad (k := k) (.inr ⟨Hha.out, Hhb.out⟩) sa sb w46).mono ?_
  rintro e w47 ⟨rfl, hb⟩
  replace B := bb B hb
  clear hb 
  go_wp2_with fail
  refine (same_no k HK0.out w47 (HDR.out.below B.out)).mono ?_
  rintro e w48 ⟨rfl, hb⟩
  replace B := bb B hb
  clear hb 
  go_wp2_with fail
  refine (qdiv_bad (k := k) (.inr ⟨Hha.out, Hhb.out⟩) sa sb w48).mono ?_
  rintro e w49 ⟨rfl, hb⟩
  replace B := bb B hb
  clear hb 
  go_wp2_with fail
  refine (same_no k HK0.out w49 (HDR.out.below B.out)).mono ?_
  rintro e w50 ⟨rfl, hb⟩
  replace B := bb B hb
  clear hb 
  go_wp2_with fail
  refine (qless_bad (k := k) (.inr ⟨Hha.out, Hhb.out⟩) sa sb w50).mono ?_
  rintro e w51 ⟨rfl, hb⟩
  replace B := bb B hb
  clear hb 
  go_wp2_with fail
  refine (same_no k HK0.out w51 (HDR.out.below B.out)).mono ?_
  rintro e w52 ⟨rfl, hb⟩
  replace B := bb B hb
  clear hb 
  go_wp2_with fail
  refine (qmake_bad (k := i) (.inl Hhwa.out) sa sb w52).mono ?_
  rintro e w53 ⟨rfl, hb⟩
  replace B := bb B hb
  clear hb 
  go_wp2_with fail
  refine (same_no i HI0.out w53 (HDR.out.below B.out)).mono ?_
  rintro e w54 ⟨rfl, hb⟩
  replace B := bb B hb
  clear hb 
  go_wp2_with fail
  go_ret
  exact ⟨rfl, B.out⟩

end Go.Proofs.YtjeeepcnaaadmaaGreatDoor

/-
  RatTells: a case.
-/
namespace Go.Proofs.YtjeeepcnaaadmaaGreatDoor
open Go.RowKit
open Num4
open Num (dg isNat dval)
set_option linter.unusedVariables false
set_option maxRecDepth 100000
set_option linter.unusedSimpArgs false

set_option maxHeartbeats 32000000 in
theorem rtells_zw (a b : ByteArray) (sa : a.size ≤ maxLen) (sb : b.size ≤ maxLen) {k i j : Int} (ha : GoodQ a) (hb : GoodQ b) (hz : qnum b = 0) (hwa : GoodZ a) (hwb : GoodZ b) (hs : znum b = 0) (w : World) (hd : Door w) :
    Calls Tryz.prog 3 #[.string a, .string b] w fun e w' => e = .returned (.bool true) ∧ Below w.heap.size w w' := by
  have Hha := hid ha
  have Hhb := hid hb
  have Hhz := hid hz
  have Hhwa := hid hwa
  have Hhwb := hid hwb
  have Hhs := hid hs
  have HDR := hid hd
  have B := hid (Below.refl w.heap.size w)
  clear  ha hb hz hwa hwb hs hd
  go_enter Tryz.func3, Tryz.ntmps3
  go_wp2_with fail
  refine (halved_true w).mono ?_
  rintro e w1 ⟨rfl, hb⟩
  replace B := bb B hb
  clear hb 
  go_wp2_with fail
  refine (ratof_good Hha.out w1).mono ?_
  rintro e w2 ⟨v, rfl, hv, hb⟩
  obtain ⟨s1a, p1a, n1a, c1a, p1b, n1b, c1b, rfl⟩ := hv.opened
  obtain ⟨ht1, hu1⟩ := hv.two
  replace B := bb B hb
  have HN1 := hid ht1
  have HD1 := hid hu1
  clear hb hv ht1 hu1
  have hb3 := (Below.refl _ _).alloc (Nat.le_refl w2.heap.size) (.cells #[.bool s1a, .slice p1a n1a c1a, .slice p1b n1b c1b] 28)
  have hx4 := Qbx.new w2 s1a p1a n1a c1a p1b n1b c1b
  replace HN1 := wr HN1 hb3
  replace HD1 := wr HD1 hb3
  replace B := bb B hb3
  have X6 := hid hx4
  have hs5 : (w2.alloc (.cells #[.bool s1a, .slice p1a n1a c1a, .slice p1b n1b c1b] 28)).heap.size = w2.heap.size + 1 := by simp
  clear hb3 hx4
  obtain ⟨cc6a, cc6b, cc6c⟩ := X6.out.cells
  go_wp2_with fail
  generalize hW : w2.alloc (.cells #[.bool s1a, .slice p1a n1a c1a, .slice p1b n1b c1b] 28) = W7 at *
  clear hW
  refine (qcheck_good Hha.out W7).mono ?_
  rintro e w8 ⟨rfl, hb⟩
  replace X6 := qx X6 hb
  replace HN1 := wr HN1 hb
  replace HD1 := wr HD1 hb
  replace B := bb B hb
  clear cc6a cc6b cc6c
  clear hb 
  obtain ⟨cc9a, cc9b, cc9c⟩ := X6.out.cells
  go_wp2_with fail
  refine (same_nil w8 (HDR.out.below B.out)).mono ?_
  rintro e w10 ⟨rfl, hb⟩
  replace X6 := qx X6 hb
  replace HN1 := wr HN1 hb
  replace HD1 := wr HD1 hb
  replace B := bb B hb
  clear cc9a cc9b cc9c
  clear hb 
  obtain ⟨cc11a, cc11b, cc11c⟩ := X6.out.cells
  go_wp2_with fail
  refine (rfloor (QR.mk2 HN1.out HD1.out) (by omega) (by omega)).mono ?_
  rintro e w12 ⟨v, rfl, hv, hb⟩
  obtain ⟨s2, p2, n2, c2, rfl⟩ := hv.opened
  replace X6 := qx X6 hb
  replace HN1 := wr HN1 hb
  replace HD1 := wr HD1 hb
  replace B := bb B hb
  clear cc11a cc11b cc11c
  have HF := hid hv
  clear hb hv
  obtain ⟨cc13a, cc13b, cc13c⟩ := X6.out.cells
  go_wp2_with fail
  refine (rtextz HF.out (by omega)).mono ?_
  rintro e w14 ⟨rfl, hb⟩
  replace X6 := qx X6 hb
  replace HN1 := wr HN1 hb
  replace HD1 := wr HD1 hb
  replace B := bb B hb
  clear cc13a cc13b cc13c
  clear hb 
  obtain ⟨cc15a, cc15b, cc15c⟩ := X6.out.cells
  go_wp2_with fail
  refine (qfloor_good Hha.out w14).mono ?_
  rintro e w16 ⟨rfl, hb⟩
  replace X6 := qx X6 hb
  replace HN1 := wr HN1 hb
  replace HD1 := wr HD1 hb
  replace B := bb B hb
  clear cc15a cc15b cc15c
  clear hb 
  obtain ⟨cc17a, cc17b, cc17c⟩ := X6.out.cells
  go_wp2_with fail
  refine (same_nil w16 (HDR.out.below B.out)).mono ?_
  rintro e w18 ⟨rfl, hb⟩
  replace X6 := qx X6 hb
  replace HN1 := wr HN1 hb
  replace HD1 := wr HD1 hb
  replace B := bb B hb
  clear cc17a cc17b cc17c
  clear hb 
  obtain ⟨cc19a, cc19b, cc19c⟩ := X6.out.cells
  go_wp2_with fail
  refine (rtwo3 (k := 0) Hha.out Hhb.out sa sb w18).mono ?_
  rintro e w20 ⟨v, u, rfl, hv, hu, hb⟩
  obtain ⟨s3a, p3a, n3a, c3a, p3b, n3b, c3b, rfl⟩ := hv.opened
  obtain ⟨s4a, p4a, n4a, c4a, p4b, n4b, c4b, rfl⟩ := hu.opened
  obtain ⟨ht3, hu3⟩ := hv.two
  obtain ⟨ht4, hu4⟩ := hu.two
  replace X6 := qx X6 hb
  replace HN1 := wr HN1 hb
  replace HD1 := wr HD1 hb
  replace B := bb B hb
  clear cc19a cc19b cc19c
  have HN4 := hid ht4
  have HD4 := hid hu4
  clear hb hv hu ht3 hu3 ht4 hu4
  have hb21 := (Below.refl _ _).alloc (Nat.le_refl w20.heap.size) (.cells #[.bool s3a, .slice p3a n3a c3a, .slice p3b n3b c3b] 28)
  have hx22 := Qbx.new w20 s3a p3a n3a c3a p3b n3b c3b
  have L0 := hid X6.out.lt
  replace X6 := qx X6 hb21
  replace HN1 := wr HN1 hb21
  replace HD1 := wr HD1 hb21
  replace HN4 := wr HN4 hb21
  replace HD4 := wr HD4 hb21
  replace B := bb B hb21
  have X13 := hid hx22
  have hs23 : (w20.alloc (.cells #[.bool s3a, .slice p3a n3a c3a, .slice p3b n3b c3b] 28)).heap.size = w20.heap.size + 1 := by simp
  clear hb21 hx22
  have hb24 := (Below.refl _ _).alloc (Nat.le_refl (w20.alloc (.cells #[.bool s3a, .slice p3a n3a c3a, .slice p3b n3b c3b] 28)).heap.size) (.cells #[.bool s4a, .slice p4a n4a c4a, .slice p4b n4b c4b] 28)
  have hx25 := Qbx.new (w20.alloc (.cells #[.bool s3a, .slice p3a n3a c3a, .slice p3b n3b c3b] 28)) s4a p4a n4a c4a p4b n4b c4b
  rw [hs23] at hx25
  replace X6 := qx X6 hb24
  replace X13 := qx X13 hb24
  replace HN1 := wr HN1 hb24
  replace HD1 := wr HD1 hb24
  replace HN4 := wr HN4 hb24
  replace HD4 := wr HD4 hb24
  replace B := bb B hb24
  have X14 := hid hx25
  have hs26 : ((w20.alloc (.cells #[.bool s3a, .slice p3a n3a c3a, .slice p3b n3b c3b] 28)).alloc (.cells #[.bool s4a, .slice p4a n4a c4a, .slice p4b n4b c4b] 28)).heap.size = w20.heap.size + 1 + 1 := by simp [hs23]
  clear hb24 hx25
  obtain ⟨cc27a, cc27b, cc27c⟩ := X6.out.cells
  obtain ⟨cc28a, cc28b, cc28c⟩ := X13.out.cells
  obtain ⟨cc29a, cc29b, cc29c⟩ := X14.out.cells
  go_wp2_with fail
  generalize hW : (w20.alloc (.cells #[.bool s3a, .slice p3a n3a c3a, .slice p3b n3b c3b] 28)).alloc (.cells #[.bool s4a, .slice p4a n4a c4a, .slice p4b n4b c4b] 28) = W30 at *
  clear hW
  refine (radd (QR.mk2 HN1.out HD1.out) (QR.mk2 HN4.out HD4.out) (by omega)).mono ?_
  rintro e w31 ⟨v, rfl, hv, hb⟩
  obtain ⟨s5a, p5a, n5a, c5a, p5b, n5b, c5b, rfl⟩ := hv.opened
  obtain ⟨ht5, hu5⟩ := hv.two
  replace X6 := qx X6 hb
  replace X14 := qx X14 hb
  replace HN1 := wr HN1 hb
  replace HD1 := wr HD1 hb
  replace HN4 := wr HN4 hb
  replace HD4 := wr HD4 hb
  replace B := bb B hb
  clear cc27a cc27b cc27c cc28a cc28b cc28c cc29a cc29b cc29c
  have HN5 := hid ht5
  have HD5 := hid hu5
  clear hb hv ht5 hu5
  obtain ⟨cc32a, cc32b, cc32c⟩ := X6.out.cells
  obtain ⟨cc33a, cc33b, cc33c⟩ := X14.out.cells
  go_wp2_with fail
  refine (rqtext (QR.mk2 HN5.out HD5.out) (by omega)).mono ?_
  rintro e w34 ⟨rfl, hb⟩
  replace X6 := qx X6 hb
  replace X14 := qx X14 hb
  replace HN1 := wr HN1 hb
  replace HD1 := wr HD1 hb
  replace HN4 := wr HN4 hb
  replace HD4 := wr HD4 hb
  replace B := bb B hb
  clear cc32a cc32b cc32c cc33a cc33b cc33c
  clear hb 
  clear HN5
  clear HD5
  obtain ⟨cc35a, cc35b, cc35c⟩ := X6.out.cells
  obtain ⟨cc36a, cc36b, cc36c⟩ := X14.out.cells
  go_wp2_with fail
  refine (rmul (QR.mk2 HN1.out HD1.out) (QR.mk2 HN4.out HD4.out) (by omega)).mono ?_
  rintro e w37 ⟨v, rfl, hv, hb⟩
  obtain ⟨s6a, p6a, n6a, c6a, p6b, n6b, c6b, rfl⟩ := hv.opened
  obtain ⟨ht6, hu6⟩ := hv.two
  replace X6 := qx X6 hb
  replace X14 := qx X14 hb
  replace HN1 := wr HN1 hb
  replace HD1 := wr HD1 hb
  replace HN4 := wr HN4 hb
  replace HD4 := wr HD4 hb
  replace B := bb B hb
  clear cc35a cc35b cc35c cc36a cc36b cc36c
  have HN6 := hid ht6
  have HD6 := hid hu6
  clear hb hv ht6 hu6
  obtain ⟨cc38a, cc38b, cc38c⟩ := X6.out.cells
  obtain ⟨cc39a, cc39b, cc39c⟩ := X14.out.cells
  go_wp2_with fail
  refine (rqtext (QR.mk2 HN6.out HD6.out) (by omega)).mono ?_
  rintro e w40 ⟨rfl, hb⟩
  replace X6 := qx X6 hb
  replace X14 := qx X14 hb
  replace HN1 := wr HN1 hb
  replace HD1 := wr HD1 hb
  replace HN4 := wr HN4 hb
  replace HD4 := wr HD4 hb
  replace B := bb B hb
  clear cc38a cc38b cc38c cc39a cc39b cc39c
  clear hb 
  clear HN6
  clear HD6
  obtain ⟨cc41a, cc41b, cc41c⟩ := X6.out.cells
  obtain ⟨cc42a, cc42b, cc42c⟩ := X14.out.cells
  go_wp2_with fail
  have hsn := rsgn (QR.mk2 HN4.out HD4.out) (by omega)
  rw [show (qnum b).num.sign = 0 by rw [Hhz.out]; rfl] at hsn
  refine (hsn).mono ?_
  rintro e w43 ⟨rfl, hb⟩
  replace X6 := qx X6 hb
  replace X14 := qx X14 hb
  replace HN1 := wr HN1 hb
  replace HD1 := wr HD1 hb
  replace HN4 := wr HN4 hb
  replace HD4 := wr HD4 hb
  replace B := bb B hb
  clear cc41a cc41b cc41c cc42a cc42b cc42c
  clear hb hsn
  obtain ⟨cc44a, cc44b, cc44c⟩ := X6.out.cells
  obtain ⟨cc45a, cc45b, cc45c⟩ := X14.out.cells
  go_wp2_with fail
  refine (rwholeof_good Hhwa.out w43).mono ?_
  rintro e w46 ⟨v, rfl, hv, hb⟩
  obtain ⟨s8, p8, n8, c8, rfl⟩ := hv.opened
  replace X6 := qx X6 hb
  replace X14 := qx X14 hb
  replace HN1 := wr HN1 hb
  replace HD1 := wr HD1 hb
  replace HN4 := wr HN4 hb
  replace HD4 := wr HD4 hb
  replace B := bb B hb
  clear cc44a cc44b cc44c cc45a cc45b cc45c
  have HW8 := hid hv
  clear hb hv
  have hb47 := (Below.refl _ _).alloc (Nat.le_refl w46.heap.size) (.cells #[.bool s8, .slice p8 n8 c8] 26)
  have hx48 := BoxR.new w46 s8 p8 n8 c8
  have L1 := hid X14.out.lt
  replace X6 := qx X6 hb47
  replace X14 := qx X14 hb47
  replace HN1 := wr HN1 hb47
  replace HD1 := wr HD1 hb47
  replace HN4 := wr HN4 hb47
  replace HD4 := wr HD4 hb47
  replace B := bb B hb47
  have X19 := hid hx48
  have hs49 : (w46.alloc (.cells #[.bool s8, .slice p8 n8 c8] 26)).heap.size = w46.heap.size + 1 := by simp
  clear hb47 hx48
  obtain ⟨cc50a, cc50b, cc50c⟩ := X6.out.cells
  obtain ⟨cc51a, cc51b, cc51c⟩ := X14.out.cells
  obtain ⟨cc52a, cc52b⟩ := X19.out.both
  go_wp2_with fail
  generalize hW : w46.alloc (.cells #[.bool s8, .slice p8 n8 c8] 26) = W53 at *
  clear hW
  refine (rwholeof_good Hhwb.out W53).mono ?_
  rintro e w54 ⟨v, rfl, hv, hb⟩
  obtain ⟨s9, p9, n9, c9, rfl⟩ := hv.opened
  replace X6 := qx X6 hb
  replace X14 := qx X14 hb
  replace X19 := br X19 hb
  replace HN1 := wr HN1 hb
  replace HD1 := wr HD1 hb
  replace HN4 := wr HN4 hb
  replace HD4 := wr HD4 hb
  replace B := bb B hb
  clear cc50a cc50b cc50c cc51a cc51b cc51c cc52a cc52b
  have HW9 := hid hv
  clear hb hv
  have hb55 := (Below.refl _ _).alloc (Nat.le_refl w54.heap.size) (.cells #[.bool s9, .slice p9 n9 c9] 26)
  have hx56 := BoxR.new w54 s9 p9 n9 c9
  have L2 := hid X19.out.lt
  replace X6 := qx X6 hb55
  replace X14 := qx X14 hb55
  replace X19 := br X19 hb55
  replace HN1 := wr HN1 hb55
  replace HD1 := wr HD1 hb55
  replace HN4 := wr HN4 hb55
  replace HD4 := wr HD4 hb55
  replace HW9 := wr HW9 hb55
  replace B := bb B hb55
  have X21 := hid hx56
  have hs57 : (w54.alloc (.cells #[.bool s9, .slice p9 n9 c9] 26)).heap.size = w54.heap.size + 1 := by simp
  clear hb55 hx56
  obtain ⟨cc58a, cc58b, cc58c⟩ := X6.out.cells
  obtain ⟨cc59a, cc59b, cc59c⟩ := X14.out.cells
  obtain ⟨cc60a, cc60b⟩ := X19.out.both
  obtain ⟨cc61a, cc61b⟩ := X21.out.both
  go_wp2_with fail
  generalize hW : w54.alloc (.cells #[.bool s9, .slice p9 n9 c9] 26) = W62 at *
  clear hW
  refine (two_zero 0 W62).mono ?_
  rintro e w' ⟨rfl, rfl⟩
  have hn9 : n9 = 0 := HW9.out.inside.1.len.2 (by rw [Hhs.out]; rfl)
  subst hn9
  obtain ⟨cc64a, cc64b, cc64c⟩ := X6.out.cells
  obtain ⟨cc65a, cc65b, cc65c⟩ := X14.out.cells
  obtain ⟨cc66a, cc66b⟩ := X19.out.both
  obtain ⟨cc67a, cc67b⟩ := X21.out.both
  go_wp2_with fail
  refine (qadd_good Hha.out Hhb.out W62).mono ?_
  rintro e w68 ⟨rfl, hb⟩
  replace X6 := qx X6 hb
  replace X14 := qx X14 hb
  replace HN1 := wr HN1 hb
  replace HD1 := wr HD1 hb
  replace HN4 := wr HN4 hb
  replace HD4 := wr HD4 hb
  replace B := bb B hb
  clear cc58a cc58b cc58c cc59a cc59b cc59c cc60a cc60b cc61a cc61b cc64a cc64b cc64c cc65a cc65b cc65c cc66a cc66b cc67a cc67b
  clear hb 
  obtain ⟨cc69a, cc69b, cc69c⟩ := X6.out.cells
  obtain ⟨cc70a, cc70b, cc70c⟩ := X14.out.cells
  go_wp2_with fail
  refine (same_nil w68 (HDR.out.below B.out)).mono ?_
  rintro e w71 ⟨rfl, hb⟩
  replace X6 := qx X6 hb
  replace X14 := qx X14 hb
  replace HN1 := wr HN1 hb
  replace HD1 := wr HD1 hb
  replace HN4 := wr HN4 hb
  replace HD4 := wr HD4 hb
  replace B := bb B hb
  clear cc69a cc69b cc69c cc70a cc70b cc70c
  clear hb 
  obtain ⟨cc72a, cc72b, cc72c⟩ := X6.out.cells
  obtain ⟨cc73a, cc73b, cc73c⟩ := X14.out.cells
  go_wp2_with fail
  refine (qmul_good Hha.out Hhb.out w71).mono ?_
  rintro e w74 ⟨rfl, hb⟩
  replace X6 := qx X6 hb
  replace X14 := qx X14 hb
  replace HN1 := wr HN1 hb
  replace HD1 := wr HD1 hb
  replace HN4 := wr HN4 hb
  replace HD4 := wr HD4 hb
  replace B := bb B hb
  clear cc72a cc72b cc72c cc73a cc73b cc73c
  clear hb 
  obtain ⟨cc75a, cc75b, cc75c⟩ := X6.out.cells
  obtain ⟨cc76a, cc76b, cc76c⟩ := X14.out.cells
  go_wp2_with fail
  refine (same_nil w74 (HDR.out.below B.out)).mono ?_
  rintro e w77 ⟨rfl, hb⟩
  replace X6 := qx X6 hb
  replace X14 := qx X14 hb
  replace HN1 := wr HN1 hb
  replace HD1 := wr HD1 hb
  replace HN4 := wr HN4 hb
  replace HD4 := wr HD4 hb
  replace B := bb B hb
  clear cc75a cc75b cc75c cc76a cc76b cc76c
  clear hb 
  obtain ⟨cc78a, cc78b, cc78c⟩ := X6.out.cells
  obtain ⟨cc79a, cc79b, cc79c⟩ := X14.out.cells
  go_wp2_with fail
  refine (qdiv_zero Hha.out Hhb.out Hhz.out w77).mono ?_
  rintro e w80 ⟨rfl, hb⟩
  replace X6 := qx X6 hb
  replace X14 := qx X14 hb
  replace HN1 := wr HN1 hb
  replace HD1 := wr HD1 hb
  replace HN4 := wr HN4 hb
  replace HD4 := wr HD4 hb
  replace B := bb B hb
  clear cc78a cc78b cc78c cc79a cc79b cc79c
  clear hb 
  obtain ⟨cc81a, cc81b, cc81c⟩ := X6.out.cells
  obtain ⟨cc82a, cc82b, cc82c⟩ := X14.out.cells
  go_wp2_with fail
  refine (same_no 5 (by decide) w80 (HDR.out.below B.out)).mono ?_
  rintro e w83 ⟨rfl, hb⟩
  replace X6 := qx X6 hb
  replace X14 := qx X14 hb
  replace HN1 := wr HN1 hb
  replace HD1 := wr HD1 hb
  replace HN4 := wr HN4 hb
  replace HD4 := wr HD4 hb
  replace B := bb B hb
  clear cc81a cc81b cc81c cc82a cc82b cc82c
  clear hb 
  obtain ⟨cc84a, cc84b, cc84c⟩ := X6.out.cells
  obtain ⟨cc85a, cc85b, cc85c⟩ := X14.out.cells
  go_wp2_with fail
  have hls := qless_good Hha.out Hhb.out w83
  generalize hli : decide (qnum a < qnum b) = li at hls
  refine (hls).mono ?_
  rintro e w86 ⟨rfl, hb⟩
  replace X6 := qx X6 hb
  replace X14 := qx X14 hb
  replace HN1 := wr HN1 hb
  replace HD1 := wr HD1 hb
  replace HN4 := wr HN4 hb
  replace HD4 := wr HD4 hb
  replace B := bb B hb
  clear cc84a cc84b cc84c cc85a cc85b cc85c
  clear hb hls
  obtain ⟨cc87a, cc87b, cc87c⟩ := X6.out.cells
  obtain ⟨cc88a, cc88b, cc88c⟩ := X14.out.cells
  go_wp2_with fail
  refine (same_nil w86 (HDR.out.below B.out)).mono ?_
  rintro e w89 ⟨rfl, hb⟩
  replace X6 := qx X6 hb
  replace X14 := qx X14 hb
  replace HN1 := wr HN1 hb
  replace HD1 := wr HD1 hb
  replace HN4 := wr HN4 hb
  replace HD4 := wr HD4 hb
  replace B := bb B hb
  clear cc87a cc87b cc87c cc88a cc88b cc88c
  clear hb 
  obtain ⟨cc90a, cc90b, cc90c⟩ := X6.out.cells
  obtain ⟨cc91a, cc91b, cc91c⟩ := X14.out.cells
  go_wp2_with fail
  refine (qmake_zero Hhwa.out Hhwb.out Hhs.out w89).mono ?_
  rintro e w92 ⟨rfl, hb⟩
  replace X6 := qx X6 hb
  replace X14 := qx X14 hb
  replace HN1 := wr HN1 hb
  replace HD1 := wr HD1 hb
  replace HN4 := wr HN4 hb
  replace HD4 := wr HD4 hb
  replace B := bb B hb
  clear cc90a cc90b cc90c cc91a cc91b cc91c
  clear hb 
  obtain ⟨cc93a, cc93b, cc93c⟩ := X6.out.cells
  obtain ⟨cc94a, cc94b, cc94c⟩ := X14.out.cells
  go_wp2_with fail
  refine (same_no 5 (by decide) w92 (HDR.out.below B.out)).mono ?_
  rintro e w95 ⟨rfl, hb⟩
  replace X6 := qx X6 hb
  replace X14 := qx X14 hb
  replace HN1 := wr HN1 hb
  replace HD1 := wr HD1 hb
  replace HN4 := wr HN4 hb
  replace HD4 := wr HD4 hb
  replace B := bb B hb
  clear cc93a cc93b cc93c cc94a cc94b cc94c
  clear hb 
  obtain ⟨cc96a, cc96b, cc96c⟩ := X6.out.cells
  obtain ⟨cc97a, cc97b, cc97c⟩ := X14.out.cells
  go_wp2_with fail
  have hcm := rcmp (QR.mk2 HN1.out HD1.out) (QR.mk2 HN4.out HD4.out) (by omega)
  refine (hcm).mono ?_
  rintro e w98 ⟨rfl, hb⟩
  replace B := bb B hb
  clear cc96a cc96b cc96c cc97a cc97b cc97c
  clear hb hcm
  go_wp2_with fail
  go_ret
  exact ⟨ret_bool (by rw [← hli, less_sub]; simp), B.out⟩

end Go.Proofs.YtjeeepcnaaadmaaGreatDoor

/-
  RatTells: a case.
-/
namespace Go.Proofs.YtjeeepcnaaadmaaGreatDoor
open Go.RowKit
open Num4
open Num (dg isNat dval)
set_option linter.unusedVariables false
set_option maxRecDepth 100000
set_option linter.unusedSimpArgs false

set_option maxHeartbeats 32000000 in
theorem rtells_zn (a b : ByteArray) (sa : a.size ≤ maxLen) (sb : b.size ≤ maxLen) {k i j : Int} (ha : GoodQ a) (hb : GoodQ b) (hz : qnum b = 0) (hwa : BadZ a i) (hwb : (GoodZ b ∧ j = 0) ∨ BadZ b j) (hi0 : i ≠ 0) (w : World) (hd : Door w) :
    Calls Tryz.prog 3 #[.string a, .string b] w fun e w' => e = .returned (.bool true) ∧ Below w.heap.size w w' := by
  have Hha := hid ha
  have Hhb := hid hb
  have Hhz := hid hz
  have Hhwa := hid hwa
  have Hhwb := hid hwb
  have HI0 := hid hi0
  have HDR := hid hd
  have B := hid (Below.refl w.heap.size w)
  have hib : (i == 0) = false := by simpa using hi0
  clear  ha hb hz hwa hwb hd
  go_enter Tryz.func3, Tryz.ntmps3
  go_wp2_with fail
  refine (halved_true w).mono ?_
  rintro e w1 ⟨rfl, hb⟩
  replace B := bb B hb
  clear hb 
  go_wp2_with fail
  refine (ratof_good Hha.out w1).mono ?_
  rintro e w2 ⟨v, rfl, hv, hb⟩
  obtain ⟨s1a, p1a, n1a, c1a, p1b, n1b, c1b, rfl⟩ := hv.opened
  obtain ⟨ht1, hu1⟩ := hv.two
  replace B := bb B hb
  have HN1 := hid ht1
  have HD1 := hid hu1
  clear hb hv ht1 hu1
  have hb3 := (Below.refl _ _).alloc (Nat.le_refl w2.heap.size) (.cells #[.bool s1a, .slice p1a n1a c1a, .slice p1b n1b c1b] 28)
  have hx4 := Qbx.new w2 s1a p1a n1a c1a p1b n1b c1b
  replace HN1 := wr HN1 hb3
  replace HD1 := wr HD1 hb3
  replace B := bb B hb3
  have X6 := hid hx4
  have hs5 : (w2.alloc (.cells #[.bool s1a, .slice p1a n1a c1a, .slice p1b n1b c1b] 28)).heap.size = w2.heap.size + 1 := by simp
  clear hb3 hx4
  obtain ⟨cc6a, cc6b, cc6c⟩ := X6.out.cells
  go_wp2_with fail
  generalize hW : w2.alloc (.cells #[.bool s1a, .slice p1a n1a c1a, .slice p1b n1b c1b] 28) = W7 at *
  clear hW
  refine (qcheck_good Hha.out W7).mono ?_
  rintro e w8 ⟨rfl, hb⟩
  replace X6 := qx X6 hb
  replace HN1 := wr HN1 hb
  replace HD1 := wr HD1 hb
  replace B := bb B hb
  clear cc6a cc6b cc6c
  clear hb 
  obtain ⟨cc9a, cc9b, cc9c⟩ := X6.out.cells
  go_wp2_with fail
  refine (same_nil w8 (HDR.out.below B.out)).mono ?_
  rintro e w10 ⟨rfl, hb⟩
  replace X6 := qx X6 hb
  replace HN1 := wr HN1 hb
  replace HD1 := wr HD1 hb
  replace B := bb B hb
  clear cc9a cc9b cc9c
  clear hb 
  obtain ⟨cc11a, cc11b, cc11c⟩ := X6.out.cells
  go_wp2_with fail
  refine (rfloor (QR.mk2 HN1.out HD1.out) (by omega) (by omega)).mono ?_
  rintro e w12 ⟨v, rfl, hv, hb⟩
  obtain ⟨s2, p2, n2, c2, rfl⟩ := hv.opened
  replace X6 := qx X6 hb
  replace HN1 := wr HN1 hb
  replace HD1 := wr HD1 hb
  replace B := bb B hb
  clear cc11a cc11b cc11c
  have HF := hid hv
  clear hb hv
  obtain ⟨cc13a, cc13b, cc13c⟩ := X6.out.cells
  go_wp2_with fail
  refine (rtextz HF.out (by omega)).mono ?_
  rintro e w14 ⟨rfl, hb⟩
  replace X6 := qx X6 hb
  replace HN1 := wr HN1 hb
  replace HD1 := wr HD1 hb
  replace B := bb B hb
  clear cc13a cc13b cc13c
  clear hb 
  obtain ⟨cc15a, cc15b, cc15c⟩ := X6.out.cells
  go_wp2_with fail
  refine (qfloor_good Hha.out w14).mono ?_
  rintro e w16 ⟨rfl, hb⟩
  replace X6 := qx X6 hb
  replace HN1 := wr HN1 hb
  replace HD1 := wr HD1 hb
  replace B := bb B hb
  clear cc15a cc15b cc15c
  clear hb 
  obtain ⟨cc17a, cc17b, cc17c⟩ := X6.out.cells
  go_wp2_with fail
  refine (same_nil w16 (HDR.out.below B.out)).mono ?_
  rintro e w18 ⟨rfl, hb⟩
  replace X6 := qx X6 hb
  replace HN1 := wr HN1 hb
  replace HD1 := wr HD1 hb
  replace B := bb B hb
  clear cc17a cc17b cc17c
  clear hb 
  obtain ⟨cc19a, cc19b, cc19c⟩ := X6.out.cells
  go_wp2_with fail
  refine (rtwo3 (k := 0) Hha.out Hhb.out sa sb w18).mono ?_
  rintro e w20 ⟨v, u, rfl, hv, hu, hb⟩
  obtain ⟨s3a, p3a, n3a, c3a, p3b, n3b, c3b, rfl⟩ := hv.opened
  obtain ⟨s4a, p4a, n4a, c4a, p4b, n4b, c4b, rfl⟩ := hu.opened
  obtain ⟨ht3, hu3⟩ := hv.two
  obtain ⟨ht4, hu4⟩ := hu.two
  replace X6 := qx X6 hb
  replace HN1 := wr HN1 hb
  replace HD1 := wr HD1 hb
  replace B := bb B hb
  clear cc19a cc19b cc19c
  have HN4 := hid ht4
  have HD4 := hid hu4
  clear hb hv hu ht3 hu3 ht4 hu4
  have hb21 := (Below.refl _ _).alloc (Nat.le_refl w20.heap.size) (.cells #[.bool s3a, .slice p3a n3a c3a, .slice p3b n3b c3b] 28)
  have hx22 := Qbx.new w20 s3a p3a n3a c3a p3b n3b c3b
  have L0 := hid X6.out.lt
  replace X6 := qx X6 hb21
  replace HN1 := wr HN1 hb21
  replace HD1 := wr HD1 hb21
  replace HN4 := wr HN4 hb21
  replace HD4 := wr HD4 hb21
  replace B := bb B hb21
  have X13 := hid hx22
  have hs23 : (w20.alloc (.cells #[.bool s3a, .slice p3a n3a c3a, .slice p3b n3b c3b] 28)).heap.size = w20.heap.size + 1 := by simp
  clear hb21 hx22
  have hb24 := (Below.refl _ _).alloc (Nat.le_refl (w20.alloc (.cells #[.bool s3a, .slice p3a n3a c3a, .slice p3b n3b c3b] 28)).heap.size) (.cells #[.bool s4a, .slice p4a n4a c4a, .slice p4b n4b c4b] 28)
  have hx25 := Qbx.new (w20.alloc (.cells #[.bool s3a, .slice p3a n3a c3a, .slice p3b n3b c3b] 28)) s4a p4a n4a c4a p4b n4b c4b
  rw [hs23] at hx25
  replace X6 := qx X6 hb24
  replace X13 := qx X13 hb24
  replace HN1 := wr HN1 hb24
  replace HD1 := wr HD1 hb24
  replace HN4 := wr HN4 hb24
  replace HD4 := wr HD4 hb24
  replace B := bb B hb24
  have X14 := hid hx25
  have hs26 : ((w20.alloc (.cells #[.bool s3a, .slice p3a n3a c3a, .slice p3b n3b c3b] 28)).alloc (.cells #[.bool s4a, .slice p4a n4a c4a, .slice p4b n4b c4b] 28)).heap.size = w20.heap.size + 1 + 1 := by simp [hs23]
  clear hb24 hx25
  obtain ⟨cc27a, cc27b, cc27c⟩ := X6.out.cells
  obtain ⟨cc28a, cc28b, cc28c⟩ := X13.out.cells
  obtain ⟨cc29a, cc29b, cc29c⟩ := X14.out.cells
  go_wp2_with fail
  generalize hW : (w20.alloc (.cells #[.bool s3a, .slice p3a n3a c3a, .slice p3b n3b c3b] 28)).alloc (.cells #[.bool s4a, .slice p4a n4a c4a, .slice p4b n4b c4b] 28) = W30 at *
  clear hW
  refine (radd (QR.mk2 HN1.out HD1.out) (QR.mk2 HN4.out HD4.out) (by omega)).mono ?_
  rintro e w31 ⟨v, rfl, hv, hb⟩
  obtain ⟨s5a, p5a, n5a, c5a, p5b, n5b, c5b, rfl⟩ := hv.opened
  obtain ⟨ht5, hu5⟩ := hv.two
  replace X6 := qx X6 hb
  replace X14 := qx X14 hb
  replace HN1 := wr HN1 hb
  replace HD1 := wr HD1 hb
  replace HN4 := wr HN4 hb
  replace HD4 := wr HD4 hb
  replace B := bb B hb
  clear cc27a cc27b cc27c cc28a cc28b cc28c cc29a cc29b cc29c
  have HN5 := hid ht5
  have HD5 := hid hu5
  clear hb hv ht5 hu5
  obtain ⟨cc32a, cc32b, cc32c⟩ := X6.out.cells
  obtain ⟨cc33a, cc33b, cc33c⟩ := X14.out.cells
  go_wp2_with fail
  refine (rqtext (QR.mk2 HN5.out HD5.out) (by omega)).mono ?_
  rintro e w34 ⟨rfl, hb⟩
  replace X6 := qx X6 hb
  replace X14 := qx X14 hb
  replace HN1 := wr HN1 hb
  replace HD1 := wr HD1 hb
  replace HN4 := wr HN4 hb
  replace HD4 := wr HD4 hb
  replace B := bb B hb
  clear cc32a cc32b cc32c cc33a cc33b cc33c
  clear hb 
  clear HN5
  clear HD5
  obtain ⟨cc35a, cc35b, cc35c⟩ := X6.out.cells
  obtain ⟨cc36a, cc36b, cc36c⟩ := X14.out.cells
  go_wp2_with fail
  refine (rmul (QR.mk2 HN1.out HD1.out) (QR.mk2 HN4.out HD4.out) (by omega)).mono ?_
  rintro e w37 ⟨v, rfl, hv, hb⟩
  obtain ⟨s6a, p6a, n6a, c6a, p6b, n6b, c6b, rfl⟩ := hv.opened
  obtain ⟨ht6, hu6⟩ := hv.two
  replace X6 := qx X6 hb
  replace X14 := qx X14 hb
  replace HN1 := wr HN1 hb
  replace HD1 := wr HD1 hb
  replace HN4 := wr HN4 hb
  replace HD4 := wr HD4 hb
  replace B := bb B hb
  clear cc35a cc35b cc35c cc36a cc36b cc36c
  have HN6 := hid ht6
  have HD6 := hid hu6
  clear hb hv ht6 hu6
  obtain ⟨cc38a, cc38b, cc38c⟩ := X6.out.cells
  obtain ⟨cc39a, cc39b, cc39c⟩ := X14.out.cells
  go_wp2_with fail
  refine (rqtext (QR.mk2 HN6.out HD6.out) (by omega)).mono ?_
  rintro e w40 ⟨rfl, hb⟩
  replace X6 := qx X6 hb
  replace X14 := qx X14 hb
  replace HN1 := wr HN1 hb
  replace HD1 := wr HD1 hb
  replace HN4 := wr HN4 hb
  replace HD4 := wr HD4 hb
  replace B := bb B hb
  clear cc38a cc38b cc38c cc39a cc39b cc39c
  clear hb 
  clear HN6
  clear HD6
  obtain ⟨cc41a, cc41b, cc41c⟩ := X6.out.cells
  obtain ⟨cc42a, cc42b, cc42c⟩ := X14.out.cells
  go_wp2_with fail
  have hsn := rsgn (QR.mk2 HN4.out HD4.out) (by omega)
  rw [show (qnum b).num.sign = 0 by rw [Hhz.out]; rfl] at hsn
  refine (hsn).mono ?_
  rintro e w43 ⟨rfl, hb⟩
  replace X6 := qx X6 hb
  replace X14 := qx X14 hb
  replace HN1 := wr HN1 hb
  replace HD1 := wr HD1 hb
  replace HN4 := wr HN4 hb
  replace HD4 := wr HD4 hb
  replace B := bb B hb
  clear cc41a cc41b cc41c cc42a cc42b cc42c
  clear hb hsn
  obtain ⟨cc44a, cc44b, cc44c⟩ := X6.out.cells
  obtain ⟨cc45a, cc45b, cc45c⟩ := X14.out.cells
  go_wp2_with fail
  refine (rwholeof_bad Hhwa.out w43 sa).mono ?_
  rintro e w46 ⟨s8, p8, n8, c8, rfl, hb⟩
  replace X6 := qx X6 hb
  replace X14 := qx X14 hb
  replace HN1 := wr HN1 hb
  replace HD1 := wr HD1 hb
  replace HN4 := wr HN4 hb
  replace HD4 := wr HD4 hb
  replace B := bb B hb
  clear cc44a cc44b cc44c cc45a cc45b cc45c
  clear hb 
  have hb47 := (Below.refl _ _).alloc (Nat.le_refl w46.heap.size) (.cells #[.bool s8, .slice p8 n8 c8] 26)
  have hx48 := BoxR.new w46 s8 p8 n8 c8
  have L1 := hid X14.out.lt
  replace X6 := qx X6 hb47
  replace X14 := qx X14 hb47
  replace HN1 := wr HN1 hb47
  replace HD1 := wr HD1 hb47
  replace HN4 := wr HN4 hb47
  replace HD4 := wr HD4 hb47
  replace B := bb B hb47
  have X19 := hid hx48
  have hs49 : (w46.alloc (.cells #[.bool s8, .slice p8 n8 c8] 26)).heap.size = w46.heap.size + 1 := by simp
  clear hb47 hx48
  obtain ⟨cc50a, cc50b, cc50c⟩ := X6.out.cells
  obtain ⟨cc51a, cc51b, cc51c⟩ := X14.out.cells
  obtain ⟨cc52a, cc52b⟩ := X19.out.both
  go_wp2_with fail
  generalize hW : w46.alloc (.cells #[.bool s8, .slice p8 n8 c8] 26) = W53 at *
  clear hW
  refine (rwholeof_any Hhwb.out W53 sb).mono ?_
  rintro e w54 ⟨s9, p9, n9, c9, rfl, hb⟩
  replace X6 := qx X6 hb
  replace X14 := qx X14 hb
  replace X19 := br X19 hb
  replace HN1 := wr HN1 hb
  replace HD1 := wr HD1 hb
  replace HN4 := wr HN4 hb
  replace HD4 := wr HD4 hb
  replace B := bb B hb
  clear cc50a cc50b cc50c cc51a cc51b cc51c cc52a cc52b
  clear hb 
  have hb55 := (Below.refl _ _).alloc (Nat.le_refl w54.heap.size) (.cells #[.bool s9, .slice p9 n9 c9] 26)
  have hx56 := BoxR.new w54 s9 p9 n9 c9
  have L2 := hid X19.out.lt
  replace X6 := qx X6 hb55
  replace X14 := qx X14 hb55
  replace X19 := br X19 hb55
  replace HN1 := wr HN1 hb55
  replace HD1 := wr HD1 hb55
  replace HN4 := wr HN4 hb55
  replace HD4 := wr HD4 hb55
  replace B := bb B hb55
  have X21 := hid hx56
  have hs57 : (w54.alloc (.cells #[.bool s9, .slice p9 n9 c9] 26)).heap.size = w54.heap.size + 1 := by simp
  clear hb55 hx56
  obtain ⟨cc58a, cc58b, cc58c⟩ := X6.out.cells
  obtain ⟨cc59a, cc59b, cc59c⟩ := X14.out.cells
  obtain ⟨cc60a, cc60b⟩ := X19.out.both
  obtain ⟨cc61a, cc61b⟩ := X21.out.both
  go_wp2_with fail
  generalize hW : w54.alloc (.cells #[.bool s9, .slice p9 n9 c9] 26) = W62 at *
  clear hW
  refine (two_some i j HI0.out W62).mono ?_
  rintro e w' ⟨rfl, rfl⟩
  obtain ⟨cc64a, cc64b, cc64c⟩ := X6.out.cells
  obtain ⟨cc65a, cc65b, cc65c⟩ := X14.out.cells
  go_wp2_with fail
  refine (qadd_good Hha.out Hhb.out W62).mono ?_
  rintro e w66 ⟨rfl, hb⟩
  replace X6 := qx X6 hb
  replace X14 := qx X14 hb
  replace HN1 := wr HN1 hb
  replace HD1 := wr HD1 hb
  replace HN4 := wr HN4 hb
  replace HD4 := wr HD4 hb
  replace B := bb B hb
  clear cc58a cc58b cc58c cc59a cc59b cc59c cc60a cc60b cc61a cc61b cc64a cc64b cc64c cc65a cc65b cc65c
  clear hb 
  obtain ⟨cc67a, cc67b, cc67c⟩ := X6.out.cells
  obtain ⟨cc68a, cc68b, cc68c⟩ := X14.out.cells
  go_wp2_with fail
  refine (same_nil w66 (HDR.out.below B.out)).mono ?_
  rintro e w69 ⟨rfl, hb⟩
  replace X6 := qx X6 hb
  replace X14 := qx X14 hb
  replace HN1 := wr HN1 hb
  replace HD1 := wr HD1 hb
  replace HN4 := wr HN4 hb
  replace HD4 := wr HD4 hb
  replace B := bb B hb
  clear cc67a cc67b cc67c cc68a cc68b cc68c
  clear hb 
  obtain ⟨cc70a, cc70b, cc70c⟩ := X6.out.cells
  obtain ⟨cc71a, cc71b, cc71c⟩ := X14.out.cells
  go_wp2_with fail
  refine (qmul_good Hha.out Hhb.out w69).mono ?_
  rintro e w72 ⟨rfl, hb⟩
  replace X6 := qx X6 hb
  replace X14 := qx X14 hb
  replace HN1 := wr HN1 hb
  replace HD1 := wr HD1 hb
  replace HN4 := wr HN4 hb
  replace HD4 := wr HD4 hb
  replace B := bb B hb
  clear cc70a cc70b cc70c cc71a cc71b cc71c
  clear hb 
  obtain ⟨cc73a, cc73b, cc73c⟩ := X6.out.cells
  obtain ⟨cc74a, cc74b, cc74c⟩ := X14.out.cells
  go_wp2_with fail
  refine (same_nil w72 (HDR.out.below B.out)).mono ?_
  rintro e w75 ⟨rfl, hb⟩
  replace X6 := qx X6 hb
  replace X14 := qx X14 hb
  replace HN1 := wr HN1 hb
  replace HD1 := wr HD1 hb
  replace HN4 := wr HN4 hb
  replace HD4 := wr HD4 hb
  replace B := bb B hb
  clear cc73a cc73b cc73c cc74a cc74b cc74c
  clear hb 
  obtain ⟨cc76a, cc76b, cc76c⟩ := X6.out.cells
  obtain ⟨cc77a, cc77b, cc77c⟩ := X14.out.cells
  go_wp2_with fail
  refine (qdiv_zero Hha.out Hhb.out Hhz.out w75).mono ?_
  rintro e w78 ⟨rfl, hb⟩
  replace X6 := qx X6 hb
  replace X14 := qx X14 hb
  replace HN1 := wr HN1 hb
  replace HD1 := wr HD1 hb
  replace HN4 := wr HN4 hb
  replace HD4 := wr HD4 hb
  replace B := bb B hb
  clear cc76a cc76b cc76c cc77a cc77b cc77c
  clear hb 
  obtain ⟨cc79a, cc79b, cc79c⟩ := X6.out.cells
  obtain ⟨cc80a, cc80b, cc80c⟩ := X14.out.cells
  go_wp2_with fail
  refine (same_no 5 (by decide) w78 (HDR.out.below B.out)).mono ?_
  rintro e w81 ⟨rfl, hb⟩
  replace X6 := qx X6 hb
  replace X14 := qx X14 hb
  replace HN1 := wr HN1 hb
  replace HD1 := wr HD1 hb
  replace HN4 := wr HN4 hb
  replace HD4 := wr HD4 hb
  replace B := bb B hb
  clear cc79a cc79b cc79c cc80a cc80b cc80c
  clear hb 
  obtain ⟨cc82a, cc82b, cc82c⟩ := X6.out.cells
  obtain ⟨cc83a, cc83b, cc83c⟩ := X14.out.cells
  go_wp2_with fail
  have hls := qless_good Hha.out Hhb.out w81
  generalize hli : decide (qnum a < qnum b) = li at hls
  refine (hls).mono ?_
  rintro e w84 ⟨rfl, hb⟩
  replace X6 := qx X6 hb
  replace X14 := qx X14 hb
  replace HN1 := wr HN1 hb
  replace HD1 := wr HD1 hb
  replace HN4 := wr HN4 hb
  replace HD4 := wr HD4 hb
  replace B := bb B hb
  clear cc82a cc82b cc82c cc83a cc83b cc83c
  clear hb hls
  obtain ⟨cc85a, cc85b, cc85c⟩ := X6.out.cells
  obtain ⟨cc86a, cc86b, cc86c⟩ := X14.out.cells
  go_wp2_with fail
  refine (same_nil w84 (HDR.out.below B.out)).mono ?_
  rintro e w87 ⟨rfl, hb⟩
  replace X6 := qx X6 hb
  replace X14 := qx X14 hb
  replace HN1 := wr HN1 hb
  replace HD1 := wr HD1 hb
  replace HN4 := wr HN4 hb
  replace HD4 := wr HD4 hb
  replace B := bb B hb
  clear cc85a cc85b cc85c cc86a cc86b cc86c
  clear hb 
  obtain ⟨cc88a, cc88b, cc88c⟩ := X6.out.cells
  obtain ⟨cc89a, cc89b, cc89c⟩ := X14.out.cells
  go_wp2_with fail
  refine (qmake_bad (k := i) (.inl Hhwa.out) sa sb w87).mono ?_
  rintro e w90 ⟨rfl, hb⟩
  replace X6 := qx X6 hb
  replace X14 := qx X14 hb
  replace HN1 := wr HN1 hb
  replace HD1 := wr HD1 hb
  replace HN4 := wr HN4 hb
  replace HD4 := wr HD4 hb
  replace B := bb B hb
  clear cc88a cc88b cc88c cc89a cc89b cc89c
  clear hb 
  obtain ⟨cc91a, cc91b, cc91c⟩ := X6.out.cells
  obtain ⟨cc92a, cc92b, cc92c⟩ := X14.out.cells
  go_wp2_with fail
  refine (same_no i HI0.out w90 (HDR.out.below B.out)).mono ?_
  rintro e w93 ⟨rfl, hb⟩
  replace X6 := qx X6 hb
  replace X14 := qx X14 hb
  replace HN1 := wr HN1 hb
  replace HD1 := wr HD1 hb
  replace HN4 := wr HN4 hb
  replace HD4 := wr HD4 hb
  replace B := bb B hb
  clear cc91a cc91b cc91c cc92a cc92b cc92c
  clear hb 
  obtain ⟨cc94a, cc94b, cc94c⟩ := X6.out.cells
  obtain ⟨cc95a, cc95b, cc95c⟩ := X14.out.cells
  go_wp2_with fail
  have hcm := rcmp (QR.mk2 HN1.out HD1.out) (QR.mk2 HN4.out HD4.out) (by omega)
  refine (hcm).mono ?_
  rintro e w96 ⟨rfl, hb⟩
  replace B := bb B hb
  clear cc94a cc94b cc94c cc95a cc95b cc95c
  clear hb hcm
  go_wp2_with fail
  go_ret
  exact ⟨ret_bool (by rw [← hli, less_sub]; simp), B.out⟩

end Go.Proofs.YtjeeepcnaaadmaaGreatDoor

/-
  RatTells: a case.
-/
namespace Go.Proofs.YtjeeepcnaaadmaaGreatDoor
open Go.RowKit
open Num4
open Num (dg isNat dval)
set_option linter.unusedVariables false
set_option maxRecDepth 100000
set_option linter.unusedSimpArgs false

set_option maxHeartbeats 32000000 in
theorem rtells_nn (a b : ByteArray) (sa : a.size ≤ maxLen) (sb : b.size ≤ maxLen) {k i j : Int} (ha : GoodQ a) (hb : GoodQ b) (hz : qnum b ≠ 0) (hwa : BadZ a i) (hwb : (GoodZ b ∧ j = 0) ∨ BadZ b j) (hi0 : i ≠ 0) (w : World) (hd : Door w) :
    Calls Tryz.prog 3 #[.string a, .string b] w fun e w' => e = .returned (.bool true) ∧ Below w.heap.size w w' := by
  have Hha := hid ha
  have Hhb := hid hb
  have Hhz := hid hz
  have Hhwa := hid hwa
  have Hhwb := hid hwb
  have HI0 := hid hi0
  have HDR := hid hd
  have B := hid (Below.refl w.heap.size w)
  have hib : (i == 0) = false := by simpa using hi0
  clear  ha hb hz hwa hwb hd
  go_enter Tryz.func3, Tryz.ntmps3
  go_wp2_with fail
  refine (halved_true w).mono ?_
  rintro e w1 ⟨rfl, hb⟩
  replace B := bb B hb
  clear hb 
  go_wp2_with fail
  refine (ratof_good Hha.out w1).mono ?_
  rintro e w2 ⟨v, rfl, hv, hb⟩
  obtain ⟨s1a, p1a, n1a, c1a, p1b, n1b, c1b, rfl⟩ := hv.opened
  obtain ⟨ht1, hu1⟩ := hv.two
  replace B := bb B hb
  have HN1 := hid ht1
  have HD1 := hid hu1
  clear hb hv ht1 hu1
  have hb3 := (Below.refl _ _).alloc (Nat.le_refl w2.heap.size) (.cells #[.bool s1a, .slice p1a n1a c1a, .slice p1b n1b c1b] 28)
  have hx4 := Qbx.new w2 s1a p1a n1a c1a p1b n1b c1b
  replace HN1 := wr HN1 hb3
  replace HD1 := wr HD1 hb3
  replace B := bb B hb3
  have X6 := hid hx4
  have hs5 : (w2.alloc (.cells #[.bool s1a, .slice p1a n1a c1a, .slice p1b n1b c1b] 28)).heap.size = w2.heap.size + 1 := by simp
  clear hb3 hx4
  obtain ⟨cc6a, cc6b, cc6c⟩ := X6.out.cells
  go_wp2_with fail
  generalize hW : w2.alloc (.cells #[.bool s1a, .slice p1a n1a c1a, .slice p1b n1b c1b] 28) = W7 at *
  clear hW
  refine (qcheck_good Hha.out W7).mono ?_
  rintro e w8 ⟨rfl, hb⟩
  replace X6 := qx X6 hb
  replace HN1 := wr HN1 hb
  replace HD1 := wr HD1 hb
  replace B := bb B hb
  clear cc6a cc6b cc6c
  clear hb 
  obtain ⟨cc9a, cc9b, cc9c⟩ := X6.out.cells
  go_wp2_with fail
  refine (same_nil w8 (HDR.out.below B.out)).mono ?_
  rintro e w10 ⟨rfl, hb⟩
  replace X6 := qx X6 hb
  replace HN1 := wr HN1 hb
  replace HD1 := wr HD1 hb
  replace B := bb B hb
  clear cc9a cc9b cc9c
  clear hb 
  obtain ⟨cc11a, cc11b, cc11c⟩ := X6.out.cells
  go_wp2_with fail
  refine (rfloor (QR.mk2 HN1.out HD1.out) (by omega) (by omega)).mono ?_
  rintro e w12 ⟨v, rfl, hv, hb⟩
  obtain ⟨s2, p2, n2, c2, rfl⟩ := hv.opened
  replace X6 := qx X6 hb
  replace HN1 := wr HN1 hb
  replace HD1 := wr HD1 hb
  replace B := bb B hb
  clear cc11a cc11b cc11c
  have HF := hid hv
  clear hb hv
  obtain ⟨cc13a, cc13b, cc13c⟩ := X6.out.cells
  go_wp2_with fail
  refine (rtextz HF.out (by omega)).mono ?_
  rintro e w14 ⟨rfl, hb⟩
  replace X6 := qx X6 hb
  replace HN1 := wr HN1 hb
  replace HD1 := wr HD1 hb
  replace B := bb B hb
  clear cc13a cc13b cc13c
  clear hb 
  obtain ⟨cc15a, cc15b, cc15c⟩ := X6.out.cells
  go_wp2_with fail
  refine (qfloor_good Hha.out w14).mono ?_
  rintro e w16 ⟨rfl, hb⟩
  replace X6 := qx X6 hb
  replace HN1 := wr HN1 hb
  replace HD1 := wr HD1 hb
  replace B := bb B hb
  clear cc15a cc15b cc15c
  clear hb 
  obtain ⟨cc17a, cc17b, cc17c⟩ := X6.out.cells
  go_wp2_with fail
  refine (same_nil w16 (HDR.out.below B.out)).mono ?_
  rintro e w18 ⟨rfl, hb⟩
  replace X6 := qx X6 hb
  replace HN1 := wr HN1 hb
  replace HD1 := wr HD1 hb
  replace B := bb B hb
  clear cc17a cc17b cc17c
  clear hb 
  obtain ⟨cc19a, cc19b, cc19c⟩ := X6.out.cells
  go_wp2_with fail
  refine (rtwo3 (k := 0) Hha.out Hhb.out sa sb w18).mono ?_
  rintro e w20 ⟨v, u, rfl, hv, hu, hb⟩
  obtain ⟨s3a, p3a, n3a, c3a, p3b, n3b, c3b, rfl⟩ := hv.opened
  obtain ⟨s4a, p4a, n4a, c4a, p4b, n4b, c4b, rfl⟩ := hu.opened
  obtain ⟨ht3, hu3⟩ := hv.two
  obtain ⟨ht4, hu4⟩ := hu.two
  replace X6 := qx X6 hb
  replace HN1 := wr HN1 hb
  replace HD1 := wr HD1 hb
  replace B := bb B hb
  clear cc19a cc19b cc19c
  have HN4 := hid ht4
  have HD4 := hid hu4
  clear hb hv hu ht3 hu3 ht4 hu4
  have hb21 := (Below.refl _ _).alloc (Nat.le_refl w20.heap.size) (.cells #[.bool s3a, .slice p3a n3a c3a, .slice p3b n3b c3b] 28)
  have hx22 := Qbx.new w20 s3a p3a n3a c3a p3b n3b c3b
  have L0 := hid X6.out.lt
  replace X6 := qx X6 hb21
  replace HN1 := wr HN1 hb21
  replace HD1 := wr HD1 hb21
  replace HN4 := wr HN4 hb21
  replace HD4 := wr HD4 hb21
  replace B := bb B hb21
  have X13 := hid hx22
  have hs23 : (w20.alloc (.cells #[.bool s3a, .slice p3a n3a c3a, .slice p3b n3b c3b] 28)).heap.size = w20.heap.size + 1 := by simp
  clear hb21 hx22
  have hb24 := (Below.refl _ _).alloc (Nat.le_refl (w20.alloc (.cells #[.bool s3a, .slice p3a n3a c3a, .slice p3b n3b c3b] 28)).heap.size) (.cells #[.bool s4a, .slice p4a n4a c4a, .slice p4b n4b c4b] 28)
  have hx25 := Qbx.new (w20.alloc (.cells #[.bool s3a, .slice p3a n3a c3a, .slice p3b n3b c3b] 28)) s4a p4a n4a c4a p4b n4b c4b
  rw [hs23] at hx25
  replace X6 := qx X6 hb24
  replace X13 := qx X13 hb24
  replace HN1 := wr HN1 hb24
  replace HD1 := wr HD1 hb24
  replace HN4 := wr HN4 hb24
  replace HD4 := wr HD4 hb24
  replace B := bb B hb24
  have X14 := hid hx25
  have hs26 : ((w20.alloc (.cells #[.bool s3a, .slice p3a n3a c3a, .slice p3b n3b c3b] 28)).alloc (.cells #[.bool s4a, .slice p4a n4a c4a, .slice p4b n4b c4b] 28)).heap.size = w20.heap.size + 1 + 1 := by simp [hs23]
  clear hb24 hx25
  obtain ⟨cc27a, cc27b, cc27c⟩ := X6.out.cells
  obtain ⟨cc28a, cc28b, cc28c⟩ := X13.out.cells
  obtain ⟨cc29a, cc29b, cc29c⟩ := X14.out.cells
  go_wp2_with fail
  generalize hW : (w20.alloc (.cells #[.bool s3a, .slice p3a n3a c3a, .slice p3b n3b c3b] 28)).alloc (.cells #[.bool s4a, .slice p4a n4a c4a, .slice p4b n4b c4b] 28) = W30 at *
  clear hW
  refine (radd (QR.mk2 HN1.out HD1.out) (QR.mk2 HN4.out HD4.out) (by omega)).mono ?_
  rintro e w31 ⟨v, rfl, hv, hb⟩
  obtain ⟨s5a, p5a, n5a, c5a, p5b, n5b, c5b, rfl⟩ := hv.opened
  obtain ⟨ht5, hu5⟩ := hv.two
  replace X6 := qx X6 hb
  replace X14 := qx X14 hb
  replace HN1 := wr HN1 hb
  replace HD1 := wr HD1 hb
  replace HN4 := wr HN4 hb
  replace HD4 := wr HD4 hb
  replace B := bb B hb
  clear cc27a cc27b cc27c cc28a cc28b cc28c cc29a cc29b cc29c
  have HN5 := hid ht5
  have HD5 := hid hu5
  clear hb hv ht5 hu5
  obtain ⟨cc32a, cc32b, cc32c⟩ := X6.out.cells
  obtain ⟨cc33a, cc33b, cc33c⟩ := X14.out.cells
  go_wp2_with fail
  refine (rqtext (QR.mk2 HN5.out HD5.out) (by omega)).mono ?_
  rintro e w34 ⟨rfl, hb⟩
  replace X6 := qx X6 hb
  replace X14 := qx X14 hb
  replace HN1 := wr HN1 hb
  replace HD1 := wr HD1 hb
  replace HN4 := wr HN4 hb
  replace HD4 := wr HD4 hb
  replace B := bb B hb
  clear cc32a cc32b cc32c cc33a cc33b cc33c
  clear hb 
  clear HN5
  clear HD5
  obtain ⟨cc35a, cc35b, cc35c⟩ := X6.out.cells
  obtain ⟨cc36a, cc36b, cc36c⟩ := X14.out.cells
  go_wp2_with fail
  refine (rmul (QR.mk2 HN1.out HD1.out) (QR.mk2 HN4.out HD4.out) (by omega)).mono ?_
  rintro e w37 ⟨v, rfl, hv, hb⟩
  obtain ⟨s6a, p6a, n6a, c6a, p6b, n6b, c6b, rfl⟩ := hv.opened
  obtain ⟨ht6, hu6⟩ := hv.two
  replace X6 := qx X6 hb
  replace X14 := qx X14 hb
  replace HN1 := wr HN1 hb
  replace HD1 := wr HD1 hb
  replace HN4 := wr HN4 hb
  replace HD4 := wr HD4 hb
  replace B := bb B hb
  clear cc35a cc35b cc35c cc36a cc36b cc36c
  have HN6 := hid ht6
  have HD6 := hid hu6
  clear hb hv ht6 hu6
  obtain ⟨cc38a, cc38b, cc38c⟩ := X6.out.cells
  obtain ⟨cc39a, cc39b, cc39c⟩ := X14.out.cells
  go_wp2_with fail
  refine (rqtext (QR.mk2 HN6.out HD6.out) (by omega)).mono ?_
  rintro e w40 ⟨rfl, hb⟩
  replace X6 := qx X6 hb
  replace X14 := qx X14 hb
  replace HN1 := wr HN1 hb
  replace HD1 := wr HD1 hb
  replace HN4 := wr HN4 hb
  replace HD4 := wr HD4 hb
  replace B := bb B hb
  clear cc38a cc38b cc38c cc39a cc39b cc39c
  clear hb 
  clear HN6
  clear HD6
  obtain ⟨cc41a, cc41b, cc41c⟩ := X6.out.cells
  obtain ⟨cc42a, cc42b, cc42c⟩ := X14.out.cells
  go_wp2_with fail
  have hsn := rsgn (QR.mk2 HN4.out HD4.out) (by omega)
  have hs0 : ¬ (qnum b).num.sign = 0 := by rw [Int.sign_eq_zero_iff_zero, Rat.num_eq_zero]; exact Hhz.out
  refine (hsn).mono ?_
  rintro e w43 ⟨rfl, hb⟩
  replace X6 := qx X6 hb
  replace X14 := qx X14 hb
  replace HN1 := wr HN1 hb
  replace HD1 := wr HD1 hb
  replace HN4 := wr HN4 hb
  replace HD4 := wr HD4 hb
  replace B := bb B hb
  clear cc41a cc41b cc41c cc42a cc42b cc42c
  clear hb hsn
  obtain ⟨cc44a, cc44b, cc44c⟩ := X6.out.cells
  obtain ⟨cc45a, cc45b, cc45c⟩ := X14.out.cells
  go_wp2_with fail
  refine (rdivq (QR.mk2 HN1.out HD1.out) (QR.mk2 HN4.out HD4.out) Hhz.out (by omega)).mono ?_
  rintro e w46 ⟨v, rfl, hv, hb⟩
  obtain ⟨s7a, p7a, n7a, c7a, p7b, n7b, c7b, rfl⟩ := hv.opened
  obtain ⟨ht7, hu7⟩ := hv.two
  replace X6 := qx X6 hb
  replace X14 := qx X14 hb
  replace HN1 := wr HN1 hb
  replace HD1 := wr HD1 hb
  replace HN4 := wr HN4 hb
  replace HD4 := wr HD4 hb
  replace B := bb B hb
  clear cc44a cc44b cc44c cc45a cc45b cc45c
  have HN7 := hid ht7
  have HD7 := hid hu7
  clear hb hv ht7 hu7
  obtain ⟨cc47a, cc47b, cc47c⟩ := X6.out.cells
  obtain ⟨cc48a, cc48b, cc48c⟩ := X14.out.cells
  go_wp2_with fail
  refine (rqtext (QR.mk2 HN7.out HD7.out) (by omega)).mono ?_
  rintro e w49 ⟨rfl, hb⟩
  replace X6 := qx X6 hb
  replace X14 := qx X14 hb
  replace HN1 := wr HN1 hb
  replace HD1 := wr HD1 hb
  replace HN4 := wr HN4 hb
  replace HD4 := wr HD4 hb
  replace B := bb B hb
  clear cc47a cc47b cc47c cc48a cc48b cc48c
  clear hb 
  clear HN7
  clear HD7
  obtain ⟨cc50a, cc50b, cc50c⟩ := X6.out.cells
  obtain ⟨cc51a, cc51b, cc51c⟩ := X14.out.cells
  go_wp2_with fail
  refine (rwholeof_bad Hhwa.out w49 sa).mono ?_
  rintro e w52 ⟨s8, p8, n8, c8, rfl, hb⟩
  replace X6 := qx X6 hb
  replace X14 := qx X14 hb
  replace HN1 := wr HN1 hb
  replace HD1 := wr HD1 hb
  replace HN4 := wr HN4 hb
  replace HD4 := wr HD4 hb
  replace B := bb B hb
  clear cc50a cc50b cc50c cc51a cc51b cc51c
  clear hb 
  have hb53 := (Below.refl _ _).alloc (Nat.le_refl w52.heap.size) (.cells #[.bool s8, .slice p8 n8 c8] 26)
  have hx54 := BoxR.new w52 s8 p8 n8 c8
  have L1 := hid X14.out.lt
  replace X6 := qx X6 hb53
  replace X14 := qx X14 hb53
  replace HN1 := wr HN1 hb53
  replace HD1 := wr HD1 hb53
  replace HN4 := wr HN4 hb53
  replace HD4 := wr HD4 hb53
  replace B := bb B hb53
  have X19 := hid hx54
  have hs55 : (w52.alloc (.cells #[.bool s8, .slice p8 n8 c8] 26)).heap.size = w52.heap.size + 1 := by simp
  clear hb53 hx54
  obtain ⟨cc56a, cc56b, cc56c⟩ := X6.out.cells
  obtain ⟨cc57a, cc57b, cc57c⟩ := X14.out.cells
  obtain ⟨cc58a, cc58b⟩ := X19.out.both
  go_wp2_with fail
  generalize hW : w52.alloc (.cells #[.bool s8, .slice p8 n8 c8] 26) = W59 at *
  clear hW
  refine (rwholeof_any Hhwb.out W59 sb).mono ?_
  rintro e w60 ⟨s9, p9, n9, c9, rfl, hb⟩
  replace X6 := qx X6 hb
  replace X14 := qx X14 hb
  replace X19 := br X19 hb
  replace HN1 := wr HN1 hb
  replace HD1 := wr HD1 hb
  replace HN4 := wr HN4 hb
  replace HD4 := wr HD4 hb
  replace B := bb B hb
  clear cc56a cc56b cc56c cc57a cc57b cc57c cc58a cc58b
  clear hb 
  have hb61 := (Below.refl _ _).alloc (Nat.le_refl w60.heap.size) (.cells #[.bool s9, .slice p9 n9 c9] 26)
  have hx62 := BoxR.new w60 s9 p9 n9 c9
  have L2 := hid X19.out.lt
  replace X6 := qx X6 hb61
  replace X14 := qx X14 hb61
  replace X19 := br X19 hb61
  replace HN1 := wr HN1 hb61
  replace HD1 := wr HD1 hb61
  replace HN4 := wr HN4 hb61
  replace HD4 := wr HD4 hb61
  replace B := bb B hb61
  have X21 := hid hx62
  have hs63 : (w60.alloc (.cells #[.bool s9, .slice p9 n9 c9] 26)).heap.size = w60.heap.size + 1 := by simp
  clear hb61 hx62
  obtain ⟨cc64a, cc64b, cc64c⟩ := X6.out.cells
  obtain ⟨cc65a, cc65b, cc65c⟩ := X14.out.cells
  obtain ⟨cc66a, cc66b⟩ := X19.out.both
  obtain ⟨cc67a, cc67b⟩ := X21.out.both
  go_wp2_with fail
  generalize hW : w60.alloc (.cells #[.bool s9, .slice p9 n9 c9] 26) = W68 at *
  clear hW
  refine (two_some i j HI0.out W68).mono ?_
  rintro e w' ⟨rfl, rfl⟩
  obtain ⟨cc70a, cc70b, cc70c⟩ := X6.out.cells
  obtain ⟨cc71a, cc71b, cc71c⟩ := X14.out.cells
  go_wp2_with fail
  refine (qadd_good Hha.out Hhb.out W68).mono ?_
  rintro e w72 ⟨rfl, hb⟩
  replace X6 := qx X6 hb
  replace X14 := qx X14 hb
  replace HN1 := wr HN1 hb
  replace HD1 := wr HD1 hb
  replace HN4 := wr HN4 hb
  replace HD4 := wr HD4 hb
  replace B := bb B hb
  clear cc64a cc64b cc64c cc65a cc65b cc65c cc66a cc66b cc67a cc67b cc70a cc70b cc70c cc71a cc71b cc71c
  clear hb 
  obtain ⟨cc73a, cc73b, cc73c⟩ := X6.out.cells
  obtain ⟨cc74a, cc74b, cc74c⟩ := X14.out.cells
  go_wp2_with fail
  refine (same_nil w72 (HDR.out.below B.out)).mono ?_
  rintro e w75 ⟨rfl, hb⟩
  replace X6 := qx X6 hb
  replace X14 := qx X14 hb
  replace HN1 := wr HN1 hb
  replace HD1 := wr HD1 hb
  replace HN4 := wr HN4 hb
  replace HD4 := wr HD4 hb
  replace B := bb B hb
  clear cc73a cc73b cc73c cc74a cc74b cc74c
  clear hb 
  obtain ⟨cc76a, cc76b, cc76c⟩ := X6.out.cells
  obtain ⟨cc77a, cc77b, cc77c⟩ := X14.out.cells
  go_wp2_with fail
  refine (qmul_good Hha.out Hhb.out w75).mono ?_
  rintro e w78 ⟨rfl, hb⟩
  replace X6 := qx X6 hb
  replace X14 := qx X14 hb
  replace HN1 := wr HN1 hb
  replace HD1 := wr HD1 hb
  replace HN4 := wr HN4 hb
  replace HD4 := wr HD4 hb
  replace B := bb B hb
  clear cc76a cc76b cc76c cc77a cc77b cc77c
  clear hb 
  obtain ⟨cc79a, cc79b, cc79c⟩ := X6.out.cells
  obtain ⟨cc80a, cc80b, cc80c⟩ := X14.out.cells
  go_wp2_with fail
  refine (same_nil w78 (HDR.out.below B.out)).mono ?_
  rintro e w81 ⟨rfl, hb⟩
  replace X6 := qx X6 hb
  replace X14 := qx X14 hb
  replace HN1 := wr HN1 hb
  replace HD1 := wr HD1 hb
  replace HN4 := wr HN4 hb
  replace HD4 := wr HD4 hb
  replace B := bb B hb
  clear cc79a cc79b cc79c cc80a cc80b cc80c
  clear hb 
  obtain ⟨cc82a, cc82b, cc82c⟩ := X6.out.cells
  obtain ⟨cc83a, cc83b, cc83c⟩ := X14.out.cells
  go_wp2_with fail
  refine (qdiv_good Hha.out Hhb.out Hhz.out w81).mono ?_
  rintro e w84 ⟨rfl, hb⟩
  replace X6 := qx X6 hb
  replace X14 := qx X14 hb
  replace HN1 := wr HN1 hb
  replace HD1 := wr HD1 hb
  replace HN4 := wr HN4 hb
  replace HD4 := wr HD4 hb
  replace B := bb B hb
  clear cc82a cc82b cc82c cc83a cc83b cc83c
  clear hb 
  obtain ⟨cc85a, cc85b, cc85c⟩ := X6.out.cells
  obtain ⟨cc86a, cc86b, cc86c⟩ := X14.out.cells
  go_wp2_with fail
  refine (same_nil w84 (HDR.out.below B.out)).mono ?_
  rintro e w87 ⟨rfl, hb⟩
  replace X6 := qx X6 hb
  replace X14 := qx X14 hb
  replace HN1 := wr HN1 hb
  replace HD1 := wr HD1 hb
  replace HN4 := wr HN4 hb
  replace HD4 := wr HD4 hb
  replace B := bb B hb
  clear cc85a cc85b cc85c cc86a cc86b cc86c
  clear hb 
  obtain ⟨cc88a, cc88b, cc88c⟩ := X6.out.cells
  obtain ⟨cc89a, cc89b, cc89c⟩ := X14.out.cells
  go_wp2_with fail
  have hls := qless_good Hha.out Hhb.out w87
  generalize hli : decide (qnum a < qnum b) = li at hls
  refine (hls).mono ?_
  rintro e w90 ⟨rfl, hb⟩
  replace X6 := qx X6 hb
  replace X14 := qx X14 hb
  replace HN1 := wr HN1 hb
  replace HD1 := wr HD1 hb
  replace HN4 := wr HN4 hb
  replace HD4 := wr HD4 hb
  replace B := bb B hb
  clear cc88a cc88b cc88c cc89a cc89b cc89c
  clear hb hls
  obtain ⟨cc91a, cc91b, cc91c⟩ := X6.out.cells
  obtain ⟨cc92a, cc92b, cc92c⟩ := X14.out.cells
  go_wp2_with fail
  refine (same_nil w90 (HDR.out.below B.out)).mono ?_
  rintro e w93 ⟨rfl, hb⟩
  replace X6 := qx X6 hb
  replace X14 := qx X14 hb
  replace HN1 := wr HN1 hb
  replace HD1 := wr HD1 hb
  replace HN4 := wr HN4 hb
  replace HD4 := wr HD4 hb
  replace B := bb B hb
  clear cc91a cc91b cc91c cc92a cc92b cc92c
  clear hb 
  obtain ⟨cc94a, cc94b, cc94c⟩ := X6.out.cells
  obtain ⟨cc95a, cc95b, cc95c⟩ := X14.out.cells
  go_wp2_with fail
  refine (qmake_bad (k := i) (.inl Hhwa.out) sa sb w93).mono ?_
  rintro e w96 ⟨rfl, hb⟩
  replace X6 := qx X6 hb
  replace X14 := qx X14 hb
  replace HN1 := wr HN1 hb
  replace HD1 := wr HD1 hb
  replace HN4 := wr HN4 hb
  replace HD4 := wr HD4 hb
  replace B := bb B hb
  clear cc94a cc94b cc94c cc95a cc95b cc95c
  clear hb 
  obtain ⟨cc97a, cc97b, cc97c⟩ := X6.out.cells
  obtain ⟨cc98a, cc98b, cc98c⟩ := X14.out.cells
  go_wp2_with fail
  refine (same_no i HI0.out w96 (HDR.out.below B.out)).mono ?_
  rintro e w99 ⟨rfl, hb⟩
  replace X6 := qx X6 hb
  replace X14 := qx X14 hb
  replace HN1 := wr HN1 hb
  replace HD1 := wr HD1 hb
  replace HN4 := wr HN4 hb
  replace HD4 := wr HD4 hb
  replace B := bb B hb
  clear cc97a cc97b cc97c cc98a cc98b cc98c
  clear hb 
  obtain ⟨cc100a, cc100b, cc100c⟩ := X6.out.cells
  obtain ⟨cc101a, cc101b, cc101c⟩ := X14.out.cells
  go_wp2_with fail
  have hcm := rcmp (QR.mk2 HN1.out HD1.out) (QR.mk2 HN4.out HD4.out) (by omega)
  refine (hcm).mono ?_
  rintro e w102 ⟨rfl, hb⟩
  replace B := bb B hb
  clear cc100a cc100b cc100c cc101a cc101b cc101c
  clear hb hcm
  go_wp2_with fail
  go_ret
  exact ⟨ret_bool (by rw [← hli, less_sub]; simp), B.out⟩

end Go.Proofs.YtjeeepcnaaadmaaGreatDoor

/-
  RatTells: a case.
-/
namespace Go.Proofs.YtjeeepcnaaadmaaGreatDoor
open Go.RowKit
open Num4
open Num (dg isNat dval)
set_option linter.unusedVariables false
set_option maxRecDepth 100000
set_option linter.unusedSimpArgs false

set_option maxHeartbeats 32000000 in
theorem rtells_nb (a b : ByteArray) (sa : a.size ≤ maxLen) (sb : b.size ≤ maxLen) {k i j : Int} (ha : GoodQ a) (hb : GoodQ b) (hz : qnum b ≠ 0) (hwa : GoodZ a) (hwb : BadZ b j) (hj0 : j ≠ 0) (w : World) (hd : Door w) :
    Calls Tryz.prog 3 #[.string a, .string b] w fun e w' => e = .returned (.bool true) ∧ Below w.heap.size w w' := by
  have Hha := hid ha
  have Hhb := hid hb
  have Hhz := hid hz
  have Hhwa := hid hwa
  have Hhwb := hid hwb
  have HJ0 := hid hj0
  have HDR := hid hd
  have B := hid (Below.refl w.heap.size w)
  have hjb : (j == 0) = false := by simpa using hj0
  clear  ha hb hz hwa hwb hd
  go_enter Tryz.func3, Tryz.ntmps3
  go_wp2_with fail
  refine (halved_true w).mono ?_
  rintro e w1 ⟨rfl, hb⟩
  replace B := bb B hb
  clear hb 
  go_wp2_with fail
  refine (ratof_good Hha.out w1).mono ?_
  rintro e w2 ⟨v, rfl, hv, hb⟩
  obtain ⟨s1a, p1a, n1a, c1a, p1b, n1b, c1b, rfl⟩ := hv.opened
  obtain ⟨ht1, hu1⟩ := hv.two
  replace B := bb B hb
  have HN1 := hid ht1
  have HD1 := hid hu1
  clear hb hv ht1 hu1
  have hb3 := (Below.refl _ _).alloc (Nat.le_refl w2.heap.size) (.cells #[.bool s1a, .slice p1a n1a c1a, .slice p1b n1b c1b] 28)
  have hx4 := Qbx.new w2 s1a p1a n1a c1a p1b n1b c1b
  replace HN1 := wr HN1 hb3
  replace HD1 := wr HD1 hb3
  replace B := bb B hb3
  have X6 := hid hx4
  have hs5 : (w2.alloc (.cells #[.bool s1a, .slice p1a n1a c1a, .slice p1b n1b c1b] 28)).heap.size = w2.heap.size + 1 := by simp
  clear hb3 hx4
  obtain ⟨cc6a, cc6b, cc6c⟩ := X6.out.cells
  go_wp2_with fail
  generalize hW : w2.alloc (.cells #[.bool s1a, .slice p1a n1a c1a, .slice p1b n1b c1b] 28) = W7 at *
  clear hW
  refine (qcheck_good Hha.out W7).mono ?_
  rintro e w8 ⟨rfl, hb⟩
  replace X6 := qx X6 hb
  replace HN1 := wr HN1 hb
  replace HD1 := wr HD1 hb
  replace B := bb B hb
  clear cc6a cc6b cc6c
  clear hb 
  obtain ⟨cc9a, cc9b, cc9c⟩ := X6.out.cells
  go_wp2_with fail
  refine (same_nil w8 (HDR.out.below B.out)).mono ?_
  rintro e w10 ⟨rfl, hb⟩
  replace X6 := qx X6 hb
  replace HN1 := wr HN1 hb
  replace HD1 := wr HD1 hb
  replace B := bb B hb
  clear cc9a cc9b cc9c
  clear hb 
  obtain ⟨cc11a, cc11b, cc11c⟩ := X6.out.cells
  go_wp2_with fail
  refine (rfloor (QR.mk2 HN1.out HD1.out) (by omega) (by omega)).mono ?_
  rintro e w12 ⟨v, rfl, hv, hb⟩
  obtain ⟨s2, p2, n2, c2, rfl⟩ := hv.opened
  replace X6 := qx X6 hb
  replace HN1 := wr HN1 hb
  replace HD1 := wr HD1 hb
  replace B := bb B hb
  clear cc11a cc11b cc11c
  have HF := hid hv
  clear hb hv
  obtain ⟨cc13a, cc13b, cc13c⟩ := X6.out.cells
  go_wp2_with fail
  refine (rtextz HF.out (by omega)).mono ?_
  rintro e w14 ⟨rfl, hb⟩
  replace X6 := qx X6 hb
  replace HN1 := wr HN1 hb
  replace HD1 := wr HD1 hb
  replace B := bb B hb
  clear cc13a cc13b cc13c
  clear hb 
  obtain ⟨cc15a, cc15b, cc15c⟩ := X6.out.cells
  go_wp2_with fail
  refine (qfloor_good Hha.out w14).mono ?_
  rintro e w16 ⟨rfl, hb⟩
  replace X6 := qx X6 hb
  replace HN1 := wr HN1 hb
  replace HD1 := wr HD1 hb
  replace B := bb B hb
  clear cc15a cc15b cc15c
  clear hb 
  obtain ⟨cc17a, cc17b, cc17c⟩ := X6.out.cells
  go_wp2_with fail
  refine (same_nil w16 (HDR.out.below B.out)).mono ?_
  rintro e w18 ⟨rfl, hb⟩
  replace X6 := qx X6 hb
  replace HN1 := wr HN1 hb
  replace HD1 := wr HD1 hb
  replace B := bb B hb
  clear cc17a cc17b cc17c
  clear hb 
  obtain ⟨cc19a, cc19b, cc19c⟩ := X6.out.cells
  go_wp2_with fail
  refine (rtwo3 (k := 0) Hha.out Hhb.out sa sb w18).mono ?_
  rintro e w20 ⟨v, u, rfl, hv, hu, hb⟩
  obtain ⟨s3a, p3a, n3a, c3a, p3b, n3b, c3b, rfl⟩ := hv.opened
  obtain ⟨s4a, p4a, n4a, c4a, p4b, n4b, c4b, rfl⟩ := hu.opened
  obtain ⟨ht3, hu3⟩ := hv.two
  obtain ⟨ht4, hu4⟩ := hu.two
  replace X6 := qx X6 hb
  replace HN1 := wr HN1 hb
  replace HD1 := wr HD1 hb
  replace B := bb B hb
  clear cc19a cc19b cc19c
  have HN4 := hid ht4
  have HD4 := hid hu4
  clear hb hv hu ht3 hu3 ht4 hu4
  have hb21 := (Below.refl _ _).alloc (Nat.le_refl w20.heap.size) (.cells #[.bool s3a, .slice p3a n3a c3a, .slice p3b n3b c3b] 28)
  have hx22 := Qbx.new w20 s3a p3a n3a c3a p3b n3b c3b
  have L0 := hid X6.out.lt
  replace X6 := qx X6 hb21
  replace HN1 := wr HN1 hb21
  replace HD1 := wr HD1 hb21
  replace HN4 := wr HN4 hb21
  replace HD4 := wr HD4 hb21
  replace B := bb B hb21
  have X13 := hid hx22
  have hs23 : (w20.alloc (.cells #[.bool s3a, .slice p3a n3a c3a, .slice p3b n3b c3b] 28)).heap.size = w20.heap.size + 1 := by simp
  clear hb21 hx22
  have hb24 := (Below.refl _ _).alloc (Nat.le_refl (w20.alloc (.cells #[.bool s3a, .slice p3a n3a c3a, .slice p3b n3b c3b] 28)).heap.size) (.cells #[.bool s4a, .slice p4a n4a c4a, .slice p4b n4b c4b] 28)
  have hx25 := Qbx.new (w20.alloc (.cells #[.bool s3a, .slice p3a n3a c3a, .slice p3b n3b c3b] 28)) s4a p4a n4a c4a p4b n4b c4b
  rw [hs23] at hx25
  replace X6 := qx X6 hb24
  replace X13 := qx X13 hb24
  replace HN1 := wr HN1 hb24
  replace HD1 := wr HD1 hb24
  replace HN4 := wr HN4 hb24
  replace HD4 := wr HD4 hb24
  replace B := bb B hb24
  have X14 := hid hx25
  have hs26 : ((w20.alloc (.cells #[.bool s3a, .slice p3a n3a c3a, .slice p3b n3b c3b] 28)).alloc (.cells #[.bool s4a, .slice p4a n4a c4a, .slice p4b n4b c4b] 28)).heap.size = w20.heap.size + 1 + 1 := by simp [hs23]
  clear hb24 hx25
  obtain ⟨cc27a, cc27b, cc27c⟩ := X6.out.cells
  obtain ⟨cc28a, cc28b, cc28c⟩ := X13.out.cells
  obtain ⟨cc29a, cc29b, cc29c⟩ := X14.out.cells
  go_wp2_with fail
  generalize hW : (w20.alloc (.cells #[.bool s3a, .slice p3a n3a c3a, .slice p3b n3b c3b] 28)).alloc (.cells #[.bool s4a, .slice p4a n4a c4a, .slice p4b n4b c4b] 28) = W30 at *
  clear hW
  refine (radd (QR.mk2 HN1.out HD1.out) (QR.mk2 HN4.out HD4.out) (by omega)).mono ?_
  rintro e w31 ⟨v, rfl, hv, hb⟩
  obtain ⟨s5a, p5a, n5a, c5a, p5b, n5b, c5b, rfl⟩ := hv.opened
  obtain ⟨ht5, hu5⟩ := hv.two
  replace X6 := qx X6 hb
  replace X14 := qx X14 hb
  replace HN1 := wr HN1 hb
  replace HD1 := wr HD1 hb
  replace HN4 := wr HN4 hb
  replace HD4 := wr HD4 hb
  replace B := bb B hb
  clear cc27a cc27b cc27c cc28a cc28b cc28c cc29a cc29b cc29c
  have HN5 := hid ht5
  have HD5 := hid hu5
  clear hb hv ht5 hu5
  obtain ⟨cc32a, cc32b, cc32c⟩ := X6.out.cells
  obtain ⟨cc33a, cc33b, cc33c⟩ := X14.out.cells
  go_wp2_with fail
  refine (rqtext (QR.mk2 HN5.out HD5.out) (by omega)).mono ?_
  rintro e w34 ⟨rfl, hb⟩
  replace X6 := qx X6 hb
  replace X14 := qx X14 hb
  replace HN1 := wr HN1 hb
  replace HD1 := wr HD1 hb
  replace HN4 := wr HN4 hb
  replace HD4 := wr HD4 hb
  replace B := bb B hb
  clear cc32a cc32b cc32c cc33a cc33b cc33c
  clear hb 
  clear HN5
  clear HD5
  obtain ⟨cc35a, cc35b, cc35c⟩ := X6.out.cells
  obtain ⟨cc36a, cc36b, cc36c⟩ := X14.out.cells
  go_wp2_with fail
  refine (rmul (QR.mk2 HN1.out HD1.out) (QR.mk2 HN4.out HD4.out) (by omega)).mono ?_
  rintro e w37 ⟨v, rfl, hv, hb⟩
  obtain ⟨s6a, p6a, n6a, c6a, p6b, n6b, c6b, rfl⟩ := hv.opened
  obtain ⟨ht6, hu6⟩ := hv.two
  replace X6 := qx X6 hb
  replace X14 := qx X14 hb
  replace HN1 := wr HN1 hb
  replace HD1 := wr HD1 hb
  replace HN4 := wr HN4 hb
  replace HD4 := wr HD4 hb
  replace B := bb B hb
  clear cc35a cc35b cc35c cc36a cc36b cc36c
  have HN6 := hid ht6
  have HD6 := hid hu6
  clear hb hv ht6 hu6
  obtain ⟨cc38a, cc38b, cc38c⟩ := X6.out.cells
  obtain ⟨cc39a, cc39b, cc39c⟩ := X14.out.cells
  go_wp2_with fail
  refine (rqtext (QR.mk2 HN6.out HD6.out) (by omega)).mono ?_
  rintro e w40 ⟨rfl, hb⟩
  replace X6 := qx X6 hb
  replace X14 := qx X14 hb
  replace HN1 := wr HN1 hb
  replace HD1 := wr HD1 hb
  replace HN4 := wr HN4 hb
  replace HD4 := wr HD4 hb
  replace B := bb B hb
  clear cc38a cc38b cc38c cc39a cc39b cc39c
  clear hb 
  clear HN6
  clear HD6
  obtain ⟨cc41a, cc41b, cc41c⟩ := X6.out.cells
  obtain ⟨cc42a, cc42b, cc42c⟩ := X14.out.cells
  go_wp2_with fail
  have hsn := rsgn (QR.mk2 HN4.out HD4.out) (by omega)
  have hs0 : ¬ (qnum b).num.sign = 0 := by rw [Int.sign_eq_zero_iff_zero, Rat.num_eq_zero]; exact Hhz.out
  refine (hsn).mono ?_
  rintro e w43 ⟨rfl, hb⟩
  replace X6 := qx X6 hb
  replace X14 := qx X14 hb
  replace HN1 := wr HN1 hb
  replace HD1 := wr HD1 hb
  replace HN4 := wr HN4 hb
  replace HD4 := wr HD4 hb
  replace B := bb B hb
  clear cc41a cc41b cc41c cc42a cc42b cc42c
  clear hb hsn
  obtain ⟨cc44a, cc44b, cc44c⟩ := X6.out.cells
  obtain ⟨cc45a, cc45b, cc45c⟩ := X14.out.cells
  go_wp2_with fail
  refine (rdivq (QR.mk2 HN1.out HD1.out) (QR.mk2 HN4.out HD4.out) Hhz.out (by omega)).mono ?_
  rintro e w46 ⟨v, rfl, hv, hb⟩
  obtain ⟨s7a, p7a, n7a, c7a, p7b, n7b, c7b, rfl⟩ := hv.opened
  obtain ⟨ht7, hu7⟩ := hv.two
  replace X6 := qx X6 hb
  replace X14 := qx X14 hb
  replace HN1 := wr HN1 hb
  replace HD1 := wr HD1 hb
  replace HN4 := wr HN4 hb
  replace HD4 := wr HD4 hb
  replace B := bb B hb
  clear cc44a cc44b cc44c cc45a cc45b cc45c
  have HN7 := hid ht7
  have HD7 := hid hu7
  clear hb hv ht7 hu7
  obtain ⟨cc47a, cc47b, cc47c⟩ := X6.out.cells
  obtain ⟨cc48a, cc48b, cc48c⟩ := X14.out.cells
  go_wp2_with fail
  refine (rqtext (QR.mk2 HN7.out HD7.out) (by omega)).mono ?_
  rintro e w49 ⟨rfl, hb⟩
  replace X6 := qx X6 hb
  replace X14 := qx X14 hb
  replace HN1 := wr HN1 hb
  replace HD1 := wr HD1 hb
  replace HN4 := wr HN4 hb
  replace HD4 := wr HD4 hb
  replace B := bb B hb
  clear cc47a cc47b cc47c cc48a cc48b cc48c
  clear hb 
  clear HN7
  clear HD7
  obtain ⟨cc50a, cc50b, cc50c⟩ := X6.out.cells
  obtain ⟨cc51a, cc51b, cc51c⟩ := X14.out.cells
  go_wp2_with fail
  refine (rwholeof_good Hhwa.out w49).mono ?_
  rintro e w52 ⟨v, rfl, hv, hb⟩
  obtain ⟨s8, p8, n8, c8, rfl⟩ := hv.opened
  replace X6 := qx X6 hb
  replace X14 := qx X14 hb
  replace HN1 := wr HN1 hb
  replace HD1 := wr HD1 hb
  replace HN4 := wr HN4 hb
  replace HD4 := wr HD4 hb
  replace B := bb B hb
  clear cc50a cc50b cc50c cc51a cc51b cc51c
  have HW8 := hid hv
  clear hb hv
  have hb53 := (Below.refl _ _).alloc (Nat.le_refl w52.heap.size) (.cells #[.bool s8, .slice p8 n8 c8] 26)
  have hx54 := BoxR.new w52 s8 p8 n8 c8
  have L1 := hid X14.out.lt
  replace X6 := qx X6 hb53
  replace X14 := qx X14 hb53
  replace HN1 := wr HN1 hb53
  replace HD1 := wr HD1 hb53
  replace HN4 := wr HN4 hb53
  replace HD4 := wr HD4 hb53
  replace B := bb B hb53
  have X19 := hid hx54
  have hs55 : (w52.alloc (.cells #[.bool s8, .slice p8 n8 c8] 26)).heap.size = w52.heap.size + 1 := by simp
  clear hb53 hx54
  obtain ⟨cc56a, cc56b, cc56c⟩ := X6.out.cells
  obtain ⟨cc57a, cc57b, cc57c⟩ := X14.out.cells
  obtain ⟨cc58a, cc58b⟩ := X19.out.both
  go_wp2_with fail
  generalize hW : w52.alloc (.cells #[.bool s8, .slice p8 n8 c8] 26) = W59 at *
  clear hW
  refine (rwholeof_bad Hhwb.out W59 sb).mono ?_
  rintro e w60 ⟨s9, p9, n9, c9, rfl, hb⟩
  replace X6 := qx X6 hb
  replace X14 := qx X14 hb
  replace X19 := br X19 hb
  replace HN1 := wr HN1 hb
  replace HD1 := wr HD1 hb
  replace HN4 := wr HN4 hb
  replace HD4 := wr HD4 hb
  replace B := bb B hb
  clear cc56a cc56b cc56c cc57a cc57b cc57c cc58a cc58b
  clear hb 
  have hb61 := (Below.refl _ _).alloc (Nat.le_refl w60.heap.size) (.cells #[.bool s9, .slice p9 n9 c9] 26)
  have hx62 := BoxR.new w60 s9 p9 n9 c9
  have L2 := hid X19.out.lt
  replace X6 := qx X6 hb61
  replace X14 := qx X14 hb61
  replace X19 := br X19 hb61
  replace HN1 := wr HN1 hb61
  replace HD1 := wr HD1 hb61
  replace HN4 := wr HN4 hb61
  replace HD4 := wr HD4 hb61
  replace B := bb B hb61
  have X21 := hid hx62
  have hs63 : (w60.alloc (.cells #[.bool s9, .slice p9 n9 c9] 26)).heap.size = w60.heap.size + 1 := by simp
  clear hb61 hx62
  obtain ⟨cc64a, cc64b, cc64c⟩ := X6.out.cells
  obtain ⟨cc65a, cc65b, cc65c⟩ := X14.out.cells
  obtain ⟨cc66a, cc66b⟩ := X19.out.both
  obtain ⟨cc67a, cc67b⟩ := X21.out.both
  go_wp2_with fail
  generalize hW : w60.alloc (.cells #[.bool s9, .slice p9 n9 c9] 26) = W68 at *
  clear hW
  refine (two_zero j W68).mono ?_
  rintro e w' ⟨rfl, rfl⟩
  obtain ⟨cc70a, cc70b, cc70c⟩ := X6.out.cells
  obtain ⟨cc71a, cc71b, cc71c⟩ := X14.out.cells
  obtain ⟨cc72a, cc72b⟩ := X19.out.both
  obtain ⟨cc73a, cc73b⟩ := X21.out.both
  go_wp2_with fail
  refine (qadd_good Hha.out Hhb.out W68).mono ?_
  rintro e w74 ⟨rfl, hb⟩
  replace X6 := qx X6 hb
  replace X14 := qx X14 hb
  replace HN1 := wr HN1 hb
  replace HD1 := wr HD1 hb
  replace HN4 := wr HN4 hb
  replace HD4 := wr HD4 hb
  replace B := bb B hb
  clear cc64a cc64b cc64c cc65a cc65b cc65c cc66a cc66b cc67a cc67b cc70a cc70b cc70c cc71a cc71b cc71c cc72a cc72b cc73a cc73b
  clear hb 
  obtain ⟨cc75a, cc75b, cc75c⟩ := X6.out.cells
  obtain ⟨cc76a, cc76b, cc76c⟩ := X14.out.cells
  go_wp2_with fail
  refine (same_nil w74 (HDR.out.below B.out)).mono ?_
  rintro e w77 ⟨rfl, hb⟩
  replace X6 := qx X6 hb
  replace X14 := qx X14 hb
  replace HN1 := wr HN1 hb
  replace HD1 := wr HD1 hb
  replace HN4 := wr HN4 hb
  replace HD4 := wr HD4 hb
  replace B := bb B hb
  clear cc75a cc75b cc75c cc76a cc76b cc76c
  clear hb 
  obtain ⟨cc78a, cc78b, cc78c⟩ := X6.out.cells
  obtain ⟨cc79a, cc79b, cc79c⟩ := X14.out.cells
  go_wp2_with fail
  refine (qmul_good Hha.out Hhb.out w77).mono ?_
  rintro e w80 ⟨rfl, hb⟩
  replace X6 := qx X6 hb
  replace X14 := qx X14 hb
  replace HN1 := wr HN1 hb
  replace HD1 := wr HD1 hb
  replace HN4 := wr HN4 hb
  replace HD4 := wr HD4 hb
  replace B := bb B hb
  clear cc78a cc78b cc78c cc79a cc79b cc79c
  clear hb 
  obtain ⟨cc81a, cc81b, cc81c⟩ := X6.out.cells
  obtain ⟨cc82a, cc82b, cc82c⟩ := X14.out.cells
  go_wp2_with fail
  refine (same_nil w80 (HDR.out.below B.out)).mono ?_
  rintro e w83 ⟨rfl, hb⟩
  replace X6 := qx X6 hb
  replace X14 := qx X14 hb
  replace HN1 := wr HN1 hb
  replace HD1 := wr HD1 hb
  replace HN4 := wr HN4 hb
  replace HD4 := wr HD4 hb
  replace B := bb B hb
  clear cc81a cc81b cc81c cc82a cc82b cc82c
  clear hb 
  obtain ⟨cc84a, cc84b, cc84c⟩ := X6.out.cells
  obtain ⟨cc85a, cc85b, cc85c⟩ := X14.out.cells
  go_wp2_with fail
  refine (qdiv_good Hha.out Hhb.out Hhz.out w83).mono ?_
  rintro e w86 ⟨rfl, hb⟩
  replace X6 := qx X6 hb
  replace X14 := qx X14 hb
  replace HN1 := wr HN1 hb
  replace HD1 := wr HD1 hb
  replace HN4 := wr HN4 hb
  replace HD4 := wr HD4 hb
  replace B := bb B hb
  clear cc84a cc84b cc84c cc85a cc85b cc85c
  clear hb 
  obtain ⟨cc87a, cc87b, cc87c⟩ := X6.out.cells
  obtain ⟨cc88a, cc88b, cc88c⟩ := X14.out.cells
  go_wp2_with fail
  refine (same_nil w86 (HDR.out.below B.out)).mono ?_
  rintro e w89 ⟨rfl, hb⟩
  replace X6 := qx X6 hb
  replace X14 := qx X14 hb
  replace HN1 := wr HN1 hb
  replace HD1 := wr HD1 hb
  replace HN4 := wr HN4 hb
  replace HD4 := wr HD4 hb
  replace B := bb B hb
  clear cc87a cc87b cc87c cc88a cc88b cc88c
  clear hb 
  obtain ⟨cc90a, cc90b, cc90c⟩ := X6.out.cells
  obtain ⟨cc91a, cc91b, cc91c⟩ := X14.out.cells
  go_wp2_with fail
  have hls := qless_good Hha.out Hhb.out w89
  generalize hli : decide (qnum a < qnum b) = li at hls
  refine (hls).mono ?_
  rintro e w92 ⟨rfl, hb⟩
  replace X6 := qx X6 hb
  replace X14 := qx X14 hb
  replace HN1 := wr HN1 hb
  replace HD1 := wr HD1 hb
  replace HN4 := wr HN4 hb
  replace HD4 := wr HD4 hb
  replace B := bb B hb
  clear cc90a cc90b cc90c cc91a cc91b cc91c
  clear hb hls
  obtain ⟨cc93a, cc93b, cc93c⟩ := X6.out.cells
  obtain ⟨cc94a, cc94b, cc94c⟩ := X14.out.cells
  go_wp2_with fail
  refine (same_nil w92 (HDR.out.below B.out)).mono ?_
  rintro e w95 ⟨rfl, hb⟩
  replace X6 := qx X6 hb
  replace X14 := qx X14 hb
  replace HN1 := wr HN1 hb
  replace HD1 := wr HD1 hb
  replace HN4 := wr HN4 hb
  replace HD4 := wr HD4 hb
  replace B := bb B hb
  clear cc93a cc93b cc93c cc94a cc94b cc94c
  clear hb 
  obtain ⟨cc96a, cc96b, cc96c⟩ := X6.out.cells
  obtain ⟨cc97a, cc97b, cc97c⟩ := X14.out.cells
  go_wp2_with fail
  refine (qmake_bad (k := j) (.inr ⟨Hhwa.out, Hhwb.out⟩) sa sb w95).mono ?_
  rintro e w98 ⟨rfl, hb⟩
  replace X6 := qx X6 hb
  replace X14 := qx X14 hb
  replace HN1 := wr HN1 hb
  replace HD1 := wr HD1 hb
  replace HN4 := wr HN4 hb
  replace HD4 := wr HD4 hb
  replace B := bb B hb
  clear cc96a cc96b cc96c cc97a cc97b cc97c
  clear hb 
  obtain ⟨cc99a, cc99b, cc99c⟩ := X6.out.cells
  obtain ⟨cc100a, cc100b, cc100c⟩ := X14.out.cells
  go_wp2_with fail
  refine (same_no j HJ0.out w98 (HDR.out.below B.out)).mono ?_
  rintro e w101 ⟨rfl, hb⟩
  replace X6 := qx X6 hb
  replace X14 := qx X14 hb
  replace HN1 := wr HN1 hb
  replace HD1 := wr HD1 hb
  replace HN4 := wr HN4 hb
  replace HD4 := wr HD4 hb
  replace B := bb B hb
  clear cc99a cc99b cc99c cc100a cc100b cc100c
  clear hb 
  obtain ⟨cc102a, cc102b, cc102c⟩ := X6.out.cells
  obtain ⟨cc103a, cc103b, cc103c⟩ := X14.out.cells
  go_wp2_with fail
  have hcm := rcmp (QR.mk2 HN1.out HD1.out) (QR.mk2 HN4.out HD4.out) (by omega)
  refine (hcm).mono ?_
  rintro e w104 ⟨rfl, hb⟩
  replace B := bb B hb
  clear cc102a cc102b cc102c cc103a cc103b cc103c
  clear hb hcm
  go_wp2_with fail
  go_ret
  exact ⟨ret_bool (by rw [← hli, less_sub]; simp), B.out⟩

end Go.Proofs.YtjeeepcnaaadmaaGreatDoor

/-
  RatTells: a case.
-/
namespace Go.Proofs.YtjeeepcnaaadmaaGreatDoor
open Go.RowKit
open Num4
open Num (dg isNat dval)
set_option linter.unusedVariables false
set_option maxRecDepth 100000
set_option linter.unusedSimpArgs false

set_option maxHeartbeats 32000000 in
theorem rtells_nm (a b : ByteArray) (sa : a.size ≤ maxLen) (sb : b.size ≤ maxLen) {k i j : Int} (ha : GoodQ a) (hb : GoodQ b) (hz : qnum b ≠ 0) (hwa : GoodZ a) (hwb : GoodZ b) (hs : znum b < 0) (w : World) (hd : Door w) :
    Calls Tryz.prog 3 #[.string a, .string b] w fun e w' => e = .returned (.bool true) ∧ Below w.heap.size w w' := by
  have Hha := hid ha
  have Hhb := hid hb
  have Hhz := hid hz
  have Hhwa := hid hwa
  have Hhwb := hid hwb
  have Hhs := hid hs
  have HDR := hid hd
  have B := hid (Below.refl w.heap.size w)
  clear  ha hb hz hwa hwb hs hd
  go_enter Tryz.func3, Tryz.ntmps3
  go_wp2_with fail
  refine (halved_true w).mono ?_
  rintro e w1 ⟨rfl, hb⟩
  replace B := bb B hb
  clear hb 
  go_wp2_with fail
  refine (ratof_good Hha.out w1).mono ?_
  rintro e w2 ⟨v, rfl, hv, hb⟩
  obtain ⟨s1a, p1a, n1a, c1a, p1b, n1b, c1b, rfl⟩ := hv.opened
  obtain ⟨ht1, hu1⟩ := hv.two
  replace B := bb B hb
  have HN1 := hid ht1
  have HD1 := hid hu1
  clear hb hv ht1 hu1
  have hb3 := (Below.refl _ _).alloc (Nat.le_refl w2.heap.size) (.cells #[.bool s1a, .slice p1a n1a c1a, .slice p1b n1b c1b] 28)
  have hx4 := Qbx.new w2 s1a p1a n1a c1a p1b n1b c1b
  replace HN1 := wr HN1 hb3
  replace HD1 := wr HD1 hb3
  replace B := bb B hb3
  have X6 := hid hx4
  have hs5 : (w2.alloc (.cells #[.bool s1a, .slice p1a n1a c1a, .slice p1b n1b c1b] 28)).heap.size = w2.heap.size + 1 := by simp
  clear hb3 hx4
  obtain ⟨cc6a, cc6b, cc6c⟩ := X6.out.cells
  go_wp2_with fail
  generalize hW : w2.alloc (.cells #[.bool s1a, .slice p1a n1a c1a, .slice p1b n1b c1b] 28) = W7 at *
  clear hW
  refine (qcheck_good Hha.out W7).mono ?_
  rintro e w8 ⟨rfl, hb⟩
  replace X6 := qx X6 hb
  replace HN1 := wr HN1 hb
  replace HD1 := wr HD1 hb
  replace B := bb B hb
  clear cc6a cc6b cc6c
  clear hb 
  obtain ⟨cc9a, cc9b, cc9c⟩ := X6.out.cells
  go_wp2_with fail
  refine (same_nil w8 (HDR.out.below B.out)).mono ?_
  rintro e w10 ⟨rfl, hb⟩
  replace X6 := qx X6 hb
  replace HN1 := wr HN1 hb
  replace HD1 := wr HD1 hb
  replace B := bb B hb
  clear cc9a cc9b cc9c
  clear hb 
  obtain ⟨cc11a, cc11b, cc11c⟩ := X6.out.cells
  go_wp2_with fail
  refine (rfloor (QR.mk2 HN1.out HD1.out) (by omega) (by omega)).mono ?_
  rintro e w12 ⟨v, rfl, hv, hb⟩
  obtain ⟨s2, p2, n2, c2, rfl⟩ := hv.opened
  replace X6 := qx X6 hb
  replace HN1 := wr HN1 hb
  replace HD1 := wr HD1 hb
  replace B := bb B hb
  clear cc11a cc11b cc11c
  have HF := hid hv
  clear hb hv
  obtain ⟨cc13a, cc13b, cc13c⟩ := X6.out.cells
  go_wp2_with fail
  refine (rtextz HF.out (by omega)).mono ?_
  rintro e w14 ⟨rfl, hb⟩
  replace X6 := qx X6 hb
  replace HN1 := wr HN1 hb
  replace HD1 := wr HD1 hb
  replace HF := wr HF hb
  replace B := bb B hb
  clear cc13a cc13b cc13c
  clear hb 
  obtain ⟨cc15a, cc15b, cc15c⟩ := X6.out.cells
  go_wp2_with fail
  refine (qfloor_good Hha.out w14).mono ?_
  rintro e w16 ⟨rfl, hb⟩
  replace X6 := qx X6 hb
  replace HN1 := wr HN1 hb
  replace HD1 := wr HD1 hb
  replace HF := wr HF hb
  replace B := bb B hb
  clear cc15a cc15b cc15c
  clear hb 
  obtain ⟨cc17a, cc17b, cc17c⟩ := X6.out.cells
  go_wp2_with fail
  refine (same_nil w16 (HDR.out.below B.out)).mono ?_
  rintro e w18 ⟨rfl, hb⟩
  replace X6 := qx X6 hb
  replace HN1 := wr HN1 hb
  replace HD1 := wr HD1 hb
  replace HF := wr HF hb
  replace B := bb B hb
  clear cc17a cc17b cc17c
  clear hb 
  obtain ⟨cc19a, cc19b, cc19c⟩ := X6.out.cells
  go_wp2_with fail
  refine (rtwo3 (k := 0) Hha.out Hhb.out sa sb w18).mono ?_
  rintro e w20 ⟨v, u, rfl, hv, hu, hb⟩
  obtain ⟨s3a, p3a, n3a, c3a, p3b, n3b, c3b, rfl⟩ := hv.opened
  obtain ⟨s4a, p4a, n4a, c4a, p4b, n4b, c4b, rfl⟩ := hu.opened
  obtain ⟨ht3, hu3⟩ := hv.two
  obtain ⟨ht4, hu4⟩ := hu.two
  replace X6 := qx X6 hb
  replace HN1 := wr HN1 hb
  replace HD1 := wr HD1 hb
  replace HF := wr HF hb
  replace B := bb B hb
  clear cc19a cc19b cc19c
  have HN4 := hid ht4
  have HD4 := hid hu4
  clear hb hv hu ht3 hu3 ht4 hu4
  have hb21 := (Below.refl _ _).alloc (Nat.le_refl w20.heap.size) (.cells #[.bool s3a, .slice p3a n3a c3a, .slice p3b n3b c3b] 28)
  have hx22 := Qbx.new w20 s3a p3a n3a c3a p3b n3b c3b
  have L0 := hid X6.out.lt
  replace X6 := qx X6 hb21
  replace HN1 := wr HN1 hb21
  replace HD1 := wr HD1 hb21
  replace HF := wr HF hb21
  replace HN4 := wr HN4 hb21
  replace HD4 := wr HD4 hb21
  replace B := bb B hb21
  have X13 := hid hx22
  have hs23 : (w20.alloc (.cells #[.bool s3a, .slice p3a n3a c3a, .slice p3b n3b c3b] 28)).heap.size = w20.heap.size + 1 := by simp
  clear hb21 hx22
  have hb24 := (Below.refl _ _).alloc (Nat.le_refl (w20.alloc (.cells #[.bool s3a, .slice p3a n3a c3a, .slice p3b n3b c3b] 28)).heap.size) (.cells #[.bool s4a, .slice p4a n4a c4a, .slice p4b n4b c4b] 28)
  have hx25 := Qbx.new (w20.alloc (.cells #[.bool s3a, .slice p3a n3a c3a, .slice p3b n3b c3b] 28)) s4a p4a n4a c4a p4b n4b c4b
  rw [hs23] at hx25
  replace X6 := qx X6 hb24
  replace X13 := qx X13 hb24
  replace HN1 := wr HN1 hb24
  replace HD1 := wr HD1 hb24
  replace HF := wr HF hb24
  replace HN4 := wr HN4 hb24
  replace HD4 := wr HD4 hb24
  replace B := bb B hb24
  have X14 := hid hx25
  have hs26 : ((w20.alloc (.cells #[.bool s3a, .slice p3a n3a c3a, .slice p3b n3b c3b] 28)).alloc (.cells #[.bool s4a, .slice p4a n4a c4a, .slice p4b n4b c4b] 28)).heap.size = w20.heap.size + 1 + 1 := by simp [hs23]
  clear hb24 hx25
  obtain ⟨cc27a, cc27b, cc27c⟩ := X6.out.cells
  obtain ⟨cc28a, cc28b, cc28c⟩ := X13.out.cells
  obtain ⟨cc29a, cc29b, cc29c⟩ := X14.out.cells
  go_wp2_with fail
  generalize hW : (w20.alloc (.cells #[.bool s3a, .slice p3a n3a c3a, .slice p3b n3b c3b] 28)).alloc (.cells #[.bool s4a, .slice p4a n4a c4a, .slice p4b n4b c4b] 28) = W30 at *
  clear hW
  refine (radd (QR.mk2 HN1.out HD1.out) (QR.mk2 HN4.out HD4.out) (by omega)).mono ?_
  rintro e w31 ⟨v, rfl, hv, hb⟩
  obtain ⟨s5a, p5a, n5a, c5a, p5b, n5b, c5b, rfl⟩ := hv.opened
  obtain ⟨ht5, hu5⟩ := hv.two
  replace X6 := qx X6 hb
  replace X14 := qx X14 hb
  replace HN1 := wr HN1 hb
  replace HD1 := wr HD1 hb
  replace HF := wr HF hb
  replace HN4 := wr HN4 hb
  replace HD4 := wr HD4 hb
  replace B := bb B hb
  clear cc27a cc27b cc27c cc28a cc28b cc28c cc29a cc29b cc29c
  have HN5 := hid ht5
  have HD5 := hid hu5
  clear hb hv ht5 hu5
  obtain ⟨cc32a, cc32b, cc32c⟩ := X6.out.cells
  obtain ⟨cc33a, cc33b, cc33c⟩ := X14.out.cells
  go_wp2_with fail
  refine (rqtext (QR.mk2 HN5.out HD5.out) (by omega)).mono ?_
  rintro e w34 ⟨rfl, hb⟩
  replace X6 := qx X6 hb
  replace X14 := qx X14 hb
  replace HN1 := wr HN1 hb
  replace HD1 := wr HD1 hb
  replace HF := wr HF hb
  replace HN4 := wr HN4 hb
  replace HD4 := wr HD4 hb
  replace HN5 := wr HN5 hb
  replace HD5 := wr HD5 hb
  replace B := bb B hb
  clear cc32a cc32b cc32c cc33a cc33b cc33c
  clear hb 
  clear HN5
  clear HD5
  obtain ⟨cc35a, cc35b, cc35c⟩ := X6.out.cells
  obtain ⟨cc36a, cc36b, cc36c⟩ := X14.out.cells
  go_wp2_with fail
  refine (rmul (QR.mk2 HN1.out HD1.out) (QR.mk2 HN4.out HD4.out) (by omega)).mono ?_
  rintro e w37 ⟨v, rfl, hv, hb⟩
  obtain ⟨s6a, p6a, n6a, c6a, p6b, n6b, c6b, rfl⟩ := hv.opened
  obtain ⟨ht6, hu6⟩ := hv.two
  replace X6 := qx X6 hb
  replace X14 := qx X14 hb
  replace HN1 := wr HN1 hb
  replace HD1 := wr HD1 hb
  replace HF := wr HF hb
  replace HN4 := wr HN4 hb
  replace HD4 := wr HD4 hb
  replace B := bb B hb
  clear cc35a cc35b cc35c cc36a cc36b cc36c
  have HN6 := hid ht6
  have HD6 := hid hu6
  clear hb hv ht6 hu6
  obtain ⟨cc38a, cc38b, cc38c⟩ := X6.out.cells
  obtain ⟨cc39a, cc39b, cc39c⟩ := X14.out.cells
  go_wp2_with fail
  refine (rqtext (QR.mk2 HN6.out HD6.out) (by omega)).mono ?_
  rintro e w40 ⟨rfl, hb⟩
  replace X6 := qx X6 hb
  replace X14 := qx X14 hb
  replace HN1 := wr HN1 hb
  replace HD1 := wr HD1 hb
  replace HF := wr HF hb
  replace HN4 := wr HN4 hb
  replace HD4 := wr HD4 hb
  replace B := bb B hb
  clear cc38a cc38b cc38c cc39a cc39b cc39c
  clear hb 
  clear HN6
  clear HD6
  obtain ⟨cc41a, cc41b, cc41c⟩ := X6.out.cells
  obtain ⟨cc42a, cc42b, cc42c⟩ := X14.out.cells
  go_wp2_with fail
  have hsn := rsgn (QR.mk2 HN4.out HD4.out) (by omega)
  have hs0 : ¬ (qnum b).num.sign = 0 := by rw [Int.sign_eq_zero_iff_zero, Rat.num_eq_zero]; exact Hhz.out
  refine (hsn).mono ?_
  rintro e w43 ⟨rfl, hb⟩
  replace X6 := qx X6 hb
  replace X14 := qx X14 hb
  replace HN1 := wr HN1 hb
  replace HD1 := wr HD1 hb
  replace HF := wr HF hb
  replace HN4 := wr HN4 hb
  replace HD4 := wr HD4 hb
  replace B := bb B hb
  clear cc41a cc41b cc41c cc42a cc42b cc42c
  clear hb hsn
  obtain ⟨cc44a, cc44b, cc44c⟩ := X6.out.cells
  obtain ⟨cc45a, cc45b, cc45c⟩ := X14.out.cells
  go_wp2_with fail
  refine (rdivq (QR.mk2 HN1.out HD1.out) (QR.mk2 HN4.out HD4.out) Hhz.out (by omega)).mono ?_
  rintro e w46 ⟨v, rfl, hv, hb⟩
  obtain ⟨s7a, p7a, n7a, c7a, p7b, n7b, c7b, rfl⟩ := hv.opened
  obtain ⟨ht7, hu7⟩ := hv.two
  replace X6 := qx X6 hb
  replace X14 := qx X14 hb
  replace HN1 := wr HN1 hb
  replace HD1 := wr HD1 hb
  replace HF := wr HF hb
  replace HN4 := wr HN4 hb
  replace HD4 := wr HD4 hb
  replace B := bb B hb
  clear cc44a cc44b cc44c cc45a cc45b cc45c
  have HN7 := hid ht7
  have HD7 := hid hu7
  clear hb hv ht7 hu7
  obtain ⟨cc47a, cc47b, cc47c⟩ := X6.out.cells
  obtain ⟨cc48a, cc48b, cc48c⟩ := X14.out.cells
  go_wp2_with fail
  refine (rqtext (QR.mk2 HN7.out HD7.out) (by omega)).mono ?_
  rintro e w49 ⟨rfl, hb⟩
  replace X6 := qx X6 hb
  replace X14 := qx X14 hb
  replace HN1 := wr HN1 hb
  replace HD1 := wr HD1 hb
  replace HF := wr HF hb
  replace HN4 := wr HN4 hb
  replace HD4 := wr HD4 hb
  replace B := bb B hb
  clear cc47a cc47b cc47c cc48a cc48b cc48c
  clear hb 
  clear HN7
  clear HD7
  obtain ⟨cc50a, cc50b, cc50c⟩ := X6.out.cells
  obtain ⟨cc51a, cc51b, cc51c⟩ := X14.out.cells
  go_wp2_with fail
  refine (rwholeof_good Hhwa.out w49).mono ?_
  rintro e w52 ⟨v, rfl, hv, hb⟩
  obtain ⟨s8, p8, n8, c8, rfl⟩ := hv.opened
  replace X6 := qx X6 hb
  replace X14 := qx X14 hb
  replace HN1 := wr HN1 hb
  replace HD1 := wr HD1 hb
  replace HF := wr HF hb
  replace HN4 := wr HN4 hb
  replace HD4 := wr HD4 hb
  replace B := bb B hb
  clear cc50a cc50b cc50c cc51a cc51b cc51c
  have HW8 := hid hv
  clear hb hv
  have hb53 := (Below.refl _ _).alloc (Nat.le_refl w52.heap.size) (.cells #[.bool s8, .slice p8 n8 c8] 26)
  have hx54 := BoxR.new w52 s8 p8 n8 c8
  have L1 := hid X14.out.lt
  replace X6 := qx X6 hb53
  replace X14 := qx X14 hb53
  replace HN1 := wr HN1 hb53
  replace HD1 := wr HD1 hb53
  replace HF := wr HF hb53
  replace HN4 := wr HN4 hb53
  replace HD4 := wr HD4 hb53
  replace HW8 := wr HW8 hb53
  replace B := bb B hb53
  have X19 := hid hx54
  have hs55 : (w52.alloc (.cells #[.bool s8, .slice p8 n8 c8] 26)).heap.size = w52.heap.size + 1 := by simp
  clear hb53 hx54
  obtain ⟨cc56a, cc56b, cc56c⟩ := X6.out.cells
  obtain ⟨cc57a, cc57b, cc57c⟩ := X14.out.cells
  obtain ⟨cc58a, cc58b⟩ := X19.out.both
  go_wp2_with fail
  generalize hW : w52.alloc (.cells #[.bool s8, .slice p8 n8 c8] 26) = W59 at *
  clear hW
  refine (rwholeof_good Hhwb.out W59).mono ?_
  rintro e w60 ⟨v, rfl, hv, hb⟩
  obtain ⟨s9, p9, n9, c9, rfl⟩ := hv.opened
  replace X6 := qx X6 hb
  replace X14 := qx X14 hb
  replace X19 := br X19 hb
  replace HN1 := wr HN1 hb
  replace HD1 := wr HD1 hb
  replace HF := wr HF hb
  replace HN4 := wr HN4 hb
  replace HD4 := wr HD4 hb
  replace HW8 := wr HW8 hb
  replace B := bb B hb
  clear cc56a cc56b cc56c cc57a cc57b cc57c cc58a cc58b
  have HW9 := hid hv
  clear hb hv
  have hb61 := (Below.refl _ _).alloc (Nat.le_refl w60.heap.size) (.cells #[.bool s9, .slice p9 n9 c9] 26)
  have hx62 := BoxR.new w60 s9 p9 n9 c9
  have L2 := hid X19.out.lt
  replace X6 := qx X6 hb61
  replace X14 := qx X14 hb61
  replace X19 := br X19 hb61
  replace HN1 := wr HN1 hb61
  replace HD1 := wr HD1 hb61
  replace HF := wr HF hb61
  replace HN4 := wr HN4 hb61
  replace HD4 := wr HD4 hb61
  replace HW8 := wr HW8 hb61
  replace HW9 := wr HW9 hb61
  replace B := bb B hb61
  have X21 := hid hx62
  have hs63 : (w60.alloc (.cells #[.bool s9, .slice p9 n9 c9] 26)).heap.size = w60.heap.size + 1 := by simp
  clear hb61 hx62
  obtain ⟨cc64a, cc64b, cc64c⟩ := X6.out.cells
  obtain ⟨cc65a, cc65b, cc65c⟩ := X14.out.cells
  obtain ⟨cc66a, cc66b⟩ := X19.out.both
  obtain ⟨cc67a, cc67b⟩ := X21.out.both
  go_wp2_with fail
  generalize hW : w60.alloc (.cells #[.bool s9, .slice p9 n9 c9] 26) = W68 at *
  clear hW
  refine (two_zero 0 W68).mono ?_
  rintro e w' ⟨rfl, rfl⟩
  have hn9 : ¬ (n9 : Int) = 0 := by have h1 := HW9.out.inside.1.len; have h2 := Hhs.out; omega
  have hs9 : s9 = true := by rw [HW9.out.inside.2]; exact decide_eq_true Hhs.out
  subst hs9
  obtain ⟨cc70a, cc70b, cc70c⟩ := X6.out.cells
  obtain ⟨cc71a, cc71b, cc71c⟩ := X14.out.cells
  obtain ⟨cc72a, cc72b⟩ := X19.out.both
  obtain ⟨cc73a, cc73b⟩ := X21.out.both
  go_wp2_with fail
  obtain ⟨cc74a, cc74b⟩ := X19.out.both
  obtain ⟨cc75a, cc75b⟩ := X21.out.both
  replace X6 := hid X6.out.dr
  replace X14 := hid X14.out.dr
  replace X19 := hid X19.out.dr
  replace X21 := hid X21.out.dr
  replace HN1 := hid HN1.out.drew
  replace HD1 := hid HD1.out.drew
  replace HF := hid HF.out.drew
  replace HN4 := hid HN4.out.drew
  replace HD4 := hid HD4.out.drew
  replace HW8 := hid HW8.out.drew
  replace HW9 := hid HW9.out.drew
  replace B := hid (Below.drew B.out)
  obtain ⟨cc76a, cc76b⟩ := X19.out.both
  obtain ⟨cc77a, cc77b⟩ := X21.out.both
  go_region_held3 (fun w' => w'.cell? ⟨w52.heap.size, 0, none⟩ = some (.bool s8) ∧ w'.cell? ⟨w52.heap.size, 1, none⟩ = some (.slice p8 n8 c8) ∧ w'.cell? ⟨w60.heap.size, 0, none⟩ = some (.bool true) ∧ w'.cell? ⟨w60.heap.size, 1, none⟩ = some (.slice p9 n9 c9)) (go_keep) (first
    | (have hm := mk78_1; clear hm; go_at_call 14; refine (rqtext (QR.mk2 HN5.out HD5.out) (by omega)).mono ?_; rintro e w85 ⟨rfl, hb⟩; replace X6 := qx X6 hb; replace X14 := qx X14 hb; replace X19 := br X19 hb; replace X21 := br X21 hb; replace HN1 := wr HN1 hb; replace HD1 := wr HD1 hb; replace HN4 := wr HN4 hb; replace HD4 := wr HD4 hb; replace B := bb B hb; clear cc83a cc83b cc84a cc84b; clear hb ; obtain ⟨cc86a, cc86b⟩ := X19.out.both; obtain ⟨cc87a, cc87b⟩ := X21.out.both; have mk78_2 := hid True.intro)
    | (have hm := mk78_0; clear hm; go_at_call 21; refine (rover HM.out HW9.out.inside.1 (by have := Hhs.out; omega) (by omega)).mono ?_; rintro e w82 ⟨v, rfl, hv, hb⟩; obtain ⟨s5a, p5a, n5a, c5a, p5b, n5b, c5b, rfl⟩ := hv.opened; obtain ⟨ht5, hu5⟩ := hv.two; replace X6 := qx X6 hb; replace X14 := qx X14 hb; replace X19 := br X19 hb; replace X21 := br X21 hb; replace HN1 := wr HN1 hb; replace HD1 := wr HD1 hb; replace HN4 := wr HN4 hb; replace HD4 := wr HD4 hb; replace B := bb B hb; clear cc80a cc80b cc81a cc81b; have HN5 := hid ht5; have HD5 := hid hu5; clear hb hv ht5 hu5; obtain ⟨cc83a, cc83b⟩ := X19.out.both; obtain ⟨cc84a, cc84b⟩ := X21.out.both; have mk78_1 := hid True.intro)
    | (go_at_call 22; refine (rneg_whl HW8.out).mono ?_; rintro e w79 ⟨v, rfl, hv, hb⟩; obtain ⟨s10, p10, n10, c10, rfl⟩ := hv.opened; replace X6 := qx X6 hb; replace X14 := qx X14 hb; replace X19 := br X19 hb; replace X21 := br X21 hb; replace HN1 := wr HN1 hb; replace HD1 := wr HD1 hb; replace HN4 := wr HN4 hb; replace HD4 := wr HD4 hb; replace HW9 := wr HW9 hb; replace B := bb B hb; clear cc64a cc64b cc64c cc65a cc65b cc65c cc66a cc66b cc67a cc67b cc70a cc70b cc70c cc71a cc71b cc71c cc72a cc72b cc73a cc73b cc74a cc74b cc75a cc75b cc76a cc76b cc77a cc77b; have HM := hid hv; clear hb hv; obtain ⟨cc80a, cc80b⟩ := X19.out.both; obtain ⟨cc81a, cc81b⟩ := X21.out.both; have mk78_0 := hid True.intro))
  obtain ⟨cc88a, cc88b, cc88c⟩ := X6.out.cells
  obtain ⟨cc89a, cc89b, cc89c⟩ := X14.out.cells
  obtain ⟨cc90a, cc90b⟩ := X19.out.both
  obtain ⟨cc91a, cc91b⟩ := X21.out.both
  go_wp2_with fail
  refine (qadd_good Hha.out Hhb.out w85).mono ?_
  rintro e w92 ⟨rfl, hb⟩
  replace X6 := qx X6 hb
  replace X14 := qx X14 hb
  replace HN1 := wr HN1 hb
  replace HD1 := wr HD1 hb
  replace HN4 := wr HN4 hb
  replace HD4 := wr HD4 hb
  replace B := bb B hb
  clear cc86a cc86b cc87a cc87b cc88a cc88b cc88c cc89a cc89b cc89c cc90a cc90b cc91a cc91b
  clear hb 
  obtain ⟨cc93a, cc93b, cc93c⟩ := X6.out.cells
  obtain ⟨cc94a, cc94b, cc94c⟩ := X14.out.cells
  go_wp2_with fail
  refine (same_nil w92 (HDR.out.below B.out)).mono ?_
  rintro e w95 ⟨rfl, hb⟩
  replace X6 := qx X6 hb
  replace X14 := qx X14 hb
  replace HN1 := wr HN1 hb
  replace HD1 := wr HD1 hb
  replace HN4 := wr HN4 hb
  replace HD4 := wr HD4 hb
  replace B := bb B hb
  clear cc93a cc93b cc93c cc94a cc94b cc94c
  clear hb 
  obtain ⟨cc96a, cc96b, cc96c⟩ := X6.out.cells
  obtain ⟨cc97a, cc97b, cc97c⟩ := X14.out.cells
  go_wp2_with fail
  refine (qmul_good Hha.out Hhb.out w95).mono ?_
  rintro e w98 ⟨rfl, hb⟩
  replace X6 := qx X6 hb
  replace X14 := qx X14 hb
  replace HN1 := wr HN1 hb
  replace HD1 := wr HD1 hb
  replace HN4 := wr HN4 hb
  replace HD4 := wr HD4 hb
  replace B := bb B hb
  clear cc96a cc96b cc96c cc97a cc97b cc97c
  clear hb 
  obtain ⟨cc99a, cc99b, cc99c⟩ := X6.out.cells
  obtain ⟨cc100a, cc100b, cc100c⟩ := X14.out.cells
  go_wp2_with fail
  refine (same_nil w98 (HDR.out.below B.out)).mono ?_
  rintro e w101 ⟨rfl, hb⟩
  replace X6 := qx X6 hb
  replace X14 := qx X14 hb
  replace HN1 := wr HN1 hb
  replace HD1 := wr HD1 hb
  replace HN4 := wr HN4 hb
  replace HD4 := wr HD4 hb
  replace B := bb B hb
  clear cc99a cc99b cc99c cc100a cc100b cc100c
  clear hb 
  obtain ⟨cc102a, cc102b, cc102c⟩ := X6.out.cells
  obtain ⟨cc103a, cc103b, cc103c⟩ := X14.out.cells
  go_wp2_with fail
  refine (qdiv_good Hha.out Hhb.out Hhz.out w101).mono ?_
  rintro e w104 ⟨rfl, hb⟩
  replace X6 := qx X6 hb
  replace X14 := qx X14 hb
  replace HN1 := wr HN1 hb
  replace HD1 := wr HD1 hb
  replace HN4 := wr HN4 hb
  replace HD4 := wr HD4 hb
  replace B := bb B hb
  clear cc102a cc102b cc102c cc103a cc103b cc103c
  clear hb 
  obtain ⟨cc105a, cc105b, cc105c⟩ := X6.out.cells
  obtain ⟨cc106a, cc106b, cc106c⟩ := X14.out.cells
  go_wp2_with fail
  refine (same_nil w104 (HDR.out.below B.out)).mono ?_
  rintro e w107 ⟨rfl, hb⟩
  replace X6 := qx X6 hb
  replace X14 := qx X14 hb
  replace HN1 := wr HN1 hb
  replace HD1 := wr HD1 hb
  replace HN4 := wr HN4 hb
  replace HD4 := wr HD4 hb
  replace B := bb B hb
  clear cc105a cc105b cc105c cc106a cc106b cc106c
  clear hb 
  obtain ⟨cc108a, cc108b, cc108c⟩ := X6.out.cells
  obtain ⟨cc109a, cc109b, cc109c⟩ := X14.out.cells
  go_wp2_with fail
  have hls := qless_good Hha.out Hhb.out w107
  generalize hli : decide (qnum a < qnum b) = li at hls
  refine (hls).mono ?_
  rintro e w110 ⟨rfl, hb⟩
  replace X6 := qx X6 hb
  replace X14 := qx X14 hb
  replace HN1 := wr HN1 hb
  replace HD1 := wr HD1 hb
  replace HN4 := wr HN4 hb
  replace HD4 := wr HD4 hb
  replace B := bb B hb
  clear cc108a cc108b cc108c cc109a cc109b cc109c
  clear hb hls
  obtain ⟨cc111a, cc111b, cc111c⟩ := X6.out.cells
  obtain ⟨cc112a, cc112b, cc112c⟩ := X14.out.cells
  go_wp2_with fail
  refine (same_nil w110 (HDR.out.below B.out)).mono ?_
  rintro e w113 ⟨rfl, hb⟩
  replace X6 := qx X6 hb
  replace X14 := qx X14 hb
  replace HN1 := wr HN1 hb
  replace HD1 := wr HD1 hb
  replace HN4 := wr HN4 hb
  replace HD4 := wr HD4 hb
  replace B := bb B hb
  clear cc111a cc111b cc111c cc112a cc112b cc112c
  clear hb 
  obtain ⟨cc114a, cc114b, cc114c⟩ := X6.out.cells
  obtain ⟨cc115a, cc115b, cc115c⟩ := X14.out.cells
  go_wp2_with fail
  have hmk := qmake_good Hhwa.out Hhwb.out (by have := Hhs.out; omega) w113
  rw [made_neg Hhs.out] at hmk
  refine (hmk).mono ?_
  rintro e w116 ⟨rfl, hb⟩
  replace X6 := qx X6 hb
  replace X14 := qx X14 hb
  replace HN1 := wr HN1 hb
  replace HD1 := wr HD1 hb
  replace HN4 := wr HN4 hb
  replace HD4 := wr HD4 hb
  replace B := bb B hb
  clear cc114a cc114b cc114c cc115a cc115b cc115c
  clear hb hmk
  obtain ⟨cc117a, cc117b, cc117c⟩ := X6.out.cells
  obtain ⟨cc118a, cc118b, cc118c⟩ := X14.out.cells
  go_wp2_with fail
  refine (same_nil w116 (HDR.out.below B.out)).mono ?_
  rintro e w119 ⟨rfl, hb⟩
  replace X6 := qx X6 hb
  replace X14 := qx X14 hb
  replace HN1 := wr HN1 hb
  replace HD1 := wr HD1 hb
  replace HN4 := wr HN4 hb
  replace HD4 := wr HD4 hb
  replace B := bb B hb
  clear cc117a cc117b cc117c cc118a cc118b cc118c
  clear hb 
  obtain ⟨cc120a, cc120b, cc120c⟩ := X6.out.cells
  obtain ⟨cc121a, cc121b, cc121c⟩ := X14.out.cells
  go_wp2_with fail
  have hcm := rcmp (QR.mk2 HN1.out HD1.out) (QR.mk2 HN4.out HD4.out) (by omega)
  refine (hcm).mono ?_
  rintro e w122 ⟨rfl, hb⟩
  replace B := bb B hb
  clear cc120a cc120b cc120c cc121a cc121b cc121c
  clear hb hcm
  go_wp2_with fail
  go_ret
  exact ⟨ret_bool (by rw [← hli, less_sub]; simp), B.out⟩

end Go.Proofs.YtjeeepcnaaadmaaGreatDoor
