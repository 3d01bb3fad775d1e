import Derived.Test.YtckkbjnipacodaaGreatDoorBunProofRatTells19
import Derived.Test.YtckkbjnipacodaaGreatDoorBunProofRatTells18
import Derived.Test.YtckkbjnipacodaaGreatDoorBunProofRatTells13
import Derived.Test.YtckkbjnipacodaaGreatDoorBunProofRatTells8
import Derived.Deep.RegionHeld3
/-
  THE REFERENCE: Two.
-/
namespace Go.Proofs.YtckkbjnipacodaaGreatDoor
open Go.RowKit
open Num4
open Num (dg isNat dval)
set_option linter.unusedVariables false
set_option maxRecDepth 100000
set_option linter.unusedSimpArgs false

set_option maxHeartbeats 4000000 in
theorem rtwo1 {a b : ByteArray} {k : Int} (h1 : BadQ a k) (ha : a.size ≤ maxLen) (hb0 : b.size ≤ maxLen) (w : World) :
    Calls Tryz.prog 11 #[.string a, .string b] w fun e w' => ∃ s5a p5a n5a c5a p5b n5b c5b s6a p6a n6a c6a p6b n6b c6b, e = .returned (.tuple #[.agg #[.bool s5a, .slice p5a n5a c5a, .slice p5b n5b c5b], .agg #[.bool s6a, .slice p6a n6a c6a, .slice p6b n6b c6b], .int .i64 k]) ∧ Below w.heap.size w w' := by
  have H1 := hid h1
  have hk0 : ¬ k = 0 := h1.ne
  have B := hid (Below.refl w.heap.size w)
  have hb1 := (Below.refl _ _).alloc (Nat.le_refl w.heap.size) (.cells #[.bool false, .slice none 0 0, .slice none 0 0] 28)
  have hx2 := Qbx.new w false none 0 0 none 0 0
  replace B := hid (B.out.trans (hb1.mono B.out.size))
  have R1 := hid hx2
  have hs3 : (w.alloc (.cells #[.bool false, .slice none 0 0, .slice none 0 0] 28)).heap.size = w.heap.size + 1 := by simp
  clear hb1 hx2
  have hb4 := (Below.refl _ _).alloc (Nat.le_refl (w.alloc (.cells #[.bool false, .slice none 0 0, .slice none 0 0] 28)).heap.size) (.cells #[.bool false, .slice none 0 0, .slice none 0 0] 28)
  have hx5 := Qbx.new (w.alloc (.cells #[.bool false, .slice none 0 0, .slice none 0 0] 28)) false none 0 0 none 0 0
  rw [hs3] at hx5
  replace R1 := hid (R1.out.below hb4 R1.out.lt)
  replace B := hid (B.out.trans (hb4.mono B.out.size))
  have R2 := hid hx5
  have hs6 : ((w.alloc (.cells #[.bool false, .slice none 0 0, .slice none 0 0] 28)).alloc (.cells #[.bool false, .slice none 0 0, .slice none 0 0] 28)).heap.size = w.heap.size + 1 + 1 := by simp [hs3]
  clear hb4 hx5
  clear hs6 h1
  go_enter Tryz.func11, Tryz.ntmps11
  obtain ⟨cc7a, cc7b, cc7c⟩ := R1.out.cells
  obtain ⟨cc8a, cc8b, cc8c⟩ := R2.out.cells
  go_wp2_with fail
  generalize hW : (w.alloc (.cells #[.bool false, .slice none 0 0, .slice none 0 0] 28)).alloc (.cells #[.bool false, .slice none 0 0, .slice none 0 0] 28) = W9 at *
  clear hW
  refine (ratof_bad H1.out _ ha).mono ?_
  rintro e w10 ⟨s5a, p5a, n5a, c5a, p5b, n5b, c5b, rfl, hb⟩
  replace R1 := hid (R1.out.below hb R1.out.lt)
  replace R2 := hid (R2.out.below hb R2.out.lt)
  replace B := hid (B.out.trans (hb.mono B.out.size))
  clear cc7a cc7b cc7c cc8a cc8b cc8c
  clear hb 
  have hb11 := (Below.refl _ _).alloc (Nat.le_refl w10.heap.size) (.cells #[.bool s5a, .slice p5a n5a c5a, .slice p5b n5b c5b] 28)
  have hx12 := Qbx.new w10 s5a p5a n5a c5a p5b n5b c5b
  have L0 := hid R2.out.lt
  replace R1 := hid (R1.out.below hb11 R1.out.lt)
  replace R2 := hid (R2.out.below hb11 R2.out.lt)
  replace B := hid (B.out.trans (hb11.mono B.out.size))
  have X7 := hid hx12
  have hs13 : (w10.alloc (.cells #[.bool s5a, .slice p5a n5a c5a, .slice p5b n5b c5b] 28)).heap.size = w10.heap.size + 1 := by simp
  clear hb11 hx12
  obtain ⟨cc14a, cc14b, cc14c⟩ := R1.out.cells
  obtain ⟨cc15a, cc15b, cc15c⟩ := R2.out.cells
  obtain ⟨cc16a, cc16b, cc16c⟩ := X7.out.cells
  go_wp2_with fail
  generalize hW : w10.alloc (.cells #[.bool s5a, .slice p5a n5a c5a, .slice p5b n5b c5b] 28) = W17 at *
  clear hW
  obtain ⟨cc18a, cc18b, cc18c⟩ := X7.out.cells
  obtain ⟨⟨cc19a, cc19b⟩, ⟨cc19c, cc19d⟩, cc19e, cc19f⟩ := R1.out.stores
  obtain ⟨r20a, r20b, r20c⟩ := R1.out.last B.out (by have := L0.out; omega) s5a p5a n5a c5a p5b n5b c5b
  replace R2 := hid (((R2.out.other (g2 := w.heap.size) (by have := L0.out; omega) 0 (.bool s5a)).other (g2 := w.heap.size) (by have := L0.out; omega) 1 (.slice p5a n5a c5a)).other (g2 := w.heap.size) (by have := L0.out; omega) 2 (.slice p5b n5b c5b))
  replace X7 := hid (((X7.out.other (g2 := w.heap.size) (by have := L0.out; omega) 0 (.bool s5a)).other (g2 := w.heap.size) (by have := L0.out; omega) 1 (.slice p5a n5a c5a)).other (g2 := w.heap.size) (by have := L0.out; omega) 2 (.slice p5b n5b c5b))
  replace R1 := hid r20a
  replace B := hid r20b
  clear r20a r20b r20c
  obtain ⟨cc21a, cc21b, cc21c⟩ := X7.out.cells
  obtain ⟨⟨cc22a, cc22b⟩, ⟨cc22c, cc22d⟩, cc22e, cc22f⟩ := R2.out.stores
  obtain ⟨r23a, r23b, r23c⟩ := R2.out.last B.out (by have := L0.out; omega) s5a p5a n5a c5a p5b n5b c5b
  replace R1 := hid (((R1.out.other (g2 := w.heap.size + 1) (by have := L0.out; omega) 0 (.bool s5a)).other (g2 := w.heap.size + 1) (by have := L0.out; omega) 1 (.slice p5a n5a c5a)).other (g2 := w.heap.size + 1) (by have := L0.out; omega) 2 (.slice p5b n5b c5b))
  replace X7 := hid (((X7.out.other (g2 := w.heap.size + 1) (by have := L0.out; omega) 0 (.bool s5a)).other (g2 := w.heap.size + 1) (by have := L0.out; omega) 1 (.slice p5a n5a c5a)).other (g2 := w.heap.size + 1) (by have := L0.out; omega) 2 (.slice p5b n5b c5b))
  replace R2 := hid r23a
  replace B := hid r23b
  clear r23a r23b r23c
  obtain ⟨cc24a, cc24b, cc24c⟩ := X7.out.cells
  go_region_held3 (fun w' => w'.cell? ⟨w10.heap.size, 0, none⟩ = some (.bool s5a) ∧ w'.cell? ⟨w10.heap.size, 1, none⟩ = some (.slice p5a n5a c5a) ∧ w'.cell? ⟨w10.heap.size, 2, none⟩ = some (.slice p5b n5b c5b)) (go_keep) (first | fail)
  replace R1 := hid R1.out.dr
  replace R2 := hid R2.out.dr
  replace X7 := hid X7.out.dr
  replace B := hid (Below.drew B.out)
  go_wp2_with fail
  refine bodyPost_ret (res_qq_tmp rfl rfl rfl rfl R1.out R2.out) rfl ?_
  exact ⟨_, _, _, _, _, _, _, _, _, _, _, _, _, _, rfl, B.out⟩

set_option maxHeartbeats 4000000 in
theorem rtwo2 {a b : ByteArray} {k : Int} (h1 : GoodQ a) (h2 : BadQ b k) (ha : a.size ≤ maxLen) (hb0 : b.size ≤ maxLen) (w : World) :
    Calls Tryz.prog 11 #[.string a, .string b] w fun e w' => ∃ s5a p5a n5a c5a p5b n5b c5b s6a p6a n6a c6a p6b n6b c6b, e = .returned (.tuple #[.agg #[.bool s5a, .slice p5a n5a c5a, .slice p5b n5b c5b], .agg #[.bool s6a, .slice p6a n6a c6a, .slice p6b n6b c6b], .int .i64 k]) ∧ Below w.heap.size w w' := by
  have H1 := hid h1
  have H2 := hid h2
  have hk0 : ¬ k = 0 := h2.ne
  have B := hid (Below.refl w.heap.size w)
  have hb1 := (Below.refl _ _).alloc (Nat.le_refl w.heap.size) (.cells #[.bool false, .slice none 0 0, .slice none 0 0] 28)
  have hx2 := Qbx.new w false none 0 0 none 0 0
  replace B := hid (B.out.trans (hb1.mono B.out.size))
  have R1 := hid hx2
  have hs3 : (w.alloc (.cells #[.bool false, .slice none 0 0, .slice none 0 0] 28)).heap.size = w.heap.size + 1 := by simp
  clear hb1 hx2
  have hb4 := (Below.refl _ _).alloc (Nat.le_refl (w.alloc (.cells #[.bool false, .slice none 0 0, .slice none 0 0] 28)).heap.size) (.cells #[.bool false, .slice none 0 0, .slice none 0 0] 28)
  have hx5 := Qbx.new (w.alloc (.cells #[.bool false, .slice none 0 0, .slice none 0 0] 28)) false none 0 0 none 0 0
  rw [hs3] at hx5
  replace R1 := hid (R1.out.below hb4 R1.out.lt)
  replace B := hid (B.out.trans (hb4.mono B.out.size))
  have R2 := hid hx5
  have hs6 : ((w.alloc (.cells #[.bool false, .slice none 0 0, .slice none 0 0] 28)).alloc (.cells #[.bool false, .slice none 0 0, .slice none 0 0] 28)).heap.size = w.heap.size + 1 + 1 := by simp [hs3]
  clear hb4 hx5
  clear hs6 h1 h2
  go_enter Tryz.func11, Tryz.ntmps11
  obtain ⟨cc7a, cc7b, cc7c⟩ := R1.out.cells
  obtain ⟨cc8a, cc8b, cc8c⟩ := R2.out.cells
  go_wp2_with fail
  generalize hW : (w.alloc (.cells #[.bool false, .slice none 0 0, .slice none 0 0] 28)).alloc (.cells #[.bool false, .slice none 0 0, .slice none 0 0] 28) = W9 at *
  clear hW
  refine (ratof_good H1.out _).mono ?_
  rintro e w10 ⟨v, rfl, hv, hb⟩
  obtain ⟨s5a, p5a, n5a, c5a, p5b, n5b, c5b, rfl⟩ := hv.opened
  obtain ⟨ht5, hu5⟩ := hv.two
  replace R1 := hid (R1.out.below hb R1.out.lt)
  replace R2 := hid (R2.out.below hb R2.out.lt)
  replace B := hid (B.out.trans (hb.mono B.out.size))
  clear cc7a cc7b cc7c cc8a cc8b cc8c
  have HN5 := hid ht5
  have HD5 := hid hu5
  clear hb hv ht5 hu5
  have hb11 := (Below.refl _ _).alloc (Nat.le_refl w10.heap.size) (.cells #[.bool s5a, .slice p5a n5a c5a, .slice p5b n5b c5b] 28)
  have hx12 := Qbx.new w10 s5a p5a n5a c5a p5b n5b c5b
  have L0 := hid R2.out.lt
  replace R1 := hid (R1.out.below hb11 R1.out.lt)
  replace R2 := hid (R2.out.below hb11 R2.out.lt)
  replace HN5 := hid (HN5.out.on hb11)
  replace HD5 := hid (HD5.out.on hb11)
  replace B := hid (B.out.trans (hb11.mono B.out.size))
  have X7 := hid hx12
  have hs13 : (w10.alloc (.cells #[.bool s5a, .slice p5a n5a c5a, .slice p5b n5b c5b] 28)).heap.size = w10.heap.size + 1 := by simp
  clear hb11 hx12
  obtain ⟨cc14a, cc14b, cc14c⟩ := R1.out.cells
  obtain ⟨cc15a, cc15b, cc15c⟩ := R2.out.cells
  obtain ⟨cc16a, cc16b, cc16c⟩ := X7.out.cells
  go_wp2_with fail
  generalize hW : w10.alloc (.cells #[.bool s5a, .slice p5a n5a c5a, .slice p5b n5b c5b] 28) = W17 at *
  clear hW
  refine (ratof_bad H2.out _ hb0).mono ?_
  rintro e w18 ⟨s6a, p6a, n6a, c6a, p6b, n6b, c6b, rfl, hb⟩
  replace R1 := hid (R1.out.below hb R1.out.lt)
  replace R2 := hid (R2.out.below hb R2.out.lt)
  replace X7 := hid (X7.out.below hb X7.out.lt)
  replace HN5 := hid (HN5.out.on hb)
  replace HD5 := hid (HD5.out.on hb)
  replace B := hid (B.out.trans (hb.mono B.out.size))
  clear cc14a cc14b cc14c cc15a cc15b cc15c cc16a cc16b cc16c
  clear hb 
  have hb19 := (Below.refl _ _).alloc (Nat.le_refl w18.heap.size) (.cells #[.bool s6a, .slice p6a n6a c6a, .slice p6b n6b c6b] 28)
  have hx20 := Qbx.new w18 s6a p6a n6a c6a p6b n6b c6b
  have L1 := hid X7.out.lt
  replace R1 := hid (R1.out.below hb19 R1.out.lt)
  replace R2 := hid (R2.out.below hb19 R2.out.lt)
  replace X7 := hid (X7.out.below hb19 X7.out.lt)
  replace HN5 := hid (HN5.out.on hb19)
  replace HD5 := hid (HD5.out.on hb19)
  replace B := hid (B.out.trans (hb19.mono B.out.size))
  have X9 := hid hx20
  have hs21 : (w18.alloc (.cells #[.bool s6a, .slice p6a n6a c6a, .slice p6b n6b c6b] 28)).heap.size = w18.heap.size + 1 := by simp
  clear hb19 hx20
  obtain ⟨cc22a, cc22b, cc22c⟩ := R1.out.cells
  obtain ⟨cc23a, cc23b, cc23c⟩ := R2.out.cells
  obtain ⟨cc24a, cc24b, cc24c⟩ := X7.out.cells
  obtain ⟨cc25a, cc25b, cc25c⟩ := X9.out.cells
  go_wp2_with fail
  generalize hW : w18.alloc (.cells #[.bool s6a, .slice p6a n6a c6a, .slice p6b n6b c6b] 28) = W26 at *
  clear hW
  obtain ⟨cc27a, cc27b, cc27c⟩ := X7.out.cells
  obtain ⟨cc28a, cc28b, cc28c⟩ := X9.out.cells
  obtain ⟨⟨cc29a, cc29b⟩, ⟨cc29c, cc29d⟩, cc29e, cc29f⟩ := R1.out.stores
  obtain ⟨r30a, r30b, r30c⟩ := R1.out.last B.out (by have := L0.out; have := L1.out; omega) s5a p5a n5a c5a p5b n5b c5b
  replace R2 := hid (((R2.out.other (g2 := w.heap.size) (by have := L0.out; have := L1.out; omega) 0 (.bool s5a)).other (g2 := w.heap.size) (by have := L0.out; have := L1.out; omega) 1 (.slice p5a n5a c5a)).other (g2 := w.heap.size) (by have := L0.out; have := L1.out; omega) 2 (.slice p5b n5b c5b))
  replace X7 := hid (((X7.out.other (g2 := w.heap.size) (by have := L0.out; have := L1.out; omega) 0 (.bool s5a)).other (g2 := w.heap.size) (by have := L0.out; have := L1.out; omega) 1 (.slice p5a n5a c5a)).other (g2 := w.heap.size) (by have := L0.out; have := L1.out; omega) 2 (.slice p5b n5b c5b))
  replace X9 := hid (((X9.out.other (g2 := w.heap.size) (by have := L0.out; have := L1.out; omega) 0 (.bool s5a)).other (g2 := w.heap.size) (by have := L0.out; have := L1.out; omega) 1 (.slice p5a n5a c5a)).other (g2 := w.heap.size) (by have := L0.out; have := L1.out; omega) 2 (.slice p5b n5b c5b))
  replace HN5 := hid (r30c HN5.out)
  replace HD5 := hid (r30c HD5.out)
  replace R1 := hid r30a
  replace B := hid r30b
  clear r30a r30b r30c
  obtain ⟨cc31a, cc31b, cc31c⟩ := X7.out.cells
  obtain ⟨cc32a, cc32b, cc32c⟩ := X9.out.cells
  obtain ⟨⟨cc33a, cc33b⟩, ⟨cc33c, cc33d⟩, cc33e, cc33f⟩ := R2.out.stores
  obtain ⟨r34a, r34b, r34c⟩ := R2.out.last B.out (by have := L0.out; have := L1.out; omega) s6a p6a n6a c6a p6b n6b c6b
  replace R1 := hid (((R1.out.other (g2 := w.heap.size + 1) (by have := L0.out; have := L1.out; omega) 0 (.bool s6a)).other (g2 := w.heap.size + 1) (by have := L0.out; have := L1.out; omega) 1 (.slice p6a n6a c6a)).other (g2 := w.heap.size + 1) (by have := L0.out; have := L1.out; omega) 2 (.slice p6b n6b c6b))
  replace X7 := hid (((X7.out.other (g2 := w.heap.size + 1) (by have := L0.out; have := L1.out; omega) 0 (.bool s6a)).other (g2 := w.heap.size + 1) (by have := L0.out; have := L1.out; omega) 1 (.slice p6a n6a c6a)).other (g2 := w.heap.size + 1) (by have := L0.out; have := L1.out; omega) 2 (.slice p6b n6b c6b))
  replace X9 := hid (((X9.out.other (g2 := w.heap.size + 1) (by have := L0.out; have := L1.out; omega) 0 (.bool s6a)).other (g2 := w.heap.size + 1) (by have := L0.out; have := L1.out; omega) 1 (.slice p6a n6a c6a)).other (g2 := w.heap.size + 1) (by have := L0.out; have := L1.out; omega) 2 (.slice p6b n6b c6b))
  replace HN5 := hid (r34c HN5.out)
  replace HD5 := hid (r34c HD5.out)
  replace R2 := hid r34a
  replace B := hid r34b
  clear r34a r34b r34c
  obtain ⟨cc35a, cc35b, cc35c⟩ := X7.out.cells
  obtain ⟨cc36a, cc36b, cc36c⟩ := X9.out.cells
  go_region_held3 (fun w' => w'.cell? ⟨w10.heap.size, 0, none⟩ = some (.bool s5a) ∧ w'.cell? ⟨w10.heap.size, 1, none⟩ = some (.slice p5a n5a c5a) ∧ w'.cell? ⟨w10.heap.size, 2, none⟩ = some (.slice p5b n5b c5b) ∧ w'.cell? ⟨w18.heap.size, 0, none⟩ = some (.bool s6a) ∧ w'.cell? ⟨w18.heap.size, 1, none⟩ = some (.slice p6a n6a c6a) ∧ w'.cell? ⟨w18.heap.size, 2, none⟩ = some (.slice p6b n6b c6b)) (go_keep) (first | fail)
  replace R1 := hid R1.out.dr
  replace R2 := hid R2.out.dr
  replace X7 := hid X7.out.dr
  replace X9 := hid X9.out.dr
  replace HN5 := hid HN5.out.drew
  replace HD5 := hid HD5.out.drew
  replace B := hid (Below.drew B.out)
  go_wp2_with fail
  refine bodyPost_ret (res_qq_tmp rfl rfl rfl rfl R1.out R2.out) rfl ?_
  exact ⟨_, _, _, _, _, _, _, _, _, _, _, _, _, _, rfl, B.out⟩

set_option maxHeartbeats 4000000 in
theorem rtwo3 {a b : ByteArray} {k : Int} (h1 : GoodQ a) (h2 : GoodQ b) (ha : a.size ≤ maxLen) (hb0 : b.size ≤ maxLen) (w : World) :
    Calls Tryz.prog 11 #[.string a, .string b] w fun e w' => ∃ v u, e = .returned (.tuple #[v, u, .int .i64 0]) ∧ QR w' v (qnum a) 100 ∧ QR w' u (qnum b) 100 ∧ Below w.heap.size w w' := by
  have H1 := hid h1
  have H2 := hid h2
  have B := hid (Below.refl w.heap.size w)
  have hb1 := (Below.refl _ _).alloc (Nat.le_refl w.heap.size) (.cells #[.bool false, .slice none 0 0, .slice none 0 0] 28)
  have hx2 := Qbx.new w false none 0 0 none 0 0
  replace B := hid (B.out.trans (hb1.mono B.out.size))
  have R1 := hid hx2
  have hs3 : (w.alloc (.cells #[.bool false, .slice none 0 0, .slice none 0 0] 28)).heap.size = w.heap.size + 1 := by simp
  clear hb1 hx2
  have hb4 := (Below.refl _ _).alloc (Nat.le_refl (w.alloc (.cells #[.bool false, .slice none 0 0, .slice none 0 0] 28)).heap.size) (.cells #[.bool false, .slice none 0 0, .slice none 0 0] 28)
  have hx5 := Qbx.new (w.alloc (.cells #[.bool false, .slice none 0 0, .slice none 0 0] 28)) false none 0 0 none 0 0
  rw [hs3] at hx5
  replace R1 := hid (R1.out.below hb4 R1.out.lt)
  replace B := hid (B.out.trans (hb4.mono B.out.size))
  have R2 := hid hx5
  have hs6 : ((w.alloc (.cells #[.bool false, .slice none 0 0, .slice none 0 0] 28)).alloc (.cells #[.bool false, .slice none 0 0, .slice none 0 0] 28)).heap.size = w.heap.size + 1 + 1 := by simp [hs3]
  clear hb4 hx5
  clear hs6 h1 h2
  go_enter Tryz.func11, Tryz.ntmps11
  obtain ⟨cc7a, cc7b, cc7c⟩ := R1.out.cells
  obtain ⟨cc8a, cc8b, cc8c⟩ := R2.out.cells
  go_wp2_with fail
  generalize hW : (w.alloc (.cells #[.bool false, .slice none 0 0, .slice none 0 0] 28)).alloc (.cells #[.bool false, .slice none 0 0, .slice none 0 0] 28) = W9 at *
  clear hW
  refine (ratof_good H1.out _).mono ?_
  rintro e w10 ⟨v, rfl, hv, hb⟩
  obtain ⟨s5a, p5a, n5a, c5a, p5b, n5b, c5b, rfl⟩ := hv.opened
  obtain ⟨ht5, hu5⟩ := hv.two
  replace R1 := hid (R1.out.below hb R1.out.lt)
  replace R2 := hid (R2.out.below hb R2.out.lt)
  replace B := hid (B.out.trans (hb.mono B.out.size))
  clear cc7a cc7b cc7c cc8a cc8b cc8c
  have HN5 := hid ht5
  have HD5 := hid hu5
  clear hb hv ht5 hu5
  have hb11 := (Below.refl _ _).alloc (Nat.le_refl w10.heap.size) (.cells #[.bool s5a, .slice p5a n5a c5a, .slice p5b n5b c5b] 28)
  have hx12 := Qbx.new w10 s5a p5a n5a c5a p5b n5b c5b
  have L0 := hid R2.out.lt
  replace R1 := hid (R1.out.below hb11 R1.out.lt)
  replace R2 := hid (R2.out.below hb11 R2.out.lt)
  replace HN5 := hid (HN5.out.on hb11)
  replace HD5 := hid (HD5.out.on hb11)
  replace B := hid (B.out.trans (hb11.mono B.out.size))
  have X7 := hid hx12
  have hs13 : (w10.alloc (.cells #[.bool s5a, .slice p5a n5a c5a, .slice p5b n5b c5b] 28)).heap.size = w10.heap.size + 1 := by simp
  clear hb11 hx12
  obtain ⟨cc14a, cc14b, cc14c⟩ := R1.out.cells
  obtain ⟨cc15a, cc15b, cc15c⟩ := R2.out.cells
  obtain ⟨cc16a, cc16b, cc16c⟩ := X7.out.cells
  go_wp2_with fail
  generalize hW : w10.alloc (.cells #[.bool s5a, .slice p5a n5a c5a, .slice p5b n5b c5b] 28) = W17 at *
  clear hW
  refine (ratof_good H2.out _).mono ?_
  rintro e w18 ⟨v, rfl, hv, hb⟩
  obtain ⟨s6a, p6a, n6a, c6a, p6b, n6b, c6b, rfl⟩ := hv.opened
  obtain ⟨ht6, hu6⟩ := hv.two
  replace R1 := hid (R1.out.below hb R1.out.lt)
  replace R2 := hid (R2.out.below hb R2.out.lt)
  replace X7 := hid (X7.out.below hb X7.out.lt)
  replace HN5 := hid (HN5.out.on hb)
  replace HD5 := hid (HD5.out.on hb)
  replace B := hid (B.out.trans (hb.mono B.out.size))
  clear cc14a cc14b cc14c cc15a cc15b cc15c cc16a cc16b cc16c
  have HN6 := hid ht6
  have HD6 := hid hu6
  clear hb hv ht6 hu6
  have hb19 := (Below.refl _ _).alloc (Nat.le_refl w18.heap.size) (.cells #[.bool s6a, .slice p6a n6a c6a, .slice p6b n6b c6b] 28)
  have hx20 := Qbx.new w18 s6a p6a n6a c6a p6b n6b c6b
  have L1 := hid X7.out.lt
  replace R1 := hid (R1.out.below hb19 R1.out.lt)
  replace R2 := hid (R2.out.below hb19 R2.out.lt)
  replace X7 := hid (X7.out.below hb19 X7.out.lt)
  replace HN5 := hid (HN5.out.on hb19)
  replace HD5 := hid (HD5.out.on hb19)
  replace HN6 := hid (HN6.out.on hb19)
  replace HD6 := hid (HD6.out.on hb19)
  replace B := hid (B.out.trans (hb19.mono B.out.size))
  have X9 := hid hx20
  have hs21 : (w18.alloc (.cells #[.bool s6a, .slice p6a n6a c6a, .slice p6b n6b c6b] 28)).heap.size = w18.heap.size + 1 := by simp
  clear hb19 hx20
  obtain ⟨cc22a, cc22b, cc22c⟩ := R1.out.cells
  obtain ⟨cc23a, cc23b, cc23c⟩ := R2.out.cells
  obtain ⟨cc24a, cc24b, cc24c⟩ := X7.out.cells
  obtain ⟨cc25a, cc25b, cc25c⟩ := X9.out.cells
  go_wp2_with fail
  generalize hW : w18.alloc (.cells #[.bool s6a, .slice p6a n6a c6a, .slice p6b n6b c6b] 28) = W26 at *
  clear hW
  obtain ⟨cc27a, cc27b, cc27c⟩ := X7.out.cells
  obtain ⟨cc28a, cc28b, cc28c⟩ := X9.out.cells
  obtain ⟨⟨cc29a, cc29b⟩, ⟨cc29c, cc29d⟩, cc29e, cc29f⟩ := R1.out.stores
  obtain ⟨r30a, r30b, r30c⟩ := R1.out.last B.out (by have := L0.out; have := L1.out; omega) s5a p5a n5a c5a p5b n5b c5b
  replace R2 := hid (((R2.out.other (g2 := w.heap.size) (by have := L0.out; have := L1.out; omega) 0 (.bool s5a)).other (g2 := w.heap.size) (by have := L0.out; have := L1.out; omega) 1 (.slice p5a n5a c5a)).other (g2 := w.heap.size) (by have := L0.out; have := L1.out; omega) 2 (.slice p5b n5b c5b))
  replace X7 := hid (((X7.out.other (g2 := w.heap.size) (by have := L0.out; have := L1.out; omega) 0 (.bool s5a)).other (g2 := w.heap.size) (by have := L0.out; have := L1.out; omega) 1 (.slice p5a n5a c5a)).other (g2 := w.heap.size) (by have := L0.out; have := L1.out; omega) 2 (.slice p5b n5b c5b))
  replace X9 := hid (((X9.out.other (g2 := w.heap.size) (by have := L0.out; have := L1.out; omega) 0 (.bool s5a)).other (g2 := w.heap.size) (by have := L0.out; have := L1.out; omega) 1 (.slice p5a n5a c5a)).other (g2 := w.heap.size) (by have := L0.out; have := L1.out; omega) 2 (.slice p5b n5b c5b))
  replace HN5 := hid (r30c HN5.out)
  replace HD5 := hid (r30c HD5.out)
  replace HN6 := hid (r30c HN6.out)
  replace HD6 := hid (r30c HD6.out)
  replace R1 := hid r30a
  replace B := hid r30b
  clear r30a r30b r30c
  obtain ⟨cc31a, cc31b, cc31c⟩ := X7.out.cells
  obtain ⟨cc32a, cc32b, cc32c⟩ := X9.out.cells
  obtain ⟨⟨cc33a, cc33b⟩, ⟨cc33c, cc33d⟩, cc33e, cc33f⟩ := R2.out.stores
  obtain ⟨r34a, r34b, r34c⟩ := R2.out.last B.out (by have := L0.out; have := L1.out; omega) s6a p6a n6a c6a p6b n6b c6b
  replace R1 := hid (((R1.out.other (g2 := w.heap.size + 1) (by have := L0.out; have := L1.out; omega) 0 (.bool s6a)).other (g2 := w.heap.size + 1) (by have := L0.out; have := L1.out; omega) 1 (.slice p6a n6a c6a)).other (g2 := w.heap.size + 1) (by have := L0.out; have := L1.out; omega) 2 (.slice p6b n6b c6b))
  replace X7 := hid (((X7.out.other (g2 := w.heap.size + 1) (by have := L0.out; have := L1.out; omega) 0 (.bool s6a)).other (g2 := w.heap.size + 1) (by have := L0.out; have := L1.out; omega) 1 (.slice p6a n6a c6a)).other (g2 := w.heap.size + 1) (by have := L0.out; have := L1.out; omega) 2 (.slice p6b n6b c6b))
  replace X9 := hid (((X9.out.other (g2 := w.heap.size + 1) (by have := L0.out; have := L1.out; omega) 0 (.bool s6a)).other (g2 := w.heap.size + 1) (by have := L0.out; have := L1.out; omega) 1 (.slice p6a n6a c6a)).other (g2 := w.heap.size + 1) (by have := L0.out; have := L1.out; omega) 2 (.slice p6b n6b c6b))
  replace HN5 := hid (r34c HN5.out)
  replace HD5 := hid (r34c HD5.out)
  replace HN6 := hid (r34c HN6.out)
  replace HD6 := hid (r34c HD6.out)
  replace R2 := hid r34a
  replace B := hid r34b
  clear r34a r34b r34c
  obtain ⟨cc35a, cc35b, cc35c⟩ := X7.out.cells
  obtain ⟨cc36a, cc36b, cc36c⟩ := X9.out.cells
  go_region_held3 (fun w' => w'.cell? ⟨w10.heap.size, 0, none⟩ = some (.bool s5a) ∧ w'.cell? ⟨w10.heap.size, 1, none⟩ = some (.slice p5a n5a c5a) ∧ w'.cell? ⟨w10.heap.size, 2, none⟩ = some (.slice p5b n5b c5b) ∧ w'.cell? ⟨w18.heap.size, 0, none⟩ = some (.bool s6a) ∧ w'.cell? ⟨w18.heap.size, 1, none⟩ = some (.slice p6a n6a c6a) ∧ w'.cell? ⟨w18.heap.size, 2, none⟩ = some (.slice p6b n6b c6b)) (go_keep) (first | fail)
  replace R1 := hid R1.out.dr
  replace R2 := hid R2.out.dr
  replace X7 := hid X7.out.dr
  replace X9 := hid X9.out.dr
  replace HN5 := hid HN5.out.drew
  replace HD5 := hid HD5.out.drew
  replace HN6 := hid HN6.out.drew
  replace HD6 := hid HD6.out.drew
  replace B := hid (Below.drew B.out)
  go_wp2_with fail
  refine bodyPost_ret (res_qq_tmp rfl rfl rfl rfl R1.out R2.out) rfl ?_
  exact ⟨_, _, rfl, QR.mk2 HN5.out HD5.out, QR.mk2 HN6.out HD6.out, B.out⟩

end Go.Proofs.YtckkbjnipacodaaGreatDoor

/-
  RatTells: what its walks share.
-/
namespace Go.Proofs.YtckkbjnipacodaaGreatDoor
open Go.RowKit
open Num4
open Num (dg isNat dval)
set_option linter.unusedVariables false
set_option maxRecDepth 100000
set_option linter.unusedSimpArgs false

theorem made_neg {n d : Int} (h : d < 0) : Rat.divInt n d = Rat.divInt (-n) (d.natAbs : Int) := by
  have e : d = -(d.natAbs : Int) := by omega
  conv => lhs; rw [e]
  exact Rat.divInt_neg' ..
theorem made_pos {n d : Int} (h : 0 < d) : Rat.divInt n d = Rat.divInt n (d.natAbs : Int) := by
  have e : d = (d.natAbs : Int) := by omega
  conv => lhs; rw [e]
theorem less_sub (q r : Rat) : decide (q < r) = decide ((q - r).num.sign < 0) := by
  apply decide_eq_decide.2
  have h1 : q < r ↔ q - r < 0 := by grind
  rw [h1, Rat.lt_iff]
  simp
theorem BadQ.badZ {s : ByteArray} {k : Int} (h : BadQ s k) : BadZ s k := by
  rcases h with h | ⟨h1, h2, h3⟩
  · exact .inl h
  · refine .inr ⟨h1, ?_, h3⟩
    cases hw : isWhl s.data.toList
    · rfl
    · have := (qnum_whole (s := s) ⟨h1, hw⟩).1.2
      rw [this] at h2; cases h2
theorem BadZ.ne' {s : ByteArray} {k : Int} (h : BadZ s k) : k ≠ 0 := by
  rcases h with ⟨_, rfl⟩ | ⟨_, _, rfl⟩ <;> decide
theorem zero_whole {b : ByteArray} (h : GoodQ b) (h0 : qnum b = 0) : GoodZ b ∧ znum b = 0 := by
  have e := zero_text h h0
  subst e
  exact ⟨⟨by decide, by decide⟩, by decide⟩
theorem whole_zero {b : ByteArray} (h : GoodZ b) (h0 : qnum b ≠ 0) : znum b ≠ 0 := by
  intro e
  apply h0
  rw [(qnum_whole h).2, e]; rfl

end Go.Proofs.YtckkbjnipacodaaGreatDoor

/-
  RatTells: a case.
-/
namespace Go.Proofs.YtckkbjnipacodaaGreatDoor
open Go.RowKit
open Num4
open Num (dg isNat dval)
set_option linter.unusedVariables false
set_option maxRecDepth 100000
set_option linter.unusedSimpArgs false

set_option maxHeartbeats 32000000 in
theorem rtells_c1 (a b : ByteArray) (sa : a.size ≤ maxLen) (sb : b.size ≤ maxLen) {k i j : Int} (ha : BadQ a k) (hwa : BadZ a i) (hwb : (GoodZ b ∧ j = 0) ∨ BadZ b j) (hk0 : k ≠ 0) (hi0 : i ≠ 0) (w : World) (hd : Door w) :
    Calls Tryz.prog 3 #[.string a, .string b] w fun e w' => e = .returned (.bool true) ∧ Below w.heap.size w w' := by
  have Hha := hid ha
  have Hhwa := hid hwa
  have Hhwb := hid hwb
  have HK0 := hid hk0
  have HI0 := hid hi0
  have HDR := hid hd
  have B := hid (Below.refl w.heap.size w)
  have hkb : (k == 0) = false := by simpa using hk0
  have hib : (i == 0) = false := by simpa using hi0
  clear  ha hwa hwb hd
  go_enter Tryz.func3, Tryz.ntmps3
  go_wp2_with fail
  refine (halved_true w).mono ?_
  rintro e w1 ⟨rfl, hb⟩
  replace B := hid (B.out.trans (hb.mono B.out.size))
  clear hb 
  go_wp2_with fail
  refine (ratof_bad Hha.out w1 sa).mono ?_
  rintro e w2 ⟨s1a, p1a, n1a, c1a, p1b, n1b, c1b, rfl, hb⟩
  replace B := hid (B.out.trans (hb.mono B.out.size))
  clear hb 
  have hb3 := (Below.refl _ _).alloc (Nat.le_refl w2.heap.size) (.cells #[.bool s1a, .slice p1a n1a c1a, .slice p1b n1b c1b] 28)
  have hx4 := Qbx.new w2 s1a p1a n1a c1a p1b n1b c1b
  replace B := hid (B.out.trans (hb3.mono B.out.size))
  have X6 := hid hx4
  have hs5 : (w2.alloc (.cells #[.bool s1a, .slice p1a n1a c1a, .slice p1b n1b c1b] 28)).heap.size = w2.heap.size + 1 := by simp
  clear hb3 hx4
  obtain ⟨cc6a, cc6b, cc6c⟩ := X6.out.cells
  go_wp2_with fail
  generalize hW : w2.alloc (.cells #[.bool s1a, .slice p1a n1a c1a, .slice p1b n1b c1b] 28) = W7 at *
  clear hW
  refine (qcheck_bad Hha.out sa W7).mono ?_
  rintro e w8 ⟨rfl, hb⟩
  replace X6 := hid (X6.out.below hb X6.out.lt)
  replace B := hid (B.out.trans (hb.mono B.out.size))
  clear cc6a cc6b cc6c
  clear hb 
  obtain ⟨cc9a, cc9b, cc9c⟩ := X6.out.cells
  go_wp2_with fail
  refine (same_no k HK0.out w8 (HDR.out.below B.out)).mono ?_
  rintro e w10 ⟨rfl, hb⟩
  replace X6 := hid (X6.out.below hb X6.out.lt)
  replace B := hid (B.out.trans (hb.mono B.out.size))
  clear cc9a cc9b cc9c
  clear hb 
  obtain ⟨cc11a, cc11b, cc11c⟩ := X6.out.cells
  go_wp2_with fail
  refine (qfloor_bad Hha.out sa w10).mono ?_
  rintro e w12 ⟨rfl, hb⟩
  replace X6 := hid (X6.out.below hb X6.out.lt)
  replace B := hid (B.out.trans (hb.mono B.out.size))
  clear cc11a cc11b cc11c
  clear hb 
  obtain ⟨cc13a, cc13b, cc13c⟩ := X6.out.cells
  go_wp2_with fail
  refine (same_no k HK0.out w12 (HDR.out.below B.out)).mono ?_
  rintro e w14 ⟨rfl, hb⟩
  replace X6 := hid (X6.out.below hb X6.out.lt)
  replace B := hid (B.out.trans (hb.mono B.out.size))
  clear cc13a cc13b cc13c
  clear hb 
  obtain ⟨cc15a, cc15b, cc15c⟩ := X6.out.cells
  go_wp2_with fail
  refine (rtwo1 Hha.out sa sb w14).mono ?_
  rintro e w16 ⟨s3a, p3a, n3a, c3a, p3b, n3b, c3b, s4a, p4a, n4a, c4a, p4b, n4b, c4b, rfl, hb⟩
  replace X6 := hid (X6.out.below hb X6.out.lt)
  replace B := hid (B.out.trans (hb.mono B.out.size))
  clear cc15a cc15b cc15c
  clear hb 
  have hb17 := (Below.refl _ _).alloc (Nat.le_refl w16.heap.size) (.cells #[.bool s3a, .slice p3a n3a c3a, .slice p3b n3b c3b] 28)
  have hx18 := Qbx.new w16 s3a p3a n3a c3a p3b n3b c3b
  have L0 := hid X6.out.lt
  replace X6 := hid (X6.out.below hb17 X6.out.lt)
  replace B := hid (B.out.trans (hb17.mono B.out.size))
  have X13 := hid hx18
  have hs19 : (w16.alloc (.cells #[.bool s3a, .slice p3a n3a c3a, .slice p3b n3b c3b] 28)).heap.size = w16.heap.size + 1 := by simp
  clear hb17 hx18
  have hb20 := (Below.refl _ _).alloc (Nat.le_refl (w16.alloc (.cells #[.bool s3a, .slice p3a n3a c3a, .slice p3b n3b c3b] 28)).heap.size) (.cells #[.bool s4a, .slice p4a n4a c4a, .slice p4b n4b c4b] 28)
  have hx21 := Qbx.new (w16.alloc (.cells #[.bool s3a, .slice p3a n3a c3a, .slice p3b n3b c3b] 28)) s4a p4a n4a c4a p4b n4b c4b
  rw [hs19] at hx21
  replace X6 := hid (X6.out.below hb20 X6.out.lt)
  replace X13 := hid (X13.out.below hb20 X13.out.lt)
  replace B := hid (B.out.trans (hb20.mono B.out.size))
  have X14 := hid hx21
  have hs22 : ((w16.alloc (.cells #[.bool s3a, .slice p3a n3a c3a, .slice p3b n3b c3b] 28)).alloc (.cells #[.bool s4a, .slice p4a n4a c4a, .slice p4b n4b c4b] 28)).heap.size = w16.heap.size + 1 + 1 := by simp [hs19]
  clear hb20 hx21
  obtain ⟨cc23a, cc23b, cc23c⟩ := X6.out.cells
  obtain ⟨cc24a, cc24b, cc24c⟩ := X13.out.cells
  obtain ⟨cc25a, cc25b, cc25c⟩ := X14.out.cells
  go_wp2_with fail
  generalize hW : (w16.alloc (.cells #[.bool s3a, .slice p3a n3a c3a, .slice p3b n3b c3b] 28)).alloc (.cells #[.bool s4a, .slice p4a n4a c4a, .slice p4b n4b c4b] 28) = W26 at *
  clear hW
  refine (rwholeof_bad Hhwa.out W26 sa).mono ?_
  rintro e w27 ⟨s8, p8, n8, c8, rfl, hb⟩
  replace X6 := hid (X6.out.below hb X6.out.lt)
  replace X13 := hid (X13.out.below hb X13.out.lt)
  replace X14 := hid (X14.out.below hb X14.out.lt)
  replace B := hid (B.out.trans (hb.mono B.out.size))
  clear cc23a cc23b cc23c cc24a cc24b cc24c cc25a cc25b cc25c
  clear hb 
  have hb28 := (Below.refl _ _).alloc (Nat.le_refl w27.heap.size) (.cells #[.bool s8, .slice p8 n8 c8] 26)
  have hx29 := BoxR.new w27 s8 p8 n8 c8
  have L1 := hid X14.out.lt
  replace X6 := hid (X6.out.below hb28 X6.out.lt)
  replace X13 := hid (X13.out.below hb28 X13.out.lt)
  replace X14 := hid (X14.out.below hb28 X14.out.lt)
  replace B := hid (B.out.trans (hb28.mono B.out.size))
  have X19 := hid hx29
  have hs30 : (w27.alloc (.cells #[.bool s8, .slice p8 n8 c8] 26)).heap.size = w27.heap.size + 1 := by simp
  clear hb28 hx29
  obtain ⟨cc31a, cc31b, cc31c⟩ := X6.out.cells
  obtain ⟨cc32a, cc32b, cc32c⟩ := X13.out.cells
  obtain ⟨cc33a, cc33b, cc33c⟩ := X14.out.cells
  obtain ⟨cc34a, cc34b⟩ := X19.out.both
  go_wp2_with fail
  generalize hW : w27.alloc (.cells #[.bool s8, .slice p8 n8 c8] 26) = W35 at *
  clear hW
  refine (rwholeof_any Hhwb.out W35 sb).mono ?_
  rintro e w36 ⟨s9, p9, n9, c9, rfl, hb⟩
  replace X6 := hid (X6.out.below hb X6.out.lt)
  replace X13 := hid (X13.out.below hb X13.out.lt)
  replace X14 := hid (X14.out.below hb X14.out.lt)
  replace X19 := hid (X19.out.below hb X19.out.lt)
  replace B := hid (B.out.trans (hb.mono B.out.size))
  clear cc31a cc31b cc31c cc32a cc32b cc32c cc33a cc33b cc33c cc34a cc34b
  clear hb 
  have hb37 := (Below.refl _ _).alloc (Nat.le_refl w36.heap.size) (.cells #[.bool s9, .slice p9 n9 c9] 26)
  have hx38 := BoxR.new w36 s9 p9 n9 c9
  have L2 := hid X19.out.lt
  replace X6 := hid (X6.out.below hb37 X6.out.lt)
  replace X13 := hid (X13.out.below hb37 X13.out.lt)
  replace X14 := hid (X14.out.below hb37 X14.out.lt)
  replace X19 := hid (X19.out.below hb37 X19.out.lt)
  replace B := hid (B.out.trans (hb37.mono B.out.size))
  have X21 := hid hx38
  have hs39 : (w36.alloc (.cells #[.bool s9, .slice p9 n9 c9] 26)).heap.size = w36.heap.size + 1 := by simp
  clear hb37 hx38
  obtain ⟨cc40a, cc40b, cc40c⟩ := X6.out.cells
  obtain ⟨cc41a, cc41b, cc41c⟩ := X13.out.cells
  obtain ⟨cc42a, cc42b, cc42c⟩ := X14.out.cells
  obtain ⟨cc43a, cc43b⟩ := X19.out.both
  obtain ⟨cc44a, cc44b⟩ := X21.out.both
  go_wp2_with fail
  generalize hW : w36.alloc (.cells #[.bool s9, .slice p9 n9 c9] 26) = W45 at *
  clear hW
  refine (two_some i j HI0.out W45).mono ?_
  rintro e w' ⟨rfl, rfl⟩
  obtain ⟨cc47a, cc47b, cc47c⟩ := X6.out.cells
  obtain ⟨cc48a, cc48b, cc48c⟩ := X13.out.cells
  obtain ⟨cc49a, cc49b, cc49c⟩ := X14.out.cells
  obtain ⟨cc50a, cc50b⟩ := X19.out.both
  obtain ⟨cc51a, cc51b⟩ := X21.out.both
  go_wp2_with fail
  refine (qadd_bad (k := k) (.inl Hha.out) sa sb W45).mono ?_
  rintro e w52 ⟨rfl, hb⟩
  replace X6 := hid (X6.out.below hb X6.out.lt)
  replace X13 := hid (X13.out.below hb X13.out.lt)
  replace X14 := hid (X14.out.below hb X14.out.lt)
  replace X19 := hid (X19.out.below hb X19.out.lt)
  replace X21 := hid (X21.out.below hb X21.out.lt)
  replace B := hid (B.out.trans (hb.mono B.out.size))
  clear cc40a cc40b cc40c cc41a cc41b cc41c cc42a cc42b cc42c cc43a cc43b cc44a cc44b cc47a cc47b cc47c cc48a cc48b cc48c cc49a cc49b cc49c cc50a cc50b cc51a cc51b
  clear hb 
  obtain ⟨cc53a, cc53b, cc53c⟩ := X6.out.cells
  obtain ⟨cc54a, cc54b, cc54c⟩ := X13.out.cells
  obtain ⟨cc55a, cc55b, cc55c⟩ := X14.out.cells
  obtain ⟨cc56a, cc56b⟩ := X19.out.both
  obtain ⟨cc57a, cc57b⟩ := X21.out.both
  go_wp2_with fail
  refine (same_no k HK0.out w52 (HDR.out.below B.out)).mono ?_
  rintro e w58 ⟨rfl, hb⟩
  replace X6 := hid (X6.out.below hb X6.out.lt)
  replace X13 := hid (X13.out.below hb X13.out.lt)
  replace X14 := hid (X14.out.below hb X14.out.lt)
  replace X19 := hid (X19.out.below hb X19.out.lt)
  replace X21 := hid (X21.out.below hb X21.out.lt)
  replace B := hid (B.out.trans (hb.mono B.out.size))
  clear cc53a cc53b cc53c cc54a cc54b cc54c cc55a cc55b cc55c cc56a cc56b cc57a cc57b
  clear hb 
  obtain ⟨cc59a, cc59b, cc59c⟩ := X6.out.cells
  obtain ⟨cc60a, cc60b, cc60c⟩ := X13.out.cells
  obtain ⟨cc61a, cc61b, cc61c⟩ := X14.out.cells
  obtain ⟨cc62a, cc62b⟩ := X19.out.both
  obtain ⟨cc63a, cc63b⟩ := X21.out.both
  go_wp2_with fail
  refine (qmul_bad (k := k) (.inl Hha.out) sa sb w58).mono ?_
  rintro e w64 ⟨rfl, hb⟩
  replace X6 := hid (X6.out.below hb X6.out.lt)
  replace X13 := hid (X13.out.below hb X13.out.lt)
  replace X14 := hid (X14.out.below hb X14.out.lt)
  replace X19 := hid (X19.out.below hb X19.out.lt)
  replace X21 := hid (X21.out.below hb X21.out.lt)
  replace B := hid (B.out.trans (hb.mono B.out.size))
  clear cc59a cc59b cc59c cc60a cc60b cc60c cc61a cc61b cc61c cc62a cc62b cc63a cc63b
  clear hb 
  obtain ⟨cc65a, cc65b, cc65c⟩ := X6.out.cells
  obtain ⟨cc66a, cc66b, cc66c⟩ := X13.out.cells
  obtain ⟨cc67a, cc67b, cc67c⟩ := X14.out.cells
  obtain ⟨cc68a, cc68b⟩ := X19.out.both
  obtain ⟨cc69a, cc69b⟩ := X21.out.both
  go_wp2_with fail
  refine (same_no k HK0.out w64 (HDR.out.below B.out)).mono ?_
  rintro e w70 ⟨rfl, hb⟩
  replace X6 := hid (X6.out.below hb X6.out.lt)
  replace X13 := hid (X13.out.below hb X13.out.lt)
  replace X14 := hid (X14.out.below hb X14.out.lt)
  replace X19 := hid (X19.out.below hb X19.out.lt)
  replace X21 := hid (X21.out.below hb X21.out.lt)
  replace B := hid (B.out.trans (hb.mono B.out.size))
  clear cc65a cc65b cc65c cc66a cc66b cc66c cc67a cc67b cc67c cc68a cc68b cc69a cc69b
  clear hb 
  obtain ⟨cc71a, cc71b, cc71c⟩ := X6.out.cells
  obtain ⟨cc72a, cc72b, cc72c⟩ := X13.out.cells
  obtain ⟨cc73a, cc73b, cc73c⟩ := X14.out.cells
  obtain ⟨cc74a, cc74b⟩ := X19.out.both
  obtain ⟨cc75a, cc75b⟩ := X21.out.both
  go_wp2_with fail
  refine (qdiv_bad (k := k) (.inl Hha.out) sa sb w70).mono ?_
  rintro e w76 ⟨rfl, hb⟩
  replace X6 := hid (X6.out.below hb X6.out.lt)
  replace X13 := hid (X13.out.below hb X13.out.lt)
  replace X14 := hid (X14.out.below hb X14.out.lt)
  replace X19 := hid (X19.out.below hb X19.out.lt)
  replace X21 := hid (X21.out.below hb X21.out.lt)
  replace B := hid (B.out.trans (hb.mono B.out.size))
  clear cc71a cc71b cc71c cc72a cc72b cc72c cc73a cc73b cc73c cc74a cc74b cc75a cc75b
  clear hb 
  obtain ⟨cc77a, cc77b, cc77c⟩ := X6.out.cells
  obtain ⟨cc78a, cc78b, cc78c⟩ := X13.out.cells
  obtain ⟨cc79a, cc79b, cc79c⟩ := X14.out.cells
  obtain ⟨cc80a, cc80b⟩ := X19.out.both
  obtain ⟨cc81a, cc81b⟩ := X21.out.both
  go_wp2_with fail
  refine (same_no k HK0.out w76 (HDR.out.below B.out)).mono ?_
  rintro e w82 ⟨rfl, hb⟩
  replace X6 := hid (X6.out.below hb X6.out.lt)
  replace X13 := hid (X13.out.below hb X13.out.lt)
  replace X14 := hid (X14.out.below hb X14.out.lt)
  replace X19 := hid (X19.out.below hb X19.out.lt)
  replace X21 := hid (X21.out.below hb X21.out.lt)
  replace B := hid (B.out.trans (hb.mono B.out.size))
  clear cc77a cc77b cc77c cc78a cc78b cc78c cc79a cc79b cc79c cc80a cc80b cc81a cc81b
  clear hb 
  obtain ⟨cc83a, cc83b, cc83c⟩ := X6.out.cells
  obtain ⟨cc84a, cc84b, cc84c⟩ := X13.out.cells
  obtain ⟨cc85a, cc85b, cc85c⟩ := X14.out.cells
  obtain ⟨cc86a, cc86b⟩ := X19.out.both
  obtain ⟨cc87a, cc87b⟩ := X21.out.both
  go_wp2_with fail
  refine (qless_bad (k := k) (.inl Hha.out) sa sb w82).mono ?_
  rintro e w88 ⟨rfl, hb⟩
  replace X6 := hid (X6.out.below hb X6.out.lt)
  replace X13 := hid (X13.out.below hb X13.out.lt)
  replace X14 := hid (X14.out.below hb X14.out.lt)
  replace X19 := hid (X19.out.below hb X19.out.lt)
  replace X21 := hid (X21.out.below hb X21.out.lt)
  replace B := hid (B.out.trans (hb.mono B.out.size))
  clear cc83a cc83b cc83c cc84a cc84b cc84c cc85a cc85b cc85c cc86a cc86b cc87a cc87b
  clear hb 
  obtain ⟨cc89a, cc89b, cc89c⟩ := X6.out.cells
  obtain ⟨cc90a, cc90b, cc90c⟩ := X13.out.cells
  obtain ⟨cc91a, cc91b, cc91c⟩ := X14.out.cells
  obtain ⟨cc92a, cc92b⟩ := X19.out.both
  obtain ⟨cc93a, cc93b⟩ := X21.out.both
  go_wp2_with fail
  refine (same_no k HK0.out w88 (HDR.out.below B.out)).mono ?_
  rintro e w94 ⟨rfl, hb⟩
  replace X6 := hid (X6.out.below hb X6.out.lt)
  replace X13 := hid (X13.out.below hb X13.out.lt)
  replace X14 := hid (X14.out.below hb X14.out.lt)
  replace X19 := hid (X19.out.below hb X19.out.lt)
  replace X21 := hid (X21.out.below hb X21.out.lt)
  replace B := hid (B.out.trans (hb.mono B.out.size))
  clear cc89a cc89b cc89c cc90a cc90b cc90c cc91a cc91b cc91c cc92a cc92b cc93a cc93b
  clear hb 
  obtain ⟨cc95a, cc95b, cc95c⟩ := X6.out.cells
  obtain ⟨cc96a, cc96b, cc96c⟩ := X13.out.cells
  obtain ⟨cc97a, cc97b, cc97c⟩ := X14.out.cells
  obtain ⟨cc98a, cc98b⟩ := X19.out.both
  obtain ⟨cc99a, cc99b⟩ := X21.out.both
  go_wp2_with fail
  refine (qmake_bad (k := i) (.inl Hhwa.out) sa sb w94).mono ?_
  rintro e w100 ⟨rfl, hb⟩
  replace X6 := hid (X6.out.below hb X6.out.lt)
  replace X13 := hid (X13.out.below hb X13.out.lt)
  replace X14 := hid (X14.out.below hb X14.out.lt)
  replace X19 := hid (X19.out.below hb X19.out.lt)
  replace X21 := hid (X21.out.below hb X21.out.lt)
  replace B := hid (B.out.trans (hb.mono B.out.size))
  clear cc95a cc95b cc95c cc96a cc96b cc96c cc97a cc97b cc97c cc98a cc98b cc99a cc99b
  clear hb 
  obtain ⟨cc101a, cc101b, cc101c⟩ := X6.out.cells
  obtain ⟨cc102a, cc102b, cc102c⟩ := X13.out.cells
  obtain ⟨cc103a, cc103b, cc103c⟩ := X14.out.cells
  obtain ⟨cc104a, cc104b⟩ := X19.out.both
  obtain ⟨cc105a, cc105b⟩ := X21.out.both
  go_wp2_with fail
  refine (same_no i HI0.out w100 (HDR.out.below B.out)).mono ?_
  rintro e w106 ⟨rfl, hb⟩
  replace X6 := hid (X6.out.below hb X6.out.lt)
  replace X13 := hid (X13.out.below hb X13.out.lt)
  replace X14 := hid (X14.out.below hb X14.out.lt)
  replace X19 := hid (X19.out.below hb X19.out.lt)
  replace X21 := hid (X21.out.below hb X21.out.lt)
  replace B := hid (B.out.trans (hb.mono B.out.size))
  clear cc101a cc101b cc101c cc102a cc102b cc102c cc103a cc103b cc103c cc104a cc104b cc105a cc105b
  clear hb 
  obtain ⟨cc107a, cc107b, cc107c⟩ := X6.out.cells
  obtain ⟨cc108a, cc108b, cc108c⟩ := X13.out.cells
  obtain ⟨cc109a, cc109b, cc109c⟩ := X14.out.cells
  obtain ⟨cc110a, cc110b⟩ := X19.out.both
  obtain ⟨cc111a, cc111b⟩ := X21.out.both
  go_wp2_with fail
  go_ret
  exact ⟨rfl, B.out⟩

end Go.Proofs.YtckkbjnipacodaaGreatDoor

/-
  RatTells: a case.
-/
namespace Go.Proofs.YtckkbjnipacodaaGreatDoor
open Go.RowKit
open Num4
open Num (dg isNat dval)
set_option linter.unusedVariables false
set_option maxRecDepth 100000
set_option linter.unusedSimpArgs false

set_option maxHeartbeats 32000000 in
theorem rtells_c2w (a b : ByteArray) (sa : a.size ≤ maxLen) (sb : b.size ≤ maxLen) {k i j : Int} (ha : GoodQ a) (hb : BadQ b k) (hwa : GoodZ a) (hwb : BadZ b j) (hk0 : k ≠ 0) (hj0 : j ≠ 0) (w : World) (hd : Door w) :
    Calls Tryz.prog 3 #[.string a, .string b] w fun e w' => e = .returned (.bool true) ∧ Below w.heap.size w w' := by
  have Hha := hid ha
  have Hhb := hid hb
  have Hhwa := hid hwa
  have Hhwb := hid hwb
  have HK0 := hid hk0
  have HJ0 := hid hj0
  have HDR := hid hd
  have B := hid (Below.refl w.heap.size w)
  have hkb : (k == 0) = false := by simpa using hk0
  have hjb : (j == 0) = false := by simpa using hj0
  clear  ha hb hwa hwb hd
  go_enter Tryz.func3, Tryz.ntmps3
  go_wp2_with fail
  refine (halved_true w).mono ?_
  rintro e w1 ⟨rfl, hb⟩
  replace B := hid (B.out.trans (hb.mono B.out.size))
  clear hb 
  go_wp2_with fail
  refine (ratof_good Hha.out w1).mono ?_
  rintro e w2 ⟨v, rfl, hv, hb⟩
  obtain ⟨s1a, p1a, n1a, c1a, p1b, n1b, c1b, rfl⟩ := hv.opened
  obtain ⟨ht1, hu1⟩ := hv.two
  replace B := hid (B.out.trans (hb.mono B.out.size))
  have HN1 := hid ht1
  have HD1 := hid hu1
  clear hb hv ht1 hu1
  have hb3 := (Below.refl _ _).alloc (Nat.le_refl w2.heap.size) (.cells #[.bool s1a, .slice p1a n1a c1a, .slice p1b n1b c1b] 28)
  have hx4 := Qbx.new w2 s1a p1a n1a c1a p1b n1b c1b
  replace HN1 := hid (HN1.out.on hb3)
  replace HD1 := hid (HD1.out.on hb3)
  replace B := hid (B.out.trans (hb3.mono B.out.size))
  have X6 := hid hx4
  have hs5 : (w2.alloc (.cells #[.bool s1a, .slice p1a n1a c1a, .slice p1b n1b c1b] 28)).heap.size = w2.heap.size + 1 := by simp
  clear hb3 hx4
  obtain ⟨cc6a, cc6b, cc6c⟩ := X6.out.cells
  go_wp2_with fail
  generalize hW : w2.alloc (.cells #[.bool s1a, .slice p1a n1a c1a, .slice p1b n1b c1b] 28) = W7 at *
  clear hW
  refine (qcheck_good Hha.out W7).mono ?_
  rintro e w8 ⟨rfl, hb⟩
  replace X6 := hid (X6.out.below hb X6.out.lt)
  replace HN1 := hid (HN1.out.on hb)
  replace HD1 := hid (HD1.out.on hb)
  replace B := hid (B.out.trans (hb.mono B.out.size))
  clear cc6a cc6b cc6c
  clear hb 
  obtain ⟨cc9a, cc9b, cc9c⟩ := X6.out.cells
  go_wp2_with fail
  refine (same_nil w8 (HDR.out.below B.out)).mono ?_
  rintro e w10 ⟨rfl, hb⟩
  replace X6 := hid (X6.out.below hb X6.out.lt)
  replace HN1 := hid (HN1.out.on hb)
  replace HD1 := hid (HD1.out.on hb)
  replace B := hid (B.out.trans (hb.mono B.out.size))
  clear cc9a cc9b cc9c
  clear hb 
  obtain ⟨cc11a, cc11b, cc11c⟩ := X6.out.cells
  go_wp2_with fail
  refine (rfloor (QR.mk2 HN1.out HD1.out) (by omega) (by omega)).mono ?_
  rintro e w12 ⟨v, rfl, hv, hb⟩
  obtain ⟨s2, p2, n2, c2, rfl⟩ := hv.opened
  replace X6 := hid (X6.out.below hb X6.out.lt)
  replace HN1 := hid (HN1.out.on hb)
  replace HD1 := hid (HD1.out.on hb)
  replace B := hid (B.out.trans (hb.mono B.out.size))
  clear cc11a cc11b cc11c
  have HF := hid hv
  clear hb hv
  obtain ⟨cc13a, cc13b, cc13c⟩ := X6.out.cells
  go_wp2_with fail
  refine (rtextz HF.out (by omega)).mono ?_
  rintro e w14 ⟨rfl, hb⟩
  replace X6 := hid (X6.out.below hb X6.out.lt)
  replace HN1 := hid (HN1.out.on hb)
  replace HD1 := hid (HD1.out.on hb)
  replace HF := hid (HF.out.on hb)
  replace B := hid (B.out.trans (hb.mono B.out.size))
  clear cc13a cc13b cc13c
  clear hb 
  obtain ⟨cc15a, cc15b, cc15c⟩ := X6.out.cells
  go_wp2_with fail
  refine (qfloor_good Hha.out w14).mono ?_
  rintro e w16 ⟨rfl, hb⟩
  replace X6 := hid (X6.out.below hb X6.out.lt)
  replace HN1 := hid (HN1.out.on hb)
  replace HD1 := hid (HD1.out.on hb)
  replace HF := hid (HF.out.on hb)
  replace B := hid (B.out.trans (hb.mono B.out.size))
  clear cc15a cc15b cc15c
  clear hb 
  obtain ⟨cc17a, cc17b, cc17c⟩ := X6.out.cells
  go_wp2_with fail
  refine (same_nil w16 (HDR.out.below B.out)).mono ?_
  rintro e w18 ⟨rfl, hb⟩
  replace X6 := hid (X6.out.below hb X6.out.lt)
  replace HN1 := hid (HN1.out.on hb)
  replace HD1 := hid (HD1.out.on hb)
  replace HF := hid (HF.out.on hb)
  replace B := hid (B.out.trans (hb.mono B.out.size))
  clear cc17a cc17b cc17c
  clear hb 
  obtain ⟨cc19a, cc19b, cc19c⟩ := X6.out.cells
  go_wp2_with fail
  refine (rtwo2 Hha.out Hhb.out sa sb w18).mono ?_
  rintro e w20 ⟨s3a, p3a, n3a, c3a, p3b, n3b, c3b, s4a, p4a, n4a, c4a, p4b, n4b, c4b, rfl, hb⟩
  replace X6 := hid (X6.out.below hb X6.out.lt)
  replace HN1 := hid (HN1.out.on hb)
  replace HD1 := hid (HD1.out.on hb)
  replace HF := hid (HF.out.on hb)
  replace B := hid (B.out.trans (hb.mono B.out.size))
  clear cc19a cc19b cc19c
  clear hb 
  have hb21 := (Below.refl _ _).alloc (Nat.le_refl w20.heap.size) (.cells #[.bool s3a, .slice p3a n3a c3a, .slice p3b n3b c3b] 28)
  have hx22 := Qbx.new w20 s3a p3a n3a c3a p3b n3b c3b
  have L0 := hid X6.out.lt
  replace X6 := hid (X6.out.below hb21 X6.out.lt)
  replace HN1 := hid (HN1.out.on hb21)
  replace HD1 := hid (HD1.out.on hb21)
  replace HF := hid (HF.out.on hb21)
  replace B := hid (B.out.trans (hb21.mono B.out.size))
  have X13 := hid hx22
  have hs23 : (w20.alloc (.cells #[.bool s3a, .slice p3a n3a c3a, .slice p3b n3b c3b] 28)).heap.size = w20.heap.size + 1 := by simp
  clear hb21 hx22
  have hb24 := (Below.refl _ _).alloc (Nat.le_refl (w20.alloc (.cells #[.bool s3a, .slice p3a n3a c3a, .slice p3b n3b c3b] 28)).heap.size) (.cells #[.bool s4a, .slice p4a n4a c4a, .slice p4b n4b c4b] 28)
  have hx25 := Qbx.new (w20.alloc (.cells #[.bool s3a, .slice p3a n3a c3a, .slice p3b n3b c3b] 28)) s4a p4a n4a c4a p4b n4b c4b
  rw [hs23] at hx25
  replace X6 := hid (X6.out.below hb24 X6.out.lt)
  replace X13 := hid (X13.out.below hb24 X13.out.lt)
  replace HN1 := hid (HN1.out.on hb24)
  replace HD1 := hid (HD1.out.on hb24)
  replace HF := hid (HF.out.on hb24)
  replace B := hid (B.out.trans (hb24.mono B.out.size))
  have X14 := hid hx25
  have hs26 : ((w20.alloc (.cells #[.bool s3a, .slice p3a n3a c3a, .slice p3b n3b c3b] 28)).alloc (.cells #[.bool s4a, .slice p4a n4a c4a, .slice p4b n4b c4b] 28)).heap.size = w20.heap.size + 1 + 1 := by simp [hs23]
  clear hb24 hx25
  obtain ⟨cc27a, cc27b, cc27c⟩ := X6.out.cells
  obtain ⟨cc28a, cc28b, cc28c⟩ := X13.out.cells
  obtain ⟨cc29a, cc29b, cc29c⟩ := X14.out.cells
  go_wp2_with fail
  generalize hW : (w20.alloc (.cells #[.bool s3a, .slice p3a n3a c3a, .slice p3b n3b c3b] 28)).alloc (.cells #[.bool s4a, .slice p4a n4a c4a, .slice p4b n4b c4b] 28) = W30 at *
  clear hW
  refine (rwholeof_good Hhwa.out W30).mono ?_
  rintro e w31 ⟨v, rfl, hv, hb⟩
  obtain ⟨s8, p8, n8, c8, rfl⟩ := hv.opened
  replace X6 := hid (X6.out.below hb X6.out.lt)
  replace X13 := hid (X13.out.below hb X13.out.lt)
  replace X14 := hid (X14.out.below hb X14.out.lt)
  replace HN1 := hid (HN1.out.on hb)
  replace HD1 := hid (HD1.out.on hb)
  replace HF := hid (HF.out.on hb)
  replace B := hid (B.out.trans (hb.mono B.out.size))
  clear cc27a cc27b cc27c cc28a cc28b cc28c cc29a cc29b cc29c
  have HW8 := hid hv
  clear hb hv
  have hb32 := (Below.refl _ _).alloc (Nat.le_refl w31.heap.size) (.cells #[.bool s8, .slice p8 n8 c8] 26)
  have hx33 := BoxR.new w31 s8 p8 n8 c8
  have L1 := hid X14.out.lt
  replace X6 := hid (X6.out.below hb32 X6.out.lt)
  replace X13 := hid (X13.out.below hb32 X13.out.lt)
  replace X14 := hid (X14.out.below hb32 X14.out.lt)
  replace HN1 := hid (HN1.out.on hb32)
  replace HD1 := hid (HD1.out.on hb32)
  replace HF := hid (HF.out.on hb32)
  replace HW8 := hid (HW8.out.on hb32)
  replace B := hid (B.out.trans (hb32.mono B.out.size))
  have X19 := hid hx33
  have hs34 : (w31.alloc (.cells #[.bool s8, .slice p8 n8 c8] 26)).heap.size = w31.heap.size + 1 := by simp
  clear hb32 hx33
  obtain ⟨cc35a, cc35b, cc35c⟩ := X6.out.cells
  obtain ⟨cc36a, cc36b, cc36c⟩ := X13.out.cells
  obtain ⟨cc37a, cc37b, cc37c⟩ := X14.out.cells
  obtain ⟨cc38a, cc38b⟩ := X19.out.both
  go_wp2_with fail
  generalize hW : w31.alloc (.cells #[.bool s8, .slice p8 n8 c8] 26) = W39 at *
  clear hW
  refine (rwholeof_bad Hhwb.out W39 sb).mono ?_
  rintro e w40 ⟨s9, p9, n9, c9, rfl, hb⟩
  replace X6 := hid (X6.out.below hb X6.out.lt)
  replace X13 := hid (X13.out.below hb X13.out.lt)
  replace X14 := hid (X14.out.below hb X14.out.lt)
  replace X19 := hid (X19.out.below hb X19.out.lt)
  replace HN1 := hid (HN1.out.on hb)
  replace HD1 := hid (HD1.out.on hb)
  replace HF := hid (HF.out.on hb)
  replace HW8 := hid (HW8.out.on hb)
  replace B := hid (B.out.trans (hb.mono B.out.size))
  clear cc35a cc35b cc35c cc36a cc36b cc36c cc37a cc37b cc37c cc38a cc38b
  clear hb 
  have hb41 := (Below.refl _ _).alloc (Nat.le_refl w40.heap.size) (.cells #[.bool s9, .slice p9 n9 c9] 26)
  have hx42 := BoxR.new w40 s9 p9 n9 c9
  have L2 := hid X19.out.lt
  replace X6 := hid (X6.out.below hb41 X6.out.lt)
  replace X13 := hid (X13.out.below hb41 X13.out.lt)
  replace X14 := hid (X14.out.below hb41 X14.out.lt)
  replace X19 := hid (X19.out.below hb41 X19.out.lt)
  replace HN1 := hid (HN1.out.on hb41)
  replace HD1 := hid (HD1.out.on hb41)
  replace HF := hid (HF.out.on hb41)
  replace HW8 := hid (HW8.out.on hb41)
  replace B := hid (B.out.trans (hb41.mono B.out.size))
  have X21 := hid hx42
  have hs43 : (w40.alloc (.cells #[.bool s9, .slice p9 n9 c9] 26)).heap.size = w40.heap.size + 1 := by simp
  clear hb41 hx42
  obtain ⟨cc44a, cc44b, cc44c⟩ := X6.out.cells
  obtain ⟨cc45a, cc45b, cc45c⟩ := X13.out.cells
  obtain ⟨cc46a, cc46b, cc46c⟩ := X14.out.cells
  obtain ⟨cc47a, cc47b⟩ := X19.out.both
  obtain ⟨cc48a, cc48b⟩ := X21.out.both
  go_wp2_with fail
  generalize hW : w40.alloc (.cells #[.bool s9, .slice p9 n9 c9] 26) = W49 at *
  clear hW
  refine (two_zero j W49).mono ?_
  rintro e w' ⟨rfl, rfl⟩
  obtain ⟨cc51a, cc51b, cc51c⟩ := X6.out.cells
  obtain ⟨cc52a, cc52b, cc52c⟩ := X13.out.cells
  obtain ⟨cc53a, cc53b, cc53c⟩ := X14.out.cells
  obtain ⟨cc54a, cc54b⟩ := X19.out.both
  obtain ⟨cc55a, cc55b⟩ := X21.out.both
  go_wp2_with fail
  refine (qadd_bad (k := k) (.inr ⟨Hha.out, Hhb.out⟩) sa sb W49).mono ?_
  rintro e w56 ⟨rfl, hb⟩
  replace X6 := hid (X6.out.below hb X6.out.lt)
  replace X13 := hid (X13.out.below hb X13.out.lt)
  replace X14 := hid (X14.out.below hb X14.out.lt)
  replace X19 := hid (X19.out.below hb X19.out.lt)
  replace X21 := hid (X21.out.below hb X21.out.lt)
  replace HN1 := hid (HN1.out.on hb)
  replace HD1 := hid (HD1.out.on hb)
  replace HF := hid (HF.out.on hb)
  replace HW8 := hid (HW8.out.on hb)
  replace B := hid (B.out.trans (hb.mono B.out.size))
  clear cc44a cc44b cc44c cc45a cc45b cc45c cc46a cc46b cc46c cc47a cc47b cc48a cc48b cc51a cc51b cc51c cc52a cc52b cc52c cc53a cc53b cc53c cc54a cc54b cc55a cc55b
  clear hb 
  obtain ⟨cc57a, cc57b, cc57c⟩ := X6.out.cells
  obtain ⟨cc58a, cc58b, cc58c⟩ := X13.out.cells
  obtain ⟨cc59a, cc59b, cc59c⟩ := X14.out.cells
  obtain ⟨cc60a, cc60b⟩ := X19.out.both
  obtain ⟨cc61a, cc61b⟩ := X21.out.both
  go_wp2_with fail
  refine (same_no k HK0.out w56 (HDR.out.below B.out)).mono ?_
  rintro e w62 ⟨rfl, hb⟩
  replace X6 := hid (X6.out.below hb X6.out.lt)
  replace X13 := hid (X13.out.below hb X13.out.lt)
  replace X14 := hid (X14.out.below hb X14.out.lt)
  replace X19 := hid (X19.out.below hb X19.out.lt)
  replace X21 := hid (X21.out.below hb X21.out.lt)
  replace HN1 := hid (HN1.out.on hb)
  replace HD1 := hid (HD1.out.on hb)
  replace HF := hid (HF.out.on hb)
  replace HW8 := hid (HW8.out.on hb)
  replace B := hid (B.out.trans (hb.mono B.out.size))
  clear cc57a cc57b cc57c cc58a cc58b cc58c cc59a cc59b cc59c cc60a cc60b cc61a cc61b
  clear hb 
  obtain ⟨cc63a, cc63b, cc63c⟩ := X6.out.cells
  obtain ⟨cc64a, cc64b, cc64c⟩ := X13.out.cells
  obtain ⟨cc65a, cc65b, cc65c⟩ := X14.out.cells
  obtain ⟨cc66a, cc66b⟩ := X19.out.both
  obtain ⟨cc67a, cc67b⟩ := X21.out.both
  go_wp2_with fail
  refine (qmul_bad (k := k) (.inr ⟨Hha.out, Hhb.out⟩) sa sb w62).mono ?_
  rintro e w68 ⟨rfl, hb⟩
  replace X6 := hid (X6.out.below hb X6.out.lt)
  replace X13 := hid (X13.out.below hb X13.out.lt)
  replace X14 := hid (X14.out.below hb X14.out.lt)
  replace X19 := hid (X19.out.below hb X19.out.lt)
  replace X21 := hid (X21.out.below hb X21.out.lt)
  replace HN1 := hid (HN1.out.on hb)
  replace HD1 := hid (HD1.out.on hb)
  replace HF := hid (HF.out.on hb)
  replace HW8 := hid (HW8.out.on hb)
  replace B := hid (B.out.trans (hb.mono B.out.size))
  clear cc63a cc63b cc63c cc64a cc64b cc64c cc65a cc65b cc65c cc66a cc66b cc67a cc67b
  clear hb 
  obtain ⟨cc69a, cc69b, cc69c⟩ := X6.out.cells
  obtain ⟨cc70a, cc70b, cc70c⟩ := X13.out.cells
  obtain ⟨cc71a, cc71b, cc71c⟩ := X14.out.cells
  obtain ⟨cc72a, cc72b⟩ := X19.out.both
  obtain ⟨cc73a, cc73b⟩ := X21.out.both
  go_wp2_with fail
  refine (same_no k HK0.out w68 (HDR.out.below B.out)).mono ?_
  rintro e w74 ⟨rfl, hb⟩
  replace X6 := hid (X6.out.below hb X6.out.lt)
  replace X13 := hid (X13.out.below hb X13.out.lt)
  replace X14 := hid (X14.out.below hb X14.out.lt)
  replace X19 := hid (X19.out.below hb X19.out.lt)
  replace X21 := hid (X21.out.below hb X21.out.lt)
  replace HN1 := hid (HN1.out.on hb)
  replace HD1 := hid (HD1.out.on hb)
  replace HF := hid (HF.out.on hb)
  replace HW8 := hid (HW8.out.on hb)
  replace B := hid (B.out.trans (hb.mono B.out.size))
  clear cc69a cc69b cc69c cc70a cc70b cc70c cc71a cc71b cc71c cc72a cc72b cc73a cc73b
  clear hb 
  obtain ⟨cc75a, cc75b, cc75c⟩ := X6.out.cells
  obtain ⟨cc76a, cc76b, cc76c⟩ := X13.out.cells
  obtain ⟨cc77a, cc77b, cc77c⟩ := X14.out.cells
  obtain ⟨cc78a, cc78b⟩ := X19.out.both
  obtain ⟨cc79a, cc79b⟩ := X21.out.both
  go_wp2_with fail
  refine (qdiv_bad (k := k) (.inr ⟨Hha.out, Hhb.out⟩) sa sb w74).mono ?_
  rintro e w80 ⟨rfl, hb⟩
  replace X6 := hid (X6.out.below hb X6.out.lt)
  replace X13 := hid (X13.out.below hb X13.out.lt)
  replace X14 := hid (X14.out.below hb X14.out.lt)
  replace X19 := hid (X19.out.below hb X19.out.lt)
  replace X21 := hid (X21.out.below hb X21.out.lt)
  replace HN1 := hid (HN1.out.on hb)
  replace HD1 := hid (HD1.out.on hb)
  replace HF := hid (HF.out.on hb)
  replace HW8 := hid (HW8.out.on hb)
  replace B := hid (B.out.trans (hb.mono B.out.size))
  clear cc75a cc75b cc75c cc76a cc76b cc76c cc77a cc77b cc77c cc78a cc78b cc79a cc79b
  clear hb 
  obtain ⟨cc81a, cc81b, cc81c⟩ := X6.out.cells
  obtain ⟨cc82a, cc82b, cc82c⟩ := X13.out.cells
  obtain ⟨cc83a, cc83b, cc83c⟩ := X14.out.cells
  obtain ⟨cc84a, cc84b⟩ := X19.out.both
  obtain ⟨cc85a, cc85b⟩ := X21.out.both
  go_wp2_with fail
  refine (same_no k HK0.out w80 (HDR.out.below B.out)).mono ?_
  rintro e w86 ⟨rfl, hb⟩
  replace X6 := hid (X6.out.below hb X6.out.lt)
  replace X13 := hid (X13.out.below hb X13.out.lt)
  replace X14 := hid (X14.out.below hb X14.out.lt)
  replace X19 := hid (X19.out.below hb X19.out.lt)
  replace X21 := hid (X21.out.below hb X21.out.lt)
  replace HN1 := hid (HN1.out.on hb)
  replace HD1 := hid (HD1.out.on hb)
  replace HF := hid (HF.out.on hb)
  replace HW8 := hid (HW8.out.on hb)
  replace B := hid (B.out.trans (hb.mono B.out.size))
  clear cc81a cc81b cc81c cc82a cc82b cc82c cc83a cc83b cc83c cc84a cc84b cc85a cc85b
  clear hb 
  obtain ⟨cc87a, cc87b, cc87c⟩ := X6.out.cells
  obtain ⟨cc88a, cc88b, cc88c⟩ := X13.out.cells
  obtain ⟨cc89a, cc89b, cc89c⟩ := X14.out.cells
  obtain ⟨cc90a, cc90b⟩ := X19.out.both
  obtain ⟨cc91a, cc91b⟩ := X21.out.both
  go_wp2_with fail
  refine (qless_bad (k := k) (.inr ⟨Hha.out, Hhb.out⟩) sa sb w86).mono ?_
  rintro e w92 ⟨rfl, hb⟩
  replace X6 := hid (X6.out.below hb X6.out.lt)
  replace X13 := hid (X13.out.below hb X13.out.lt)
  replace X14 := hid (X14.out.below hb X14.out.lt)
  replace X19 := hid (X19.out.below hb X19.out.lt)
  replace X21 := hid (X21.out.below hb X21.out.lt)
  replace HN1 := hid (HN1.out.on hb)
  replace HD1 := hid (HD1.out.on hb)
  replace HF := hid (HF.out.on hb)
  replace HW8 := hid (HW8.out.on hb)
  replace B := hid (B.out.trans (hb.mono B.out.size))
  clear cc87a cc87b cc87c cc88a cc88b cc88c cc89a cc89b cc89c cc90a cc90b cc91a cc91b
  clear hb 
  obtain ⟨cc93a, cc93b, cc93c⟩ := X6.out.cells
  obtain ⟨cc94a, cc94b, cc94c⟩ := X13.out.cells
  obtain ⟨cc95a, cc95b, cc95c⟩ := X14.out.cells
  obtain ⟨cc96a, cc96b⟩ := X19.out.both
  obtain ⟨cc97a, cc97b⟩ := X21.out.both
  go_wp2_with fail
  refine (same_no k HK0.out w92 (HDR.out.below B.out)).mono ?_
  rintro e w98 ⟨rfl, hb⟩
  replace X6 := hid (X6.out.below hb X6.out.lt)
  replace X13 := hid (X13.out.below hb X13.out.lt)
  replace X14 := hid (X14.out.below hb X14.out.lt)
  replace X19 := hid (X19.out.below hb X19.out.lt)
  replace X21 := hid (X21.out.below hb X21.out.lt)
  replace HN1 := hid (HN1.out.on hb)
  replace HD1 := hid (HD1.out.on hb)
  replace HF := hid (HF.out.on hb)
  replace HW8 := hid (HW8.out.on hb)
  replace B := hid (B.out.trans (hb.mono B.out.size))
  clear cc93a cc93b cc93c cc94a cc94b cc94c cc95a cc95b cc95c cc96a cc96b cc97a cc97b
  clear hb 
  obtain ⟨cc99a, cc99b, cc99c⟩ := X6.out.cells
  obtain ⟨cc100a, cc100b, cc100c⟩ := X13.out.cells
  obtain ⟨cc101a, cc101b, cc101c⟩ := X14.out.cells
  obtain ⟨cc102a, cc102b⟩ := X19.out.both
  obtain ⟨cc103a, cc103b⟩ := X21.out.both
  go_wp2_with fail
  refine (qmake_bad (k := j) (.inr ⟨Hhwa.out, Hhwb.out⟩) sa sb w98).mono ?_
  rintro e w104 ⟨rfl, hb⟩
  replace X6 := hid (X6.out.below hb X6.out.lt)
  replace X13 := hid (X13.out.below hb X13.out.lt)
  replace X14 := hid (X14.out.below hb X14.out.lt)
  replace X19 := hid (X19.out.below hb X19.out.lt)
  replace X21 := hid (X21.out.below hb X21.out.lt)
  replace HN1 := hid (HN1.out.on hb)
  replace HD1 := hid (HD1.out.on hb)
  replace HF := hid (HF.out.on hb)
  replace HW8 := hid (HW8.out.on hb)
  replace B := hid (B.out.trans (hb.mono B.out.size))
  clear cc99a cc99b cc99c cc100a cc100b cc100c cc101a cc101b cc101c cc102a cc102b cc103a cc103b
  clear hb 
  obtain ⟨cc105a, cc105b, cc105c⟩ := X6.out.cells
  obtain ⟨cc106a, cc106b, cc106c⟩ := X13.out.cells
  obtain ⟨cc107a, cc107b, cc107c⟩ := X14.out.cells
  obtain ⟨cc108a, cc108b⟩ := X19.out.both
  obtain ⟨cc109a, cc109b⟩ := X21.out.both
  go_wp2_with fail
  refine (same_no j HJ0.out w104 (HDR.out.below B.out)).mono ?_
  rintro e w110 ⟨rfl, hb⟩
  replace X6 := hid (X6.out.below hb X6.out.lt)
  replace X13 := hid (X13.out.below hb X13.out.lt)
  replace X14 := hid (X14.out.below hb X14.out.lt)
  replace X19 := hid (X19.out.below hb X19.out.lt)
  replace X21 := hid (X21.out.below hb X21.out.lt)
  replace HN1 := hid (HN1.out.on hb)
  replace HD1 := hid (HD1.out.on hb)
  replace HF := hid (HF.out.on hb)
  replace HW8 := hid (HW8.out.on hb)
  replace B := hid (B.out.trans (hb.mono B.out.size))
  clear cc105a cc105b cc105c cc106a cc106b cc106c cc107a cc107b cc107c cc108a cc108b cc109a cc109b
  clear hb 
  obtain ⟨cc111a, cc111b, cc111c⟩ := X6.out.cells
  obtain ⟨cc112a, cc112b, cc112c⟩ := X13.out.cells
  obtain ⟨cc113a, cc113b, cc113c⟩ := X14.out.cells
  obtain ⟨cc114a, cc114b⟩ := X19.out.both
  obtain ⟨cc115a, cc115b⟩ := X21.out.both
  go_wp2_with fail
  go_ret
  exact ⟨rfl, B.out⟩

end Go.Proofs.YtckkbjnipacodaaGreatDoor

/-
  RatTells: a case.
-/
namespace Go.Proofs.YtckkbjnipacodaaGreatDoor
open Go.RowKit
open Num4
open Num (dg isNat dval)
set_option linter.unusedVariables false
set_option maxRecDepth 100000
set_option linter.unusedSimpArgs false

set_option maxHeartbeats 32000000 in
theorem rtells_c2n (a b : ByteArray) (sa : a.size ≤ maxLen) (sb : b.size ≤ maxLen) {k i j : Int} (ha : GoodQ a) (hb : BadQ b k) (hwa : BadZ a i) (hwb : (GoodZ b ∧ j = 0) ∨ BadZ b j) (hk0 : k ≠ 0) (hi0 : i ≠ 0) (w : World) (hd : Door w) :
    Calls Tryz.prog 3 #[.string a, .string b] w fun e w' => e = .returned (.bool true) ∧ Below w.heap.size w w' := by
  have Hha := hid ha
  have Hhb := hid hb
  have Hhwa := hid hwa
  have Hhwb := hid hwb
  have HK0 := hid hk0
  have HI0 := hid hi0
  have HDR := hid hd
  have B := hid (Below.refl w.heap.size w)
  have hkb : (k == 0) = false := by simpa using hk0
  have hib : (i == 0) = false := by simpa using hi0
  clear  ha hb hwa hwb hd
  go_enter Tryz.func3, Tryz.ntmps3
  go_wp2_with fail
  refine (halved_true w).mono ?_
  rintro e w1 ⟨rfl, hb⟩
  replace B := hid (B.out.trans (hb.mono B.out.size))
  clear hb 
  go_wp2_with fail
  refine (ratof_good Hha.out w1).mono ?_
  rintro e w2 ⟨v, rfl, hv, hb⟩
  obtain ⟨s1a, p1a, n1a, c1a, p1b, n1b, c1b, rfl⟩ := hv.opened
  obtain ⟨ht1, hu1⟩ := hv.two
  replace B := hid (B.out.trans (hb.mono B.out.size))
  have HN1 := hid ht1
  have HD1 := hid hu1
  clear hb hv ht1 hu1
  have hb3 := (Below.refl _ _).alloc (Nat.le_refl w2.heap.size) (.cells #[.bool s1a, .slice p1a n1a c1a, .slice p1b n1b c1b] 28)
  have hx4 := Qbx.new w2 s1a p1a n1a c1a p1b n1b c1b
  replace HN1 := hid (HN1.out.on hb3)
  replace HD1 := hid (HD1.out.on hb3)
  replace B := hid (B.out.trans (hb3.mono B.out.size))
  have X6 := hid hx4
  have hs5 : (w2.alloc (.cells #[.bool s1a, .slice p1a n1a c1a, .slice p1b n1b c1b] 28)).heap.size = w2.heap.size + 1 := by simp
  clear hb3 hx4
  obtain ⟨cc6a, cc6b, cc6c⟩ := X6.out.cells
  go_wp2_with fail
  generalize hW : w2.alloc (.cells #[.bool s1a, .slice p1a n1a c1a, .slice p1b n1b c1b] 28) = W7 at *
  clear hW
  refine (qcheck_good Hha.out W7).mono ?_
  rintro e w8 ⟨rfl, hb⟩
  replace X6 := hid (X6.out.below hb X6.out.lt)
  replace HN1 := hid (HN1.out.on hb)
  replace HD1 := hid (HD1.out.on hb)
  replace B := hid (B.out.trans (hb.mono B.out.size))
  clear cc6a cc6b cc6c
  clear hb 
  obtain ⟨cc9a, cc9b, cc9c⟩ := X6.out.cells
  go_wp2_with fail
  refine (same_nil w8 (HDR.out.below B.out)).mono ?_
  rintro e w10 ⟨rfl, hb⟩
  replace X6 := hid (X6.out.below hb X6.out.lt)
  replace HN1 := hid (HN1.out.on hb)
  replace HD1 := hid (HD1.out.on hb)
  replace B := hid (B.out.trans (hb.mono B.out.size))
  clear cc9a cc9b cc9c
  clear hb 
  obtain ⟨cc11a, cc11b, cc11c⟩ := X6.out.cells
  go_wp2_with fail
  refine (rfloor (QR.mk2 HN1.out HD1.out) (by omega) (by omega)).mono ?_
  rintro e w12 ⟨v, rfl, hv, hb⟩
  obtain ⟨s2, p2, n2, c2, rfl⟩ := hv.opened
  replace X6 := hid (X6.out.below hb X6.out.lt)
  replace HN1 := hid (HN1.out.on hb)
  replace HD1 := hid (HD1.out.on hb)
  replace B := hid (B.out.trans (hb.mono B.out.size))
  clear cc11a cc11b cc11c
  have HF := hid hv
  clear hb hv
  obtain ⟨cc13a, cc13b, cc13c⟩ := X6.out.cells
  go_wp2_with fail
  refine (rtextz HF.out (by omega)).mono ?_
  rintro e w14 ⟨rfl, hb⟩
  replace X6 := hid (X6.out.below hb X6.out.lt)
  replace HN1 := hid (HN1.out.on hb)
  replace HD1 := hid (HD1.out.on hb)
  replace HF := hid (HF.out.on hb)
  replace B := hid (B.out.trans (hb.mono B.out.size))
  clear cc13a cc13b cc13c
  clear hb 
  obtain ⟨cc15a, cc15b, cc15c⟩ := X6.out.cells
  go_wp2_with fail
  refine (qfloor_good Hha.out w14).mono ?_
  rintro e w16 ⟨rfl, hb⟩
  replace X6 := hid (X6.out.below hb X6.out.lt)
  replace HN1 := hid (HN1.out.on hb)
  replace HD1 := hid (HD1.out.on hb)
  replace HF := hid (HF.out.on hb)
  replace B := hid (B.out.trans (hb.mono B.out.size))
  clear cc15a cc15b cc15c
  clear hb 
  obtain ⟨cc17a, cc17b, cc17c⟩ := X6.out.cells
  go_wp2_with fail
  refine (same_nil w16 (HDR.out.below B.out)).mono ?_
  rintro e w18 ⟨rfl, hb⟩
  replace X6 := hid (X6.out.below hb X6.out.lt)
  replace HN1 := hid (HN1.out.on hb)
  replace HD1 := hid (HD1.out.on hb)
  replace HF := hid (HF.out.on hb)
  replace B := hid (B.out.trans (hb.mono B.out.size))
  clear cc17a cc17b cc17c
  clear hb 
  obtain ⟨cc19a, cc19b, cc19c⟩ := X6.out.cells
  go_wp2_with fail
  refine (rtwo2 Hha.out Hhb.out sa sb w18).mono ?_
  rintro e w20 ⟨s3a, p3a, n3a, c3a, p3b, n3b, c3b, s4a, p4a, n4a, c4a, p4b, n4b, c4b, rfl, hb⟩
  replace X6 := hid (X6.out.below hb X6.out.lt)
  replace HN1 := hid (HN1.out.on hb)
  replace HD1 := hid (HD1.out.on hb)
  replace HF := hid (HF.out.on hb)
  replace B := hid (B.out.trans (hb.mono B.out.size))
  clear cc19a cc19b cc19c
  clear hb 
  have hb21 := (Below.refl _ _).alloc (Nat.le_refl w20.heap.size) (.cells #[.bool s3a, .slice p3a n3a c3a, .slice p3b n3b c3b] 28)
  have hx22 := Qbx.new w20 s3a p3a n3a c3a p3b n3b c3b
  have L0 := hid X6.out.lt
  replace X6 := hid (X6.out.below hb21 X6.out.lt)
  replace HN1 := hid (HN1.out.on hb21)
  replace HD1 := hid (HD1.out.on hb21)
  replace HF := hid (HF.out.on hb21)
  replace B := hid (B.out.trans (hb21.mono B.out.size))
  have X13 := hid hx22
  have hs23 : (w20.alloc (.cells #[.bool s3a, .slice p3a n3a c3a, .slice p3b n3b c3b] 28)).heap.size = w20.heap.size + 1 := by simp
  clear hb21 hx22
  have hb24 := (Below.refl _ _).alloc (Nat.le_refl (w20.alloc (.cells #[.bool s3a, .slice p3a n3a c3a, .slice p3b n3b c3b] 28)).heap.size) (.cells #[.bool s4a, .slice p4a n4a c4a, .slice p4b n4b c4b] 28)
  have hx25 := Qbx.new (w20.alloc (.cells #[.bool s3a, .slice p3a n3a c3a, .slice p3b n3b c3b] 28)) s4a p4a n4a c4a p4b n4b c4b
  rw [hs23] at hx25
  replace X6 := hid (X6.out.below hb24 X6.out.lt)
  replace X13 := hid (X13.out.below hb24 X13.out.lt)
  replace HN1 := hid (HN1.out.on hb24)
  replace HD1 := hid (HD1.out.on hb24)
  replace HF := hid (HF.out.on hb24)
  replace B := hid (B.out.trans (hb24.mono B.out.size))
  have X14 := hid hx25
  have hs26 : ((w20.alloc (.cells #[.bool s3a, .slice p3a n3a c3a, .slice p3b n3b c3b] 28)).alloc (.cells #[.bool s4a, .slice p4a n4a c4a, .slice p4b n4b c4b] 28)).heap.size = w20.heap.size + 1 + 1 := by simp [hs23]
  clear hb24 hx25
  obtain ⟨cc27a, cc27b, cc27c⟩ := X6.out.cells
  obtain ⟨cc28a, cc28b, cc28c⟩ := X13.out.cells
  obtain ⟨cc29a, cc29b, cc29c⟩ := X14.out.cells
  go_wp2_with fail
  generalize hW : (w20.alloc (.cells #[.bool s3a, .slice p3a n3a c3a, .slice p3b n3b c3b] 28)).alloc (.cells #[.bool s4a, .slice p4a n4a c4a, .slice p4b n4b c4b] 28) = W30 at *
  clear hW
  refine (rwholeof_bad Hhwa.out W30 sa).mono ?_
  rintro e w31 ⟨s8, p8, n8, c8, rfl, hb⟩
  replace X6 := hid (X6.out.below hb X6.out.lt)
  replace X13 := hid (X13.out.below hb X13.out.lt)
  replace X14 := hid (X14.out.below hb X14.out.lt)
  replace HN1 := hid (HN1.out.on hb)
  replace HD1 := hid (HD1.out.on hb)
  replace HF := hid (HF.out.on hb)
  replace B := hid (B.out.trans (hb.mono B.out.size))
  clear cc27a cc27b cc27c cc28a cc28b cc28c cc29a cc29b cc29c
  clear hb 
  have hb32 := (Below.refl _ _).alloc (Nat.le_refl w31.heap.size) (.cells #[.bool s8, .slice p8 n8 c8] 26)
  have hx33 := BoxR.new w31 s8 p8 n8 c8
  have L1 := hid X14.out.lt
  replace X6 := hid (X6.out.below hb32 X6.out.lt)
  replace X13 := hid (X13.out.below hb32 X13.out.lt)
  replace X14 := hid (X14.out.below hb32 X14.out.lt)
  replace HN1 := hid (HN1.out.on hb32)
  replace HD1 := hid (HD1.out.on hb32)
  replace HF := hid (HF.out.on hb32)
  replace B := hid (B.out.trans (hb32.mono B.out.size))
  have X19 := hid hx33
  have hs34 : (w31.alloc (.cells #[.bool s8, .slice p8 n8 c8] 26)).heap.size = w31.heap.size + 1 := by simp
  clear hb32 hx33
  obtain ⟨cc35a, cc35b, cc35c⟩ := X6.out.cells
  obtain ⟨cc36a, cc36b, cc36c⟩ := X13.out.cells
  obtain ⟨cc37a, cc37b, cc37c⟩ := X14.out.cells
  obtain ⟨cc38a, cc38b⟩ := X19.out.both
  go_wp2_with fail
  generalize hW : w31.alloc (.cells #[.bool s8, .slice p8 n8 c8] 26) = W39 at *
  clear hW
  refine (rwholeof_any Hhwb.out W39 sb).mono ?_
  rintro e w40 ⟨s9, p9, n9, c9, rfl, hb⟩
  replace X6 := hid (X6.out.below hb X6.out.lt)
  replace X13 := hid (X13.out.below hb X13.out.lt)
  replace X14 := hid (X14.out.below hb X14.out.lt)
  replace X19 := hid (X19.out.below hb X19.out.lt)
  replace HN1 := hid (HN1.out.on hb)
  replace HD1 := hid (HD1.out.on hb)
  replace HF := hid (HF.out.on hb)
  replace B := hid (B.out.trans (hb.mono B.out.size))
  clear cc35a cc35b cc35c cc36a cc36b cc36c cc37a cc37b cc37c cc38a cc38b
  clear hb 
  have hb41 := (Below.refl _ _).alloc (Nat.le_refl w40.heap.size) (.cells #[.bool s9, .slice p9 n9 c9] 26)
  have hx42 := BoxR.new w40 s9 p9 n9 c9
  have L2 := hid X19.out.lt
  replace X6 := hid (X6.out.below hb41 X6.out.lt)
  replace X13 := hid (X13.out.below hb41 X13.out.lt)
  replace X14 := hid (X14.out.below hb41 X14.out.lt)
  replace X19 := hid (X19.out.below hb41 X19.out.lt)
  replace HN1 := hid (HN1.out.on hb41)
  replace HD1 := hid (HD1.out.on hb41)
  replace HF := hid (HF.out.on hb41)
  replace B := hid (B.out.trans (hb41.mono B.out.size))
  have X21 := hid hx42
  have hs43 : (w40.alloc (.cells #[.bool s9, .slice p9 n9 c9] 26)).heap.size = w40.heap.size + 1 := by simp
  clear hb41 hx42
  obtain ⟨cc44a, cc44b, cc44c⟩ := X6.out.cells
  obtain ⟨cc45a, cc45b, cc45c⟩ := X13.out.cells
  obtain ⟨cc46a, cc46b, cc46c⟩ := X14.out.cells
  obtain ⟨cc47a, cc47b⟩ := X19.out.both
  obtain ⟨cc48a, cc48b⟩ := X21.out.both
  go_wp2_with fail
  generalize hW : w40.alloc (.cells #[.bool s9, .slice p9 n9 c9] 26) = W49 at *
  clear hW
  refine (two_some i j HI0.out W49).mono ?_
  rintro e w' ⟨rfl, rfl⟩
  obtain ⟨cc51a, cc51b, cc51c⟩ := X6.out.cells
  obtain ⟨cc52a, cc52b, cc52c⟩ := X13.out.cells
  obtain ⟨cc53a, cc53b, cc53c⟩ := X14.out.cells
  obtain ⟨cc54a, cc54b⟩ := X19.out.both
  obtain ⟨cc55a, cc55b⟩ := X21.out.both
  go_wp2_with fail
  refine (qadd_bad (k := k) (.inr ⟨Hha.out, Hhb.out⟩) sa sb W49).mono ?_
  rintro e w56 ⟨rfl, hb⟩
  replace X6 := hid (X6.out.below hb X6.out.lt)
  replace X13 := hid (X13.out.below hb X13.out.lt)
  replace X14 := hid (X14.out.below hb X14.out.lt)
  replace X19 := hid (X19.out.below hb X19.out.lt)
  replace X21 := hid (X21.out.below hb X21.out.lt)
  replace HN1 := hid (HN1.out.on hb)
  replace HD1 := hid (HD1.out.on hb)
  replace HF := hid (HF.out.on hb)
  replace B := hid (B.out.trans (hb.mono B.out.size))
  clear cc44a cc44b cc44c cc45a cc45b cc45c cc46a cc46b cc46c cc47a cc47b cc48a cc48b cc51a cc51b cc51c cc52a cc52b cc52c cc53a cc53b cc53c cc54a cc54b cc55a cc55b
  clear hb 
  obtain ⟨cc57a, cc57b, cc57c⟩ := X6.out.cells
  obtain ⟨cc58a, cc58b, cc58c⟩ := X13.out.cells
  obtain ⟨cc59a, cc59b, cc59c⟩ := X14.out.cells
  obtain ⟨cc60a, cc60b⟩ := X19.out.both
  obtain ⟨cc61a, cc61b⟩ := X21.out.both
  go_wp2_with fail
  refine (same_no k HK0.out w56 (HDR.out.below B.out)).mono ?_
  rintro e w62 ⟨rfl, hb⟩
  replace X6 := hid (X6.out.below hb X6.out.lt)
  replace X13 := hid (X13.out.below hb X13.out.lt)
  replace X14 := hid (X14.out.below hb X14.out.lt)
  replace X19 := hid (X19.out.below hb X19.out.lt)
  replace X21 := hid (X21.out.below hb X21.out.lt)
  replace HN1 := hid (HN1.out.on hb)
  replace HD1 := hid (HD1.out.on hb)
  replace HF := hid (HF.out.on hb)
  replace B := hid (B.out.trans (hb.mono B.out.size))
  clear cc57a cc57b cc57c cc58a cc58b cc58c cc59a cc59b cc59c cc60a cc60b cc61a cc61b
  clear hb 
  obtain ⟨cc63a, cc63b, cc63c⟩ := X6.out.cells
  obtain ⟨cc64a, cc64b, cc64c⟩ := X13.out.cells
  obtain ⟨cc65a, cc65b, cc65c⟩ := X14.out.cells
  obtain ⟨cc66a, cc66b⟩ := X19.out.both
  obtain ⟨cc67a, cc67b⟩ := X21.out.both
  go_wp2_with fail
  refine (qmul_bad (k := k) (.inr ⟨Hha.out, Hhb.out⟩) sa sb w62).mono ?_
  rintro e w68 ⟨rfl, hb⟩
  replace X6 := hid (X6.out.below hb X6.out.lt)
  replace X13 := hid (X13.out.below hb X13.out.lt)
  replace X14 := hid (X14.out.below hb X14.out.lt)
  replace X19 := hid (X19.out.below hb X19.out.lt)
  replace X21 := hid (X21.out.below hb X21.out.lt)
  replace HN1 := hid (HN1.out.on hb)
  replace HD1 := hid (HD1.out.on hb)
  replace HF := hid (HF.out.on hb)
  replace B := hid (B.out.trans (hb.mono B.out.size))
  clear cc63a cc63b cc63c cc64a cc64b cc64c cc65a cc65b cc65c cc66a cc66b cc67a cc67b
  clear hb 
  obtain ⟨cc69a, cc69b, cc69c⟩ := X6.out.cells
  obtain ⟨cc70a, cc70b, cc70c⟩ := X13.out.cells
  obtain ⟨cc71a, cc71b, cc71c⟩ := X14.out.cells
  obtain ⟨cc72a, cc72b⟩ := X19.out.both
  obtain ⟨cc73a, cc73b⟩ := X21.out.both
  go_wp2_with fail
  refine (same_no k HK0.out w68 (HDR.out.below B.out)).mono ?_
  rintro e w74 ⟨rfl, hb⟩
  replace X6 := hid (X6.out.below hb X6.out.lt)
  replace X13 := hid (X13.out.below hb X13.out.lt)
  replace X14 := hid (X14.out.below hb X14.out.lt)
  replace X19 := hid (X19.out.below hb X19.out.lt)
  replace X21 := hid (X21.out.below hb X21.out.lt)
  replace HN1 := hid (HN1.out.on hb)
  replace HD1 := hid (HD1.out.on hb)
  replace HF := hid (HF.out.on hb)
  replace B := hid (B.out.trans (hb.mono B.out.size))
  clear cc69a cc69b cc69c cc70a cc70b cc70c cc71a cc71b cc71c cc72a cc72b cc73a cc73b
  clear hb 
  obtain ⟨cc75a, cc75b, cc75c⟩ := X6.out.cells
  obtain ⟨cc76a, cc76b, cc76c⟩ := X13.out.cells
  obtain ⟨cc77a, cc77b, cc77c⟩ := X14.out.cells
  obtain ⟨cc78a, cc78b⟩ := X19.out.both
  obtain ⟨cc79a, cc79b⟩ := X21.out.both
  go_wp2_with fail
  refine (qdiv_bad (k := k) (.inr ⟨Hha.out, Hhb.out⟩) sa sb w74).mono ?_
  rintro e w80 ⟨rfl, hb⟩
  replace X6 := hid (X6.out.below hb X6.out.lt)
  replace X13 := hid (X13.out.below hb X13.out.lt)
  replace X14 := hid (X14.out.below hb X14.out.lt)
  replace X19 := hid (X19.out.below hb X19.out.lt)
  replace X21 := hid (X21.out.below hb X21.out.lt)
  replace HN1 := hid (HN1.out.on hb)
  replace HD1 := hid (HD1.out.on hb)
  replace HF := hid (HF.out.on hb)
  replace B := hid (B.out.trans (hb.mono B.out.size))
  clear cc75a cc75b cc75c cc76a cc76b cc76c cc77a cc77b cc77c cc78a cc78b cc79a cc79b
  clear hb 
  obtain ⟨cc81a, cc81b, cc81c⟩ := X6.out.cells
  obtain ⟨cc82a, cc82b, cc82c⟩ := X13.out.cells
  obtain ⟨cc83a, cc83b, cc83c⟩ := X14.out.cells
  obtain ⟨cc84a, cc84b⟩ := X19.out.both
  obtain ⟨cc85a, cc85b⟩ := X21.out.both
  go_wp2_with fail
  refine (same_no k HK0.out w80 (HDR.out.below B.out)).mono ?_
  rintro e w86 ⟨rfl, hb⟩
  replace X6 := hid (X6.out.below hb X6.out.lt)
  replace X13 := hid (X13.out.below hb X13.out.lt)
  replace X14 := hid (X14.out.below hb X14.out.lt)
  replace X19 := hid (X19.out.below hb X19.out.lt)
  replace X21 := hid (X21.out.below hb X21.out.lt)
  replace HN1 := hid (HN1.out.on hb)
  replace HD1 := hid (HD1.out.on hb)
  replace HF := hid (HF.out.on hb)
  replace B := hid (B.out.trans (hb.mono B.out.size))
  clear cc81a cc81b cc81c cc82a cc82b cc82c cc83a cc83b cc83c cc84a cc84b cc85a cc85b
  clear hb 
  obtain ⟨cc87a, cc87b, cc87c⟩ := X6.out.cells
  obtain ⟨cc88a, cc88b, cc88c⟩ := X13.out.cells
  obtain ⟨cc89a, cc89b, cc89c⟩ := X14.out.cells
  obtain ⟨cc90a, cc90b⟩ := X19.out.both
  obtain ⟨cc91a, cc91b⟩ := X21.out.both
  go_wp2_with fail
  refine (qless_bad (k := k) (.inr ⟨Hha.out, Hhb.out⟩) sa sb w86).mono ?_
  rintro e w92 ⟨rfl, hb⟩
  replace X6 := hid (X6.out.below hb X6.out.lt)
  replace X13 := hid (X13.out.below hb X13.out.lt)
  replace X14 := hid (X14.out.below hb X14.out.lt)
  replace X19 := hid (X19.out.below hb X19.out.lt)
  replace X21 := hid (X21.out.below hb X21.out.lt)
  replace HN1 := hid (HN1.out.on hb)
  replace HD1 := hid (HD1.out.on hb)
  replace HF := hid (HF.out.on hb)
  replace B := hid (B.out.trans (hb.mono B.out.size))
  clear cc87a cc87b cc87c cc88a cc88b cc88c cc89a cc89b cc89c cc90a cc90b cc91a cc91b
  clear hb 
  obtain ⟨cc93a, cc93b, cc93c⟩ := X6.out.cells
  obtain ⟨cc94a, cc94b, cc94c⟩ := X13.out.cells
  obtain ⟨cc95a, cc95b, cc95c⟩ := X14.out.cells
  obtain ⟨cc96a, cc96b⟩ := X19.out.both
  obtain ⟨cc97a, cc97b⟩ := X21.out.both
  go_wp2_with fail
  refine (same_no k HK0.out w92 (HDR.out.below B.out)).mono ?_
  rintro e w98 ⟨rfl, hb⟩
  replace X6 := hid (X6.out.below hb X6.out.lt)
  replace X13 := hid (X13.out.below hb X13.out.lt)
  replace X14 := hid (X14.out.below hb X14.out.lt)
  replace X19 := hid (X19.out.below hb X19.out.lt)
  replace X21 := hid (X21.out.below hb X21.out.lt)
  replace HN1 := hid (HN1.out.on hb)
  replace HD1 := hid (HD1.out.on hb)
  replace HF := hid (HF.out.on hb)
  replace B := hid (B.out.trans (hb.mono B.out.size))
  clear cc93a cc93b cc93c cc94a cc94b cc94c cc95a cc95b cc95c cc96a cc96b cc97a cc97b
  clear hb 
  obtain ⟨cc99a, cc99b, cc99c⟩ := X6.out.cells
  obtain ⟨cc100a, cc100b, cc100c⟩ := X13.out.cells
  obtain ⟨cc101a, cc101b, cc101c⟩ := X14.out.cells
  obtain ⟨cc102a, cc102b⟩ := X19.out.both
  obtain ⟨cc103a, cc103b⟩ := X21.out.both
  go_wp2_with fail
  refine (qmake_bad (k := i) (.inl Hhwa.out) sa sb w98).mono ?_
  rintro e w104 ⟨rfl, hb⟩
  replace X6 := hid (X6.out.below hb X6.out.lt)
  replace X13 := hid (X13.out.below hb X13.out.lt)
  replace X14 := hid (X14.out.below hb X14.out.lt)
  replace X19 := hid (X19.out.below hb X19.out.lt)
  replace X21 := hid (X21.out.below hb X21.out.lt)
  replace HN1 := hid (HN1.out.on hb)
  replace HD1 := hid (HD1.out.on hb)
  replace HF := hid (HF.out.on hb)
  replace B := hid (B.out.trans (hb.mono B.out.size))
  clear cc99a cc99b cc99c cc100a cc100b cc100c cc101a cc101b cc101c cc102a cc102b cc103a cc103b
  clear hb 
  obtain ⟨cc105a, cc105b, cc105c⟩ := X6.out.cells
  obtain ⟨cc106a, cc106b, cc106c⟩ := X13.out.cells
  obtain ⟨cc107a, cc107b, cc107c⟩ := X14.out.cells
  obtain ⟨cc108a, cc108b⟩ := X19.out.both
  obtain ⟨cc109a, cc109b⟩ := X21.out.both
  go_wp2_with fail
  refine (same_no i HI0.out w104 (HDR.out.below B.out)).mono ?_
  rintro e w110 ⟨rfl, hb⟩
  replace X6 := hid (X6.out.below hb X6.out.lt)
  replace X13 := hid (X13.out.below hb X13.out.lt)
  replace X14 := hid (X14.out.below hb X14.out.lt)
  replace X19 := hid (X19.out.below hb X19.out.lt)
  replace X21 := hid (X21.out.below hb X21.out.lt)
  replace HN1 := hid (HN1.out.on hb)
  replace HD1 := hid (HD1.out.on hb)
  replace HF := hid (HF.out.on hb)
  replace B := hid (B.out.trans (hb.mono B.out.size))
  clear cc105a cc105b cc105c cc106a cc106b cc106c cc107a cc107b cc107c cc108a cc108b cc109a cc109b
  clear hb 
  obtain ⟨cc111a, cc111b, cc111c⟩ := X6.out.cells
  obtain ⟨cc112a, cc112b, cc112c⟩ := X13.out.cells
  obtain ⟨cc113a, cc113b, cc113c⟩ := X14.out.cells
  obtain ⟨cc114a, cc114b⟩ := X19.out.both
  obtain ⟨cc115a, cc115b⟩ := X21.out.both
  go_wp2_with fail
  go_ret
  exact ⟨rfl, B.out⟩

end Go.Proofs.YtckkbjnipacodaaGreatDoor

/-
  RatTells: a case.
-/
namespace Go.Proofs.YtckkbjnipacodaaGreatDoor
open Go.RowKit
open Num4
open Num (dg isNat dval)
set_option linter.unusedVariables false
set_option maxRecDepth 100000
set_option linter.unusedSimpArgs false

set_option maxHeartbeats 32000000 in
theorem rtells_zw (a b : ByteArray) (sa : a.size ≤ maxLen) (sb : b.size ≤ maxLen) {k i j : Int} (ha : GoodQ a) (hb : GoodQ b) (hz : qnum b = 0) (hwa : GoodZ a) (hwb : GoodZ b) (hs : znum b = 0) (w : World) (hd : Door w) :
    Calls Tryz.prog 3 #[.string a, .string b] w fun e w' => e = .returned (.bool true) ∧ Below w.heap.size w w' := by
  have Hha := hid ha
  have Hhb := hid hb
  have Hhz := hid hz
  have Hhwa := hid hwa
  have Hhwb := hid hwb
  have Hhs := hid hs
  have HDR := hid hd
  have B := hid (Below.refl w.heap.size w)
  clear  ha hb hz hwa hwb hs hd
  go_enter Tryz.func3, Tryz.ntmps3
  go_wp2_with fail
  refine (halved_true w).mono ?_
  rintro e w1 ⟨rfl, hb⟩
  replace B := hid (B.out.trans (hb.mono B.out.size))
  clear hb 
  go_wp2_with fail
  refine (ratof_good Hha.out w1).mono ?_
  rintro e w2 ⟨v, rfl, hv, hb⟩
  obtain ⟨s1a, p1a, n1a, c1a, p1b, n1b, c1b, rfl⟩ := hv.opened
  obtain ⟨ht1, hu1⟩ := hv.two
  replace B := hid (B.out.trans (hb.mono B.out.size))
  have HN1 := hid ht1
  have HD1 := hid hu1
  clear hb hv ht1 hu1
  have hb3 := (Below.refl _ _).alloc (Nat.le_refl w2.heap.size) (.cells #[.bool s1a, .slice p1a n1a c1a, .slice p1b n1b c1b] 28)
  have hx4 := Qbx.new w2 s1a p1a n1a c1a p1b n1b c1b
  replace HN1 := hid (HN1.out.on hb3)
  replace HD1 := hid (HD1.out.on hb3)
  replace B := hid (B.out.trans (hb3.mono B.out.size))
  have X6 := hid hx4
  have hs5 : (w2.alloc (.cells #[.bool s1a, .slice p1a n1a c1a, .slice p1b n1b c1b] 28)).heap.size = w2.heap.size + 1 := by simp
  clear hb3 hx4
  obtain ⟨cc6a, cc6b, cc6c⟩ := X6.out.cells
  go_wp2_with fail
  generalize hW : w2.alloc (.cells #[.bool s1a, .slice p1a n1a c1a, .slice p1b n1b c1b] 28) = W7 at *
  clear hW
  refine (qcheck_good Hha.out W7).mono ?_
  rintro e w8 ⟨rfl, hb⟩
  replace X6 := hid (X6.out.below hb X6.out.lt)
  replace HN1 := hid (HN1.out.on hb)
  replace HD1 := hid (HD1.out.on hb)
  replace B := hid (B.out.trans (hb.mono B.out.size))
  clear cc6a cc6b cc6c
  clear hb 
  obtain ⟨cc9a, cc9b, cc9c⟩ := X6.out.cells
  go_wp2_with fail
  refine (same_nil w8 (HDR.out.below B.out)).mono ?_
  rintro e w10 ⟨rfl, hb⟩
  replace X6 := hid (X6.out.below hb X6.out.lt)
  replace HN1 := hid (HN1.out.on hb)
  replace HD1 := hid (HD1.out.on hb)
  replace B := hid (B.out.trans (hb.mono B.out.size))
  clear cc9a cc9b cc9c
  clear hb 
  obtain ⟨cc11a, cc11b, cc11c⟩ := X6.out.cells
  go_wp2_with fail
  refine (rfloor (QR.mk2 HN1.out HD1.out) (by omega) (by omega)).mono ?_
  rintro e w12 ⟨v, rfl, hv, hb⟩
  obtain ⟨s2, p2, n2, c2, rfl⟩ := hv.opened
  replace X6 := hid (X6.out.below hb X6.out.lt)
  replace HN1 := hid (HN1.out.on hb)
  replace HD1 := hid (HD1.out.on hb)
  replace B := hid (B.out.trans (hb.mono B.out.size))
  clear cc11a cc11b cc11c
  have HF := hid hv
  clear hb hv
  obtain ⟨cc13a, cc13b, cc13c⟩ := X6.out.cells
  go_wp2_with fail
  refine (rtextz HF.out (by omega)).mono ?_
  rintro e w14 ⟨rfl, hb⟩
  replace X6 := hid (X6.out.below hb X6.out.lt)
  replace HN1 := hid (HN1.out.on hb)
  replace HD1 := hid (HD1.out.on hb)
  replace HF := hid (HF.out.on hb)
  replace B := hid (B.out.trans (hb.mono B.out.size))
  clear cc13a cc13b cc13c
  clear hb 
  obtain ⟨cc15a, cc15b, cc15c⟩ := X6.out.cells
  go_wp2_with fail
  refine (qfloor_good Hha.out w14).mono ?_
  rintro e w16 ⟨rfl, hb⟩
  replace X6 := hid (X6.out.below hb X6.out.lt)
  replace HN1 := hid (HN1.out.on hb)
  replace HD1 := hid (HD1.out.on hb)
  replace HF := hid (HF.out.on hb)
  replace B := hid (B.out.trans (hb.mono B.out.size))
  clear cc15a cc15b cc15c
  clear hb 
  obtain ⟨cc17a, cc17b, cc17c⟩ := X6.out.cells
  go_wp2_with fail
  refine (same_nil w16 (HDR.out.below B.out)).mono ?_
  rintro e w18 ⟨rfl, hb⟩
  replace X6 := hid (X6.out.below hb X6.out.lt)
  replace HN1 := hid (HN1.out.on hb)
  replace HD1 := hid (HD1.out.on hb)
  replace HF := hid (HF.out.on hb)
  replace B := hid (B.out.trans (hb.mono B.out.size))
  clear cc17a cc17b cc17c
  clear hb 
  obtain ⟨cc19a, cc19b, cc19c⟩ := X6.out.cells
  go_wp2_with fail
  refine (rtwo3 (k := 0) Hha.out Hhb.out sa sb w18).mono ?_
  rintro e w20 ⟨v, u, rfl, hv, hu, hb⟩
  obtain ⟨s3a, p3a, n3a, c3a, p3b, n3b, c3b, rfl⟩ := hv.opened
  obtain ⟨s4a, p4a, n4a, c4a, p4b, n4b, c4b, rfl⟩ := hu.opened
  obtain ⟨ht3, hu3⟩ := hv.two
  obtain ⟨ht4, hu4⟩ := hu.two
  replace X6 := hid (X6.out.below hb X6.out.lt)
  replace HN1 := hid (HN1.out.on hb)
  replace HD1 := hid (HD1.out.on hb)
  replace HF := hid (HF.out.on hb)
  replace B := hid (B.out.trans (hb.mono B.out.size))
  clear cc19a cc19b cc19c
  have HN4 := hid ht4
  have HD4 := hid hu4
  clear hb hv hu ht3 hu3 ht4 hu4
  have hb21 := (Below.refl _ _).alloc (Nat.le_refl w20.heap.size) (.cells #[.bool s3a, .slice p3a n3a c3a, .slice p3b n3b c3b] 28)
  have hx22 := Qbx.new w20 s3a p3a n3a c3a p3b n3b c3b
  have L0 := hid X6.out.lt
  replace X6 := hid (X6.out.below hb21 X6.out.lt)
  replace HN1 := hid (HN1.out.on hb21)
  replace HD1 := hid (HD1.out.on hb21)
  replace HF := hid (HF.out.on hb21)
  replace HN4 := hid (HN4.out.on hb21)
  replace HD4 := hid (HD4.out.on hb21)
  replace B := hid (B.out.trans (hb21.mono B.out.size))
  have X13 := hid hx22
  have hs23 : (w20.alloc (.cells #[.bool s3a, .slice p3a n3a c3a, .slice p3b n3b c3b] 28)).heap.size = w20.heap.size + 1 := by simp
  clear hb21 hx22
  have hb24 := (Below.refl _ _).alloc (Nat.le_refl (w20.alloc (.cells #[.bool s3a, .slice p3a n3a c3a, .slice p3b n3b c3b] 28)).heap.size) (.cells #[.bool s4a, .slice p4a n4a c4a, .slice p4b n4b c4b] 28)
  have hx25 := Qbx.new (w20.alloc (.cells #[.bool s3a, .slice p3a n3a c3a, .slice p3b n3b c3b] 28)) s4a p4a n4a c4a p4b n4b c4b
  rw [hs23] at hx25
  replace X6 := hid (X6.out.below hb24 X6.out.lt)
  replace X13 := hid (X13.out.below hb24 X13.out.lt)
  replace HN1 := hid (HN1.out.on hb24)
  replace HD1 := hid (HD1.out.on hb24)
  replace HF := hid (HF.out.on hb24)
  replace HN4 := hid (HN4.out.on hb24)
  replace HD4 := hid (HD4.out.on hb24)
  replace B := hid (B.out.trans (hb24.mono B.out.size))
  have X14 := hid hx25
  have hs26 : ((w20.alloc (.cells #[.bool s3a, .slice p3a n3a c3a, .slice p3b n3b c3b] 28)).alloc (.cells #[.bool s4a, .slice p4a n4a c4a, .slice p4b n4b c4b] 28)).heap.size = w20.heap.size + 1 + 1 := by simp [hs23]
  clear hb24 hx25
  obtain ⟨cc27a, cc27b, cc27c⟩ := X6.out.cells
  obtain ⟨cc28a, cc28b, cc28c⟩ := X13.out.cells
  obtain ⟨cc29a, cc29b, cc29c⟩ := X14.out.cells
  go_wp2_with fail
  generalize hW : (w20.alloc (.cells #[.bool s3a, .slice p3a n3a c3a, .slice p3b n3b c3b] 28)).alloc (.cells #[.bool s4a, .slice p4a n4a c4a, .slice p4b n4b c4b] 28) = W30 at *
  clear hW
  refine (radd (QR.mk2 HN1.out HD1.out) (QR.mk2 HN4.out HD4.out) (by omega)).mono ?_
  rintro e w31 ⟨v, rfl, hv, hb⟩
  obtain ⟨s5a, p5a, n5a, c5a, p5b, n5b, c5b, rfl⟩ := hv.opened
  obtain ⟨ht5, hu5⟩ := hv.two
  replace X6 := hid (X6.out.below hb X6.out.lt)
  replace X13 := hid (X13.out.below hb X13.out.lt)
  replace X14 := hid (X14.out.below hb X14.out.lt)
  replace HN1 := hid (HN1.out.on hb)
  replace HD1 := hid (HD1.out.on hb)
  replace HF := hid (HF.out.on hb)
  replace HN4 := hid (HN4.out.on hb)
  replace HD4 := hid (HD4.out.on hb)
  replace B := hid (B.out.trans (hb.mono B.out.size))
  clear cc27a cc27b cc27c cc28a cc28b cc28c cc29a cc29b cc29c
  have HN5 := hid ht5
  have HD5 := hid hu5
  clear hb hv ht5 hu5
  obtain ⟨cc32a, cc32b, cc32c⟩ := X6.out.cells
  obtain ⟨cc33a, cc33b, cc33c⟩ := X13.out.cells
  obtain ⟨cc34a, cc34b, cc34c⟩ := X14.out.cells
  go_wp2_with fail
  refine (rqtext (QR.mk2 HN5.out HD5.out) (by omega)).mono ?_
  rintro e w35 ⟨rfl, hb⟩
  replace X6 := hid (X6.out.below hb X6.out.lt)
  replace X13 := hid (X13.out.below hb X13.out.lt)
  replace X14 := hid (X14.out.below hb X14.out.lt)
  replace HN1 := hid (HN1.out.on hb)
  replace HD1 := hid (HD1.out.on hb)
  replace HF := hid (HF.out.on hb)
  replace HN4 := hid (HN4.out.on hb)
  replace HD4 := hid (HD4.out.on hb)
  replace HN5 := hid (HN5.out.on hb)
  replace HD5 := hid (HD5.out.on hb)
  replace B := hid (B.out.trans (hb.mono B.out.size))
  clear cc32a cc32b cc32c cc33a cc33b cc33c cc34a cc34b cc34c
  clear hb 
  clear HN5
  clear HD5
  obtain ⟨cc36a, cc36b, cc36c⟩ := X6.out.cells
  obtain ⟨cc37a, cc37b, cc37c⟩ := X13.out.cells
  obtain ⟨cc38a, cc38b, cc38c⟩ := X14.out.cells
  go_wp2_with fail
  refine (rmul (QR.mk2 HN1.out HD1.out) (QR.mk2 HN4.out HD4.out) (by omega)).mono ?_
  rintro e w39 ⟨v, rfl, hv, hb⟩
  obtain ⟨s6a, p6a, n6a, c6a, p6b, n6b, c6b, rfl⟩ := hv.opened
  obtain ⟨ht6, hu6⟩ := hv.two
  replace X6 := hid (X6.out.below hb X6.out.lt)
  replace X13 := hid (X13.out.below hb X13.out.lt)
  replace X14 := hid (X14.out.below hb X14.out.lt)
  replace HN1 := hid (HN1.out.on hb)
  replace HD1 := hid (HD1.out.on hb)
  replace HF := hid (HF.out.on hb)
  replace HN4 := hid (HN4.out.on hb)
  replace HD4 := hid (HD4.out.on hb)
  replace B := hid (B.out.trans (hb.mono B.out.size))
  clear cc36a cc36b cc36c cc37a cc37b cc37c cc38a cc38b cc38c
  have HN6 := hid ht6
  have HD6 := hid hu6
  clear hb hv ht6 hu6
  obtain ⟨cc40a, cc40b, cc40c⟩ := X6.out.cells
  obtain ⟨cc41a, cc41b, cc41c⟩ := X13.out.cells
  obtain ⟨cc42a, cc42b, cc42c⟩ := X14.out.cells
  go_wp2_with fail
  refine (rqtext (QR.mk2 HN6.out HD6.out) (by omega)).mono ?_
  rintro e w43 ⟨rfl, hb⟩
  replace X6 := hid (X6.out.below hb X6.out.lt)
  replace X13 := hid (X13.out.below hb X13.out.lt)
  replace X14 := hid (X14.out.below hb X14.out.lt)
  replace HN1 := hid (HN1.out.on hb)
  replace HD1 := hid (HD1.out.on hb)
  replace HF := hid (HF.out.on hb)
  replace HN4 := hid (HN4.out.on hb)
  replace HD4 := hid (HD4.out.on hb)
  replace HN6 := hid (HN6.out.on hb)
  replace HD6 := hid (HD6.out.on hb)
  replace B := hid (B.out.trans (hb.mono B.out.size))
  clear cc40a cc40b cc40c cc41a cc41b cc41c cc42a cc42b cc42c
  clear hb 
  clear HN6
  clear HD6
  obtain ⟨cc44a, cc44b, cc44c⟩ := X6.out.cells
  obtain ⟨cc45a, cc45b, cc45c⟩ := X13.out.cells
  obtain ⟨cc46a, cc46b, cc46c⟩ := X14.out.cells
  go_wp2_with fail
  have hsn := rsgn (QR.mk2 HN4.out HD4.out) (by omega)
  rw [show (qnum b).num.sign = 0 by rw [Hhz.out]; rfl] at hsn
  refine (hsn).mono ?_
  rintro e w47 ⟨rfl, hb⟩
  replace X6 := hid (X6.out.below hb X6.out.lt)
  replace X13 := hid (X13.out.below hb X13.out.lt)
  replace X14 := hid (X14.out.below hb X14.out.lt)
  replace HN1 := hid (HN1.out.on hb)
  replace HD1 := hid (HD1.out.on hb)
  replace HF := hid (HF.out.on hb)
  replace HN4 := hid (HN4.out.on hb)
  replace HD4 := hid (HD4.out.on hb)
  replace B := hid (B.out.trans (hb.mono B.out.size))
  clear cc44a cc44b cc44c cc45a cc45b cc45c cc46a cc46b cc46c
  clear hb hsn
  obtain ⟨cc48a, cc48b, cc48c⟩ := X6.out.cells
  obtain ⟨cc49a, cc49b, cc49c⟩ := X13.out.cells
  obtain ⟨cc50a, cc50b, cc50c⟩ := X14.out.cells
  go_wp2_with fail
  refine (rwholeof_good Hhwa.out w47).mono ?_
  rintro e w51 ⟨v, rfl, hv, hb⟩
  obtain ⟨s8, p8, n8, c8, rfl⟩ := hv.opened
  replace X6 := hid (X6.out.below hb X6.out.lt)
  replace X13 := hid (X13.out.below hb X13.out.lt)
  replace X14 := hid (X14.out.below hb X14.out.lt)
  replace HN1 := hid (HN1.out.on hb)
  replace HD1 := hid (HD1.out.on hb)
  replace HF := hid (HF.out.on hb)
  replace HN4 := hid (HN4.out.on hb)
  replace HD4 := hid (HD4.out.on hb)
  replace B := hid (B.out.trans (hb.mono B.out.size))
  clear cc48a cc48b cc48c cc49a cc49b cc49c cc50a cc50b cc50c
  have HW8 := hid hv
  clear hb hv
  have hb52 := (Below.refl _ _).alloc (Nat.le_refl w51.heap.size) (.cells #[.bool s8, .slice p8 n8 c8] 26)
  have hx53 := BoxR.new w51 s8 p8 n8 c8
  have L1 := hid X14.out.lt
  replace X6 := hid (X6.out.below hb52 X6.out.lt)
  replace X13 := hid (X13.out.below hb52 X13.out.lt)
  replace X14 := hid (X14.out.below hb52 X14.out.lt)
  replace HN1 := hid (HN1.out.on hb52)
  replace HD1 := hid (HD1.out.on hb52)
  replace HF := hid (HF.out.on hb52)
  replace HN4 := hid (HN4.out.on hb52)
  replace HD4 := hid (HD4.out.on hb52)
  replace HW8 := hid (HW8.out.on hb52)
  replace B := hid (B.out.trans (hb52.mono B.out.size))
  have X19 := hid hx53
  have hs54 : (w51.alloc (.cells #[.bool s8, .slice p8 n8 c8] 26)).heap.size = w51.heap.size + 1 := by simp
  clear hb52 hx53
  obtain ⟨cc55a, cc55b, cc55c⟩ := X6.out.cells
  obtain ⟨cc56a, cc56b, cc56c⟩ := X13.out.cells
  obtain ⟨cc57a, cc57b, cc57c⟩ := X14.out.cells
  obtain ⟨cc58a, cc58b⟩ := X19.out.both
  go_wp2_with fail
  generalize hW : w51.alloc (.cells #[.bool s8, .slice p8 n8 c8] 26) = W59 at *
  clear hW
  refine (rwholeof_good Hhwb.out W59).mono ?_
  rintro e w60 ⟨v, rfl, hv, hb⟩
  obtain ⟨s9, p9, n9, c9, rfl⟩ := hv.opened
  replace X6 := hid (X6.out.below hb X6.out.lt)
  replace X13 := hid (X13.out.below hb X13.out.lt)
  replace X14 := hid (X14.out.below hb X14.out.lt)
  replace X19 := hid (X19.out.below hb X19.out.lt)
  replace HN1 := hid (HN1.out.on hb)
  replace HD1 := hid (HD1.out.on hb)
  replace HF := hid (HF.out.on hb)
  replace HN4 := hid (HN4.out.on hb)
  replace HD4 := hid (HD4.out.on hb)
  replace HW8 := hid (HW8.out.on hb)
  replace B := hid (B.out.trans (hb.mono B.out.size))
  clear cc55a cc55b cc55c cc56a cc56b cc56c cc57a cc57b cc57c cc58a cc58b
  have HW9 := hid hv
  clear hb hv
  have hb61 := (Below.refl _ _).alloc (Nat.le_refl w60.heap.size) (.cells #[.bool s9, .slice p9 n9 c9] 26)
  have hx62 := BoxR.new w60 s9 p9 n9 c9
  have L2 := hid X19.out.lt
  replace X6 := hid (X6.out.below hb61 X6.out.lt)
  replace X13 := hid (X13.out.below hb61 X13.out.lt)
  replace X14 := hid (X14.out.below hb61 X14.out.lt)
  replace X19 := hid (X19.out.below hb61 X19.out.lt)
  replace HN1 := hid (HN1.out.on hb61)
  replace HD1 := hid (HD1.out.on hb61)
  replace HF := hid (HF.out.on hb61)
  replace HN4 := hid (HN4.out.on hb61)
  replace HD4 := hid (HD4.out.on hb61)
  replace HW8 := hid (HW8.out.on hb61)
  replace HW9 := hid (HW9.out.on hb61)
  replace B := hid (B.out.trans (hb61.mono B.out.size))
  have X21 := hid hx62
  have hs63 : (w60.alloc (.cells #[.bool s9, .slice p9 n9 c9] 26)).heap.size = w60.heap.size + 1 := by simp
  clear hb61 hx62
  obtain ⟨cc64a, cc64b, cc64c⟩ := X6.out.cells
  obtain ⟨cc65a, cc65b, cc65c⟩ := X13.out.cells
  obtain ⟨cc66a, cc66b, cc66c⟩ := X14.out.cells
  obtain ⟨cc67a, cc67b⟩ := X19.out.both
  obtain ⟨cc68a, cc68b⟩ := X21.out.both
  go_wp2_with fail
  generalize hW : w60.alloc (.cells #[.bool s9, .slice p9 n9 c9] 26) = W69 at *
  clear hW
  refine (two_zero 0 W69).mono ?_
  rintro e w' ⟨rfl, rfl⟩
  have hn9 : n9 = 0 := HW9.out.inside.1.len.2 (by rw [Hhs.out]; rfl)
  subst hn9
  obtain ⟨cc71a, cc71b, cc71c⟩ := X6.out.cells
  obtain ⟨cc72a, cc72b, cc72c⟩ := X13.out.cells
  obtain ⟨cc73a, cc73b, cc73c⟩ := X14.out.cells
  obtain ⟨cc74a, cc74b⟩ := X19.out.both
  obtain ⟨cc75a, cc75b⟩ := X21.out.both
  go_wp2_with fail
  refine (qadd_good Hha.out Hhb.out W69).mono ?_
  rintro e w76 ⟨rfl, hb⟩
  replace X6 := hid (X6.out.below hb X6.out.lt)
  replace X13 := hid (X13.out.below hb X13.out.lt)
  replace X14 := hid (X14.out.below hb X14.out.lt)
  replace X19 := hid (X19.out.below hb X19.out.lt)
  replace X21 := hid (X21.out.below hb X21.out.lt)
  replace HN1 := hid (HN1.out.on hb)
  replace HD1 := hid (HD1.out.on hb)
  replace HF := hid (HF.out.on hb)
  replace HN4 := hid (HN4.out.on hb)
  replace HD4 := hid (HD4.out.on hb)
  replace HW8 := hid (HW8.out.on hb)
  replace HW9 := hid (HW9.out.on hb)
  replace B := hid (B.out.trans (hb.mono B.out.size))
  clear cc64a cc64b cc64c cc65a cc65b cc65c cc66a cc66b cc66c cc67a cc67b cc68a cc68b cc71a cc71b cc71c cc72a cc72b cc72c cc73a cc73b cc73c cc74a cc74b cc75a cc75b
  clear hb 
  obtain ⟨cc77a, cc77b, cc77c⟩ := X6.out.cells
  obtain ⟨cc78a, cc78b, cc78c⟩ := X13.out.cells
  obtain ⟨cc79a, cc79b, cc79c⟩ := X14.out.cells
  obtain ⟨cc80a, cc80b⟩ := X19.out.both
  obtain ⟨cc81a, cc81b⟩ := X21.out.both
  go_wp2_with fail
  refine (same_nil w76 (HDR.out.below B.out)).mono ?_
  rintro e w82 ⟨rfl, hb⟩
  replace X6 := hid (X6.out.below hb X6.out.lt)
  replace X13 := hid (X13.out.below hb X13.out.lt)
  replace X14 := hid (X14.out.below hb X14.out.lt)
  replace X19 := hid (X19.out.below hb X19.out.lt)
  replace X21 := hid (X21.out.below hb X21.out.lt)
  replace HN1 := hid (HN1.out.on hb)
  replace HD1 := hid (HD1.out.on hb)
  replace HF := hid (HF.out.on hb)
  replace HN4 := hid (HN4.out.on hb)
  replace HD4 := hid (HD4.out.on hb)
  replace HW8 := hid (HW8.out.on hb)
  replace HW9 := hid (HW9.out.on hb)
  replace B := hid (B.out.trans (hb.mono B.out.size))
  clear cc77a cc77b cc77c cc78a cc78b cc78c cc79a cc79b cc79c cc80a cc80b cc81a cc81b
  clear hb 
  obtain ⟨cc83a, cc83b, cc83c⟩ := X6.out.cells
  obtain ⟨cc84a, cc84b, cc84c⟩ := X13.out.cells
  obtain ⟨cc85a, cc85b, cc85c⟩ := X14.out.cells
  obtain ⟨cc86a, cc86b⟩ := X19.out.both
  obtain ⟨cc87a, cc87b⟩ := X21.out.both
  go_wp2_with fail
  refine (qmul_good Hha.out Hhb.out w82).mono ?_
  rintro e w88 ⟨rfl, hb⟩
  replace X6 := hid (X6.out.below hb X6.out.lt)
  replace X13 := hid (X13.out.below hb X13.out.lt)
  replace X14 := hid (X14.out.below hb X14.out.lt)
  replace X19 := hid (X19.out.below hb X19.out.lt)
  replace X21 := hid (X21.out.below hb X21.out.lt)
  replace HN1 := hid (HN1.out.on hb)
  replace HD1 := hid (HD1.out.on hb)
  replace HF := hid (HF.out.on hb)
  replace HN4 := hid (HN4.out.on hb)
  replace HD4 := hid (HD4.out.on hb)
  replace HW8 := hid (HW8.out.on hb)
  replace HW9 := hid (HW9.out.on hb)
  replace B := hid (B.out.trans (hb.mono B.out.size))
  clear cc83a cc83b cc83c cc84a cc84b cc84c cc85a cc85b cc85c cc86a cc86b cc87a cc87b
  clear hb 
  obtain ⟨cc89a, cc89b, cc89c⟩ := X6.out.cells
  obtain ⟨cc90a, cc90b, cc90c⟩ := X13.out.cells
  obtain ⟨cc91a, cc91b, cc91c⟩ := X14.out.cells
  obtain ⟨cc92a, cc92b⟩ := X19.out.both
  obtain ⟨cc93a, cc93b⟩ := X21.out.both
  go_wp2_with fail
  refine (same_nil w88 (HDR.out.below B.out)).mono ?_
  rintro e w94 ⟨rfl, hb⟩
  replace X6 := hid (X6.out.below hb X6.out.lt)
  replace X13 := hid (X13.out.below hb X13.out.lt)
  replace X14 := hid (X14.out.below hb X14.out.lt)
  replace X19 := hid (X19.out.below hb X19.out.lt)
  replace X21 := hid (X21.out.below hb X21.out.lt)
  replace HN1 := hid (HN1.out.on hb)
  replace HD1 := hid (HD1.out.on hb)
  replace HF := hid (HF.out.on hb)
  replace HN4 := hid (HN4.out.on hb)
  replace HD4 := hid (HD4.out.on hb)
  replace HW8 := hid (HW8.out.on hb)
  replace HW9 := hid (HW9.out.on hb)
  replace B := hid (B.out.trans (hb.mono B.out.size))
  clear cc89a cc89b cc89c cc90a cc90b cc90c cc91a cc91b cc91c cc92a cc92b cc93a cc93b
  clear hb 
  obtain ⟨cc95a, cc95b, cc95c⟩ := X6.out.cells
  obtain ⟨cc96a, cc96b, cc96c⟩ := X13.out.cells
  obtain ⟨cc97a, cc97b, cc97c⟩ := X14.out.cells
  obtain ⟨cc98a, cc98b⟩ := X19.out.both
  obtain ⟨cc99a, cc99b⟩ := X21.out.both
  go_wp2_with fail
  refine (qdiv_zero Hha.out Hhb.out Hhz.out w94).mono ?_
  rintro e w100 ⟨rfl, hb⟩
  replace X6 := hid (X6.out.below hb X6.out.lt)
  replace X13 := hid (X13.out.below hb X13.out.lt)
  replace X14 := hid (X14.out.below hb X14.out.lt)
  replace X19 := hid (X19.out.below hb X19.out.lt)
  replace X21 := hid (X21.out.below hb X21.out.lt)
  replace HN1 := hid (HN1.out.on hb)
  replace HD1 := hid (HD1.out.on hb)
  replace HF := hid (HF.out.on hb)
  replace HN4 := hid (HN4.out.on hb)
  replace HD4 := hid (HD4.out.on hb)
  replace HW8 := hid (HW8.out.on hb)
  replace HW9 := hid (HW9.out.on hb)
  replace B := hid (B.out.trans (hb.mono B.out.size))
  clear cc95a cc95b cc95c cc96a cc96b cc96c cc97a cc97b cc97c cc98a cc98b cc99a cc99b
  clear hb 
  obtain ⟨cc101a, cc101b, cc101c⟩ := X6.out.cells
  obtain ⟨cc102a, cc102b, cc102c⟩ := X13.out.cells
  obtain ⟨cc103a, cc103b, cc103c⟩ := X14.out.cells
  obtain ⟨cc104a, cc104b⟩ := X19.out.both
  obtain ⟨cc105a, cc105b⟩ := X21.out.both
  go_wp2_with fail
  refine (same_no 5 (by decide) w100 (HDR.out.below B.out)).mono ?_
  rintro e w106 ⟨rfl, hb⟩
  replace X6 := hid (X6.out.below hb X6.out.lt)
  replace X13 := hid (X13.out.below hb X13.out.lt)
  replace X14 := hid (X14.out.below hb X14.out.lt)
  replace X19 := hid (X19.out.below hb X19.out.lt)
  replace X21 := hid (X21.out.below hb X21.out.lt)
  replace HN1 := hid (HN1.out.on hb)
  replace HD1 := hid (HD1.out.on hb)
  replace HF := hid (HF.out.on hb)
  replace HN4 := hid (HN4.out.on hb)
  replace HD4 := hid (HD4.out.on hb)
  replace HW8 := hid (HW8.out.on hb)
  replace HW9 := hid (HW9.out.on hb)
  replace B := hid (B.out.trans (hb.mono B.out.size))
  clear cc101a cc101b cc101c cc102a cc102b cc102c cc103a cc103b cc103c cc104a cc104b cc105a cc105b
  clear hb 
  obtain ⟨cc107a, cc107b, cc107c⟩ := X6.out.cells
  obtain ⟨cc108a, cc108b, cc108c⟩ := X13.out.cells
  obtain ⟨cc109a, cc109b, cc109c⟩ := X14.out.cells
  obtain ⟨cc110a, cc110b⟩ := X19.out.both
  obtain ⟨cc111a, cc111b⟩ := X21.out.both
  go_wp2_with fail
  have hls := qless_good Hha.out Hhb.out w106
  generalize hli : decide (qnum a < qnum b) = li at hls
  refine (hls).mono ?_
  rintro e w112 ⟨rfl, hb⟩
  replace X6 := hid (X6.out.below hb X6.out.lt)
  replace X13 := hid (X13.out.below hb X13.out.lt)
  replace X14 := hid (X14.out.below hb X14.out.lt)
  replace X19 := hid (X19.out.below hb X19.out.lt)
  replace X21 := hid (X21.out.below hb X21.out.lt)
  replace HN1 := hid (HN1.out.on hb)
  replace HD1 := hid (HD1.out.on hb)
  replace HF := hid (HF.out.on hb)
  replace HN4 := hid (HN4.out.on hb)
  replace HD4 := hid (HD4.out.on hb)
  replace HW8 := hid (HW8.out.on hb)
  replace HW9 := hid (HW9.out.on hb)
  replace B := hid (B.out.trans (hb.mono B.out.size))
  clear cc107a cc107b cc107c cc108a cc108b cc108c cc109a cc109b cc109c cc110a cc110b cc111a cc111b
  clear hb hls
  obtain ⟨cc113a, cc113b, cc113c⟩ := X6.out.cells
  obtain ⟨cc114a, cc114b, cc114c⟩ := X13.out.cells
  obtain ⟨cc115a, cc115b, cc115c⟩ := X14.out.cells
  obtain ⟨cc116a, cc116b⟩ := X19.out.both
  obtain ⟨cc117a, cc117b⟩ := X21.out.both
  go_wp2_with fail
  refine (same_nil w112 (HDR.out.below B.out)).mono ?_
  rintro e w118 ⟨rfl, hb⟩
  replace X6 := hid (X6.out.below hb X6.out.lt)
  replace X13 := hid (X13.out.below hb X13.out.lt)
  replace X14 := hid (X14.out.below hb X14.out.lt)
  replace X19 := hid (X19.out.below hb X19.out.lt)
  replace X21 := hid (X21.out.below hb X21.out.lt)
  replace HN1 := hid (HN1.out.on hb)
  replace HD1 := hid (HD1.out.on hb)
  replace HF := hid (HF.out.on hb)
  replace HN4 := hid (HN4.out.on hb)
  replace HD4 := hid (HD4.out.on hb)
  replace HW8 := hid (HW8.out.on hb)
  replace HW9 := hid (HW9.out.on hb)
  replace B := hid (B.out.trans (hb.mono B.out.size))
  clear cc113a cc113b cc113c cc114a cc114b cc114c cc115a cc115b cc115c cc116a cc116b cc117a cc117b
  clear hb 
  obtain ⟨cc119a, cc119b, cc119c⟩ := X6.out.cells
  obtain ⟨cc120a, cc120b, cc120c⟩ := X13.out.cells
  obtain ⟨cc121a, cc121b, cc121c⟩ := X14.out.cells
  obtain ⟨cc122a, cc122b⟩ := X19.out.both
  obtain ⟨cc123a, cc123b⟩ := X21.out.both
  go_wp2_with fail
  refine (qmake_zero Hhwa.out Hhwb.out Hhs.out w118).mono ?_
  rintro e w124 ⟨rfl, hb⟩
  replace X6 := hid (X6.out.below hb X6.out.lt)
  replace X13 := hid (X13.out.below hb X13.out.lt)
  replace X14 := hid (X14.out.below hb X14.out.lt)
  replace X19 := hid (X19.out.below hb X19.out.lt)
  replace X21 := hid (X21.out.below hb X21.out.lt)
  replace HN1 := hid (HN1.out.on hb)
  replace HD1 := hid (HD1.out.on hb)
  replace HF := hid (HF.out.on hb)
  replace HN4 := hid (HN4.out.on hb)
  replace HD4 := hid (HD4.out.on hb)
  replace HW8 := hid (HW8.out.on hb)
  replace HW9 := hid (HW9.out.on hb)
  replace B := hid (B.out.trans (hb.mono B.out.size))
  clear cc119a cc119b cc119c cc120a cc120b cc120c cc121a cc121b cc121c cc122a cc122b cc123a cc123b
  clear hb 
  obtain ⟨cc125a, cc125b, cc125c⟩ := X6.out.cells
  obtain ⟨cc126a, cc126b, cc126c⟩ := X13.out.cells
  obtain ⟨cc127a, cc127b, cc127c⟩ := X14.out.cells
  obtain ⟨cc128a, cc128b⟩ := X19.out.both
  obtain ⟨cc129a, cc129b⟩ := X21.out.both
  go_wp2_with fail
  refine (same_no 5 (by decide) w124 (HDR.out.below B.out)).mono ?_
  rintro e w130 ⟨rfl, hb⟩
  replace X6 := hid (X6.out.below hb X6.out.lt)
  replace X13 := hid (X13.out.below hb X13.out.lt)
  replace X14 := hid (X14.out.below hb X14.out.lt)
  replace X19 := hid (X19.out.below hb X19.out.lt)
  replace X21 := hid (X21.out.below hb X21.out.lt)
  replace HN1 := hid (HN1.out.on hb)
  replace HD1 := hid (HD1.out.on hb)
  replace HF := hid (HF.out.on hb)
  replace HN4 := hid (HN4.out.on hb)
  replace HD4 := hid (HD4.out.on hb)
  replace HW8 := hid (HW8.out.on hb)
  replace HW9 := hid (HW9.out.on hb)
  replace B := hid (B.out.trans (hb.mono B.out.size))
  clear cc125a cc125b cc125c cc126a cc126b cc126c cc127a cc127b cc127c cc128a cc128b cc129a cc129b
  clear hb 
  obtain ⟨cc131a, cc131b, cc131c⟩ := X6.out.cells
  obtain ⟨cc132a, cc132b, cc132c⟩ := X13.out.cells
  obtain ⟨cc133a, cc133b, cc133c⟩ := X14.out.cells
  obtain ⟨cc134a, cc134b⟩ := X19.out.both
  obtain ⟨cc135a, cc135b⟩ := X21.out.both
  go_wp2_with fail
  have hcm := rcmp (QR.mk2 HN1.out HD1.out) (QR.mk2 HN4.out HD4.out) (by omega)
  refine (hcm).mono ?_
  rintro e w136 ⟨rfl, hb⟩
  replace X6 := hid (X6.out.below hb X6.out.lt)
  replace X13 := hid (X13.out.below hb X13.out.lt)
  replace X14 := hid (X14.out.below hb X14.out.lt)
  replace X19 := hid (X19.out.below hb X19.out.lt)
  replace X21 := hid (X21.out.below hb X21.out.lt)
  replace HN1 := hid (HN1.out.on hb)
  replace HD1 := hid (HD1.out.on hb)
  replace HF := hid (HF.out.on hb)
  replace HN4 := hid (HN4.out.on hb)
  replace HD4 := hid (HD4.out.on hb)
  replace HW8 := hid (HW8.out.on hb)
  replace HW9 := hid (HW9.out.on hb)
  replace B := hid (B.out.trans (hb.mono B.out.size))
  clear cc131a cc131b cc131c cc132a cc132b cc132c cc133a cc133b cc133c cc134a cc134b cc135a cc135b
  clear hb hcm
  go_wp2_with fail
  go_ret
  exact ⟨ret_bool (by rw [← hli, less_sub]; simp), B.out⟩

end Go.Proofs.YtckkbjnipacodaaGreatDoor

/-
  RatTells: a case.
-/
namespace Go.Proofs.YtckkbjnipacodaaGreatDoor
open Go.RowKit
open Num4
open Num (dg isNat dval)
set_option linter.unusedVariables false
set_option maxRecDepth 100000
set_option linter.unusedSimpArgs false

set_option maxHeartbeats 32000000 in
theorem rtells_zn (a b : ByteArray) (sa : a.size ≤ maxLen) (sb : b.size ≤ maxLen) {k i j : Int} (ha : GoodQ a) (hb : GoodQ b) (hz : qnum b = 0) (hwa : BadZ a i) (hwb : (GoodZ b ∧ j = 0) ∨ BadZ b j) (hi0 : i ≠ 0) (w : World) (hd : Door w) :
    Calls Tryz.prog 3 #[.string a, .string b] w fun e w' => e = .returned (.bool true) ∧ Below w.heap.size w w' := by
  have Hha := hid ha
  have Hhb := hid hb
  have Hhz := hid hz
  have Hhwa := hid hwa
  have Hhwb := hid hwb
  have HI0 := hid hi0
  have HDR := hid hd
  have B := hid (Below.refl w.heap.size w)
  have hib : (i == 0) = false := by simpa using hi0
  clear  ha hb hz hwa hwb hd
  go_enter Tryz.func3, Tryz.ntmps3
  go_wp2_with fail
  refine (halved_true w).mono ?_
  rintro e w1 ⟨rfl, hb⟩
  replace B := hid (B.out.trans (hb.mono B.out.size))
  clear hb 
  go_wp2_with fail
  refine (ratof_good Hha.out w1).mono ?_
  rintro e w2 ⟨v, rfl, hv, hb⟩
  obtain ⟨s1a, p1a, n1a, c1a, p1b, n1b, c1b, rfl⟩ := hv.opened
  obtain ⟨ht1, hu1⟩ := hv.two
  replace B := hid (B.out.trans (hb.mono B.out.size))
  have HN1 := hid ht1
  have HD1 := hid hu1
  clear hb hv ht1 hu1
  have hb3 := (Below.refl _ _).alloc (Nat.le_refl w2.heap.size) (.cells #[.bool s1a, .slice p1a n1a c1a, .slice p1b n1b c1b] 28)
  have hx4 := Qbx.new w2 s1a p1a n1a c1a p1b n1b c1b
  replace HN1 := hid (HN1.out.on hb3)
  replace HD1 := hid (HD1.out.on hb3)
  replace B := hid (B.out.trans (hb3.mono B.out.size))
  have X6 := hid hx4
  have hs5 : (w2.alloc (.cells #[.bool s1a, .slice p1a n1a c1a, .slice p1b n1b c1b] 28)).heap.size = w2.heap.size + 1 := by simp
  clear hb3 hx4
  obtain ⟨cc6a, cc6b, cc6c⟩ := X6.out.cells
  go_wp2_with fail
  generalize hW : w2.alloc (.cells #[.bool s1a, .slice p1a n1a c1a, .slice p1b n1b c1b] 28) = W7 at *
  clear hW
  refine (qcheck_good Hha.out W7).mono ?_
  rintro e w8 ⟨rfl, hb⟩
  replace X6 := hid (X6.out.below hb X6.out.lt)
  replace HN1 := hid (HN1.out.on hb)
  replace HD1 := hid (HD1.out.on hb)
  replace B := hid (B.out.trans (hb.mono B.out.size))
  clear cc6a cc6b cc6c
  clear hb 
  obtain ⟨cc9a, cc9b, cc9c⟩ := X6.out.cells
  go_wp2_with fail
  refine (same_nil w8 (HDR.out.below B.out)).mono ?_
  rintro e w10 ⟨rfl, hb⟩
  replace X6 := hid (X6.out.below hb X6.out.lt)
  replace HN1 := hid (HN1.out.on hb)
  replace HD1 := hid (HD1.out.on hb)
  replace B := hid (B.out.trans (hb.mono B.out.size))
  clear cc9a cc9b cc9c
  clear hb 
  obtain ⟨cc11a, cc11b, cc11c⟩ := X6.out.cells
  go_wp2_with fail
  refine (rfloor (QR.mk2 HN1.out HD1.out) (by omega) (by omega)).mono ?_
  rintro e w12 ⟨v, rfl, hv, hb⟩
  obtain ⟨s2, p2, n2, c2, rfl⟩ := hv.opened
  replace X6 := hid (X6.out.below hb X6.out.lt)
  replace HN1 := hid (HN1.out.on hb)
  replace HD1 := hid (HD1.out.on hb)
  replace B := hid (B.out.trans (hb.mono B.out.size))
  clear cc11a cc11b cc11c
  have HF := hid hv
  clear hb hv
  obtain ⟨cc13a, cc13b, cc13c⟩ := X6.out.cells
  go_wp2_with fail
  refine (rtextz HF.out (by omega)).mono ?_
  rintro e w14 ⟨rfl, hb⟩
  replace X6 := hid (X6.out.below hb X6.out.lt)
  replace HN1 := hid (HN1.out.on hb)
  replace HD1 := hid (HD1.out.on hb)
  replace HF := hid (HF.out.on hb)
  replace B := hid (B.out.trans (hb.mono B.out.size))
  clear cc13a cc13b cc13c
  clear hb 
  obtain ⟨cc15a, cc15b, cc15c⟩ := X6.out.cells
  go_wp2_with fail
  refine (qfloor_good Hha.out w14).mono ?_
  rintro e w16 ⟨rfl, hb⟩
  replace X6 := hid (X6.out.below hb X6.out.lt)
  replace HN1 := hid (HN1.out.on hb)
  replace HD1 := hid (HD1.out.on hb)
  replace HF := hid (HF.out.on hb)
  replace B := hid (B.out.trans (hb.mono B.out.size))
  clear cc15a cc15b cc15c
  clear hb 
  obtain ⟨cc17a, cc17b, cc17c⟩ := X6.out.cells
  go_wp2_with fail
  refine (same_nil w16 (HDR.out.below B.out)).mono ?_
  rintro e w18 ⟨rfl, hb⟩
  replace X6 := hid (X6.out.below hb X6.out.lt)
  replace HN1 := hid (HN1.out.on hb)
  replace HD1 := hid (HD1.out.on hb)
  replace HF := hid (HF.out.on hb)
  replace B := hid (B.out.trans (hb.mono B.out.size))
  clear cc17a cc17b cc17c
  clear hb 
  obtain ⟨cc19a, cc19b, cc19c⟩ := X6.out.cells
  go_wp2_with fail
  refine (rtwo3 (k := 0) Hha.out Hhb.out sa sb w18).mono ?_
  rintro e w20 ⟨v, u, rfl, hv, hu, hb⟩
  obtain ⟨s3a, p3a, n3a, c3a, p3b, n3b, c3b, rfl⟩ := hv.opened
  obtain ⟨s4a, p4a, n4a, c4a, p4b, n4b, c4b, rfl⟩ := hu.opened
  obtain ⟨ht3, hu3⟩ := hv.two
  obtain ⟨ht4, hu4⟩ := hu.two
  replace X6 := hid (X6.out.below hb X6.out.lt)
  replace HN1 := hid (HN1.out.on hb)
  replace HD1 := hid (HD1.out.on hb)
  replace HF := hid (HF.out.on hb)
  replace B := hid (B.out.trans (hb.mono B.out.size))
  clear cc19a cc19b cc19c
  have HN4 := hid ht4
  have HD4 := hid hu4
  clear hb hv hu ht3 hu3 ht4 hu4
  have hb21 := (Below.refl _ _).alloc (Nat.le_refl w20.heap.size) (.cells #[.bool s3a, .slice p3a n3a c3a, .slice p3b n3b c3b] 28)
  have hx22 := Qbx.new w20 s3a p3a n3a c3a p3b n3b c3b
  have L0 := hid X6.out.lt
  replace X6 := hid (X6.out.below hb21 X6.out.lt)
  replace HN1 := hid (HN1.out.on hb21)
  replace HD1 := hid (HD1.out.on hb21)
  replace HF := hid (HF.out.on hb21)
  replace HN4 := hid (HN4.out.on hb21)
  replace HD4 := hid (HD4.out.on hb21)
  replace B := hid (B.out.trans (hb21.mono B.out.size))
  have X13 := hid hx22
  have hs23 : (w20.alloc (.cells #[.bool s3a, .slice p3a n3a c3a, .slice p3b n3b c3b] 28)).heap.size = w20.heap.size + 1 := by simp
  clear hb21 hx22
  have hb24 := (Below.refl _ _).alloc (Nat.le_refl (w20.alloc (.cells #[.bool s3a, .slice p3a n3a c3a, .slice p3b n3b c3b] 28)).heap.size) (.cells #[.bool s4a, .slice p4a n4a c4a, .slice p4b n4b c4b] 28)
  have hx25 := Qbx.new (w20.alloc (.cells #[.bool s3a, .slice p3a n3a c3a, .slice p3b n3b c3b] 28)) s4a p4a n4a c4a p4b n4b c4b
  rw [hs23] at hx25
  replace X6 := hid (X6.out.below hb24 X6.out.lt)
  replace X13 := hid (X13.out.below hb24 X13.out.lt)
  replace HN1 := hid (HN1.out.on hb24)
  replace HD1 := hid (HD1.out.on hb24)
  replace HF := hid (HF.out.on hb24)
  replace HN4 := hid (HN4.out.on hb24)
  replace HD4 := hid (HD4.out.on hb24)
  replace B := hid (B.out.trans (hb24.mono B.out.size))
  have X14 := hid hx25
  have hs26 : ((w20.alloc (.cells #[.bool s3a, .slice p3a n3a c3a, .slice p3b n3b c3b] 28)).alloc (.cells #[.bool s4a, .slice p4a n4a c4a, .slice p4b n4b c4b] 28)).heap.size = w20.heap.size + 1 + 1 := by simp [hs23]
  clear hb24 hx25
  obtain ⟨cc27a, cc27b, cc27c⟩ := X6.out.cells
  obtain ⟨cc28a, cc28b, cc28c⟩ := X13.out.cells
  obtain ⟨cc29a, cc29b, cc29c⟩ := X14.out.cells
  go_wp2_with fail
  generalize hW : (w20.alloc (.cells #[.bool s3a, .slice p3a n3a c3a, .slice p3b n3b c3b] 28)).alloc (.cells #[.bool s4a, .slice p4a n4a c4a, .slice p4b n4b c4b] 28) = W30 at *
  clear hW
  refine (radd (QR.mk2 HN1.out HD1.out) (QR.mk2 HN4.out HD4.out) (by omega)).mono ?_
  rintro e w31 ⟨v, rfl, hv, hb⟩
  obtain ⟨s5a, p5a, n5a, c5a, p5b, n5b, c5b, rfl⟩ := hv.opened
  obtain ⟨ht5, hu5⟩ := hv.two
  replace X6 := hid (X6.out.below hb X6.out.lt)
  replace X13 := hid (X13.out.below hb X13.out.lt)
  replace X14 := hid (X14.out.below hb X14.out.lt)
  replace HN1 := hid (HN1.out.on hb)
  replace HD1 := hid (HD1.out.on hb)
  replace HF := hid (HF.out.on hb)
  replace HN4 := hid (HN4.out.on hb)
  replace HD4 := hid (HD4.out.on hb)
  replace B := hid (B.out.trans (hb.mono B.out.size))
  clear cc27a cc27b cc27c cc28a cc28b cc28c cc29a cc29b cc29c
  have HN5 := hid ht5
  have HD5 := hid hu5
  clear hb hv ht5 hu5
  obtain ⟨cc32a, cc32b, cc32c⟩ := X6.out.cells
  obtain ⟨cc33a, cc33b, cc33c⟩ := X13.out.cells
  obtain ⟨cc34a, cc34b, cc34c⟩ := X14.out.cells
  go_wp2_with fail
  refine (rqtext (QR.mk2 HN5.out HD5.out) (by omega)).mono ?_
  rintro e w35 ⟨rfl, hb⟩
  replace X6 := hid (X6.out.below hb X6.out.lt)
  replace X13 := hid (X13.out.below hb X13.out.lt)
  replace X14 := hid (X14.out.below hb X14.out.lt)
  replace HN1 := hid (HN1.out.on hb)
  replace HD1 := hid (HD1.out.on hb)
  replace HF := hid (HF.out.on hb)
  replace HN4 := hid (HN4.out.on hb)
  replace HD4 := hid (HD4.out.on hb)
  replace HN5 := hid (HN5.out.on hb)
  replace HD5 := hid (HD5.out.on hb)
  replace B := hid (B.out.trans (hb.mono B.out.size))
  clear cc32a cc32b cc32c cc33a cc33b cc33c cc34a cc34b cc34c
  clear hb 
  clear HN5
  clear HD5
  obtain ⟨cc36a, cc36b, cc36c⟩ := X6.out.cells
  obtain ⟨cc37a, cc37b, cc37c⟩ := X13.out.cells
  obtain ⟨cc38a, cc38b, cc38c⟩ := X14.out.cells
  go_wp2_with fail
  refine (rmul (QR.mk2 HN1.out HD1.out) (QR.mk2 HN4.out HD4.out) (by omega)).mono ?_
  rintro e w39 ⟨v, rfl, hv, hb⟩
  obtain ⟨s6a, p6a, n6a, c6a, p6b, n6b, c6b, rfl⟩ := hv.opened
  obtain ⟨ht6, hu6⟩ := hv.two
  replace X6 := hid (X6.out.below hb X6.out.lt)
  replace X13 := hid (X13.out.below hb X13.out.lt)
  replace X14 := hid (X14.out.below hb X14.out.lt)
  replace HN1 := hid (HN1.out.on hb)
  replace HD1 := hid (HD1.out.on hb)
  replace HF := hid (HF.out.on hb)
  replace HN4 := hid (HN4.out.on hb)
  replace HD4 := hid (HD4.out.on hb)
  replace B := hid (B.out.trans (hb.mono B.out.size))
  clear cc36a cc36b cc36c cc37a cc37b cc37c cc38a cc38b cc38c
  have HN6 := hid ht6
  have HD6 := hid hu6
  clear hb hv ht6 hu6
  obtain ⟨cc40a, cc40b, cc40c⟩ := X6.out.cells
  obtain ⟨cc41a, cc41b, cc41c⟩ := X13.out.cells
  obtain ⟨cc42a, cc42b, cc42c⟩ := X14.out.cells
  go_wp2_with fail
  refine (rqtext (QR.mk2 HN6.out HD6.out) (by omega)).mono ?_
  rintro e w43 ⟨rfl, hb⟩
  replace X6 := hid (X6.out.below hb X6.out.lt)
  replace X13 := hid (X13.out.below hb X13.out.lt)
  replace X14 := hid (X14.out.below hb X14.out.lt)
  replace HN1 := hid (HN1.out.on hb)
  replace HD1 := hid (HD1.out.on hb)
  replace HF := hid (HF.out.on hb)
  replace HN4 := hid (HN4.out.on hb)
  replace HD4 := hid (HD4.out.on hb)
  replace HN6 := hid (HN6.out.on hb)
  replace HD6 := hid (HD6.out.on hb)
  replace B := hid (B.out.trans (hb.mono B.out.size))
  clear cc40a cc40b cc40c cc41a cc41b cc41c cc42a cc42b cc42c
  clear hb 
  clear HN6
  clear HD6
  obtain ⟨cc44a, cc44b, cc44c⟩ := X6.out.cells
  obtain ⟨cc45a, cc45b, cc45c⟩ := X13.out.cells
  obtain ⟨cc46a, cc46b, cc46c⟩ := X14.out.cells
  go_wp2_with fail
  have hsn := rsgn (QR.mk2 HN4.out HD4.out) (by omega)
  rw [show (qnum b).num.sign = 0 by rw [Hhz.out]; rfl] at hsn
  refine (hsn).mono ?_
  rintro e w47 ⟨rfl, hb⟩
  replace X6 := hid (X6.out.below hb X6.out.lt)
  replace X13 := hid (X13.out.below hb X13.out.lt)
  replace X14 := hid (X14.out.below hb X14.out.lt)
  replace HN1 := hid (HN1.out.on hb)
  replace HD1 := hid (HD1.out.on hb)
  replace HF := hid (HF.out.on hb)
  replace HN4 := hid (HN4.out.on hb)
  replace HD4 := hid (HD4.out.on hb)
  replace B := hid (B.out.trans (hb.mono B.out.size))
  clear cc44a cc44b cc44c cc45a cc45b cc45c cc46a cc46b cc46c
  clear hb hsn
  obtain ⟨cc48a, cc48b, cc48c⟩ := X6.out.cells
  obtain ⟨cc49a, cc49b, cc49c⟩ := X13.out.cells
  obtain ⟨cc50a, cc50b, cc50c⟩ := X14.out.cells
  go_wp2_with fail
  refine (rwholeof_bad Hhwa.out w47 sa).mono ?_
  rintro e w51 ⟨s8, p8, n8, c8, rfl, hb⟩
  replace X6 := hid (X6.out.below hb X6.out.lt)
  replace X13 := hid (X13.out.below hb X13.out.lt)
  replace X14 := hid (X14.out.below hb X14.out.lt)
  replace HN1 := hid (HN1.out.on hb)
  replace HD1 := hid (HD1.out.on hb)
  replace HF := hid (HF.out.on hb)
  replace HN4 := hid (HN4.out.on hb)
  replace HD4 := hid (HD4.out.on hb)
  replace B := hid (B.out.trans (hb.mono B.out.size))
  clear cc48a cc48b cc48c cc49a cc49b cc49c cc50a cc50b cc50c
  clear hb 
  have hb52 := (Below.refl _ _).alloc (Nat.le_refl w51.heap.size) (.cells #[.bool s8, .slice p8 n8 c8] 26)
  have hx53 := BoxR.new w51 s8 p8 n8 c8
  have L1 := hid X14.out.lt
  replace X6 := hid (X6.out.below hb52 X6.out.lt)
  replace X13 := hid (X13.out.below hb52 X13.out.lt)
  replace X14 := hid (X14.out.below hb52 X14.out.lt)
  replace HN1 := hid (HN1.out.on hb52)
  replace HD1 := hid (HD1.out.on hb52)
  replace HF := hid (HF.out.on hb52)
  replace HN4 := hid (HN4.out.on hb52)
  replace HD4 := hid (HD4.out.on hb52)
  replace B := hid (B.out.trans (hb52.mono B.out.size))
  have X19 := hid hx53
  have hs54 : (w51.alloc (.cells #[.bool s8, .slice p8 n8 c8] 26)).heap.size = w51.heap.size + 1 := by simp
  clear hb52 hx53
  obtain ⟨cc55a, cc55b, cc55c⟩ := X6.out.cells
  obtain ⟨cc56a, cc56b, cc56c⟩ := X13.out.cells
  obtain ⟨cc57a, cc57b, cc57c⟩ := X14.out.cells
  obtain ⟨cc58a, cc58b⟩ := X19.out.both
  go_wp2_with fail
  generalize hW : w51.alloc (.cells #[.bool s8, .slice p8 n8 c8] 26) = W59 at *
  clear hW
  refine (rwholeof_any Hhwb.out W59 sb).mono ?_
  rintro e w60 ⟨s9, p9, n9, c9, rfl, hb⟩
  replace X6 := hid (X6.out.below hb X6.out.lt)
  replace X13 := hid (X13.out.below hb X13.out.lt)
  replace X14 := hid (X14.out.below hb X14.out.lt)
  replace X19 := hid (X19.out.below hb X19.out.lt)
  replace HN1 := hid (HN1.out.on hb)
  replace HD1 := hid (HD1.out.on hb)
  replace HF := hid (HF.out.on hb)
  replace HN4 := hid (HN4.out.on hb)
  replace HD4 := hid (HD4.out.on hb)
  replace B := hid (B.out.trans (hb.mono B.out.size))
  clear cc55a cc55b cc55c cc56a cc56b cc56c cc57a cc57b cc57c cc58a cc58b
  clear hb 
  have hb61 := (Below.refl _ _).alloc (Nat.le_refl w60.heap.size) (.cells #[.bool s9, .slice p9 n9 c9] 26)
  have hx62 := BoxR.new w60 s9 p9 n9 c9
  have L2 := hid X19.out.lt
  replace X6 := hid (X6.out.below hb61 X6.out.lt)
  replace X13 := hid (X13.out.below hb61 X13.out.lt)
  replace X14 := hid (X14.out.below hb61 X14.out.lt)
  replace X19 := hid (X19.out.below hb61 X19.out.lt)
  replace HN1 := hid (HN1.out.on hb61)
  replace HD1 := hid (HD1.out.on hb61)
  replace HF := hid (HF.out.on hb61)
  replace HN4 := hid (HN4.out.on hb61)
  replace HD4 := hid (HD4.out.on hb61)
  replace B := hid (B.out.trans (hb61.mono B.out.size))
  have X21 := hid hx62
  have hs63 : (w60.alloc (.cells #[.bool s9, .slice p9 n9 c9] 26)).heap.size = w60.heap.size + 1 := by simp
  clear hb61 hx62
  obtain ⟨cc64a, cc64b, cc64c⟩ := X6.out.cells
  obtain ⟨cc65a, cc65b, cc65c⟩ := X13.out.cells
  obtain ⟨cc66a, cc66b, cc66c⟩ := X14.out.cells
  obtain ⟨cc67a, cc67b⟩ := X19.out.both
  obtain ⟨cc68a, cc68b⟩ := X21.out.both
  go_wp2_with fail
  generalize hW : w60.alloc (.cells #[.bool s9, .slice p9 n9 c9] 26) = W69 at *
  clear hW
  refine (two_some i j HI0.out W69).mono ?_
  rintro e w' ⟨rfl, rfl⟩
  obtain ⟨cc71a, cc71b, cc71c⟩ := X6.out.cells
  obtain ⟨cc72a, cc72b, cc72c⟩ := X13.out.cells
  obtain ⟨cc73a, cc73b, cc73c⟩ := X14.out.cells
  obtain ⟨cc74a, cc74b⟩ := X19.out.both
  obtain ⟨cc75a, cc75b⟩ := X21.out.both
  go_wp2_with fail
  refine (qadd_good Hha.out Hhb.out W69).mono ?_
  rintro e w76 ⟨rfl, hb⟩
  replace X6 := hid (X6.out.below hb X6.out.lt)
  replace X13 := hid (X13.out.below hb X13.out.lt)
  replace X14 := hid (X14.out.below hb X14.out.lt)
  replace X19 := hid (X19.out.below hb X19.out.lt)
  replace X21 := hid (X21.out.below hb X21.out.lt)
  replace HN1 := hid (HN1.out.on hb)
  replace HD1 := hid (HD1.out.on hb)
  replace HF := hid (HF.out.on hb)
  replace HN4 := hid (HN4.out.on hb)
  replace HD4 := hid (HD4.out.on hb)
  replace B := hid (B.out.trans (hb.mono B.out.size))
  clear cc64a cc64b cc64c cc65a cc65b cc65c cc66a cc66b cc66c cc67a cc67b cc68a cc68b cc71a cc71b cc71c cc72a cc72b cc72c cc73a cc73b cc73c cc74a cc74b cc75a cc75b
  clear hb 
  obtain ⟨cc77a, cc77b, cc77c⟩ := X6.out.cells
  obtain ⟨cc78a, cc78b, cc78c⟩ := X13.out.cells
  obtain ⟨cc79a, cc79b, cc79c⟩ := X14.out.cells
  obtain ⟨cc80a, cc80b⟩ := X19.out.both
  obtain ⟨cc81a, cc81b⟩ := X21.out.both
  go_wp2_with fail
  refine (same_nil w76 (HDR.out.below B.out)).mono ?_
  rintro e w82 ⟨rfl, hb⟩
  replace X6 := hid (X6.out.below hb X6.out.lt)
  replace X13 := hid (X13.out.below hb X13.out.lt)
  replace X14 := hid (X14.out.below hb X14.out.lt)
  replace X19 := hid (X19.out.below hb X19.out.lt)
  replace X21 := hid (X21.out.below hb X21.out.lt)
  replace HN1 := hid (HN1.out.on hb)
  replace HD1 := hid (HD1.out.on hb)
  replace HF := hid (HF.out.on hb)
  replace HN4 := hid (HN4.out.on hb)
  replace HD4 := hid (HD4.out.on hb)
  replace B := hid (B.out.trans (hb.mono B.out.size))
  clear cc77a cc77b cc77c cc78a cc78b cc78c cc79a cc79b cc79c cc80a cc80b cc81a cc81b
  clear hb 
  obtain ⟨cc83a, cc83b, cc83c⟩ := X6.out.cells
  obtain ⟨cc84a, cc84b, cc84c⟩ := X13.out.cells
  obtain ⟨cc85a, cc85b, cc85c⟩ := X14.out.cells
  obtain ⟨cc86a, cc86b⟩ := X19.out.both
  obtain ⟨cc87a, cc87b⟩ := X21.out.both
  go_wp2_with fail
  refine (qmul_good Hha.out Hhb.out w82).mono ?_
  rintro e w88 ⟨rfl, hb⟩
  replace X6 := hid (X6.out.below hb X6.out.lt)
  replace X13 := hid (X13.out.below hb X13.out.lt)
  replace X14 := hid (X14.out.below hb X14.out.lt)
  replace X19 := hid (X19.out.below hb X19.out.lt)
  replace X21 := hid (X21.out.below hb X21.out.lt)
  replace HN1 := hid (HN1.out.on hb)
  replace HD1 := hid (HD1.out.on hb)
  replace HF := hid (HF.out.on hb)
  replace HN4 := hid (HN4.out.on hb)
  replace HD4 := hid (HD4.out.on hb)
  replace B := hid (B.out.trans (hb.mono B.out.size))
  clear cc83a cc83b cc83c cc84a cc84b cc84c cc85a cc85b cc85c cc86a cc86b cc87a cc87b
  clear hb 
  obtain ⟨cc89a, cc89b, cc89c⟩ := X6.out.cells
  obtain ⟨cc90a, cc90b, cc90c⟩ := X13.out.cells
  obtain ⟨cc91a, cc91b, cc91c⟩ := X14.out.cells
  obtain ⟨cc92a, cc92b⟩ := X19.out.both
  obtain ⟨cc93a, cc93b⟩ := X21.out.both
  go_wp2_with fail
  refine (same_nil w88 (HDR.out.below B.out)).mono ?_
  rintro e w94 ⟨rfl, hb⟩
  replace X6 := hid (X6.out.below hb X6.out.lt)
  replace X13 := hid (X13.out.below hb X13.out.lt)
  replace X14 := hid (X14.out.below hb X14.out.lt)
  replace X19 := hid (X19.out.below hb X19.out.lt)
  replace X21 := hid (X21.out.below hb X21.out.lt)
  replace HN1 := hid (HN1.out.on hb)
  replace HD1 := hid (HD1.out.on hb)
  replace HF := hid (HF.out.on hb)
  replace HN4 := hid (HN4.out.on hb)
  replace HD4 := hid (HD4.out.on hb)
  replace B := hid (B.out.trans (hb.mono B.out.size))
  clear cc89a cc89b cc89c cc90a cc90b cc90c cc91a cc91b cc91c cc92a cc92b cc93a cc93b
  clear hb 
  obtain ⟨cc95a, cc95b, cc95c⟩ := X6.out.cells
  obtain ⟨cc96a, cc96b, cc96c⟩ := X13.out.cells
  obtain ⟨cc97a, cc97b, cc97c⟩ := X14.out.cells
  obtain ⟨cc98a, cc98b⟩ := X19.out.both
  obtain ⟨cc99a, cc99b⟩ := X21.out.both
  go_wp2_with fail
  refine (qdiv_zero Hha.out Hhb.out Hhz.out w94).mono ?_
  rintro e w100 ⟨rfl, hb⟩
  replace X6 := hid (X6.out.below hb X6.out.lt)
  replace X13 := hid (X13.out.below hb X13.out.lt)
  replace X14 := hid (X14.out.below hb X14.out.lt)
  replace X19 := hid (X19.out.below hb X19.out.lt)
  replace X21 := hid (X21.out.below hb X21.out.lt)
  replace HN1 := hid (HN1.out.on hb)
  replace HD1 := hid (HD1.out.on hb)
  replace HF := hid (HF.out.on hb)
  replace HN4 := hid (HN4.out.on hb)
  replace HD4 := hid (HD4.out.on hb)
  replace B := hid (B.out.trans (hb.mono B.out.size))
  clear cc95a cc95b cc95c cc96a cc96b cc96c cc97a cc97b cc97c cc98a cc98b cc99a cc99b
  clear hb 
  obtain ⟨cc101a, cc101b, cc101c⟩ := X6.out.cells
  obtain ⟨cc102a, cc102b, cc102c⟩ := X13.out.cells
  obtain ⟨cc103a, cc103b, cc103c⟩ := X14.out.cells
  obtain ⟨cc104a, cc104b⟩ := X19.out.both
  obtain ⟨cc105a, cc105b⟩ := X21.out.both
  go_wp2_with fail
  refine (same_no 5 (by decide) w100 (HDR.out.below B.out)).mono ?_
  rintro e w106 ⟨rfl, hb⟩
  replace X6 := hid (X6.out.below hb X6.out.lt)
  replace X13 := hid (X13.out.below hb X13.out.lt)
  replace X14 := hid (X14.out.below hb X14.out.lt)
  replace X19 := hid (X19.out.below hb X19.out.lt)
  replace X21 := hid (X21.out.below hb X21.out.lt)
  replace HN1 := hid (HN1.out.on hb)
  replace HD1 := hid (HD1.out.on hb)
  replace HF := hid (HF.out.on hb)
  replace HN4 := hid (HN4.out.on hb)
  replace HD4 := hid (HD4.out.on hb)
  replace B := hid (B.out.trans (hb.mono B.out.size))
  clear cc101a cc101b cc101c cc102a cc102b cc102c cc103a cc103b cc103c cc104a cc104b cc105a cc105b
  clear hb 
  obtain ⟨cc107a, cc107b, cc107c⟩ := X6.out.cells
  obtain ⟨cc108a, cc108b, cc108c⟩ := X13.out.cells
  obtain ⟨cc109a, cc109b, cc109c⟩ := X14.out.cells
  obtain ⟨cc110a, cc110b⟩ := X19.out.both
  obtain ⟨cc111a, cc111b⟩ := X21.out.both
  go_wp2_with fail
  have hls := qless_good Hha.out Hhb.out w106
  generalize hli : decide (qnum a < qnum b) = li at hls
  refine (hls).mono ?_
  rintro e w112 ⟨rfl, hb⟩
  replace X6 := hid (X6.out.below hb X6.out.lt)
  replace X13 := hid (X13.out.below hb X13.out.lt)
  replace X14 := hid (X14.out.below hb X14.out.lt)
  replace X19 := hid (X19.out.below hb X19.out.lt)
  replace X21 := hid (X21.out.below hb X21.out.lt)
  replace HN1 := hid (HN1.out.on hb)
  replace HD1 := hid (HD1.out.on hb)
  replace HF := hid (HF.out.on hb)
  replace HN4 := hid (HN4.out.on hb)
  replace HD4 := hid (HD4.out.on hb)
  replace B := hid (B.out.trans (hb.mono B.out.size))
  clear cc107a cc107b cc107c cc108a cc108b cc108c cc109a cc109b cc109c cc110a cc110b cc111a cc111b
  clear hb hls
  obtain ⟨cc113a, cc113b, cc113c⟩ := X6.out.cells
  obtain ⟨cc114a, cc114b, cc114c⟩ := X13.out.cells
  obtain ⟨cc115a, cc115b, cc115c⟩ := X14.out.cells
  obtain ⟨cc116a, cc116b⟩ := X19.out.both
  obtain ⟨cc117a, cc117b⟩ := X21.out.both
  go_wp2_with fail
  refine (same_nil w112 (HDR.out.below B.out)).mono ?_
  rintro e w118 ⟨rfl, hb⟩
  replace X6 := hid (X6.out.below hb X6.out.lt)
  replace X13 := hid (X13.out.below hb X13.out.lt)
  replace X14 := hid (X14.out.below hb X14.out.lt)
  replace X19 := hid (X19.out.below hb X19.out.lt)
  replace X21 := hid (X21.out.below hb X21.out.lt)
  replace HN1 := hid (HN1.out.on hb)
  replace HD1 := hid (HD1.out.on hb)
  replace HF := hid (HF.out.on hb)
  replace HN4 := hid (HN4.out.on hb)
  replace HD4 := hid (HD4.out.on hb)
  replace B := hid (B.out.trans (hb.mono B.out.size))
  clear cc113a cc113b cc113c cc114a cc114b cc114c cc115a cc115b cc115c cc116a cc116b cc117a cc117b
  clear hb 
  obtain ⟨cc119a, cc119b, cc119c⟩ := X6.out.cells
  obtain ⟨cc120a, cc120b, cc120c⟩ := X13.out.cells
  obtain ⟨cc121a, cc121b, cc121c⟩ := X14.out.cells
  obtain ⟨cc122a, cc122b⟩ := X19.out.both
  obtain ⟨cc123a, cc123b⟩ := X21.out.both
  go_wp2_with fail
  refine (qmake_bad (k := i) (.inl Hhwa.out) sa sb w118).mono ?_
  rintro e w124 ⟨rfl, hb⟩
  replace X6 := hid (X6.out.below hb X6.out.lt)
  replace X13 := hid (X13.out.below hb X13.out.lt)
  replace X14 := hid (X14.out.below hb X14.out.lt)
  replace X19 := hid (X19.out.below hb X19.out.lt)
  replace X21 := hid (X21.out.below hb X21.out.lt)
  replace HN1 := hid (HN1.out.on hb)
  replace HD1 := hid (HD1.out.on hb)
  replace HF := hid (HF.out.on hb)
  replace HN4 := hid (HN4.out.on hb)
  replace HD4 := hid (HD4.out.on hb)
  replace B := hid (B.out.trans (hb.mono B.out.size))
  clear cc119a cc119b cc119c cc120a cc120b cc120c cc121a cc121b cc121c cc122a cc122b cc123a cc123b
  clear hb 
  obtain ⟨cc125a, cc125b, cc125c⟩ := X6.out.cells
  obtain ⟨cc126a, cc126b, cc126c⟩ := X13.out.cells
  obtain ⟨cc127a, cc127b, cc127c⟩ := X14.out.cells
  obtain ⟨cc128a, cc128b⟩ := X19.out.both
  obtain ⟨cc129a, cc129b⟩ := X21.out.both
  go_wp2_with fail
  refine (same_no i HI0.out w124 (HDR.out.below B.out)).mono ?_
  rintro e w130 ⟨rfl, hb⟩
  replace X6 := hid (X6.out.below hb X6.out.lt)
  replace X13 := hid (X13.out.below hb X13.out.lt)
  replace X14 := hid (X14.out.below hb X14.out.lt)
  replace X19 := hid (X19.out.below hb X19.out.lt)
  replace X21 := hid (X21.out.below hb X21.out.lt)
  replace HN1 := hid (HN1.out.on hb)
  replace HD1 := hid (HD1.out.on hb)
  replace HF := hid (HF.out.on hb)
  replace HN4 := hid (HN4.out.on hb)
  replace HD4 := hid (HD4.out.on hb)
  replace B := hid (B.out.trans (hb.mono B.out.size))
  clear cc125a cc125b cc125c cc126a cc126b cc126c cc127a cc127b cc127c cc128a cc128b cc129a cc129b
  clear hb 
  obtain ⟨cc131a, cc131b, cc131c⟩ := X6.out.cells
  obtain ⟨cc132a, cc132b, cc132c⟩ := X13.out.cells
  obtain ⟨cc133a, cc133b, cc133c⟩ := X14.out.cells
  obtain ⟨cc134a, cc134b⟩ := X19.out.both
  obtain ⟨cc135a, cc135b⟩ := X21.out.both
  go_wp2_with fail
  have hcm := rcmp (QR.mk2 HN1.out HD1.out) (QR.mk2 HN4.out HD4.out) (by omega)
  refine (hcm).mono ?_
  rintro e w136 ⟨rfl, hb⟩
  replace X6 := hid (X6.out.below hb X6.out.lt)
  replace X13 := hid (X13.out.below hb X13.out.lt)
  replace X14 := hid (X14.out.below hb X14.out.lt)
  replace X19 := hid (X19.out.below hb X19.out.lt)
  replace X21 := hid (X21.out.below hb X21.out.lt)
  replace HN1 := hid (HN1.out.on hb)
  replace HD1 := hid (HD1.out.on hb)
  replace HF := hid (HF.out.on hb)
  replace HN4 := hid (HN4.out.on hb)
  replace HD4 := hid (HD4.out.on hb)
  replace B := hid (B.out.trans (hb.mono B.out.size))
  clear cc131a cc131b cc131c cc132a cc132b cc132c cc133a cc133b cc133c cc134a cc134b cc135a cc135b
  clear hb hcm
  go_wp2_with fail
  go_ret
  exact ⟨ret_bool (by rw [← hli, less_sub]; simp), B.out⟩

end Go.Proofs.YtckkbjnipacodaaGreatDoor
