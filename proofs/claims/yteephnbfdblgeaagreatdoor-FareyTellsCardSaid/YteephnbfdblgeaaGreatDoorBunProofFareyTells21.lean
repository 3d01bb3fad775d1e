import Derived.Test.YteephnbfdblgeaaGreatDoorBunProofFareyTells20
import Derived.Test.YteephnbfdblgeaaGreatDoorBunProofFareyTells19
import Derived.Test.YteephnbfdblgeaaGreatDoorBunProofFareyTells18
import Derived.Test.YteephnbfdblgeaaGreatDoorBunProofFareyTells13
/-
  THE REFERENCE: Two.
-/
namespace Go.Proofs.YteephnbfdblgeaaGreatDoor
open Go.RowKit
open Num4
open Num (dg isNat dval)
set_option linter.unusedVariables false
set_option maxRecDepth 100000
set_option linter.unusedSimpArgs false

set_option maxHeartbeats 4000000 in
theorem rtwo1 {a b : ByteArray} {k : Int} (h1 : BadQ a k) (ha : a.size ≤ maxLen) (hb0 : b.size ≤ maxLen) (w : World) :
    Calls Tryz.prog 5 #[.string a, .string b] w fun e w' => ∃ s5a p5a n5a c5a p5b n5b c5b s6a p6a n6a c6a p6b n6b c6b, e = .returned (.tuple #[.agg #[.bool s5a, .slice p5a n5a c5a, .slice p5b n5b c5b], .agg #[.bool s6a, .slice p6a n6a c6a, .slice p6b n6b c6b], .int .i64 k]) ∧ Below w.heap.size w w' := by
  have H1 := hid h1
  have hk0 : ¬ k = 0 := h1.ne
  have B := hid (Below.refl w.heap.size w)
  have hb1 := (Below.refl _ _).alloc (Nat.le_refl w.heap.size) (.cells #[.bool false, .slice none 0 0, .slice none 0 0] 28)
  have hx2 := Qbx.new w false none 0 0 none 0 0
  replace B := bb B hb1
  have R1 := hid hx2
  have hs3 : (w.alloc (.cells #[.bool false, .slice none 0 0, .slice none 0 0] 28)).heap.size = w.heap.size + 1 := by simp
  clear hb1 hx2
  have hb4 := (Below.refl _ _).alloc (Nat.le_refl (w.alloc (.cells #[.bool false, .slice none 0 0, .slice none 0 0] 28)).heap.size) (.cells #[.bool false, .slice none 0 0, .slice none 0 0] 28)
  have hx5 := Qbx.new (w.alloc (.cells #[.bool false, .slice none 0 0, .slice none 0 0] 28)) false none 0 0 none 0 0
  rw [hs3] at hx5
  replace R1 := qx R1 hb4
  replace B := bb B hb4
  have R2 := hid hx5
  have hs6 : ((w.alloc (.cells #[.bool false, .slice none 0 0, .slice none 0 0] 28)).alloc (.cells #[.bool false, .slice none 0 0, .slice none 0 0] 28)).heap.size = w.heap.size + 1 + 1 := by simp [hs3]
  clear hb4 hx5
  clear hs6 h1
  go_enter Tryz.func5, Tryz.ntmps5
  obtain ⟨cc7a, cc7b, cc7c⟩ := R1.out.cells
  obtain ⟨cc8a, cc8b, cc8c⟩ := R2.out.cells
  go_wp2_with fail
  generalize hW : (w.alloc (.cells #[.bool false, .slice none 0 0, .slice none 0 0] 28)).alloc (.cells #[.bool false, .slice none 0 0, .slice none 0 0] 28) = W9 at *
  clear hW
  refine (ratof_bad H1.out _ ha).mono ?_
  rintro e w10 ⟨s5a, p5a, n5a, c5a, p5b, n5b, c5b, rfl, hb⟩
  replace R1 := qx R1 hb
  replace R2 := qx R2 hb
  replace B := bb B hb
  clear cc7a cc7b cc7c cc8a cc8b cc8c
  clear hb 
  have hb11 := (Below.refl _ _).alloc (Nat.le_refl w10.heap.size) (.cells #[.bool s5a, .slice p5a n5a c5a, .slice p5b n5b c5b] 28)
  have hx12 := Qbx.new w10 s5a p5a n5a c5a p5b n5b c5b
  have L0 := hid R2.out.lt
  replace R1 := qx R1 hb11
  replace R2 := qx R2 hb11
  replace B := bb B hb11
  have X7 := hid hx12
  have hs13 : (w10.alloc (.cells #[.bool s5a, .slice p5a n5a c5a, .slice p5b n5b c5b] 28)).heap.size = w10.heap.size + 1 := by simp
  clear hb11 hx12
  obtain ⟨cc14a, cc14b, cc14c⟩ := R1.out.cells
  obtain ⟨cc15a, cc15b, cc15c⟩ := R2.out.cells
  obtain ⟨cc16a, cc16b, cc16c⟩ := X7.out.cells
  go_wp2_with fail
  generalize hW : w10.alloc (.cells #[.bool s5a, .slice p5a n5a c5a, .slice p5b n5b c5b] 28) = W17 at *
  clear hW
  obtain ⟨cc18a, cc18b, cc18c⟩ := X7.out.cells
  obtain ⟨⟨cc19a, cc19b⟩, ⟨cc19c, cc19d⟩, cc19e, cc19f⟩ := R1.out.stores
  obtain ⟨r20a, r20b, r20c⟩ := R1.out.last B.out (by have := L0.out; omega) s5a p5a n5a c5a p5b n5b c5b
  replace R2 := hid (((R2.out.other (g2 := w.heap.size) (by have := L0.out; omega) 0 (.bool s5a)).other (g2 := w.heap.size) (by have := L0.out; omega) 1 (.slice p5a n5a c5a)).other (g2 := w.heap.size) (by have := L0.out; omega) 2 (.slice p5b n5b c5b))
  replace X7 := hid (((X7.out.other (g2 := w.heap.size) (by have := L0.out; omega) 0 (.bool s5a)).other (g2 := w.heap.size) (by have := L0.out; omega) 1 (.slice p5a n5a c5a)).other (g2 := w.heap.size) (by have := L0.out; omega) 2 (.slice p5b n5b c5b))
  replace R1 := hid r20a
  replace B := hid r20b
  clear r20a r20b r20c
  obtain ⟨cc21a, cc21b, cc21c⟩ := X7.out.cells
  obtain ⟨⟨cc22a, cc22b⟩, ⟨cc22c, cc22d⟩, cc22e, cc22f⟩ := R2.out.stores
  obtain ⟨r23a, r23b, r23c⟩ := R2.out.last B.out (by have := L0.out; omega) s5a p5a n5a c5a p5b n5b c5b
  replace R1 := hid (((R1.out.other (g2 := w.heap.size + 1) (by have := L0.out; omega) 0 (.bool s5a)).other (g2 := w.heap.size + 1) (by have := L0.out; omega) 1 (.slice p5a n5a c5a)).other (g2 := w.heap.size + 1) (by have := L0.out; omega) 2 (.slice p5b n5b c5b))
  replace X7 := hid (((X7.out.other (g2 := w.heap.size + 1) (by have := L0.out; omega) 0 (.bool s5a)).other (g2 := w.heap.size + 1) (by have := L0.out; omega) 1 (.slice p5a n5a c5a)).other (g2 := w.heap.size + 1) (by have := L0.out; omega) 2 (.slice p5b n5b c5b))
  replace R2 := hid r23a
  replace B := hid r23b
  clear r23a r23b r23c
  obtain ⟨cc24a, cc24b, cc24c⟩ := X7.out.cells
  go_region_held3 (fun w' => w'.cell? ⟨w10.heap.size, 0, none⟩ = some (.bool s5a) ∧ w'.cell? ⟨w10.heap.size, 1, none⟩ = some (.slice p5a n5a c5a) ∧ w'.cell? ⟨w10.heap.size, 2, none⟩ = some (.slice p5b n5b c5b)) (go_keep) (first | fail)
  replace R1 := hid R1.out.dr
  replace R2 := hid R2.out.dr
  replace X7 := hid X7.out.dr
  replace B := hid (Below.drew B.out)
  go_wp2_with fail
  refine bodyPost_ret (res_qq_tmp rfl rfl rfl rfl R1.out R2.out) rfl ?_
  exact ⟨_, _, _, _, _, _, _, _, _, _, _, _, _, _, rfl, B.out⟩

set_option maxHeartbeats 4000000 in
theorem rtwo2 {a b : ByteArray} {k : Int} (h1 : GoodQ a) (h2 : BadQ b k) (ha : a.size ≤ maxLen) (hb0 : b.size ≤ maxLen) (w : World) :
    Calls Tryz.prog 5 #[.string a, .string b] w fun e w' => ∃ s5a p5a n5a c5a p5b n5b c5b s6a p6a n6a c6a p6b n6b c6b, e = .returned (.tuple #[.agg #[.bool s5a, .slice p5a n5a c5a, .slice p5b n5b c5b], .agg #[.bool s6a, .slice p6a n6a c6a, .slice p6b n6b c6b], .int .i64 k]) ∧ Below w.heap.size w w' := by
  have H1 := hid h1
  have H2 := hid h2
  have hk0 : ¬ k = 0 := h2.ne
  have B := hid (Below.refl w.heap.size w)
  have hb1 := (Below.refl _ _).alloc (Nat.le_refl w.heap.size) (.cells #[.bool false, .slice none 0 0, .slice none 0 0] 28)
  have hx2 := Qbx.new w false none 0 0 none 0 0
  replace B := bb B hb1
  have R1 := hid hx2
  have hs3 : (w.alloc (.cells #[.bool false, .slice none 0 0, .slice none 0 0] 28)).heap.size = w.heap.size + 1 := by simp
  clear hb1 hx2
  have hb4 := (Below.refl _ _).alloc (Nat.le_refl (w.alloc (.cells #[.bool false, .slice none 0 0, .slice none 0 0] 28)).heap.size) (.cells #[.bool false, .slice none 0 0, .slice none 0 0] 28)
  have hx5 := Qbx.new (w.alloc (.cells #[.bool false, .slice none 0 0, .slice none 0 0] 28)) false none 0 0 none 0 0
  rw [hs3] at hx5
  replace R1 := qx R1 hb4
  replace B := bb B hb4
  have R2 := hid hx5
  have hs6 : ((w.alloc (.cells #[.bool false, .slice none 0 0, .slice none 0 0] 28)).alloc (.cells #[.bool false, .slice none 0 0, .slice none 0 0] 28)).heap.size = w.heap.size + 1 + 1 := by simp [hs3]
  clear hb4 hx5
  clear hs6 h1 h2
  go_enter Tryz.func5, Tryz.ntmps5
  obtain ⟨cc7a, cc7b, cc7c⟩ := R1.out.cells
  obtain ⟨cc8a, cc8b, cc8c⟩ := R2.out.cells
  go_wp2_with fail
  generalize hW : (w.alloc (.cells #[.bool false, .slice none 0 0, .slice none 0 0] 28)).alloc (.cells #[.bool false, .slice none 0 0, .slice none 0 0] 28) = W9 at *
  clear hW
  refine (ratof_good H1.out _).mono ?_
  rintro e w10 ⟨v, rfl, hv, hb⟩
  obtain ⟨s5a, p5a, n5a, c5a, p5b, n5b, c5b, rfl⟩ := hv.opened
  obtain ⟨ht5, hu5⟩ := hv.two
  replace R1 := qx R1 hb
  replace R2 := qx R2 hb
  replace B := bb B hb
  clear cc7a cc7b cc7c cc8a cc8b cc8c
  have HN5 := hid ht5
  have HD5 := hid hu5
  clear hb hv ht5 hu5
  have hb11 := (Below.refl _ _).alloc (Nat.le_refl w10.heap.size) (.cells #[.bool s5a, .slice p5a n5a c5a, .slice p5b n5b c5b] 28)
  have hx12 := Qbx.new w10 s5a p5a n5a c5a p5b n5b c5b
  have L0 := hid R2.out.lt
  replace R1 := qx R1 hb11
  replace R2 := qx R2 hb11
  replace HN5 := wr HN5 hb11
  replace HD5 := wr HD5 hb11
  replace B := bb B hb11
  have X7 := hid hx12
  have hs13 : (w10.alloc (.cells #[.bool s5a, .slice p5a n5a c5a, .slice p5b n5b c5b] 28)).heap.size = w10.heap.size + 1 := by simp
  clear hb11 hx12
  obtain ⟨cc14a, cc14b, cc14c⟩ := R1.out.cells
  obtain ⟨cc15a, cc15b, cc15c⟩ := R2.out.cells
  obtain ⟨cc16a, cc16b, cc16c⟩ := X7.out.cells
  go_wp2_with fail
  generalize hW : w10.alloc (.cells #[.bool s5a, .slice p5a n5a c5a, .slice p5b n5b c5b] 28) = W17 at *
  clear hW
  refine (ratof_bad H2.out _ hb0).mono ?_
  rintro e w18 ⟨s6a, p6a, n6a, c6a, p6b, n6b, c6b, rfl, hb⟩
  replace R1 := qx R1 hb
  replace R2 := qx R2 hb
  replace X7 := qx X7 hb
  replace HN5 := wr HN5 hb
  replace HD5 := wr HD5 hb
  replace B := bb B hb
  clear cc14a cc14b cc14c cc15a cc15b cc15c cc16a cc16b cc16c
  clear hb 
  have hb19 := (Below.refl _ _).alloc (Nat.le_refl w18.heap.size) (.cells #[.bool s6a, .slice p6a n6a c6a, .slice p6b n6b c6b] 28)
  have hx20 := Qbx.new w18 s6a p6a n6a c6a p6b n6b c6b
  have L1 := hid X7.out.lt
  replace R1 := qx R1 hb19
  replace R2 := qx R2 hb19
  replace X7 := qx X7 hb19
  replace HN5 := wr HN5 hb19
  replace HD5 := wr HD5 hb19
  replace B := bb B hb19
  have X9 := hid hx20
  have hs21 : (w18.alloc (.cells #[.bool s6a, .slice p6a n6a c6a, .slice p6b n6b c6b] 28)).heap.size = w18.heap.size + 1 := by simp
  clear hb19 hx20
  obtain ⟨cc22a, cc22b, cc22c⟩ := R1.out.cells
  obtain ⟨cc23a, cc23b, cc23c⟩ := R2.out.cells
  obtain ⟨cc24a, cc24b, cc24c⟩ := X7.out.cells
  obtain ⟨cc25a, cc25b, cc25c⟩ := X9.out.cells
  go_wp2_with fail
  generalize hW : w18.alloc (.cells #[.bool s6a, .slice p6a n6a c6a, .slice p6b n6b c6b] 28) = W26 at *
  clear hW
  obtain ⟨cc27a, cc27b, cc27c⟩ := X7.out.cells
  obtain ⟨cc28a, cc28b, cc28c⟩ := X9.out.cells
  obtain ⟨⟨cc29a, cc29b⟩, ⟨cc29c, cc29d⟩, cc29e, cc29f⟩ := R1.out.stores
  obtain ⟨r30a, r30b, r30c⟩ := R1.out.last B.out (by have := L0.out; have := L1.out; omega) s5a p5a n5a c5a p5b n5b c5b
  replace R2 := hid (((R2.out.other (g2 := w.heap.size) (by have := L0.out; have := L1.out; omega) 0 (.bool s5a)).other (g2 := w.heap.size) (by have := L0.out; have := L1.out; omega) 1 (.slice p5a n5a c5a)).other (g2 := w.heap.size) (by have := L0.out; have := L1.out; omega) 2 (.slice p5b n5b c5b))
  replace X7 := hid (((X7.out.other (g2 := w.heap.size) (by have := L0.out; have := L1.out; omega) 0 (.bool s5a)).other (g2 := w.heap.size) (by have := L0.out; have := L1.out; omega) 1 (.slice p5a n5a c5a)).other (g2 := w.heap.size) (by have := L0.out; have := L1.out; omega) 2 (.slice p5b n5b c5b))
  replace X9 := hid (((X9.out.other (g2 := w.heap.size) (by have := L0.out; have := L1.out; omega) 0 (.bool s5a)).other (g2 := w.heap.size) (by have := L0.out; have := L1.out; omega) 1 (.slice p5a n5a c5a)).other (g2 := w.heap.size) (by have := L0.out; have := L1.out; omega) 2 (.slice p5b n5b c5b))
  replace HN5 := hid (r30c HN5.out)
  replace HD5 := hid (r30c HD5.out)
  replace R1 := hid r30a
  replace B := hid r30b
  clear r30a r30b r30c
  obtain ⟨cc31a, cc31b, cc31c⟩ := X7.out.cells
  obtain ⟨cc32a, cc32b, cc32c⟩ := X9.out.cells
  obtain ⟨⟨cc33a, cc33b⟩, ⟨cc33c, cc33d⟩, cc33e, cc33f⟩ := R2.out.stores
  obtain ⟨r34a, r34b, r34c⟩ := R2.out.last B.out (by have := L0.out; have := L1.out; omega) s6a p6a n6a c6a p6b n6b c6b
  replace R1 := hid (((R1.out.other (g2 := w.heap.size + 1) (by have := L0.out; have := L1.out; omega) 0 (.bool s6a)).other (g2 := w.heap.size + 1) (by have := L0.out; have := L1.out; omega) 1 (.slice p6a n6a c6a)).other (g2 := w.heap.size + 1) (by have := L0.out; have := L1.out; omega) 2 (.slice p6b n6b c6b))
  replace X7 := hid (((X7.out.other (g2 := w.heap.size + 1) (by have := L0.out; have := L1.out; omega) 0 (.bool s6a)).other (g2 := w.heap.size + 1) (by have := L0.out; have := L1.out; omega) 1 (.slice p6a n6a c6a)).other (g2 := w.heap.size + 1) (by have := L0.out; have := L1.out; omega) 2 (.slice p6b n6b c6b))
  replace X9 := hid (((X9.out.other (g2 := w.heap.size + 1) (by have := L0.out; have := L1.out; omega) 0 (.bool s6a)).other (g2 := w.heap.size + 1) (by have := L0.out; have := L1.out; omega) 1 (.slice p6a n6a c6a)).other (g2 := w.heap.size + 1) (by have := L0.out; have := L1.out; omega) 2 (.slice p6b n6b c6b))
  replace HN5 := hid (r34c HN5.out)
  replace HD5 := hid (r34c HD5.out)
  replace R2 := hid r34a
  replace B := hid r34b
  clear r34a r34b r34c
  obtain ⟨cc35a, cc35b, cc35c⟩ := X7.out.cells
  obtain ⟨cc36a, cc36b, cc36c⟩ := X9.out.cells
  go_region_held3 (fun w' => w'.cell? ⟨w10.heap.size, 0, none⟩ = some (.bool s5a) ∧ w'.cell? ⟨w10.heap.size, 1, none⟩ = some (.slice p5a n5a c5a) ∧ w'.cell? ⟨w10.heap.size, 2, none⟩ = some (.slice p5b n5b c5b) ∧ w'.cell? ⟨w18.heap.size, 0, none⟩ = some (.bool s6a) ∧ w'.cell? ⟨w18.heap.size, 1, none⟩ = some (.slice p6a n6a c6a) ∧ w'.cell? ⟨w18.heap.size, 2, none⟩ = some (.slice p6b n6b c6b)) (go_keep) (first | fail)
  replace R1 := hid R1.out.dr
  replace R2 := hid R2.out.dr
  replace X7 := hid X7.out.dr
  replace X9 := hid X9.out.dr
  replace HN5 := hid HN5.out.drew
  replace HD5 := hid HD5.out.drew
  replace B := hid (Below.drew B.out)
  go_wp2_with fail
  refine bodyPost_ret (res_qq_tmp rfl rfl rfl rfl R1.out R2.out) rfl ?_
  exact ⟨_, _, _, _, _, _, _, _, _, _, _, _, _, _, rfl, B.out⟩

set_option maxHeartbeats 4000000 in
theorem rtwo3 {a b : ByteArray} {k : Int} (h1 : GoodQ a) (h2 : GoodQ b) (ha : a.size ≤ maxLen) (hb0 : b.size ≤ maxLen) (w : World) :
    Calls Tryz.prog 5 #[.string a, .string b] w fun e w' => ∃ v u, e = .returned (.tuple #[v, u, .int .i64 0]) ∧ QR w' v (qnum a) 100 ∧ QR w' u (qnum b) 100 ∧ Below w.heap.size w w' := by
  have H1 := hid h1
  have H2 := hid h2
  have B := hid (Below.refl w.heap.size w)
  have hb1 := (Below.refl _ _).alloc (Nat.le_refl w.heap.size) (.cells #[.bool false, .slice none 0 0, .slice none 0 0] 28)
  have hx2 := Qbx.new w false none 0 0 none 0 0
  replace B := bb B hb1
  have R1 := hid hx2
  have hs3 : (w.alloc (.cells #[.bool false, .slice none 0 0, .slice none 0 0] 28)).heap.size = w.heap.size + 1 := by simp
  clear hb1 hx2
  have hb4 := (Below.refl _ _).alloc (Nat.le_refl (w.alloc (.cells #[.bool false, .slice none 0 0, .slice none 0 0] 28)).heap.size) (.cells #[.bool false, .slice none 0 0, .slice none 0 0] 28)
  have hx5 := Qbx.new (w.alloc (.cells #[.bool false, .slice none 0 0, .slice none 0 0] 28)) false none 0 0 none 0 0
  rw [hs3] at hx5
  replace R1 := qx R1 hb4
  replace B := bb B hb4
  have R2 := hid hx5
  have hs6 : ((w.alloc (.cells #[.bool false, .slice none 0 0, .slice none 0 0] 28)).alloc (.cells #[.bool false, .slice none 0 0, .slice none 0 0] 28)).heap.size = w.heap.size + 1 + 1 := by simp [hs3]
  clear hb4 hx5
  clear hs6 h1 h2
  go_enter Tryz.func5, Tryz.ntmps5
  obtain ⟨cc7a, cc7b, cc7c⟩ := R1.out.cells
  obtain ⟨cc8a, cc8b, cc8c⟩ := R2.out.cells
  go_wp2_with fail
  generalize hW : (w.alloc (.cells #[.bool false, .slice none 0 0, .slice none 0 0] 28)).alloc (.cells #[.bool false, .slice none 0 0, .slice none 0 0] 28) = W9 at *
  clear hW
  refine (ratof_good H1.out _).mono ?_
  rintro e w10 ⟨v, rfl, hv, hb⟩
  obtain ⟨s5a, p5a, n5a, c5a, p5b, n5b, c5b, rfl⟩ := hv.opened
  obtain ⟨ht5, hu5⟩ := hv.two
  replace R1 := qx R1 hb
  replace R2 := qx R2 hb
  replace B := bb B hb
  clear cc7a cc7b cc7c cc8a cc8b cc8c
  have HN5 := hid ht5
  have HD5 := hid hu5
  clear hb hv ht5 hu5
  have hb11 := (Below.refl _ _).alloc (Nat.le_refl w10.heap.size) (.cells #[.bool s5a, .slice p5a n5a c5a, .slice p5b n5b c5b] 28)
  have hx12 := Qbx.new w10 s5a p5a n5a c5a p5b n5b c5b
  have L0 := hid R2.out.lt
  replace R1 := qx R1 hb11
  replace R2 := qx R2 hb11
  replace HN5 := wr HN5 hb11
  replace HD5 := wr HD5 hb11
  replace B := bb B hb11
  have X7 := hid hx12
  have hs13 : (w10.alloc (.cells #[.bool s5a, .slice p5a n5a c5a, .slice p5b n5b c5b] 28)).heap.size = w10.heap.size + 1 := by simp
  clear hb11 hx12
  obtain ⟨cc14a, cc14b, cc14c⟩ := R1.out.cells
  obtain ⟨cc15a, cc15b, cc15c⟩ := R2.out.cells
  obtain ⟨cc16a, cc16b, cc16c⟩ := X7.out.cells
  go_wp2_with fail
  generalize hW : w10.alloc (.cells #[.bool s5a, .slice p5a n5a c5a, .slice p5b n5b c5b] 28) = W17 at *
  clear hW
  refine (ratof_good H2.out _).mono ?_
  rintro e w18 ⟨v, rfl, hv, hb⟩
  obtain ⟨s6a, p6a, n6a, c6a, p6b, n6b, c6b, rfl⟩ := hv.opened
  obtain ⟨ht6, hu6⟩ := hv.two
  replace R1 := qx R1 hb
  replace R2 := qx R2 hb
  replace X7 := qx X7 hb
  replace HN5 := wr HN5 hb
  replace HD5 := wr HD5 hb
  replace B := bb B hb
  clear cc14a cc14b cc14c cc15a cc15b cc15c cc16a cc16b cc16c
  have HN6 := hid ht6
  have HD6 := hid hu6
  clear hb hv ht6 hu6
  have hb19 := (Below.refl _ _).alloc (Nat.le_refl w18.heap.size) (.cells #[.bool s6a, .slice p6a n6a c6a, .slice p6b n6b c6b] 28)
  have hx20 := Qbx.new w18 s6a p6a n6a c6a p6b n6b c6b
  have L1 := hid X7.out.lt
  replace R1 := qx R1 hb19
  replace R2 := qx R2 hb19
  replace X7 := qx X7 hb19
  replace HN5 := wr HN5 hb19
  replace HD5 := wr HD5 hb19
  replace HN6 := wr HN6 hb19
  replace HD6 := wr HD6 hb19
  replace B := bb B hb19
  have X9 := hid hx20
  have hs21 : (w18.alloc (.cells #[.bool s6a, .slice p6a n6a c6a, .slice p6b n6b c6b] 28)).heap.size = w18.heap.size + 1 := by simp
  clear hb19 hx20
  obtain ⟨cc22a, cc22b, cc22c⟩ := R1.out.cells
  obtain ⟨cc23a, cc23b, cc23c⟩ := R2.out.cells
  obtain ⟨cc24a, cc24b, cc24c⟩ := X7.out.cells
  obtain ⟨cc25a, cc25b, cc25c⟩ := X9.out.cells
  go_wp2_with fail
  generalize hW : w18.alloc (.cells #[.bool s6a, .slice p6a n6a c6a, .slice p6b n6b c6b] 28) = W26 at *
  clear hW
  obtain ⟨cc27a, cc27b, cc27c⟩ := X7.out.cells
  obtain ⟨cc28a, cc28b, cc28c⟩ := X9.out.cells
  obtain ⟨⟨cc29a, cc29b⟩, ⟨cc29c, cc29d⟩, cc29e, cc29f⟩ := R1.out.stores
  obtain ⟨r30a, r30b, r30c⟩ := R1.out.last B.out (by have := L0.out; have := L1.out; omega) s5a p5a n5a c5a p5b n5b c5b
  replace R2 := hid (((R2.out.other (g2 := w.heap.size) (by have := L0.out; have := L1.out; omega) 0 (.bool s5a)).other (g2 := w.heap.size) (by have := L0.out; have := L1.out; omega) 1 (.slice p5a n5a c5a)).other (g2 := w.heap.size) (by have := L0.out; have := L1.out; omega) 2 (.slice p5b n5b c5b))
  replace X7 := hid (((X7.out.other (g2 := w.heap.size) (by have := L0.out; have := L1.out; omega) 0 (.bool s5a)).other (g2 := w.heap.size) (by have := L0.out; have := L1.out; omega) 1 (.slice p5a n5a c5a)).other (g2 := w.heap.size) (by have := L0.out; have := L1.out; omega) 2 (.slice p5b n5b c5b))
  replace X9 := hid (((X9.out.other (g2 := w.heap.size) (by have := L0.out; have := L1.out; omega) 0 (.bool s5a)).other (g2 := w.heap.size) (by have := L0.out; have := L1.out; omega) 1 (.slice p5a n5a c5a)).other (g2 := w.heap.size) (by have := L0.out; have := L1.out; omega) 2 (.slice p5b n5b c5b))
  replace HN5 := hid (r30c HN5.out)
  replace HD5 := hid (r30c HD5.out)
  replace HN6 := hid (r30c HN6.out)
  replace HD6 := hid (r30c HD6.out)
  replace R1 := hid r30a
  replace B := hid r30b
  clear r30a r30b r30c
  obtain ⟨cc31a, cc31b, cc31c⟩ := X7.out.cells
  obtain ⟨cc32a, cc32b, cc32c⟩ := X9.out.cells
  obtain ⟨⟨cc33a, cc33b⟩, ⟨cc33c, cc33d⟩, cc33e, cc33f⟩ := R2.out.stores
  obtain ⟨r34a, r34b, r34c⟩ := R2.out.last B.out (by have := L0.out; have := L1.out; omega) s6a p6a n6a c6a p6b n6b c6b
  replace R1 := hid (((R1.out.other (g2 := w.heap.size + 1) (by have := L0.out; have := L1.out; omega) 0 (.bool s6a)).other (g2 := w.heap.size + 1) (by have := L0.out; have := L1.out; omega) 1 (.slice p6a n6a c6a)).other (g2 := w.heap.size + 1) (by have := L0.out; have := L1.out; omega) 2 (.slice p6b n6b c6b))
  replace X7 := hid (((X7.out.other (g2 := w.heap.size + 1) (by have := L0.out; have := L1.out; omega) 0 (.bool s6a)).other (g2 := w.heap.size + 1) (by have := L0.out; have := L1.out; omega) 1 (.slice p6a n6a c6a)).other (g2 := w.heap.size + 1) (by have := L0.out; have := L1.out; omega) 2 (.slice p6b n6b c6b))
  replace X9 := hid (((X9.out.other (g2 := w.heap.size + 1) (by have := L0.out; have := L1.out; omega) 0 (.bool s6a)).other (g2 := w.heap.size + 1) (by have := L0.out; have := L1.out; omega) 1 (.slice p6a n6a c6a)).other (g2 := w.heap.size + 1) (by have := L0.out; have := L1.out; omega) 2 (.slice p6b n6b c6b))
  replace HN5 := hid (r34c HN5.out)
  replace HD5 := hid (r34c HD5.out)
  replace HN6 := hid (r34c HN6.out)
  replace HD6 := hid (r34c HD6.out)
  replace R2 := hid r34a
  replace B := hid r34b
  clear r34a r34b r34c
  obtain ⟨cc35a, cc35b, cc35c⟩ := X7.out.cells
  obtain ⟨cc36a, cc36b, cc36c⟩ := X9.out.cells
  go_region_held3 (fun w' => w'.cell? ⟨w10.heap.size, 0, none⟩ = some (.bool s5a) ∧ w'.cell? ⟨w10.heap.size, 1, none⟩ = some (.slice p5a n5a c5a) ∧ w'.cell? ⟨w10.heap.size, 2, none⟩ = some (.slice p5b n5b c5b) ∧ w'.cell? ⟨w18.heap.size, 0, none⟩ = some (.bool s6a) ∧ w'.cell? ⟨w18.heap.size, 1, none⟩ = some (.slice p6a n6a c6a) ∧ w'.cell? ⟨w18.heap.size, 2, none⟩ = some (.slice p6b n6b c6b)) (go_keep) (first | fail)
  replace R1 := hid R1.out.dr
  replace R2 := hid R2.out.dr
  replace X7 := hid X7.out.dr
  replace X9 := hid X9.out.dr
  replace HN5 := hid HN5.out.drew
  replace HD5 := hid HD5.out.drew
  replace HN6 := hid HN6.out.drew
  replace HD6 := hid HD6.out.drew
  replace B := hid (Below.drew B.out)
  go_wp2_with fail
  refine bodyPost_ret (res_qq_tmp rfl rfl rfl rfl R1.out R2.out) rfl ?_
  exact ⟨_, _, rfl, QR.mk2 HN5.out HD5.out, QR.mk2 HN6.out HD6.out, B.out⟩

end Go.Proofs.YteephnbfdblgeaaGreatDoor

/-
  FareyTells: what its walk stands on.
-/
namespace Go.Proofs.YteephnbfdblgeaaGreatDoor
open Go.RowKit
open Num4
open Num (dg isNat dval)
set_option linter.unusedVariables false
set_option maxRecDepth 100000
set_option linter.unusedSimpArgs false

theorem way_some {a : ByteArray} {l : List UInt8} (h : GoodQ a) (hp : 0 < (qnum a).num) (hl : wayq (qnum a) = some l) (w : World) :
    Calls Tryz.prog 15 #[.string a] w fun e w' => e = .returned (.tuple #[.string ⟨l.toArray⟩, .nilIface]) ∧ Below w.heap.size w w' := by
  refine (way_ok h hp w).mono ?_
  rintro e w' ⟨⟨l2, hl2, rfl⟩ | ⟨hl2, _⟩, hb⟩
  · rw [hl] at hl2
    obtain rfl := Option.some.inj hl2
    exact ⟨rfl, hb⟩
  · rw [hl] at hl2; cases hl2
theorem way_none {a : ByteArray} (h : GoodQ a) (hp : 0 < (qnum a).num) (hl : wayq (qnum a) = none) (w : World) :
    Calls Tryz.prog 15 #[.string a] w fun e w' => e = .returned (.tuple #[.string ⟨#[]⟩, errno 4]) ∧ Below w.heap.size w w' := by
  refine (way_ok h hp w).mono ?_
  rintro e w' ⟨⟨l2, hl2, rfl⟩ | ⟨hl2, h2⟩, hb⟩
  · rw [hl] at hl2; cases hl2
  · exact ⟨h2, hb⟩
theorem rwayto_some {w : World} {v : Value} {x : Rat} {k : Nat} {l : List UInt8} (h : QR w v x k) (hk3 : 3 ≤ k) (hk : k ≤ 1073741824) (hl : wayq x = some l) :
    Calls Tryz.prog 14 #[v] w fun e w' => e = .returned (.tuple #[.string ⟨l.toArray⟩, .bool true]) ∧ Below w.heap.size w w' := by
  refine (rwayto h hk3 hk).mono ?_
  rintro e w' ⟨⟨l2, hl2, rfl⟩ | ⟨hl2, _⟩, hb⟩
  · rw [hl] at hl2
    obtain rfl := Option.some.inj hl2
    exact ⟨rfl, hb⟩
  · rw [hl] at hl2; cases hl2
theorem rwayto_none {w : World} {v : Value} {x : Rat} {k : Nat} (h : QR w v x k) (hk3 : 3 ≤ k) (hk : k ≤ 1073741824) (hl : wayq x = none) :
    Calls Tryz.prog 14 #[v] w fun e w' => ∃ s, e = .returned (.tuple #[.string s, .bool false]) ∧ Below w.heap.size w w' := by
  refine (rwayto h hk3 hk).mono ?_
  rintro e w' ⟨⟨l2, hl2, rfl⟩ | ⟨hl2, s, rfl⟩, hb⟩
  · rw [hl] at hl2; cases hl2
  · exact ⟨s, rfl, hb⟩
theorem at_wrong {s : ByteArray} {k : Int} (hs : s.size ≤ maxLen) (h : wayE s.data.toList = k) (hk : k ≠ 0) (w : World) :
    Calls Tryz.prog 17 #[.string s] w fun e w' => e = .returned (.tuple #[.string ⟨#[]⟩, errno k]) ∧ Below w.heap.size w w' := by
  have := at_bad hs (by rw [h]; exact hk) w
  rw [h, errv_some hk] at this
  exact this

end Go.Proofs.YteephnbfdblgeaaGreatDoor

/-
  FareyTells: a case.
-/
namespace Go.Proofs.YteephnbfdblgeaaGreatDoor
open Go.RowKit
open Num4
open Num (dg isNat dval)
set_option linter.unusedVariables false
set_option maxRecDepth 100000
set_option linter.unusedSimpArgs false

set_option maxHeartbeats 16000000 in
theorem ftells_ax (a b way : ByteArray) (sa : a.size ≤ maxLen) (sb : b.size ≤ maxLen) (sw : way.size ≤ maxLen) (w : World) {ka kb : Int} {l : List UInt8} (ha : BadQ a ka) (hd : Door w) :
    Calls Tryz.prog 3 #[.string a, .string b, .string way] w fun e w' => e = .returned (.bool true) ∧ Below w.heap.size w w' := by
  have Hha := hid ha
  have hka : (ka == 0) = false := by simpa using ha.ne
  have HKA := hid ha.ne
  have HDR := hid hd
  have hne := errv_neq
  have sw2 : way.size ≤ 9223372036854775807 := by unfold maxLen at sw; omega
  have B := hid (Below.refl w.heap.size w)
  clear  ha hd
  go_enter Tryz.func3, Tryz.ntmps3
  go_wp2_with fail
  refine (middle_true w).mono ?_
  rintro e w1 ⟨rfl, hb⟩
  replace B := bb B hb
  clear hb 
  go_wp2_with fail
  refine (rtwo1 Hha.out sa sb w1).mono ?_
  rintro e w2 ⟨s1a, p1a, n1a, c1a, p1b, n1b, c1b, s2a, p2a, n2a, c2a, p2b, n2b, c2b, rfl, hb⟩
  replace B := bb B hb
  clear hb 
  have LG := hid (show w.heap.size ≤ w2.heap.size from B.out.size)
  have hb3 := (Below.refl _ _).alloc (Nat.le_refl w2.heap.size) (.cells #[.bool s1a, .slice p1a n1a c1a, .slice p1b n1b c1b] 28)
  have hx4 := Qbx.new w2 s1a p1a n1a c1a p1b n1b c1b
  replace B := bb B hb3
  have X8 := hid hx4
  have hs5 : (w2.alloc (.cells #[.bool s1a, .slice p1a n1a c1a, .slice p1b n1b c1b] 28)).heap.size = w2.heap.size + 1 := by simp
  clear hb3 hx4
  have hb6 := (Below.refl _ _).alloc (Nat.le_refl (w2.alloc (.cells #[.bool s1a, .slice p1a n1a c1a, .slice p1b n1b c1b] 28)).heap.size) (.cells #[.bool s2a, .slice p2a n2a c2a, .slice p2b n2b c2b] 28)
  have hx7 := Qbx.new (w2.alloc (.cells #[.bool s1a, .slice p1a n1a c1a, .slice p1b n1b c1b] 28)) s2a p2a n2a c2a p2b n2b c2b
  rw [hs5] at hx7
  replace X8 := qx X8 hb6
  replace B := bb B hb6
  have X9 := hid hx7
  have hs8 : ((w2.alloc (.cells #[.bool s1a, .slice p1a n1a c1a, .slice p1b n1b c1b] 28)).alloc (.cells #[.bool s2a, .slice p2a n2a c2a, .slice p2b n2b c2b] 28)).heap.size = w2.heap.size + 1 + 1 := by simp [hs5]
  clear hb6 hx7
  obtain ⟨cc9a, cc9b, cc9c⟩ := X8.out.cells
  obtain ⟨cc10a, cc10b, cc10c⟩ := X9.out.cells
  go_wp2_with fail
  generalize hW : (w2.alloc (.cells #[.bool s1a, .slice p1a n1a c1a, .slice p1b n1b c1b] 28)).alloc (.cells #[.bool s2a, .slice p2a n2a c2a, .slice p2b n2b c2b] 28) = W11 at *
  clear hW
  refine (qmed_a Hha.out sa W11).mono ?_
  rintro e w12 ⟨rfl, hb⟩
  replace X8 := qx X8 hb
  replace B := bb B hb
  clear cc9a cc9b cc9c cc10a cc10b cc10c
  clear hb 
  obtain ⟨cc13a, cc13b, cc13c⟩ := X8.out.cells
  go_wp2_with fail
  refine (same_no ka HKA.out w12 (HDR.out.below B.out)).mono ?_
  rintro e w14 ⟨rfl, hb⟩
  replace X8 := qx X8 hb
  replace B := bb B hb
  clear cc13a cc13b cc13c
  clear hb 
  obtain ⟨cc15a, cc15b, cc15c⟩ := X8.out.cells
  go_wp2_with fail
  refine (ratof_bad Hha.out w14 sa).mono ?_
  rintro e w16 ⟨s5a, p5a, n5a, c5a, p5b, n5b, c5b, rfl, hb⟩
  replace X8 := qx X8 hb
  replace B := bb B hb
  clear cc15a cc15b cc15c
  clear hb 
  obtain ⟨cc17a, cc17b, cc17c⟩ := X8.out.cells
  obtain ⟨⟨cc18a, cc18b⟩, ⟨cc18c, cc18d⟩, cc18e, cc18f⟩ := X8.out.stores
  obtain ⟨r19a, r19b, r19c⟩ := X8.out.last B.out (by have := LG.out; omega) s5a p5a n5a c5a p5b n5b c5b
  replace X8 := hid r19a
  replace B := hid r19b
  clear r19a r19b r19c
  obtain ⟨cc20a, cc20b, cc20c⟩ := X8.out.cells
  go_wp2_with fail
  generalize hW : ((w16.setCell ⟨w2.heap.size, 0, none⟩ (.bool s5a)).setCell ⟨w2.heap.size, 1, none⟩ (.slice p5a n5a c5a)).setCell ⟨w2.heap.size, 2, none⟩ (.slice p5b n5b c5b) = W21 at *
  clear hW
  refine (way_a Hha.out sa W21).mono ?_
  rintro e w22 ⟨rfl, hb⟩
  replace B := bb B hb
  clear cc17a cc17b cc17c cc18a cc18b cc18c cc18d cc18e cc18f cc20a cc20b cc20c
  clear hb 
  go_wp2_with fail
  refine (same_no ka HKA.out w22 (HDR.out.below B.out)).mono ?_
  rintro e w23 ⟨rfl, hb⟩
  replace B := bb B hb
  clear hb 
  go_wp2_with fail
  go_loop [10, 20] (fun e i => ∃ (k : Nat) (ev : Int), k ≤ way.size ∧ i = .int .i64 k ∧ e = .int .i64 ev ∧ Hid (ev = if (way.data.toList.take k).all isLR = true then 0 else 1)) (fun e i => way.size - (intOf i).toNat)
  case atStart => exact ⟨0, 0, Nat.zero_le _, rfl, rfl, hid rfl⟩
  case round =>
    obtain ⟨k, ev, hk, rfl, rfl, ht⟩ := hrel
    by_cases hlt : k < way.size
    · have hgo : ∀ b : Bool, isLR way[k] = b → (way.data.toList.take (k + 1)).all isLR = ((way.data.toList.take k).all isLR && b) := by
        intro b hb
        rw [take_snoc way k hlt, List.all_append]
        simp [hb]
      have HG := hid hgo
      clear hgo
      have hyes : ((way[k].toNat : Int) = 76 ∨ (way[k].toNat : Int) = 82) → ev = if (way.data.toList.take (k + 1)).all isLR = true then 0 else 1 := by
        intro h
        rw [HG.out true ((isLR_iff _).2 h), Bool.and_true]
        exact ht.out
      have HY := hid hyes
      clear hyes
      by_cases h1 : (way[k].toNat : Int) = 76
      · have HN := hid (HY.out (.inl h1))
        go_wp2_with fail
        go_round
        case rel => exact ⟨k + 1, ev, by omega, by go_num, rfl, HN⟩
        case measure => simp [intOf]; omega
      · by_cases h2 : (way[k].toNat : Int) = 82
        · have HN := hid (HY.out (.inr h2))
          go_wp2_with fail
          go_round
          case rel => exact ⟨k + 1, ev, by omega, by go_num, rfl, HN⟩
          case measure => simp [intOf]; omega
        · have HN := hid (show (1 : Int) = if (way.data.toList.take (k + 1)).all isLR = true then 0 else 1 by
            rw [HG.out false (by
              cases hb : isLR way[k] with
              | false => rfl
              | true => rcases (isLR_iff _).1 hb with e | e; exact absurd e h1; exact absurd e h2), Bool.and_false]; rfl)
          have h3 : ((way[k].toNat : Int) != 76) = true := by simpa using h1
          have h4 : ((way[k].toNat : Int) != 82) = true := by simpa using h2
          go_wp2_with fail
          go_round
          case rel => exact ⟨k + 1, 1, by omega, by go_num, rfl, HN⟩
          case measure => simp [intOf]; omega
    · obtain rfl : k = way.size := by omega
      have hall : way.data.toList.take way.size = way.data.toList := List.take_of_length_le (by simp)
      have hlen : way.data.toList.length = way.size := by simp
      rw [hall] at ht
      have HLN := hid hlen
      clear hall hlen
      by_cases hlr : way.data.toList.all isLR = true
      · obtain rfl : ev = 0 := by rw [ht.out, if_pos hlr]
        by_cases h30 : way.size ≤ 30
        · have HE := hid (show wayE way.data.toList = 0 by rw [wayE, if_pos hlr, if_pos (by rw [HLN.out]; exact h30)])
          have h31 : (way.size : Int) ≤ 30 := by omega
          clear hlr ht
          go_wp2_with fail
          refine (ratway (s := way) (by rw [HLN.out]; omega) w23).mono ?_
          rintro e w701 ⟨v, u, rfl, hv, hu, hb⟩
          obtain ⟨px, nx_, cx, rfl⟩ := hv.slice
          obtain ⟨py, ny, cy, rfl⟩ := hu.slice
          replace B := bb B hb
          have HM := hid hv.value
          have HN := hid hu.value
          clear hb hv hu
          go_wp2_with fail
          refine (rover (k := 3) HM.out HN.out.nat (uni0.wlk way.data.toList).mpos.2 (by decide)).mono ?_
          rintro e w702 ⟨v, rfl, hv, hb⟩
          have hcc : QR _ _ (endq way.data.toList) 3 := hv
          obtain ⟨s8a, p8a, n8a, c8a, p8b, n8b, c8b, rfl⟩ := hcc.opened
          obtain ⟨ht8, hu8⟩ := hcc.two
          replace B := bb B hb
          have HN8 := hid ht8
          have HD8 := hid hu8
          clear hb hv hcc ht8 hu8
          go_wp2_with fail
          refine (rqtext (QR.mk2 HN8.out HD8.out) (by decide)).mono ?_
          rintro e w703 ⟨rfl, hb⟩
          replace B := bb B hb
          clear hb 
          go_wp2_with fail
          refine (at_ok HE.out w703).mono ?_
          rintro e w704 ⟨rfl, hb⟩
          replace B := bb B hb
          clear hb 
          go_wp2_with fail
          refine (same_nil w704 (HDR.out.below B.out)).mono ?_
          rintro e w705 ⟨rfl, hb⟩
          replace B := bb B hb
          clear hb 
          go_wp2_with fail
          go_ret
          exact ⟨rfl, B.out⟩
        · have HE := hid (show wayE way.data.toList = 4 by rw [wayE, if_pos hlr, if_neg (by rw [HLN.out]; exact h30)])
          have h31 : (30 : Int) < (way.size : Int) := by omega
          clear hlr ht
          go_wp2_with fail
          refine (at_wrong sw HE.out (by decide) w23).mono ?_
          rintro e w801 ⟨rfl, hb⟩
          replace B := bb B hb
          clear hb 
          go_wp2_with fail
          refine (same_no 4 (by decide) w801 (HDR.out.below B.out)).mono ?_
          rintro e w802 ⟨rfl, hb⟩
          replace B := bb B hb
          clear hb 
          go_wp2_with fail
          go_ret
          exact ⟨rfl, B.out⟩
      · obtain rfl : ev = 1 := by rw [ht.out, if_neg hlr]
        have HE := hid (show wayE way.data.toList = 1 by rw [wayE, if_neg hlr])
        clear hlr ht
        go_wp2_with fail
        refine (at_wrong sw HE.out (by decide) w23).mono ?_
        rintro e w901 ⟨rfl, hb⟩
        replace B := bb B hb
        clear hb 
        go_wp2_with fail
        refine (same_no 1 (by decide) w901 (HDR.out.below B.out)).mono ?_
        rintro e w902 ⟨rfl, hb⟩
        replace B := bb B hb
        clear hb 
        go_wp2_with fail
        go_ret
        exact ⟨rfl, B.out⟩

end Go.Proofs.YteephnbfdblgeaaGreatDoor

/-
  FareyTells: a case.
-/
namespace Go.Proofs.YteephnbfdblgeaaGreatDoor
open Go.RowKit
open Num4
open Num (dg isNat dval)
set_option linter.unusedVariables false
set_option maxRecDepth 100000
set_option linter.unusedSimpArgs false

set_option maxHeartbeats 16000000 in
theorem ftells_br (a b way : ByteArray) (sa : a.size ≤ maxLen) (sb : b.size ≤ maxLen) (sw : way.size ≤ maxLen) (w : World) {ka kb : Int} {l : List UInt8} (ha : GoodQ a) (hb0 : BadQ b kb) (hp : (qnum a).num ≤ 0) (hd : Door w) :
    Calls Tryz.prog 3 #[.string a, .string b, .string way] w fun e w' => e = .returned (.bool true) ∧ Below w.heap.size w w' := by
  have Hha := hid ha
  have Hhb0 := hid hb0
  have Hhp := hid hp
  have hkb : (kb == 0) = false := by simpa using hb0.ne
  have HKB := hid hb0.ne
  have HDR := hid hd
  have hne := errv_neq
  have sw2 : way.size ≤ 9223372036854775807 := by unfold maxLen at sw; omega
  have B := hid (Below.refl w.heap.size w)
  clear  ha hb0 hp hd
  go_enter Tryz.func3, Tryz.ntmps3
  go_wp2_with fail
  refine (middle_true w).mono ?_
  rintro e w1 ⟨rfl, hb⟩
  replace B := bb B hb
  clear hb 
  go_wp2_with fail
  refine (rtwo2 Hha.out Hhb0.out sa sb w1).mono ?_
  rintro e w2 ⟨s1a, p1a, n1a, c1a, p1b, n1b, c1b, s2a, p2a, n2a, c2a, p2b, n2b, c2b, rfl, hb⟩
  replace B := bb B hb
  clear hb 
  have LG := hid (show w.heap.size ≤ w2.heap.size from B.out.size)
  have hb3 := (Below.refl _ _).alloc (Nat.le_refl w2.heap.size) (.cells #[.bool s1a, .slice p1a n1a c1a, .slice p1b n1b c1b] 28)
  have hx4 := Qbx.new w2 s1a p1a n1a c1a p1b n1b c1b
  replace B := bb B hb3
  have X8 := hid hx4
  have hs5 : (w2.alloc (.cells #[.bool s1a, .slice p1a n1a c1a, .slice p1b n1b c1b] 28)).heap.size = w2.heap.size + 1 := by simp
  clear hb3 hx4
  have hb6 := (Below.refl _ _).alloc (Nat.le_refl (w2.alloc (.cells #[.bool s1a, .slice p1a n1a c1a, .slice p1b n1b c1b] 28)).heap.size) (.cells #[.bool s2a, .slice p2a n2a c2a, .slice p2b n2b c2b] 28)
  have hx7 := Qbx.new (w2.alloc (.cells #[.bool s1a, .slice p1a n1a c1a, .slice p1b n1b c1b] 28)) s2a p2a n2a c2a p2b n2b c2b
  rw [hs5] at hx7
  replace X8 := qx X8 hb6
  replace B := bb B hb6
  have X9 := hid hx7
  have hs8 : ((w2.alloc (.cells #[.bool s1a, .slice p1a n1a c1a, .slice p1b n1b c1b] 28)).alloc (.cells #[.bool s2a, .slice p2a n2a c2a, .slice p2b n2b c2b] 28)).heap.size = w2.heap.size + 1 + 1 := by simp [hs5]
  clear hb6 hx7
  obtain ⟨cc9a, cc9b, cc9c⟩ := X8.out.cells
  obtain ⟨cc10a, cc10b, cc10c⟩ := X9.out.cells
  go_wp2_with fail
  generalize hW : (w2.alloc (.cells #[.bool s1a, .slice p1a n1a c1a, .slice p1b n1b c1b] 28)).alloc (.cells #[.bool s2a, .slice p2a n2a c2a, .slice p2b n2b c2b] 28) = W11 at *
  clear hW
  refine (qmed_b Hha.out Hhb0.out sb W11).mono ?_
  rintro e w12 ⟨rfl, hb⟩
  replace X8 := qx X8 hb
  replace B := bb B hb
  clear cc9a cc9b cc9c cc10a cc10b cc10c
  clear hb 
  obtain ⟨cc13a, cc13b, cc13c⟩ := X8.out.cells
  go_wp2_with fail
  refine (same_no kb HKB.out w12 (HDR.out.below B.out)).mono ?_
  rintro e w14 ⟨rfl, hb⟩
  replace X8 := qx X8 hb
  replace B := bb B hb
  clear cc13a cc13b cc13c
  clear hb 
  obtain ⟨cc15a, cc15b, cc15c⟩ := X8.out.cells
  go_wp2_with fail
  refine (ratof_good Hha.out w14).mono ?_
  rintro e w16 ⟨v, rfl, hv, hb⟩
  obtain ⟨s5a, p5a, n5a, c5a, p5b, n5b, c5b, rfl⟩ := hv.opened
  obtain ⟨ht5, hu5⟩ := hv.two
  replace X8 := qx X8 hb
  replace B := bb B hb
  clear cc15a cc15b cc15c
  have HN5 := hid ht5
  have HD5 := hid hu5
  clear hb hv ht5 hu5
  obtain ⟨cc17a, cc17b, cc17c⟩ := X8.out.cells
  obtain ⟨⟨cc18a, cc18b⟩, ⟨cc18c, cc18d⟩, cc18e, cc18f⟩ := X8.out.stores
  obtain ⟨r19a, r19b, r19c⟩ := X8.out.last B.out (by have := LG.out; omega) s5a p5a n5a c5a p5b n5b c5b
  replace HN5 := hid (r19c HN5.out)
  replace HD5 := hid (r19c HD5.out)
  replace X8 := hid r19a
  replace B := hid r19b
  clear r19a r19b r19c
  obtain ⟨cc20a, cc20b, cc20c⟩ := X8.out.cells
  go_wp2_with fail
  generalize hW : ((w16.setCell ⟨w2.heap.size, 0, none⟩ (.bool s5a)).setCell ⟨w2.heap.size, 1, none⟩ (.slice p5a n5a c5a)).setCell ⟨w2.heap.size, 2, none⟩ (.slice p5b n5b c5b) = W21 at *
  clear hW
  have HS := rsgn (QR.mk2 HN5.out HD5.out) (by decide)
  have hsg : (qnum a).num.sign ≤ 0 := by have := Hhp.out; rcases Int.lt_or_eq_of_le this with h | h; rw [Int.sign_eq_neg_one_of_neg h]; decide; rw [h]; decide
  generalize (qnum a).num.sign = sg at HS hsg
  refine (HS).mono ?_
  rintro e w22 ⟨rfl, hb⟩
  replace X8 := qx X8 hb
  replace B := bb B hb
  clear cc17a cc17b cc17c cc18a cc18b cc18c cc18d cc18e cc18f cc20a cc20b cc20c
  clear hb 
  clear HS
  obtain ⟨cc23a, cc23b, cc23c⟩ := X8.out.cells
  go_wp2_with fail
  refine (way_r Hha.out Hhp.out w22).mono ?_
  rintro e w24 ⟨rfl, hb⟩
  replace B := bb B hb
  clear cc23a cc23b cc23c
  clear hb 
  go_wp2_with fail
  refine (same_no 2 (by decide) w24 (HDR.out.below B.out)).mono ?_
  rintro e w25 ⟨rfl, hb⟩
  replace B := bb B hb
  clear hb 
  go_wp2_with fail
  go_loop [10, 20] (fun e i => ∃ (k : Nat) (ev : Int), k ≤ way.size ∧ i = .int .i64 k ∧ e = .int .i64 ev ∧ Hid (ev = if (way.data.toList.take k).all isLR = true then 0 else 1)) (fun e i => way.size - (intOf i).toNat)
  case atStart => exact ⟨0, 0, Nat.zero_le _, rfl, rfl, hid rfl⟩
  case round =>
    obtain ⟨k, ev, hk, rfl, rfl, ht⟩ := hrel
    by_cases hlt : k < way.size
    · have hgo : ∀ b : Bool, isLR way[k] = b → (way.data.toList.take (k + 1)).all isLR = ((way.data.toList.take k).all isLR && b) := by
        intro b hb
        rw [take_snoc way k hlt, List.all_append]
        simp [hb]
      have HG := hid hgo
      clear hgo
      have hyes : ((way[k].toNat : Int) = 76 ∨ (way[k].toNat : Int) = 82) → ev = if (way.data.toList.take (k + 1)).all isLR = true then 0 else 1 := by
        intro h
        rw [HG.out true ((isLR_iff _).2 h), Bool.and_true]
        exact ht.out
      have HY := hid hyes
      clear hyes
      by_cases h1 : (way[k].toNat : Int) = 76
      · have HN := hid (HY.out (.inl h1))
        go_wp2_with fail
        go_round
        case rel => exact ⟨k + 1, ev, by omega, by go_num, rfl, HN⟩
        case measure => simp [intOf]; omega
      · by_cases h2 : (way[k].toNat : Int) = 82
        · have HN := hid (HY.out (.inr h2))
          go_wp2_with fail
          go_round
          case rel => exact ⟨k + 1, ev, by omega, by go_num, rfl, HN⟩
          case measure => simp [intOf]; omega
        · have HN := hid (show (1 : Int) = if (way.data.toList.take (k + 1)).all isLR = true then 0 else 1 by
            rw [HG.out false (by
              cases hb : isLR way[k] with
              | false => rfl
              | true => rcases (isLR_iff _).1 hb with e | e; exact absurd e h1; exact absurd e h2), Bool.and_false]; rfl)
          have h3 : ((way[k].toNat : Int) != 76) = true := by simpa using h1
          have h4 : ((way[k].toNat : Int) != 82) = true := by simpa using h2
          go_wp2_with fail
          go_round
          case rel => exact ⟨k + 1, 1, by omega, by go_num, rfl, HN⟩
          case measure => simp [intOf]; omega
    · obtain rfl : k = way.size := by omega
      have hall : way.data.toList.take way.size = way.data.toList := List.take_of_length_le (by simp)
      have hlen : way.data.toList.length = way.size := by simp
      rw [hall] at ht
      have HLN := hid hlen
      clear hall hlen
      by_cases hlr : way.data.toList.all isLR = true
      · obtain rfl : ev = 0 := by rw [ht.out, if_pos hlr]
        by_cases h30 : way.size ≤ 30
        · have HE := hid (show wayE way.data.toList = 0 by rw [wayE, if_pos hlr, if_pos (by rw [HLN.out]; exact h30)])
          have h31 : (way.size : Int) ≤ 30 := by omega
          clear hlr ht
          go_wp2_with fail
          refine (ratway (s := way) (by rw [HLN.out]; omega) w25).mono ?_
          rintro e w701 ⟨v, u, rfl, hv, hu, hb⟩
          obtain ⟨px, nx_, cx, rfl⟩ := hv.slice
          obtain ⟨py, ny, cy, rfl⟩ := hu.slice
          replace B := bb B hb
          have HM := hid hv.value
          have HN := hid hu.value
          clear hb hv hu
          go_wp2_with fail
          refine (rover (k := 3) HM.out HN.out.nat (uni0.wlk way.data.toList).mpos.2 (by decide)).mono ?_
          rintro e w702 ⟨v, rfl, hv, hb⟩
          have hcc : QR _ _ (endq way.data.toList) 3 := hv
          obtain ⟨s8a, p8a, n8a, c8a, p8b, n8b, c8b, rfl⟩ := hcc.opened
          obtain ⟨ht8, hu8⟩ := hcc.two
          replace B := bb B hb
          have HN8 := hid ht8
          have HD8 := hid hu8
          clear hb hv hcc ht8 hu8
          go_wp2_with fail
          refine (rqtext (QR.mk2 HN8.out HD8.out) (by decide)).mono ?_
          rintro e w703 ⟨rfl, hb⟩
          replace B := bb B hb
          clear hb 
          go_wp2_with fail
          refine (at_ok HE.out w703).mono ?_
          rintro e w704 ⟨rfl, hb⟩
          replace B := bb B hb
          clear hb 
          go_wp2_with fail
          refine (same_nil w704 (HDR.out.below B.out)).mono ?_
          rintro e w705 ⟨rfl, hb⟩
          replace B := bb B hb
          clear hb 
          go_wp2_with fail
          go_ret
          exact ⟨rfl, B.out⟩
        · have HE := hid (show wayE way.data.toList = 4 by rw [wayE, if_pos hlr, if_neg (by rw [HLN.out]; exact h30)])
          have h31 : (30 : Int) < (way.size : Int) := by omega
          clear hlr ht
          go_wp2_with fail
          refine (at_wrong sw HE.out (by decide) w25).mono ?_
          rintro e w801 ⟨rfl, hb⟩
          replace B := bb B hb
          clear hb 
          go_wp2_with fail
          refine (same_no 4 (by decide) w801 (HDR.out.below B.out)).mono ?_
          rintro e w802 ⟨rfl, hb⟩
          replace B := bb B hb
          clear hb 
          go_wp2_with fail
          go_ret
          exact ⟨rfl, B.out⟩
      · obtain rfl : ev = 1 := by rw [ht.out, if_neg hlr]
        have HE := hid (show wayE way.data.toList = 1 by rw [wayE, if_neg hlr])
        clear hlr ht
        go_wp2_with fail
        refine (at_wrong sw HE.out (by decide) w25).mono ?_
        rintro e w901 ⟨rfl, hb⟩
        replace B := bb B hb
        clear hb 
        go_wp2_with fail
        refine (same_no 1 (by decide) w901 (HDR.out.below B.out)).mono ?_
        rintro e w902 ⟨rfl, hb⟩
        replace B := bb B hb
        clear hb 
        go_wp2_with fail
        go_ret
        exact ⟨rfl, B.out⟩

end Go.Proofs.YteephnbfdblgeaaGreatDoor

/-
  FareyTells: a case.
-/
namespace Go.Proofs.YteephnbfdblgeaaGreatDoor
open Go.RowKit
open Num4
open Num (dg isNat dval)
set_option linter.unusedVariables false
set_option maxRecDepth 100000
set_option linter.unusedSimpArgs false

set_option maxHeartbeats 16000000 in
theorem ftells_bs (a b way : ByteArray) (sa : a.size ≤ maxLen) (sb : b.size ≤ maxLen) (sw : way.size ≤ maxLen) (w : World) {ka kb : Int} {l : List UInt8} (ha : GoodQ a) (hb0 : BadQ b kb) (hp : 0 < (qnum a).num) (hw : wayq (qnum a) = some l) (hd : Door w) :
    Calls Tryz.prog 3 #[.string a, .string b, .string way] w fun e w' => e = .returned (.bool true) ∧ Below w.heap.size w w' := by
  have Hha := hid ha
  have Hhb0 := hid hb0
  have Hhp := hid hp
  have Hhw := hid hw
  have hkb : (kb == 0) = false := by simpa using hb0.ne
  have HKB := hid hb0.ne
  have HDR := hid hd
  have hne := errv_neq
  have sw2 : way.size ≤ 9223372036854775807 := by unfold maxLen at sw; omega
  have B := hid (Below.refl w.heap.size w)
  clear  ha hb0 hp hw hd
  go_enter Tryz.func3, Tryz.ntmps3
  go_wp2_with fail
  refine (middle_true w).mono ?_
  rintro e w1 ⟨rfl, hb⟩
  replace B := bb B hb
  clear hb 
  go_wp2_with fail
  refine (rtwo2 Hha.out Hhb0.out sa sb w1).mono ?_
  rintro e w2 ⟨s1a, p1a, n1a, c1a, p1b, n1b, c1b, s2a, p2a, n2a, c2a, p2b, n2b, c2b, rfl, hb⟩
  replace B := bb B hb
  clear hb 
  have LG := hid (show w.heap.size ≤ w2.heap.size from B.out.size)
  have hb3 := (Below.refl _ _).alloc (Nat.le_refl w2.heap.size) (.cells #[.bool s1a, .slice p1a n1a c1a, .slice p1b n1b c1b] 28)
  have hx4 := Qbx.new w2 s1a p1a n1a c1a p1b n1b c1b
  replace B := bb B hb3
  have X8 := hid hx4
  have hs5 : (w2.alloc (.cells #[.bool s1a, .slice p1a n1a c1a, .slice p1b n1b c1b] 28)).heap.size = w2.heap.size + 1 := by simp
  clear hb3 hx4
  have hb6 := (Below.refl _ _).alloc (Nat.le_refl (w2.alloc (.cells #[.bool s1a, .slice p1a n1a c1a, .slice p1b n1b c1b] 28)).heap.size) (.cells #[.bool s2a, .slice p2a n2a c2a, .slice p2b n2b c2b] 28)
  have hx7 := Qbx.new (w2.alloc (.cells #[.bool s1a, .slice p1a n1a c1a, .slice p1b n1b c1b] 28)) s2a p2a n2a c2a p2b n2b c2b
  rw [hs5] at hx7
  replace X8 := qx X8 hb6
  replace B := bb B hb6
  have X9 := hid hx7
  have hs8 : ((w2.alloc (.cells #[.bool s1a, .slice p1a n1a c1a, .slice p1b n1b c1b] 28)).alloc (.cells #[.bool s2a, .slice p2a n2a c2a, .slice p2b n2b c2b] 28)).heap.size = w2.heap.size + 1 + 1 := by simp [hs5]
  clear hb6 hx7
  obtain ⟨cc9a, cc9b, cc9c⟩ := X8.out.cells
  obtain ⟨cc10a, cc10b, cc10c⟩ := X9.out.cells
  go_wp2_with fail
  generalize hW : (w2.alloc (.cells #[.bool s1a, .slice p1a n1a c1a, .slice p1b n1b c1b] 28)).alloc (.cells #[.bool s2a, .slice p2a n2a c2a, .slice p2b n2b c2b] 28) = W11 at *
  clear hW
  refine (qmed_b Hha.out Hhb0.out sb W11).mono ?_
  rintro e w12 ⟨rfl, hb⟩
  replace X8 := qx X8 hb
  replace B := bb B hb
  clear cc9a cc9b cc9c cc10a cc10b cc10c
  clear hb 
  obtain ⟨cc13a, cc13b, cc13c⟩ := X8.out.cells
  go_wp2_with fail
  refine (same_no kb HKB.out w12 (HDR.out.below B.out)).mono ?_
  rintro e w14 ⟨rfl, hb⟩
  replace X8 := qx X8 hb
  replace B := bb B hb
  clear cc13a cc13b cc13c
  clear hb 
  obtain ⟨cc15a, cc15b, cc15c⟩ := X8.out.cells
  go_wp2_with fail
  refine (ratof_good Hha.out w14).mono ?_
  rintro e w16 ⟨v, rfl, hv, hb⟩
  obtain ⟨s5a, p5a, n5a, c5a, p5b, n5b, c5b, rfl⟩ := hv.opened
  obtain ⟨ht5, hu5⟩ := hv.two
  replace X8 := qx X8 hb
  replace B := bb B hb
  clear cc15a cc15b cc15c
  have HN5 := hid ht5
  have HD5 := hid hu5
  clear hb hv ht5 hu5
  obtain ⟨cc17a, cc17b, cc17c⟩ := X8.out.cells
  obtain ⟨⟨cc18a, cc18b⟩, ⟨cc18c, cc18d⟩, cc18e, cc18f⟩ := X8.out.stores
  obtain ⟨r19a, r19b, r19c⟩ := X8.out.last B.out (by have := LG.out; omega) s5a p5a n5a c5a p5b n5b c5b
  replace HN5 := hid (r19c HN5.out)
  replace HD5 := hid (r19c HD5.out)
  replace X8 := hid r19a
  replace B := hid r19b
  clear r19a r19b r19c
  obtain ⟨cc20a, cc20b, cc20c⟩ := X8.out.cells
  go_wp2_with fail
  generalize hW : ((w16.setCell ⟨w2.heap.size, 0, none⟩ (.bool s5a)).setCell ⟨w2.heap.size, 1, none⟩ (.slice p5a n5a c5a)).setCell ⟨w2.heap.size, 2, none⟩ (.slice p5b n5b c5b) = W21 at *
  clear hW
  have HS := rsgn (QR.mk2 HN5.out HD5.out) (by decide)
  rw [Int.sign_eq_one_of_pos Hhp.out] at HS
  refine (HS).mono ?_
  rintro e w22 ⟨rfl, hb⟩
  replace X8 := qx X8 hb
  replace HN5 := wr HN5 hb
  replace HD5 := wr HD5 hb
  replace B := bb B hb
  clear cc17a cc17b cc17c cc18a cc18b cc18c cc18d cc18e cc18f cc20a cc20b cc20c
  clear hb 
  clear HS
  obtain ⟨cc23a, cc23b, cc23c⟩ := X8.out.cells
  go_wp2_with fail
  refine (rwayto_some (QR.mk2 HN5.out HD5.out) (by decide) (by decide) Hhw.out).mono ?_
  rintro e w24 ⟨rfl, hb⟩
  replace X8 := qx X8 hb
  replace B := bb B hb
  clear cc23a cc23b cc23c
  clear hb 
  obtain ⟨cc25a, cc25b, cc25c⟩ := X8.out.cells
  go_wp2_with fail
  refine (way_some Hha.out Hhp.out Hhw.out w24).mono ?_
  rintro e w26 ⟨rfl, hb⟩
  replace B := bb B hb
  clear cc25a cc25b cc25c
  clear hb 
  go_wp2_with fail
  refine (same_nil w26 (HDR.out.below B.out)).mono ?_
  rintro e w27 ⟨rfl, hb⟩
  replace B := bb B hb
  clear hb 
  go_wp2_with fail
  go_loop [10, 20] (fun e i => ∃ (k : Nat) (ev : Int), k ≤ way.size ∧ i = .int .i64 k ∧ e = .int .i64 ev ∧ Hid (ev = if (way.data.toList.take k).all isLR = true then 0 else 1)) (fun e i => way.size - (intOf i).toNat)
  case atStart => exact ⟨0, 0, Nat.zero_le _, rfl, rfl, hid rfl⟩
  case round =>
    obtain ⟨k, ev, hk, rfl, rfl, ht⟩ := hrel
    by_cases hlt : k < way.size
    · have hgo : ∀ b : Bool, isLR way[k] = b → (way.data.toList.take (k + 1)).all isLR = ((way.data.toList.take k).all isLR && b) := by
        intro b hb
        rw [take_snoc way k hlt, List.all_append]
        simp [hb]
      have HG := hid hgo
      clear hgo
      have hyes : ((way[k].toNat : Int) = 76 ∨ (way[k].toNat : Int) = 82) → ev = if (way.data.toList.take (k + 1)).all isLR = true then 0 else 1 := by
        intro h
        rw [HG.out true ((isLR_iff _).2 h), Bool.and_true]
        exact ht.out
      have HY := hid hyes
      clear hyes
      by_cases h1 : (way[k].toNat : Int) = 76
      · have HN := hid (HY.out (.inl h1))
        go_wp2_with fail
        go_round
        case rel => exact ⟨k + 1, ev, by omega, by go_num, rfl, HN⟩
        case measure => simp [intOf]; omega
      · by_cases h2 : (way[k].toNat : Int) = 82
        · have HN := hid (HY.out (.inr h2))
          go_wp2_with fail
          go_round
          case rel => exact ⟨k + 1, ev, by omega, by go_num, rfl, HN⟩
          case measure => simp [intOf]; omega
        · have HN := hid (show (1 : Int) = if (way.data.toList.take (k + 1)).all isLR = true then 0 else 1 by
            rw [HG.out false (by
              cases hb : isLR way[k] with
              | false => rfl
              | true => rcases (isLR_iff _).1 hb with e | e; exact absurd e h1; exact absurd e h2), Bool.and_false]; rfl)
          have h3 : ((way[k].toNat : Int) != 76) = true := by simpa using h1
          have h4 : ((way[k].toNat : Int) != 82) = true := by simpa using h2
          go_wp2_with fail
          go_round
          case rel => exact ⟨k + 1, 1, by omega, by go_num, rfl, HN⟩
          case measure => simp [intOf]; omega
    · obtain rfl : k = way.size := by omega
      have hall : way.data.toList.take way.size = way.data.toList := List.take_of_length_le (by simp)
      have hlen : way.data.toList.length = way.size := by simp
      rw [hall] at ht
      have HLN := hid hlen
      clear hall hlen
      by_cases hlr : way.data.toList.all isLR = true
      · obtain rfl : ev = 0 := by rw [ht.out, if_pos hlr]
        by_cases h30 : way.size ≤ 30
        · have HE := hid (show wayE way.data.toList = 0 by rw [wayE, if_pos hlr, if_pos (by rw [HLN.out]; exact h30)])
          have h31 : (way.size : Int) ≤ 30 := by omega
          clear hlr ht
          go_wp2_with fail
          refine (ratway (s := way) (by rw [HLN.out]; omega) w27).mono ?_
          rintro e w701 ⟨v, u, rfl, hv, hu, hb⟩
          obtain ⟨px, nx_, cx, rfl⟩ := hv.slice
          obtain ⟨py, ny, cy, rfl⟩ := hu.slice
          replace B := bb B hb
          have HM := hid hv.value
          have HN := hid hu.value
          clear hb hv hu
          go_wp2_with fail
          refine (rover (k := 3) HM.out HN.out.nat (uni0.wlk way.data.toList).mpos.2 (by decide)).mono ?_
          rintro e w702 ⟨v, rfl, hv, hb⟩
          have hcc : QR _ _ (endq way.data.toList) 3 := hv
          obtain ⟨s8a, p8a, n8a, c8a, p8b, n8b, c8b, rfl⟩ := hcc.opened
          obtain ⟨ht8, hu8⟩ := hcc.two
          replace B := bb B hb
          have HN8 := hid ht8
          have HD8 := hid hu8
          clear hb hv hcc ht8 hu8
          go_wp2_with fail
          refine (rqtext (QR.mk2 HN8.out HD8.out) (by decide)).mono ?_
          rintro e w703 ⟨rfl, hb⟩
          replace B := bb B hb
          clear hb 
          go_wp2_with fail
          refine (at_ok HE.out w703).mono ?_
          rintro e w704 ⟨rfl, hb⟩
          replace B := bb B hb
          clear hb 
          go_wp2_with fail
          refine (same_nil w704 (HDR.out.below B.out)).mono ?_
          rintro e w705 ⟨rfl, hb⟩
          replace B := bb B hb
          clear hb 
          go_wp2_with fail
          go_ret
          exact ⟨rfl, B.out⟩
        · have HE := hid (show wayE way.data.toList = 4 by rw [wayE, if_pos hlr, if_neg (by rw [HLN.out]; exact h30)])
          have h31 : (30 : Int) < (way.size : Int) := by omega
          clear hlr ht
          go_wp2_with fail
          refine (at_wrong sw HE.out (by decide) w27).mono ?_
          rintro e w801 ⟨rfl, hb⟩
          replace B := bb B hb
          clear hb 
          go_wp2_with fail
          refine (same_no 4 (by decide) w801 (HDR.out.below B.out)).mono ?_
          rintro e w802 ⟨rfl, hb⟩
          replace B := bb B hb
          clear hb 
          go_wp2_with fail
          go_ret
          exact ⟨rfl, B.out⟩
      · obtain rfl : ev = 1 := by rw [ht.out, if_neg hlr]
        have HE := hid (show wayE way.data.toList = 1 by rw [wayE, if_neg hlr])
        clear hlr ht
        go_wp2_with fail
        refine (at_wrong sw HE.out (by decide) w27).mono ?_
        rintro e w901 ⟨rfl, hb⟩
        replace B := bb B hb
        clear hb 
        go_wp2_with fail
        refine (same_no 1 (by decide) w901 (HDR.out.below B.out)).mono ?_
        rintro e w902 ⟨rfl, hb⟩
        replace B := bb B hb
        clear hb 
        go_wp2_with fail
        go_ret
        exact ⟨rfl, B.out⟩

end Go.Proofs.YteephnbfdblgeaaGreatDoor

/-
  FareyTells: a case.
-/
namespace Go.Proofs.YteephnbfdblgeaaGreatDoor
open Go.RowKit
open Num4
open Num (dg isNat dval)
set_option linter.unusedVariables false
set_option maxRecDepth 100000
set_option linter.unusedSimpArgs false

set_option maxHeartbeats 16000000 in
theorem ftells_bn (a b way : ByteArray) (sa : a.size ≤ maxLen) (sb : b.size ≤ maxLen) (sw : way.size ≤ maxLen) (w : World) {ka kb : Int} {l : List UInt8} (ha : GoodQ a) (hb0 : BadQ b kb) (hp : 0 < (qnum a).num) (hw : wayq (qnum a) = none) (hd : Door w) :
    Calls Tryz.prog 3 #[.string a, .string b, .string way] w fun e w' => e = .returned (.bool true) ∧ Below w.heap.size w w' := by
  have Hha := hid ha
  have Hhb0 := hid hb0
  have Hhp := hid hp
  have Hhw := hid hw
  have hkb : (kb == 0) = false := by simpa using hb0.ne
  have HKB := hid hb0.ne
  have HDR := hid hd
  have hne := errv_neq
  have sw2 : way.size ≤ 9223372036854775807 := by unfold maxLen at sw; omega
  have B := hid (Below.refl w.heap.size w)
  clear  ha hb0 hp hw hd
  go_enter Tryz.func3, Tryz.ntmps3
  go_wp2_with fail
  refine (middle_true w).mono ?_
  rintro e w1 ⟨rfl, hb⟩
  replace B := bb B hb
  clear hb 
  go_wp2_with fail
  refine (rtwo2 Hha.out Hhb0.out sa sb w1).mono ?_
  rintro e w2 ⟨s1a, p1a, n1a, c1a, p1b, n1b, c1b, s2a, p2a, n2a, c2a, p2b, n2b, c2b, rfl, hb⟩
  replace B := bb B hb
  clear hb 
  have LG := hid (show w.heap.size ≤ w2.heap.size from B.out.size)
  have hb3 := (Below.refl _ _).alloc (Nat.le_refl w2.heap.size) (.cells #[.bool s1a, .slice p1a n1a c1a, .slice p1b n1b c1b] 28)
  have hx4 := Qbx.new w2 s1a p1a n1a c1a p1b n1b c1b
  replace B := bb B hb3
  have X8 := hid hx4
  have hs5 : (w2.alloc (.cells #[.bool s1a, .slice p1a n1a c1a, .slice p1b n1b c1b] 28)).heap.size = w2.heap.size + 1 := by simp
  clear hb3 hx4
  have hb6 := (Below.refl _ _).alloc (Nat.le_refl (w2.alloc (.cells #[.bool s1a, .slice p1a n1a c1a, .slice p1b n1b c1b] 28)).heap.size) (.cells #[.bool s2a, .slice p2a n2a c2a, .slice p2b n2b c2b] 28)
  have hx7 := Qbx.new (w2.alloc (.cells #[.bool s1a, .slice p1a n1a c1a, .slice p1b n1b c1b] 28)) s2a p2a n2a c2a p2b n2b c2b
  rw [hs5] at hx7
  replace X8 := qx X8 hb6
  replace B := bb B hb6
  have X9 := hid hx7
  have hs8 : ((w2.alloc (.cells #[.bool s1a, .slice p1a n1a c1a, .slice p1b n1b c1b] 28)).alloc (.cells #[.bool s2a, .slice p2a n2a c2a, .slice p2b n2b c2b] 28)).heap.size = w2.heap.size + 1 + 1 := by simp [hs5]
  clear hb6 hx7
  obtain ⟨cc9a, cc9b, cc9c⟩ := X8.out.cells
  obtain ⟨cc10a, cc10b, cc10c⟩ := X9.out.cells
  go_wp2_with fail
  generalize hW : (w2.alloc (.cells #[.bool s1a, .slice p1a n1a c1a, .slice p1b n1b c1b] 28)).alloc (.cells #[.bool s2a, .slice p2a n2a c2a, .slice p2b n2b c2b] 28) = W11 at *
  clear hW
  refine (qmed_b Hha.out Hhb0.out sb W11).mono ?_
  rintro e w12 ⟨rfl, hb⟩
  replace X8 := qx X8 hb
  replace B := bb B hb
  clear cc9a cc9b cc9c cc10a cc10b cc10c
  clear hb 
  obtain ⟨cc13a, cc13b, cc13c⟩ := X8.out.cells
  go_wp2_with fail
  refine (same_no kb HKB.out w12 (HDR.out.below B.out)).mono ?_
  rintro e w14 ⟨rfl, hb⟩
  replace X8 := qx X8 hb
  replace B := bb B hb
  clear cc13a cc13b cc13c
  clear hb 
  obtain ⟨cc15a, cc15b, cc15c⟩ := X8.out.cells
  go_wp2_with fail
  refine (ratof_good Hha.out w14).mono ?_
  rintro e w16 ⟨v, rfl, hv, hb⟩
  obtain ⟨s5a, p5a, n5a, c5a, p5b, n5b, c5b, rfl⟩ := hv.opened
  obtain ⟨ht5, hu5⟩ := hv.two
  replace X8 := qx X8 hb
  replace B := bb B hb
  clear cc15a cc15b cc15c
  have HN5 := hid ht5
  have HD5 := hid hu5
  clear hb hv ht5 hu5
  obtain ⟨cc17a, cc17b, cc17c⟩ := X8.out.cells
  obtain ⟨⟨cc18a, cc18b⟩, ⟨cc18c, cc18d⟩, cc18e, cc18f⟩ := X8.out.stores
  obtain ⟨r19a, r19b, r19c⟩ := X8.out.last B.out (by have := LG.out; omega) s5a p5a n5a c5a p5b n5b c5b
  replace HN5 := hid (r19c HN5.out)
  replace HD5 := hid (r19c HD5.out)
  replace X8 := hid r19a
  replace B := hid r19b
  clear r19a r19b r19c
  obtain ⟨cc20a, cc20b, cc20c⟩ := X8.out.cells
  go_wp2_with fail
  generalize hW : ((w16.setCell ⟨w2.heap.size, 0, none⟩ (.bool s5a)).setCell ⟨w2.heap.size, 1, none⟩ (.slice p5a n5a c5a)).setCell ⟨w2.heap.size, 2, none⟩ (.slice p5b n5b c5b) = W21 at *
  clear hW
  have HS := rsgn (QR.mk2 HN5.out HD5.out) (by decide)
  rw [Int.sign_eq_one_of_pos Hhp.out] at HS
  refine (HS).mono ?_
  rintro e w22 ⟨rfl, hb⟩
  replace X8 := qx X8 hb
  replace HN5 := wr HN5 hb
  replace HD5 := wr HD5 hb
  replace B := bb B hb
  clear cc17a cc17b cc17c cc18a cc18b cc18c cc18d cc18e cc18f cc20a cc20b cc20c
  clear hb 
  clear HS
  obtain ⟨cc23a, cc23b, cc23c⟩ := X8.out.cells
  go_wp2_with fail
  refine (rwayto_none (QR.mk2 HN5.out HD5.out) (by decide) (by decide) Hhw.out).mono ?_
  rintro e w24 ⟨sx, rfl, hb⟩
  replace X8 := qx X8 hb
  replace B := bb B hb
  clear cc23a cc23b cc23c
  clear hb 
  obtain ⟨cc25a, cc25b, cc25c⟩ := X8.out.cells
  go_wp2_with fail
  refine (way_none Hha.out Hhp.out Hhw.out w24).mono ?_
  rintro e w26 ⟨rfl, hb⟩
  replace B := bb B hb
  clear cc25a cc25b cc25c
  clear hb 
  go_wp2_with fail
  refine (same_no 4 (by decide) w26 (HDR.out.below B.out)).mono ?_
  rintro e w27 ⟨rfl, hb⟩
  replace B := bb B hb
  clear hb 
  go_wp2_with fail
  go_loop [10, 20] (fun e i => ∃ (k : Nat) (ev : Int), k ≤ way.size ∧ i = .int .i64 k ∧ e = .int .i64 ev ∧ Hid (ev = if (way.data.toList.take k).all isLR = true then 0 else 1)) (fun e i => way.size - (intOf i).toNat)
  case atStart => exact ⟨0, 0, Nat.zero_le _, rfl, rfl, hid rfl⟩
  case round =>
    obtain ⟨k, ev, hk, rfl, rfl, ht⟩ := hrel
    by_cases hlt : k < way.size
    · have hgo : ∀ b : Bool, isLR way[k] = b → (way.data.toList.take (k + 1)).all isLR = ((way.data.toList.take k).all isLR && b) := by
        intro b hb
        rw [take_snoc way k hlt, List.all_append]
        simp [hb]
      have HG := hid hgo
      clear hgo
      have hyes : ((way[k].toNat : Int) = 76 ∨ (way[k].toNat : Int) = 82) → ev = if (way.data.toList.take (k + 1)).all isLR = true then 0 else 1 := by
        intro h
        rw [HG.out true ((isLR_iff _).2 h), Bool.and_true]
        exact ht.out
      have HY := hid hyes
      clear hyes
      by_cases h1 : (way[k].toNat : Int) = 76
      · have HN := hid (HY.out (.inl h1))
        go_wp2_with fail
        go_round
        case rel => exact ⟨k + 1, ev, by omega, by go_num, rfl, HN⟩
        case measure => simp [intOf]; omega
      · by_cases h2 : (way[k].toNat : Int) = 82
        · have HN := hid (HY.out (.inr h2))
          go_wp2_with fail
          go_round
          case rel => exact ⟨k + 1, ev, by omega, by go_num, rfl, HN⟩
          case measure => simp [intOf]; omega
        · have HN := hid (show (1 : Int) = if (way.data.toList.take (k + 1)).all isLR = true then 0 else 1 by
            rw [HG.out false (by
              cases hb : isLR way[k] with
              | false => rfl
              | true => rcases (isLR_iff _).1 hb with e | e; exact absurd e h1; exact absurd e h2), Bool.and_false]; rfl)
          have h3 : ((way[k].toNat : Int) != 76) = true := by simpa using h1
          have h4 : ((way[k].toNat : Int) != 82) = true := by simpa using h2
          go_wp2_with fail
          go_round
          case rel => exact ⟨k + 1, 1, by omega, by go_num, rfl, HN⟩
          case measure => simp [intOf]; omega
    · obtain rfl : k = way.size := by omega
      have hall : way.data.toList.take way.size = way.data.toList := List.take_of_length_le (by simp)
      have hlen : way.data.toList.length = way.size := by simp
      rw [hall] at ht
      have HLN := hid hlen
      clear hall hlen
      by_cases hlr : way.data.toList.all isLR = true
      · obtain rfl : ev = 0 := by rw [ht.out, if_pos hlr]
        by_cases h30 : way.size ≤ 30
        · have HE := hid (show wayE way.data.toList = 0 by rw [wayE, if_pos hlr, if_pos (by rw [HLN.out]; exact h30)])
          have h31 : (way.size : Int) ≤ 30 := by omega
          clear hlr ht
          go_wp2_with fail
          refine (ratway (s := way) (by rw [HLN.out]; omega) w27).mono ?_
          rintro e w701 ⟨v, u, rfl, hv, hu, hb⟩
          obtain ⟨px, nx_, cx, rfl⟩ := hv.slice
          obtain ⟨py, ny, cy, rfl⟩ := hu.slice
          replace B := bb B hb
          have HM := hid hv.value
          have HN := hid hu.value
          clear hb hv hu
          go_wp2_with fail
          refine (rover (k := 3) HM.out HN.out.nat (uni0.wlk way.data.toList).mpos.2 (by decide)).mono ?_
          rintro e w702 ⟨v, rfl, hv, hb⟩
          have hcc : QR _ _ (endq way.data.toList) 3 := hv
          obtain ⟨s8a, p8a, n8a, c8a, p8b, n8b, c8b, rfl⟩ := hcc.opened
          obtain ⟨ht8, hu8⟩ := hcc.two
          replace B := bb B hb
          have HN8 := hid ht8
          have HD8 := hid hu8
          clear hb hv hcc ht8 hu8
          go_wp2_with fail
          refine (rqtext (QR.mk2 HN8.out HD8.out) (by decide)).mono ?_
          rintro e w703 ⟨rfl, hb⟩
          replace B := bb B hb
          clear hb 
          go_wp2_with fail
          refine (at_ok HE.out w703).mono ?_
          rintro e w704 ⟨rfl, hb⟩
          replace B := bb B hb
          clear hb 
          go_wp2_with fail
          refine (same_nil w704 (HDR.out.below B.out)).mono ?_
          rintro e w705 ⟨rfl, hb⟩
          replace B := bb B hb
          clear hb 
          go_wp2_with fail
          go_ret
          exact ⟨rfl, B.out⟩
        · have HE := hid (show wayE way.data.toList = 4 by rw [wayE, if_pos hlr, if_neg (by rw [HLN.out]; exact h30)])
          have h31 : (30 : Int) < (way.size : Int) := by omega
          clear hlr ht
          go_wp2_with fail
          refine (at_wrong sw HE.out (by decide) w27).mono ?_
          rintro e w801 ⟨rfl, hb⟩
          replace B := bb B hb
          clear hb 
          go_wp2_with fail
          refine (same_no 4 (by decide) w801 (HDR.out.below B.out)).mono ?_
          rintro e w802 ⟨rfl, hb⟩
          replace B := bb B hb
          clear hb 
          go_wp2_with fail
          go_ret
          exact ⟨rfl, B.out⟩
      · obtain rfl : ev = 1 := by rw [ht.out, if_neg hlr]
        have HE := hid (show wayE way.data.toList = 1 by rw [wayE, if_neg hlr])
        clear hlr ht
        go_wp2_with fail
        refine (at_wrong sw HE.out (by decide) w27).mono ?_
        rintro e w901 ⟨rfl, hb⟩
        replace B := bb B hb
        clear hb 
        go_wp2_with fail
        refine (same_no 1 (by decide) w901 (HDR.out.below B.out)).mono ?_
        rintro e w902 ⟨rfl, hb⟩
        replace B := bb B hb
        clear hb 
        go_wp2_with fail
        go_ret
        exact ⟨rfl, B.out⟩

end Go.Proofs.YteephnbfdblgeaaGreatDoor

/-
  FareyTells: a case.
-/
namespace Go.Proofs.YteephnbfdblgeaaGreatDoor
open Go.RowKit
open Num4
open Num (dg isNat dval)
set_option linter.unusedVariables false
set_option maxRecDepth 100000
set_option linter.unusedSimpArgs false

set_option maxHeartbeats 16000000 in
theorem ftells_gr (a b way : ByteArray) (sa : a.size ≤ maxLen) (sb : b.size ≤ maxLen) (sw : way.size ≤ maxLen) (w : World) {ka kb : Int} {l : List UInt8} (ha : GoodQ a) (hb0 : GoodQ b) (hp : (qnum a).num ≤ 0) (hd : Door w) :
    Calls Tryz.prog 3 #[.string a, .string b, .string way] w fun e w' => e = .returned (.bool true) ∧ Below w.heap.size w w' := by
  have Hha := hid ha
  have Hhb0 := hid hb0
  have Hhp := hid hp
  have HDR := hid hd
  have hne := errv_neq
  have sw2 : way.size ≤ 9223372036854775807 := by unfold maxLen at sw; omega
  have B := hid (Below.refl w.heap.size w)
  clear  ha hb0 hp hd
  go_enter Tryz.func3, Tryz.ntmps3
  go_wp2_with fail
  refine (middle_true w).mono ?_
  rintro e w1 ⟨rfl, hb⟩
  replace B := bb B hb
  clear hb 
  go_wp2_with fail
  refine (rtwo3 (k := 0) Hha.out Hhb0.out sa sb w1).mono ?_
  rintro e w2 ⟨v, u, rfl, hv, hu, hb⟩
  obtain ⟨s1a, p1a, n1a, c1a, p1b, n1b, c1b, rfl⟩ := hv.opened
  obtain ⟨ht1, hu1⟩ := hv.two
  obtain ⟨s2a, p2a, n2a, c2a, p2b, n2b, c2b, rfl⟩ := hu.opened
  obtain ⟨ht2, hu2⟩ := hu.two
  replace B := bb B hb
  have HN1 := hid ht1
  have HD1 := hid hu1
  have HN2 := hid ht2
  have HD2 := hid hu2
  clear hb hv hu ht1 hu1 ht2 hu2
  have LG := hid (show w.heap.size ≤ w2.heap.size from B.out.size)
  have hb3 := (Below.refl _ _).alloc (Nat.le_refl w2.heap.size) (.cells #[.bool s1a, .slice p1a n1a c1a, .slice p1b n1b c1b] 28)
  have hx4 := Qbx.new w2 s1a p1a n1a c1a p1b n1b c1b
  replace HN1 := wr HN1 hb3
  replace HD1 := wr HD1 hb3
  replace HN2 := wr HN2 hb3
  replace HD2 := wr HD2 hb3
  replace B := bb B hb3
  have X8 := hid hx4
  have hs5 : (w2.alloc (.cells #[.bool s1a, .slice p1a n1a c1a, .slice p1b n1b c1b] 28)).heap.size = w2.heap.size + 1 := by simp
  clear hb3 hx4
  have hb6 := (Below.refl _ _).alloc (Nat.le_refl (w2.alloc (.cells #[.bool s1a, .slice p1a n1a c1a, .slice p1b n1b c1b] 28)).heap.size) (.cells #[.bool s2a, .slice p2a n2a c2a, .slice p2b n2b c2b] 28)
  have hx7 := Qbx.new (w2.alloc (.cells #[.bool s1a, .slice p1a n1a c1a, .slice p1b n1b c1b] 28)) s2a p2a n2a c2a p2b n2b c2b
  rw [hs5] at hx7
  replace X8 := qx X8 hb6
  replace HN1 := wr HN1 hb6
  replace HD1 := wr HD1 hb6
  replace HN2 := wr HN2 hb6
  replace HD2 := wr HD2 hb6
  replace B := bb B hb6
  have X9 := hid hx7
  have hs8 : ((w2.alloc (.cells #[.bool s1a, .slice p1a n1a c1a, .slice p1b n1b c1b] 28)).alloc (.cells #[.bool s2a, .slice p2a n2a c2a, .slice p2b n2b c2b] 28)).heap.size = w2.heap.size + 1 + 1 := by simp [hs5]
  clear hb6 hx7
  obtain ⟨cc9a, cc9b, cc9c⟩ := X8.out.cells
  obtain ⟨cc10a, cc10b, cc10c⟩ := X9.out.cells
  go_wp2_with fail
  generalize hW : (w2.alloc (.cells #[.bool s1a, .slice p1a n1a c1a, .slice p1b n1b c1b] 28)).alloc (.cells #[.bool s2a, .slice p2a n2a c2a, .slice p2b n2b c2b] 28) = W11 at *
  clear hW
  obtain ⟨cc12a, cc12b, cc12c⟩ := X8.out.cells
  obtain ⟨cc13a, cc13b, cc13c⟩ := X9.out.cells
  replace X8 := hid X8.out.dr
  replace X9 := hid X9.out.dr
  replace HN1 := hid HN1.out.drew
  replace HD1 := hid HD1.out.drew
  replace HN2 := hid HN2.out.drew
  replace HD2 := hid HD2.out.drew
  replace B := hid (Below.drew B.out)
  obtain ⟨cc14a, cc14b, cc14c⟩ := X8.out.cells
  obtain ⟨cc15a, cc15b, cc15c⟩ := X9.out.cells
  go_region_held3 (fun w' => w'.cell? ⟨w2.heap.size, 0, none⟩ = some (.bool s1a) ∧ w'.cell? ⟨w2.heap.size, 1, none⟩ = some (.slice p1a n1a c1a) ∧ w'.cell? ⟨w2.heap.size, 2, none⟩ = some (.slice p1b n1b c1b) ∧ w'.cell? ⟨w2.heap.size + 1, 0, none⟩ = some (.bool s2a) ∧ w'.cell? ⟨w2.heap.size + 1, 1, none⟩ = some (.slice p2a n2a c2a) ∧ w'.cell? ⟨w2.heap.size + 1, 2, none⟩ = some (.slice p2b n2b c2b)) (go_keep) (first
    | (have hm := mk16_2; clear hm; go_at_call 6; refine (rqtext (show QR _ _ (medq (qnum a) (qnum b)) _ from QR.mk2 HN9.out HD9.out) (by decide)).mono ?_; rintro e w26 ⟨rfl, hb⟩; replace X8 := qx X8 hb; replace X9 := qx X9 hb; replace B := bb B hb; clear cc24a cc24b cc24c cc25a cc25b cc25c; clear hb ; obtain ⟨cc27a, cc27b, cc27c⟩ := X8.out.cells; obtain ⟨cc28a, cc28b, cc28c⟩ := X9.out.cells; have mk16_3 := hid True.intro)
    | (have hm := mk16_1; clear hm; go_at_call 7; refine (rover (k := 101) (S1.out.mono (by decide)) (P3.out.mono (by decide)).nat (Nat.add_pos_left (qnum a).den_pos _) (by decide)).mono ?_; rintro e w23 ⟨v, rfl, hv, hb⟩; obtain ⟨s9a, p9a, n9a, c9a, p9b, n9b, c9b, rfl⟩ := hv.opened; obtain ⟨ht9, hu9⟩ := hv.two; replace X8 := qx X8 hb; replace X9 := qx X9 hb; replace B := bb B hb; clear cc21a cc21b cc21c cc22a cc22b cc22c; have HN9 := hid ht9; have HD9 := hid hu9; clear hb hv ht9 hu9; obtain ⟨cc24a, cc24b, cc24c⟩ := X8.out.cells; obtain ⟨cc25a, cc25b, cc25c⟩ := X9.out.cells; have mk16_2 := hid True.intro)
    | (have hm := mk16_0; clear hm; go_at_call 9; refine (raddn HD1.out.nat HD2.out.nat (by decide)).mono ?_; rintro e w20 ⟨v, rfl, hv, hb⟩; obtain ⟨p7, n7, c7, rfl⟩ := hv.slice; replace X8 := qx X8 hb; replace X9 := qx X9 hb; replace S1 := wr S1 hb; replace B := bb B hb; clear cc18a cc18b cc18c cc19a cc19b cc19c; have P3 := hid hv.value; clear hb hv; obtain ⟨cc21a, cc21b, cc21c⟩ := X8.out.cells; obtain ⟨cc22a, cc22b, cc22c⟩ := X9.out.cells; have mk16_1 := hid True.intro)
    | (go_at_call 8; refine (raddz HN1.out HN2.out (by decide) (by decide)).mono ?_; rintro e w17 ⟨v, rfl, hv, hb⟩; obtain ⟨s6, p6, n6, c6, rfl⟩ := hv.opened; replace X8 := qx X8 hb; replace X9 := qx X9 hb; replace HD1 := wr HD1 hb; replace HD2 := wr HD2 hb; replace B := bb B hb; clear cc9a cc9b cc9c cc10a cc10b cc10c cc12a cc12b cc12c cc13a cc13b cc13c cc14a cc14b cc14c cc15a cc15b cc15c; have S1 := hid hv; clear hb hv; obtain ⟨cc18a, cc18b, cc18c⟩ := X8.out.cells; obtain ⟨cc19a, cc19b, cc19c⟩ := X9.out.cells; have mk16_0 := hid True.intro))
  go_wp2_with fail
  refine (qmed_ok Hha.out Hhb0.out w26).mono ?_
  rintro e w29 ⟨rfl, hb⟩
  replace X8 := qx X8 hb
  replace B := bb B hb
  clear cc27a cc27b cc27c cc28a cc28b cc28c
  clear hb 
  obtain ⟨cc30a, cc30b, cc30c⟩ := X8.out.cells
  go_wp2_with fail
  refine (same_nil w29 (HDR.out.below B.out)).mono ?_
  rintro e w31 ⟨rfl, hb⟩
  replace X8 := qx X8 hb
  replace B := bb B hb
  clear cc30a cc30b cc30c
  clear hb 
  obtain ⟨cc32a, cc32b, cc32c⟩ := X8.out.cells
  go_wp2_with fail
  refine (ratof_good Hha.out w31).mono ?_
  rintro e w33 ⟨v, rfl, hv, hb⟩
  obtain ⟨s5a, p5a, n5a, c5a, p5b, n5b, c5b, rfl⟩ := hv.opened
  obtain ⟨ht5, hu5⟩ := hv.two
  replace X8 := qx X8 hb
  replace B := bb B hb
  clear cc32a cc32b cc32c
  have HN5 := hid ht5
  have HD5 := hid hu5
  clear hb hv ht5 hu5
  obtain ⟨cc34a, cc34b, cc34c⟩ := X8.out.cells
  obtain ⟨⟨cc35a, cc35b⟩, ⟨cc35c, cc35d⟩, cc35e, cc35f⟩ := X8.out.stores
  obtain ⟨r36a, r36b, r36c⟩ := X8.out.last B.out (by have := LG.out; omega) s5a p5a n5a c5a p5b n5b c5b
  replace HN5 := hid (r36c HN5.out)
  replace HD5 := hid (r36c HD5.out)
  replace X8 := hid r36a
  replace B := hid r36b
  clear r36a r36b r36c
  obtain ⟨cc37a, cc37b, cc37c⟩ := X8.out.cells
  go_wp2_with fail
  generalize hW : ((w33.setCell ⟨w2.heap.size, 0, none⟩ (.bool s5a)).setCell ⟨w2.heap.size, 1, none⟩ (.slice p5a n5a c5a)).setCell ⟨w2.heap.size, 2, none⟩ (.slice p5b n5b c5b) = W38 at *
  clear hW
  have HS := rsgn (QR.mk2 HN5.out HD5.out) (by decide)
  have hsg : (qnum a).num.sign ≤ 0 := by have := Hhp.out; rcases Int.lt_or_eq_of_le this with h | h; rw [Int.sign_eq_neg_one_of_neg h]; decide; rw [h]; decide
  generalize (qnum a).num.sign = sg at HS hsg
  refine (HS).mono ?_
  rintro e w39 ⟨rfl, hb⟩
  replace X8 := qx X8 hb
  replace B := bb B hb
  clear cc34a cc34b cc34c cc35a cc35b cc35c cc35d cc35e cc35f cc37a cc37b cc37c
  clear hb 
  clear HS
  obtain ⟨cc40a, cc40b, cc40c⟩ := X8.out.cells
  go_wp2_with fail
  refine (way_r Hha.out Hhp.out w39).mono ?_
  rintro e w41 ⟨rfl, hb⟩
  replace B := bb B hb
  clear cc40a cc40b cc40c
  clear hb 
  go_wp2_with fail
  refine (same_no 2 (by decide) w41 (HDR.out.below B.out)).mono ?_
  rintro e w42 ⟨rfl, hb⟩
  replace B := bb B hb
  clear hb 
  go_wp2_with fail
  go_loop [10, 20] (fun e i => ∃ (k : Nat) (ev : Int), k ≤ way.size ∧ i = .int .i64 k ∧ e = .int .i64 ev ∧ Hid (ev = if (way.data.toList.take k).all isLR = true then 0 else 1)) (fun e i => way.size - (intOf i).toNat)
  case atStart => exact ⟨0, 0, Nat.zero_le _, rfl, rfl, hid rfl⟩
  case round =>
    obtain ⟨k, ev, hk, rfl, rfl, ht⟩ := hrel
    by_cases hlt : k < way.size
    · have hgo : ∀ b : Bool, isLR way[k] = b → (way.data.toList.take (k + 1)).all isLR = ((way.data.toList.take k).all isLR && b) := by
        intro b hb
        rw [take_snoc way k hlt, List.all_append]
        simp [hb]
      have HG := hid hgo
      clear hgo
      have hyes : ((way[k].toNat : Int) = 76 ∨ (way[k].toNat : Int) = 82) → ev = if (way.data.toList.take (k + 1)).all isLR = true then 0 else 1 := by
        intro h
        rw [HG.out true ((isLR_iff _).2 h), Bool.and_true]
        exact ht.out
      have HY := hid hyes
      clear hyes
      by_cases h1 : (way[k].toNat : Int) = 76
      · have HN := hid (HY.out (.inl h1))
        go_wp2_with fail
        go_round
        case rel => exact ⟨k + 1, ev, by omega, by go_num, rfl, HN⟩
        case measure => simp [intOf]; omega
      · by_cases h2 : (way[k].toNat : Int) = 82
        · have HN := hid (HY.out (.inr h2))
          go_wp2_with fail
          go_round
          case rel => exact ⟨k + 1, ev, by omega, by go_num, rfl, HN⟩
          case measure => simp [intOf]; omega
        · have HN := hid (show (1 : Int) = if (way.data.toList.take (k + 1)).all isLR = true then 0 else 1 by
            rw [HG.out false (by
              cases hb : isLR way[k] with
              | false => rfl
              | true => rcases (isLR_iff _).1 hb with e | e; exact absurd e h1; exact absurd e h2), Bool.and_false]; rfl)
          have h3 : ((way[k].toNat : Int) != 76) = true := by simpa using h1
          have h4 : ((way[k].toNat : Int) != 82) = true := by simpa using h2
          go_wp2_with fail
          go_round
          case rel => exact ⟨k + 1, 1, by omega, by go_num, rfl, HN⟩
          case measure => simp [intOf]; omega
    · obtain rfl : k = way.size := by omega
      have hall : way.data.toList.take way.size = way.data.toList := List.take_of_length_le (by simp)
      have hlen : way.data.toList.length = way.size := by simp
      rw [hall] at ht
      have HLN := hid hlen
      clear hall hlen
      by_cases hlr : way.data.toList.all isLR = true
      · obtain rfl : ev = 0 := by rw [ht.out, if_pos hlr]
        by_cases h30 : way.size ≤ 30
        · have HE := hid (show wayE way.data.toList = 0 by rw [wayE, if_pos hlr, if_pos (by rw [HLN.out]; exact h30)])
          have h31 : (way.size : Int) ≤ 30 := by omega
          clear hlr ht
          go_wp2_with fail
          refine (ratway (s := way) (by rw [HLN.out]; omega) w42).mono ?_
          rintro e w701 ⟨v, u, rfl, hv, hu, hb⟩
          obtain ⟨px, nx_, cx, rfl⟩ := hv.slice
          obtain ⟨py, ny, cy, rfl⟩ := hu.slice
          replace B := bb B hb
          have HM := hid hv.value
          have HN := hid hu.value
          clear hb hv hu
          go_wp2_with fail
          refine (rover (k := 3) HM.out HN.out.nat (uni0.wlk way.data.toList).mpos.2 (by decide)).mono ?_
          rintro e w702 ⟨v, rfl, hv, hb⟩
          have hcc : QR _ _ (endq way.data.toList) 3 := hv
          obtain ⟨s8a, p8a, n8a, c8a, p8b, n8b, c8b, rfl⟩ := hcc.opened
          obtain ⟨ht8, hu8⟩ := hcc.two
          replace B := bb B hb
          have HN8 := hid ht8
          have HD8 := hid hu8
          clear hb hv hcc ht8 hu8
          go_wp2_with fail
          refine (rqtext (QR.mk2 HN8.out HD8.out) (by decide)).mono ?_
          rintro e w703 ⟨rfl, hb⟩
          replace B := bb B hb
          clear hb 
          go_wp2_with fail
          refine (at_ok HE.out w703).mono ?_
          rintro e w704 ⟨rfl, hb⟩
          replace B := bb B hb
          clear hb 
          go_wp2_with fail
          refine (same_nil w704 (HDR.out.below B.out)).mono ?_
          rintro e w705 ⟨rfl, hb⟩
          replace B := bb B hb
          clear hb 
          go_wp2_with fail
          go_ret
          exact ⟨rfl, B.out⟩
        · have HE := hid (show wayE way.data.toList = 4 by rw [wayE, if_pos hlr, if_neg (by rw [HLN.out]; exact h30)])
          have h31 : (30 : Int) < (way.size : Int) := by omega
          clear hlr ht
          go_wp2_with fail
          refine (at_wrong sw HE.out (by decide) w42).mono ?_
          rintro e w801 ⟨rfl, hb⟩
          replace B := bb B hb
          clear hb 
          go_wp2_with fail
          refine (same_no 4 (by decide) w801 (HDR.out.below B.out)).mono ?_
          rintro e w802 ⟨rfl, hb⟩
          replace B := bb B hb
          clear hb 
          go_wp2_with fail
          go_ret
          exact ⟨rfl, B.out⟩
      · obtain rfl : ev = 1 := by rw [ht.out, if_neg hlr]
        have HE := hid (show wayE way.data.toList = 1 by rw [wayE, if_neg hlr])
        clear hlr ht
        go_wp2_with fail
        refine (at_wrong sw HE.out (by decide) w42).mono ?_
        rintro e w901 ⟨rfl, hb⟩
        replace B := bb B hb
        clear hb 
        go_wp2_with fail
        refine (same_no 1 (by decide) w901 (HDR.out.below B.out)).mono ?_
        rintro e w902 ⟨rfl, hb⟩
        replace B := bb B hb
        clear hb 
        go_wp2_with fail
        go_ret
        exact ⟨rfl, B.out⟩

end Go.Proofs.YteephnbfdblgeaaGreatDoor

/-
  FareyTells: a case.
-/
namespace Go.Proofs.YteephnbfdblgeaaGreatDoor
open Go.RowKit
open Num4
open Num (dg isNat dval)
set_option linter.unusedVariables false
set_option maxRecDepth 100000
set_option linter.unusedSimpArgs false

set_option maxHeartbeats 16000000 in
theorem ftells_gs (a b way : ByteArray) (sa : a.size ≤ maxLen) (sb : b.size ≤ maxLen) (sw : way.size ≤ maxLen) (w : World) {ka kb : Int} {l : List UInt8} (ha : GoodQ a) (hb0 : GoodQ b) (hp : 0 < (qnum a).num) (hw : wayq (qnum a) = some l) (hd : Door w) :
    Calls Tryz.prog 3 #[.string a, .string b, .string way] w fun e w' => e = .returned (.bool true) ∧ Below w.heap.size w w' := by
  have Hha := hid ha
  have Hhb0 := hid hb0
  have Hhp := hid hp
  have Hhw := hid hw
  have HDR := hid hd
  have hne := errv_neq
  have sw2 : way.size ≤ 9223372036854775807 := by unfold maxLen at sw; omega
  have B := hid (Below.refl w.heap.size w)
  clear  ha hb0 hp hw hd
  go_enter Tryz.func3, Tryz.ntmps3
  go_wp2_with fail
  refine (middle_true w).mono ?_
  rintro e w1 ⟨rfl, hb⟩
  replace B := bb B hb
  clear hb 
  go_wp2_with fail
  refine (rtwo3 (k := 0) Hha.out Hhb0.out sa sb w1).mono ?_
  rintro e w2 ⟨v, u, rfl, hv, hu, hb⟩
  obtain ⟨s1a, p1a, n1a, c1a, p1b, n1b, c1b, rfl⟩ := hv.opened
  obtain ⟨ht1, hu1⟩ := hv.two
  obtain ⟨s2a, p2a, n2a, c2a, p2b, n2b, c2b, rfl⟩ := hu.opened
  obtain ⟨ht2, hu2⟩ := hu.two
  replace B := bb B hb
  have HN1 := hid ht1
  have HD1 := hid hu1
  have HN2 := hid ht2
  have HD2 := hid hu2
  clear hb hv hu ht1 hu1 ht2 hu2
  have LG := hid (show w.heap.size ≤ w2.heap.size from B.out.size)
  have hb3 := (Below.refl _ _).alloc (Nat.le_refl w2.heap.size) (.cells #[.bool s1a, .slice p1a n1a c1a, .slice p1b n1b c1b] 28)
  have hx4 := Qbx.new w2 s1a p1a n1a c1a p1b n1b c1b
  replace HN1 := wr HN1 hb3
  replace HD1 := wr HD1 hb3
  replace HN2 := wr HN2 hb3
  replace HD2 := wr HD2 hb3
  replace B := bb B hb3
  have X8 := hid hx4
  have hs5 : (w2.alloc (.cells #[.bool s1a, .slice p1a n1a c1a, .slice p1b n1b c1b] 28)).heap.size = w2.heap.size + 1 := by simp
  clear hb3 hx4
  have hb6 := (Below.refl _ _).alloc (Nat.le_refl (w2.alloc (.cells #[.bool s1a, .slice p1a n1a c1a, .slice p1b n1b c1b] 28)).heap.size) (.cells #[.bool s2a, .slice p2a n2a c2a, .slice p2b n2b c2b] 28)
  have hx7 := Qbx.new (w2.alloc (.cells #[.bool s1a, .slice p1a n1a c1a, .slice p1b n1b c1b] 28)) s2a p2a n2a c2a p2b n2b c2b
  rw [hs5] at hx7
  replace X8 := qx X8 hb6
  replace HN1 := wr HN1 hb6
  replace HD1 := wr HD1 hb6
  replace HN2 := wr HN2 hb6
  replace HD2 := wr HD2 hb6
  replace B := bb B hb6
  have X9 := hid hx7
  have hs8 : ((w2.alloc (.cells #[.bool s1a, .slice p1a n1a c1a, .slice p1b n1b c1b] 28)).alloc (.cells #[.bool s2a, .slice p2a n2a c2a, .slice p2b n2b c2b] 28)).heap.size = w2.heap.size + 1 + 1 := by simp [hs5]
  clear hb6 hx7
  obtain ⟨cc9a, cc9b, cc9c⟩ := X8.out.cells
  obtain ⟨cc10a, cc10b, cc10c⟩ := X9.out.cells
  go_wp2_with fail
  generalize hW : (w2.alloc (.cells #[.bool s1a, .slice p1a n1a c1a, .slice p1b n1b c1b] 28)).alloc (.cells #[.bool s2a, .slice p2a n2a c2a, .slice p2b n2b c2b] 28) = W11 at *
  clear hW
  obtain ⟨cc12a, cc12b, cc12c⟩ := X8.out.cells
  obtain ⟨cc13a, cc13b, cc13c⟩ := X9.out.cells
  replace X8 := hid X8.out.dr
  replace X9 := hid X9.out.dr
  replace HN1 := hid HN1.out.drew
  replace HD1 := hid HD1.out.drew
  replace HN2 := hid HN2.out.drew
  replace HD2 := hid HD2.out.drew
  replace B := hid (Below.drew B.out)
  obtain ⟨cc14a, cc14b, cc14c⟩ := X8.out.cells
  obtain ⟨cc15a, cc15b, cc15c⟩ := X9.out.cells
  go_region_held3 (fun w' => w'.cell? ⟨w2.heap.size, 0, none⟩ = some (.bool s1a) ∧ w'.cell? ⟨w2.heap.size, 1, none⟩ = some (.slice p1a n1a c1a) ∧ w'.cell? ⟨w2.heap.size, 2, none⟩ = some (.slice p1b n1b c1b) ∧ w'.cell? ⟨w2.heap.size + 1, 0, none⟩ = some (.bool s2a) ∧ w'.cell? ⟨w2.heap.size + 1, 1, none⟩ = some (.slice p2a n2a c2a) ∧ w'.cell? ⟨w2.heap.size + 1, 2, none⟩ = some (.slice p2b n2b c2b)) (go_keep) (first
    | (have hm := mk16_2; clear hm; go_at_call 6; refine (rqtext (show QR _ _ (medq (qnum a) (qnum b)) _ from QR.mk2 HN9.out HD9.out) (by decide)).mono ?_; rintro e w26 ⟨rfl, hb⟩; replace X8 := qx X8 hb; replace X9 := qx X9 hb; replace B := bb B hb; clear cc24a cc24b cc24c cc25a cc25b cc25c; clear hb ; obtain ⟨cc27a, cc27b, cc27c⟩ := X8.out.cells; obtain ⟨cc28a, cc28b, cc28c⟩ := X9.out.cells; have mk16_3 := hid True.intro)
    | (have hm := mk16_1; clear hm; go_at_call 7; refine (rover (k := 101) (S1.out.mono (by decide)) (P3.out.mono (by decide)).nat (Nat.add_pos_left (qnum a).den_pos _) (by decide)).mono ?_; rintro e w23 ⟨v, rfl, hv, hb⟩; obtain ⟨s9a, p9a, n9a, c9a, p9b, n9b, c9b, rfl⟩ := hv.opened; obtain ⟨ht9, hu9⟩ := hv.two; replace X8 := qx X8 hb; replace X9 := qx X9 hb; replace B := bb B hb; clear cc21a cc21b cc21c cc22a cc22b cc22c; have HN9 := hid ht9; have HD9 := hid hu9; clear hb hv ht9 hu9; obtain ⟨cc24a, cc24b, cc24c⟩ := X8.out.cells; obtain ⟨cc25a, cc25b, cc25c⟩ := X9.out.cells; have mk16_2 := hid True.intro)
    | (have hm := mk16_0; clear hm; go_at_call 9; refine (raddn HD1.out.nat HD2.out.nat (by decide)).mono ?_; rintro e w20 ⟨v, rfl, hv, hb⟩; obtain ⟨p7, n7, c7, rfl⟩ := hv.slice; replace X8 := qx X8 hb; replace X9 := qx X9 hb; replace S1 := wr S1 hb; replace B := bb B hb; clear cc18a cc18b cc18c cc19a cc19b cc19c; have P3 := hid hv.value; clear hb hv; obtain ⟨cc21a, cc21b, cc21c⟩ := X8.out.cells; obtain ⟨cc22a, cc22b, cc22c⟩ := X9.out.cells; have mk16_1 := hid True.intro)
    | (go_at_call 8; refine (raddz HN1.out HN2.out (by decide) (by decide)).mono ?_; rintro e w17 ⟨v, rfl, hv, hb⟩; obtain ⟨s6, p6, n6, c6, rfl⟩ := hv.opened; replace X8 := qx X8 hb; replace X9 := qx X9 hb; replace HD1 := wr HD1 hb; replace HD2 := wr HD2 hb; replace B := bb B hb; clear cc9a cc9b cc9c cc10a cc10b cc10c cc12a cc12b cc12c cc13a cc13b cc13c cc14a cc14b cc14c cc15a cc15b cc15c; have S1 := hid hv; clear hb hv; obtain ⟨cc18a, cc18b, cc18c⟩ := X8.out.cells; obtain ⟨cc19a, cc19b, cc19c⟩ := X9.out.cells; have mk16_0 := hid True.intro))
  go_wp2_with fail
  refine (qmed_ok Hha.out Hhb0.out w26).mono ?_
  rintro e w29 ⟨rfl, hb⟩
  replace X8 := qx X8 hb
  replace B := bb B hb
  clear cc27a cc27b cc27c cc28a cc28b cc28c
  clear hb 
  obtain ⟨cc30a, cc30b, cc30c⟩ := X8.out.cells
  go_wp2_with fail
  refine (same_nil w29 (HDR.out.below B.out)).mono ?_
  rintro e w31 ⟨rfl, hb⟩
  replace X8 := qx X8 hb
  replace B := bb B hb
  clear cc30a cc30b cc30c
  clear hb 
  obtain ⟨cc32a, cc32b, cc32c⟩ := X8.out.cells
  go_wp2_with fail
  refine (ratof_good Hha.out w31).mono ?_
  rintro e w33 ⟨v, rfl, hv, hb⟩
  obtain ⟨s5a, p5a, n5a, c5a, p5b, n5b, c5b, rfl⟩ := hv.opened
  obtain ⟨ht5, hu5⟩ := hv.two
  replace X8 := qx X8 hb
  replace B := bb B hb
  clear cc32a cc32b cc32c
  have HN5 := hid ht5
  have HD5 := hid hu5
  clear hb hv ht5 hu5
  obtain ⟨cc34a, cc34b, cc34c⟩ := X8.out.cells
  obtain ⟨⟨cc35a, cc35b⟩, ⟨cc35c, cc35d⟩, cc35e, cc35f⟩ := X8.out.stores
  obtain ⟨r36a, r36b, r36c⟩ := X8.out.last B.out (by have := LG.out; omega) s5a p5a n5a c5a p5b n5b c5b
  replace HN5 := hid (r36c HN5.out)
  replace HD5 := hid (r36c HD5.out)
  replace X8 := hid r36a
  replace B := hid r36b
  clear r36a r36b r36c
  obtain ⟨cc37a, cc37b, cc37c⟩ := X8.out.cells
  go_wp2_with fail
  generalize hW : ((w33.setCell ⟨w2.heap.size, 0, none⟩ (.bool s5a)).setCell ⟨w2.heap.size, 1, none⟩ (.slice p5a n5a c5a)).setCell ⟨w2.heap.size, 2, none⟩ (.slice p5b n5b c5b) = W38 at *
  clear hW
  have HS := rsgn (QR.mk2 HN5.out HD5.out) (by decide)
  rw [Int.sign_eq_one_of_pos Hhp.out] at HS
  refine (HS).mono ?_
  rintro e w39 ⟨rfl, hb⟩
  replace X8 := qx X8 hb
  replace HN5 := wr HN5 hb
  replace HD5 := wr HD5 hb
  replace B := bb B hb
  clear cc34a cc34b cc34c cc35a cc35b cc35c cc35d cc35e cc35f cc37a cc37b cc37c
  clear hb 
  clear HS
  obtain ⟨cc40a, cc40b, cc40c⟩ := X8.out.cells
  go_wp2_with fail
  refine (rwayto_some (QR.mk2 HN5.out HD5.out) (by decide) (by decide) Hhw.out).mono ?_
  rintro e w41 ⟨rfl, hb⟩
  replace X8 := qx X8 hb
  replace B := bb B hb
  clear cc40a cc40b cc40c
  clear hb 
  obtain ⟨cc42a, cc42b, cc42c⟩ := X8.out.cells
  go_wp2_with fail
  refine (way_some Hha.out Hhp.out Hhw.out w41).mono ?_
  rintro e w43 ⟨rfl, hb⟩
  replace B := bb B hb
  clear cc42a cc42b cc42c
  clear hb 
  go_wp2_with fail
  refine (same_nil w43 (HDR.out.below B.out)).mono ?_
  rintro e w44 ⟨rfl, hb⟩
  replace B := bb B hb
  clear hb 
  go_wp2_with fail
  go_loop [10, 20] (fun e i => ∃ (k : Nat) (ev : Int), k ≤ way.size ∧ i = .int .i64 k ∧ e = .int .i64 ev ∧ Hid (ev = if (way.data.toList.take k).all isLR = true then 0 else 1)) (fun e i => way.size - (intOf i).toNat)
  case atStart => exact ⟨0, 0, Nat.zero_le _, rfl, rfl, hid rfl⟩
  case round =>
    obtain ⟨k, ev, hk, rfl, rfl, ht⟩ := hrel
    by_cases hlt : k < way.size
    · have hgo : ∀ b : Bool, isLR way[k] = b → (way.data.toList.take (k + 1)).all isLR = ((way.data.toList.take k).all isLR && b) := by
        intro b hb
        rw [take_snoc way k hlt, List.all_append]
        simp [hb]
      have HG := hid hgo
      clear hgo
      have hyes : ((way[k].toNat : Int) = 76 ∨ (way[k].toNat : Int) = 82) → ev = if (way.data.toList.take (k + 1)).all isLR = true then 0 else 1 := by
        intro h
        rw [HG.out true ((isLR_iff _).2 h), Bool.and_true]
        exact ht.out
      have HY := hid hyes
      clear hyes
      by_cases h1 : (way[k].toNat : Int) = 76
      · have HN := hid (HY.out (.inl h1))
        go_wp2_with fail
        go_round
        case rel => exact ⟨k + 1, ev, by omega, by go_num, rfl, HN⟩
        case measure => simp [intOf]; omega
      · by_cases h2 : (way[k].toNat : Int) = 82
        · have HN := hid (HY.out (.inr h2))
          go_wp2_with fail
          go_round
          case rel => exact ⟨k + 1, ev, by omega, by go_num, rfl, HN⟩
          case measure => simp [intOf]; omega
        · have HN := hid (show (1 : Int) = if (way.data.toList.take (k + 1)).all isLR = true then 0 else 1 by
            rw [HG.out false (by
              cases hb : isLR way[k] with
              | false => rfl
              | true => rcases (isLR_iff _).1 hb with e | e; exact absurd e h1; exact absurd e h2), Bool.and_false]; rfl)
          have h3 : ((way[k].toNat : Int) != 76) = true := by simpa using h1
          have h4 : ((way[k].toNat : Int) != 82) = true := by simpa using h2
          go_wp2_with fail
          go_round
          case rel => exact ⟨k + 1, 1, by omega, by go_num, rfl, HN⟩
          case measure => simp [intOf]; omega
    · obtain rfl : k = way.size := by omega
      have hall : way.data.toList.take way.size = way.data.toList := List.take_of_length_le (by simp)
      have hlen : way.data.toList.length = way.size := by simp
      rw [hall] at ht
      have HLN := hid hlen
      clear hall hlen
      by_cases hlr : way.data.toList.all isLR = true
      · obtain rfl : ev = 0 := by rw [ht.out, if_pos hlr]
        by_cases h30 : way.size ≤ 30
        · have HE := hid (show wayE way.data.toList = 0 by rw [wayE, if_pos hlr, if_pos (by rw [HLN.out]; exact h30)])
          have h31 : (way.size : Int) ≤ 30 := by omega
          clear hlr ht
          go_wp2_with fail
          refine (ratway (s := way) (by rw [HLN.out]; omega) w44).mono ?_
          rintro e w701 ⟨v, u, rfl, hv, hu, hb⟩
          obtain ⟨px, nx_, cx, rfl⟩ := hv.slice
          obtain ⟨py, ny, cy, rfl⟩ := hu.slice
          replace B := bb B hb
          have HM := hid hv.value
          have HN := hid hu.value
          clear hb hv hu
          go_wp2_with fail
          refine (rover (k := 3) HM.out HN.out.nat (uni0.wlk way.data.toList).mpos.2 (by decide)).mono ?_
          rintro e w702 ⟨v, rfl, hv, hb⟩
          have hcc : QR _ _ (endq way.data.toList) 3 := hv
          obtain ⟨s8a, p8a, n8a, c8a, p8b, n8b, c8b, rfl⟩ := hcc.opened
          obtain ⟨ht8, hu8⟩ := hcc.two
          replace B := bb B hb
          have HN8 := hid ht8
          have HD8 := hid hu8
          clear hb hv hcc ht8 hu8
          go_wp2_with fail
          refine (rqtext (QR.mk2 HN8.out HD8.out) (by decide)).mono ?_
          rintro e w703 ⟨rfl, hb⟩
          replace B := bb B hb
          clear hb 
          go_wp2_with fail
          refine (at_ok HE.out w703).mono ?_
          rintro e w704 ⟨rfl, hb⟩
          replace B := bb B hb
          clear hb 
          go_wp2_with fail
          refine (same_nil w704 (HDR.out.below B.out)).mono ?_
          rintro e w705 ⟨rfl, hb⟩
          replace B := bb B hb
          clear hb 
          go_wp2_with fail
          go_ret
          exact ⟨rfl, B.out⟩
        · have HE := hid (show wayE way.data.toList = 4 by rw [wayE, if_pos hlr, if_neg (by rw [HLN.out]; exact h30)])
          have h31 : (30 : Int) < (way.size : Int) := by omega
          clear hlr ht
          go_wp2_with fail
          refine (at_wrong sw HE.out (by decide) w44).mono ?_
          rintro e w801 ⟨rfl, hb⟩
          replace B := bb B hb
          clear hb 
          go_wp2_with fail
          refine (same_no 4 (by decide) w801 (HDR.out.below B.out)).mono ?_
          rintro e w802 ⟨rfl, hb⟩
          replace B := bb B hb
          clear hb 
          go_wp2_with fail
          go_ret
          exact ⟨rfl, B.out⟩
      · obtain rfl : ev = 1 := by rw [ht.out, if_neg hlr]
        have HE := hid (show wayE way.data.toList = 1 by rw [wayE, if_neg hlr])
        clear hlr ht
        go_wp2_with fail
        refine (at_wrong sw HE.out (by decide) w44).mono ?_
        rintro e w901 ⟨rfl, hb⟩
        replace B := bb B hb
        clear hb 
        go_wp2_with fail
        refine (same_no 1 (by decide) w901 (HDR.out.below B.out)).mono ?_
        rintro e w902 ⟨rfl, hb⟩
        replace B := bb B hb
        clear hb 
        go_wp2_with fail
        go_ret
        exact ⟨rfl, B.out⟩

end Go.Proofs.YteephnbfdblgeaaGreatDoor

/-
  FareyTells: a case.
-/
namespace Go.Proofs.YteephnbfdblgeaaGreatDoor
open Go.RowKit
open Num4
open Num (dg isNat dval)
set_option linter.unusedVariables false
set_option maxRecDepth 100000
set_option linter.unusedSimpArgs false

set_option maxHeartbeats 16000000 in
theorem ftells_gn (a b way : ByteArray) (sa : a.size ≤ maxLen) (sb : b.size ≤ maxLen) (sw : way.size ≤ maxLen) (w : World) {ka kb : Int} {l : List UInt8} (ha : GoodQ a) (hb0 : GoodQ b) (hp : 0 < (qnum a).num) (hw : wayq (qnum a) = none) (hd : Door w) :
    Calls Tryz.prog 3 #[.string a, .string b, .string way] w fun e w' => e = .returned (.bool true) ∧ Below w.heap.size w w' := by
  have Hha := hid ha
  have Hhb0 := hid hb0
  have Hhp := hid hp
  have Hhw := hid hw
  have HDR := hid hd
  have hne := errv_neq
  have sw2 : way.size ≤ 9223372036854775807 := by unfold maxLen at sw; omega
  have B := hid (Below.refl w.heap.size w)
  clear  ha hb0 hp hw hd
  go_enter Tryz.func3, Tryz.ntmps3
  go_wp2_with fail
  refine (middle_true w).mono ?_
  rintro e w1 ⟨rfl, hb⟩
  replace B := bb B hb
  clear hb 
  go_wp2_with fail
  refine (rtwo3 (k := 0) Hha.out Hhb0.out sa sb w1).mono ?_
  rintro e w2 ⟨v, u, rfl, hv, hu, hb⟩
  obtain ⟨s1a, p1a, n1a, c1a, p1b, n1b, c1b, rfl⟩ := hv.opened
  obtain ⟨ht1, hu1⟩ := hv.two
  obtain ⟨s2a, p2a, n2a, c2a, p2b, n2b, c2b, rfl⟩ := hu.opened
  obtain ⟨ht2, hu2⟩ := hu.two
  replace B := bb B hb
  have HN1 := hid ht1
  have HD1 := hid hu1
  have HN2 := hid ht2
  have HD2 := hid hu2
  clear hb hv hu ht1 hu1 ht2 hu2
  have LG := hid (show w.heap.size ≤ w2.heap.size from B.out.size)
  have hb3 := (Below.refl _ _).alloc (Nat.le_refl w2.heap.size) (.cells #[.bool s1a, .slice p1a n1a c1a, .slice p1b n1b c1b] 28)
  have hx4 := Qbx.new w2 s1a p1a n1a c1a p1b n1b c1b
  replace HN1 := wr HN1 hb3
  replace HD1 := wr HD1 hb3
  replace HN2 := wr HN2 hb3
  replace HD2 := wr HD2 hb3
  replace B := bb B hb3
  have X8 := hid hx4
  have hs5 : (w2.alloc (.cells #[.bool s1a, .slice p1a n1a c1a, .slice p1b n1b c1b] 28)).heap.size = w2.heap.size + 1 := by simp
  clear hb3 hx4
  have hb6 := (Below.refl _ _).alloc (Nat.le_refl (w2.alloc (.cells #[.bool s1a, .slice p1a n1a c1a, .slice p1b n1b c1b] 28)).heap.size) (.cells #[.bool s2a, .slice p2a n2a c2a, .slice p2b n2b c2b] 28)
  have hx7 := Qbx.new (w2.alloc (.cells #[.bool s1a, .slice p1a n1a c1a, .slice p1b n1b c1b] 28)) s2a p2a n2a c2a p2b n2b c2b
  rw [hs5] at hx7
  replace X8 := qx X8 hb6
  replace HN1 := wr HN1 hb6
  replace HD1 := wr HD1 hb6
  replace HN2 := wr HN2 hb6
  replace HD2 := wr HD2 hb6
  replace B := bb B hb6
  have X9 := hid hx7
  have hs8 : ((w2.alloc (.cells #[.bool s1a, .slice p1a n1a c1a, .slice p1b n1b c1b] 28)).alloc (.cells #[.bool s2a, .slice p2a n2a c2a, .slice p2b n2b c2b] 28)).heap.size = w2.heap.size + 1 + 1 := by simp [hs5]
  clear hb6 hx7
  obtain ⟨cc9a, cc9b, cc9c⟩ := X8.out.cells
  obtain ⟨cc10a, cc10b, cc10c⟩ := X9.out.cells
  go_wp2_with fail
  generalize hW : (w2.alloc (.cells #[.bool s1a, .slice p1a n1a c1a, .slice p1b n1b c1b] 28)).alloc (.cells #[.bool s2a, .slice p2a n2a c2a, .slice p2b n2b c2b] 28) = W11 at *
  clear hW
  obtain ⟨cc12a, cc12b, cc12c⟩ := X8.out.cells
  obtain ⟨cc13a, cc13b, cc13c⟩ := X9.out.cells
  replace X8 := hid X8.out.dr
  replace X9 := hid X9.out.dr
  replace HN1 := hid HN1.out.drew
  replace HD1 := hid HD1.out.drew
  replace HN2 := hid HN2.out.drew
  replace HD2 := hid HD2.out.drew
  replace B := hid (Below.drew B.out)
  obtain ⟨cc14a, cc14b, cc14c⟩ := X8.out.cells
  obtain ⟨cc15a, cc15b, cc15c⟩ := X9.out.cells
  go_region_held3 (fun w' => w'.cell? ⟨w2.heap.size, 0, none⟩ = some (.bool s1a) ∧ w'.cell? ⟨w2.heap.size, 1, none⟩ = some (.slice p1a n1a c1a) ∧ w'.cell? ⟨w2.heap.size, 2, none⟩ = some (.slice p1b n1b c1b) ∧ w'.cell? ⟨w2.heap.size + 1, 0, none⟩ = some (.bool s2a) ∧ w'.cell? ⟨w2.heap.size + 1, 1, none⟩ = some (.slice p2a n2a c2a) ∧ w'.cell? ⟨w2.heap.size + 1, 2, none⟩ = some (.slice p2b n2b c2b)) (go_keep) (first
    | (have hm := mk16_2; clear hm; go_at_call 6; refine (rqtext (show QR _ _ (medq (qnum a) (qnum b)) _ from QR.mk2 HN9.out HD9.out) (by decide)).mono ?_; rintro e w26 ⟨rfl, hb⟩; replace X8 := qx X8 hb; replace X9 := qx X9 hb; replace B := bb B hb; clear cc24a cc24b cc24c cc25a cc25b cc25c; clear hb ; obtain ⟨cc27a, cc27b, cc27c⟩ := X8.out.cells; obtain ⟨cc28a, cc28b, cc28c⟩ := X9.out.cells; have mk16_3 := hid True.intro)
    | (have hm := mk16_1; clear hm; go_at_call 7; refine (rover (k := 101) (S1.out.mono (by decide)) (P3.out.mono (by decide)).nat (Nat.add_pos_left (qnum a).den_pos _) (by decide)).mono ?_; rintro e w23 ⟨v, rfl, hv, hb⟩; obtain ⟨s9a, p9a, n9a, c9a, p9b, n9b, c9b, rfl⟩ := hv.opened; obtain ⟨ht9, hu9⟩ := hv.two; replace X8 := qx X8 hb; replace X9 := qx X9 hb; replace B := bb B hb; clear cc21a cc21b cc21c cc22a cc22b cc22c; have HN9 := hid ht9; have HD9 := hid hu9; clear hb hv ht9 hu9; obtain ⟨cc24a, cc24b, cc24c⟩ := X8.out.cells; obtain ⟨cc25a, cc25b, cc25c⟩ := X9.out.cells; have mk16_2 := hid True.intro)
    | (have hm := mk16_0; clear hm; go_at_call 9; refine (raddn HD1.out.nat HD2.out.nat (by decide)).mono ?_; rintro e w20 ⟨v, rfl, hv, hb⟩; obtain ⟨p7, n7, c7, rfl⟩ := hv.slice; replace X8 := qx X8 hb; replace X9 := qx X9 hb; replace S1 := wr S1 hb; replace B := bb B hb; clear cc18a cc18b cc18c cc19a cc19b cc19c; have P3 := hid hv.value; clear hb hv; obtain ⟨cc21a, cc21b, cc21c⟩ := X8.out.cells; obtain ⟨cc22a, cc22b, cc22c⟩ := X9.out.cells; have mk16_1 := hid True.intro)
    | (go_at_call 8; refine (raddz HN1.out HN2.out (by decide) (by decide)).mono ?_; rintro e w17 ⟨v, rfl, hv, hb⟩; obtain ⟨s6, p6, n6, c6, rfl⟩ := hv.opened; replace X8 := qx X8 hb; replace X9 := qx X9 hb; replace HD1 := wr HD1 hb; replace HD2 := wr HD2 hb; replace B := bb B hb; clear cc9a cc9b cc9c cc10a cc10b cc10c cc12a cc12b cc12c cc13a cc13b cc13c cc14a cc14b cc14c cc15a cc15b cc15c; have S1 := hid hv; clear hb hv; obtain ⟨cc18a, cc18b, cc18c⟩ := X8.out.cells; obtain ⟨cc19a, cc19b, cc19c⟩ := X9.out.cells; have mk16_0 := hid True.intro))
  go_wp2_with fail
  refine (qmed_ok Hha.out Hhb0.out w26).mono ?_
  rintro e w29 ⟨rfl, hb⟩
  replace X8 := qx X8 hb
  replace B := bb B hb
  clear cc27a cc27b cc27c cc28a cc28b cc28c
  clear hb 
  obtain ⟨cc30a, cc30b, cc30c⟩ := X8.out.cells
  go_wp2_with fail
  refine (same_nil w29 (HDR.out.below B.out)).mono ?_
  rintro e w31 ⟨rfl, hb⟩
  replace X8 := qx X8 hb
  replace B := bb B hb
  clear cc30a cc30b cc30c
  clear hb 
  obtain ⟨cc32a, cc32b, cc32c⟩ := X8.out.cells
  go_wp2_with fail
  refine (ratof_good Hha.out w31).mono ?_
  rintro e w33 ⟨v, rfl, hv, hb⟩
  obtain ⟨s5a, p5a, n5a, c5a, p5b, n5b, c5b, rfl⟩ := hv.opened
  obtain ⟨ht5, hu5⟩ := hv.two
  replace X8 := qx X8 hb
  replace B := bb B hb
  clear cc32a cc32b cc32c
  have HN5 := hid ht5
  have HD5 := hid hu5
  clear hb hv ht5 hu5
  obtain ⟨cc34a, cc34b, cc34c⟩ := X8.out.cells
  obtain ⟨⟨cc35a, cc35b⟩, ⟨cc35c, cc35d⟩, cc35e, cc35f⟩ := X8.out.stores
  obtain ⟨r36a, r36b, r36c⟩ := X8.out.last B.out (by have := LG.out; omega) s5a p5a n5a c5a p5b n5b c5b
  replace HN5 := hid (r36c HN5.out)
  replace HD5 := hid (r36c HD5.out)
  replace X8 := hid r36a
  replace B := hid r36b
  clear r36a r36b r36c
  obtain ⟨cc37a, cc37b, cc37c⟩ := X8.out.cells
  go_wp2_with fail
  generalize hW : ((w33.setCell ⟨w2.heap.size, 0, none⟩ (.bool s5a)).setCell ⟨w2.heap.size, 1, none⟩ (.slice p5a n5a c5a)).setCell ⟨w2.heap.size, 2, none⟩ (.slice p5b n5b c5b) = W38 at *
  clear hW
  have HS := rsgn (QR.mk2 HN5.out HD5.out) (by decide)
  rw [Int.sign_eq_one_of_pos Hhp.out] at HS
  refine (HS).mono ?_
  rintro e w39 ⟨rfl, hb⟩
  replace X8 := qx X8 hb
  replace HN5 := wr HN5 hb
  replace HD5 := wr HD5 hb
  replace B := bb B hb
  clear cc34a cc34b cc34c cc35a cc35b cc35c cc35d cc35e cc35f cc37a cc37b cc37c
  clear hb 
  clear HS
  obtain ⟨cc40a, cc40b, cc40c⟩ := X8.out.cells
  go_wp2_with fail
  refine (rwayto_none (QR.mk2 HN5.out HD5.out) (by decide) (by decide) Hhw.out).mono ?_
  rintro e w41 ⟨sx, rfl, hb⟩
  replace X8 := qx X8 hb
  replace B := bb B hb
  clear cc40a cc40b cc40c
  clear hb 
  obtain ⟨cc42a, cc42b, cc42c⟩ := X8.out.cells
  go_wp2_with fail
  refine (way_none Hha.out Hhp.out Hhw.out w41).mono ?_
  rintro e w43 ⟨rfl, hb⟩
  replace B := bb B hb
  clear cc42a cc42b cc42c
  clear hb 
  go_wp2_with fail
  refine (same_no 4 (by decide) w43 (HDR.out.below B.out)).mono ?_
  rintro e w44 ⟨rfl, hb⟩
  replace B := bb B hb
  clear hb 
  go_wp2_with fail
  go_loop [10, 20] (fun e i => ∃ (k : Nat) (ev : Int), k ≤ way.size ∧ i = .int .i64 k ∧ e = .int .i64 ev ∧ Hid (ev = if (way.data.toList.take k).all isLR = true then 0 else 1)) (fun e i => way.size - (intOf i).toNat)
  case atStart => exact ⟨0, 0, Nat.zero_le _, rfl, rfl, hid rfl⟩
  case round =>
    obtain ⟨k, ev, hk, rfl, rfl, ht⟩ := hrel
    by_cases hlt : k < way.size
    · have hgo : ∀ b : Bool, isLR way[k] = b → (way.data.toList.take (k + 1)).all isLR = ((way.data.toList.take k).all isLR && b) := by
        intro b hb
        rw [take_snoc way k hlt, List.all_append]
        simp [hb]
      have HG := hid hgo
      clear hgo
      have hyes : ((way[k].toNat : Int) = 76 ∨ (way[k].toNat : Int) = 82) → ev = if (way.data.toList.take (k + 1)).all isLR = true then 0 else 1 := by
        intro h
        rw [HG.out true ((isLR_iff _).2 h), Bool.and_true]
        exact ht.out
      have HY := hid hyes
      clear hyes
      by_cases h1 : (way[k].toNat : Int) = 76
      · have HN := hid (HY.out (.inl h1))
        go_wp2_with fail
        go_round
        case rel => exact ⟨k + 1, ev, by omega, by go_num, rfl, HN⟩
        case measure => simp [intOf]; omega
      · by_cases h2 : (way[k].toNat : Int) = 82
        · have HN := hid (HY.out (.inr h2))
          go_wp2_with fail
          go_round
          case rel => exact ⟨k + 1, ev, by omega, by go_num, rfl, HN⟩
          case measure => simp [intOf]; omega
        · have HN := hid (show (1 : Int) = if (way.data.toList.take (k + 1)).all isLR = true then 0 else 1 by
            rw [HG.out false (by
              cases hb : isLR way[k] with
              | false => rfl
              | true => rcases (isLR_iff _).1 hb with e | e; exact absurd e h1; exact absurd e h2), Bool.and_false]; rfl)
          have h3 : ((way[k].toNat : Int) != 76) = true := by simpa using h1
          have h4 : ((way[k].toNat : Int) != 82) = true := by simpa using h2
          go_wp2_with fail
          go_round
          case rel => exact ⟨k + 1, 1, by omega, by go_num, rfl, HN⟩
          case measure => simp [intOf]; omega
    · obtain rfl : k = way.size := by omega
      have hall : way.data.toList.take way.size = way.data.toList := List.take_of_length_le (by simp)
      have hlen : way.data.toList.length = way.size := by simp
      rw [hall] at ht
      have HLN := hid hlen
      clear hall hlen
      by_cases hlr : way.data.toList.all isLR = true
      · obtain rfl : ev = 0 := by rw [ht.out, if_pos hlr]
        by_cases h30 : way.size ≤ 30
        · have HE := hid (show wayE way.data.toList = 0 by rw [wayE, if_pos hlr, if_pos (by rw [HLN.out]; exact h30)])
          have h31 : (way.size : Int) ≤ 30 := by omega
          clear hlr ht
          go_wp2_with fail
          refine (ratway (s := way) (by rw [HLN.out]; omega) w44).mono ?_
          rintro e w701 ⟨v, u, rfl, hv, hu, hb⟩
          obtain ⟨px, nx_, cx, rfl⟩ := hv.slice
          obtain ⟨py, ny, cy, rfl⟩ := hu.slice
          replace B := bb B hb
          have HM := hid hv.value
          have HN := hid hu.value
          clear hb hv hu
          go_wp2_with fail
          refine (rover (k := 3) HM.out HN.out.nat (uni0.wlk way.data.toList).mpos.2 (by decide)).mono ?_
          rintro e w702 ⟨v, rfl, hv, hb⟩
          have hcc : QR _ _ (endq way.data.toList) 3 := hv
          obtain ⟨s8a, p8a, n8a, c8a, p8b, n8b, c8b, rfl⟩ := hcc.opened
          obtain ⟨ht8, hu8⟩ := hcc.two
          replace B := bb B hb
          have HN8 := hid ht8
          have HD8 := hid hu8
          clear hb hv hcc ht8 hu8
          go_wp2_with fail
          refine (rqtext (QR.mk2 HN8.out HD8.out) (by decide)).mono ?_
          rintro e w703 ⟨rfl, hb⟩
          replace B := bb B hb
          clear hb 
          go_wp2_with fail
          refine (at_ok HE.out w703).mono ?_
          rintro e w704 ⟨rfl, hb⟩
          replace B := bb B hb
          clear hb 
          go_wp2_with fail
          refine (same_nil w704 (HDR.out.below B.out)).mono ?_
          rintro e w705 ⟨rfl, hb⟩
          replace B := bb B hb
          clear hb 
          go_wp2_with fail
          go_ret
          exact ⟨rfl, B.out⟩
        · have HE := hid (show wayE way.data.toList = 4 by rw [wayE, if_pos hlr, if_neg (by rw [HLN.out]; exact h30)])
          have h31 : (30 : Int) < (way.size : Int) := by omega
          clear hlr ht
          go_wp2_with fail
          refine (at_wrong sw HE.out (by decide) w44).mono ?_
          rintro e w801 ⟨rfl, hb⟩
          replace B := bb B hb
          clear hb 
          go_wp2_with fail
          refine (same_no 4 (by decide) w801 (HDR.out.below B.out)).mono ?_
          rintro e w802 ⟨rfl, hb⟩
          replace B := bb B hb
          clear hb 
          go_wp2_with fail
          go_ret
          exact ⟨rfl, B.out⟩
      · obtain rfl : ev = 1 := by rw [ht.out, if_neg hlr]
        have HE := hid (show wayE way.data.toList = 1 by rw [wayE, if_neg hlr])
        clear hlr ht
        go_wp2_with fail
        refine (at_wrong sw HE.out (by decide) w44).mono ?_
        rintro e w901 ⟨rfl, hb⟩
        replace B := bb B hb
        clear hb 
        go_wp2_with fail
        refine (same_no 1 (by decide) w901 (HDR.out.below B.out)).mono ?_
        rintro e w902 ⟨rfl, hb⟩
        replace B := bb B hb
        clear hb 
        go_wp2_with fail
        go_ret
        exact ⟨rfl, B.out⟩

end Go.Proofs.YteephnbfdblgeaaGreatDoor

/-
  THE LAW FareyTells' WALK.
-/
namespace Go.Proofs.YteephnbfdblgeaaGreatDoor
open Go.RowKit
open Num4
open Num (dg isNat dval)
set_option linter.unusedVariables false
set_option maxRecDepth 100000
set_option linter.unusedSimpArgs false

theorem ftells_walk (a b way : ByteArray) (sa : a.size ≤ maxLen) (sb : b.size ≤ maxLen) (sw : way.size ≤ maxLen) (w : World) (hd : Door w) :
    Calls Tryz.prog 3 #[.string a, .string b, .string way] w fun e w' => e = .returned (.bool true) ∧ Below w.heap.size w w' := by
  rcases goodQ_or_bad a with ha | ⟨ka, ha⟩
  · rcases goodQ_or_bad b with hb | ⟨kb, hb⟩
    · by_cases hp : 0 < (qnum a).num
      · cases hw : wayq (qnum a) with
        | none => exact ftells_gn a b way sa sb sw w (ka := 0) (kb := 0) (l := []) ha hb hp hw hd
        | some l => exact ftells_gs a b way sa sb sw w (ka := 0) (kb := 0) ha hb hp hw hd
      · exact ftells_gr a b way sa sb sw w (ka := 0) (kb := 0) (l := []) ha hb (by omega) hd
    · by_cases hp : 0 < (qnum a).num
      · cases hw : wayq (qnum a) with
        | none => exact ftells_bn a b way sa sb sw w (ka := 0) (l := []) ha hb hp hw hd
        | some l => exact ftells_bs a b way sa sb sw w (ka := 0) ha hb hp hw hd
      · exact ftells_br a b way sa sb sw w (ka := 0) (l := []) ha hb (by omega) hd
  · exact ftells_ax a b way sa sb sw w (kb := 0) (l := []) ha hd

end Go.Proofs.YteephnbfdblgeaaGreatDoor
