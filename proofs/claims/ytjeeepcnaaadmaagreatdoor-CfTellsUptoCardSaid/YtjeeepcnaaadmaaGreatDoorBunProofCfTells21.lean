import Derived.Test.YtjeeepcnaaadmaaGreatDoorBunProofCfTells20
import Derived.Test.YtjeeepcnaaadmaaGreatDoorBunProofCfTells19
import Derived.Test.YtjeeepcnaaadmaaGreatDoorBunProofCfTells13
import Derived.Test.YtjeeepcnaaadmaaGreatDoorBunProofCfTells8
/-
  THE REFERENCE: Two.
-/
namespace Go.Proofs.YtjeeepcnaaadmaaGreatDoor
open Go.RowKit
open Num4
open Num (dg isNat dval)
set_option linter.unusedVariables false
set_option maxRecDepth 100000
set_option linter.unusedSimpArgs false

set_option maxHeartbeats 4000000 in
theorem rtwo1 {a b : ByteArray} {k : Int} (h1 : BadQ a k) (ha : a.size ≤ maxLen) (hb0 : b.size ≤ maxLen) (w : World) :
    Calls Tryz.prog 13 #[.string a, .string b] w fun e w' => ∃ s5a p5a n5a c5a p5b n5b c5b s6a p6a n6a c6a p6b n6b c6b, e = .returned (.tuple #[.agg #[.bool s5a, .slice p5a n5a c5a, .slice p5b n5b c5b], .agg #[.bool s6a, .slice p6a n6a c6a, .slice p6b n6b c6b], .int .i64 k]) ∧ Below w.heap.size w w' := by
  have H1 := hid h1
  have hk0 : ¬ k = 0 := h1.ne
  have B := hid (Below.refl w.heap.size w)
  have hb1 := (Below.refl _ _).alloc (Nat.le_refl w.heap.size) (.cells #[.bool false, .slice none 0 0, .slice none 0 0] 28)
  have hx2 := Qbx.new w false none 0 0 none 0 0
  replace B := bb B hb1
  have R1 := hid hx2
  have hs3 : (w.alloc (.cells #[.bool false, .slice none 0 0, .slice none 0 0] 28)).heap.size = w.heap.size + 1 := by simp
  clear hb1 hx2
  have hb4 := (Below.refl _ _).alloc (Nat.le_refl (w.alloc (.cells #[.bool false, .slice none 0 0, .slice none 0 0] 28)).heap.size) (.cells #[.bool false, .slice none 0 0, .slice none 0 0] 28)
  have hx5 := Qbx.new (w.alloc (.cells #[.bool false, .slice none 0 0, .slice none 0 0] 28)) false none 0 0 none 0 0
  rw [hs3] at hx5
  replace R1 := qx R1 hb4
  replace B := bb B hb4
  have R2 := hid hx5
  have hs6 : ((w.alloc (.cells #[.bool false, .slice none 0 0, .slice none 0 0] 28)).alloc (.cells #[.bool false, .slice none 0 0, .slice none 0 0] 28)).heap.size = w.heap.size + 1 + 1 := by simp [hs3]
  clear hb4 hx5
  clear hs6 h1
  go_enter Tryz.func13, Tryz.ntmps13
  obtain ⟨cc7a, cc7b, cc7c⟩ := R1.out.cells
  obtain ⟨cc8a, cc8b, cc8c⟩ := R2.out.cells
  go_wp2_with fail
  generalize hW : (w.alloc (.cells #[.bool false, .slice none 0 0, .slice none 0 0] 28)).alloc (.cells #[.bool false, .slice none 0 0, .slice none 0 0] 28) = W9 at *
  clear hW
  refine (ratof_bad H1.out _ ha).mono ?_
  rintro e w10 ⟨s5a, p5a, n5a, c5a, p5b, n5b, c5b, rfl, hb⟩
  replace R1 := qx R1 hb
  replace R2 := qx R2 hb
  replace B := bb B hb
  clear cc7a cc7b cc7c cc8a cc8b cc8c
  clear hb 
  have hb11 := (Below.refl _ _).alloc (Nat.le_refl w10.heap.size) (.cells #[.bool s5a, .slice p5a n5a c5a, .slice p5b n5b c5b] 28)
  have hx12 := Qbx.new w10 s5a p5a n5a c5a p5b n5b c5b
  have L0 := hid R2.out.lt
  replace R1 := qx R1 hb11
  replace R2 := qx R2 hb11
  replace B := bb B hb11
  have X7 := hid hx12
  have hs13 : (w10.alloc (.cells #[.bool s5a, .slice p5a n5a c5a, .slice p5b n5b c5b] 28)).heap.size = w10.heap.size + 1 := by simp
  clear hb11 hx12
  obtain ⟨cc14a, cc14b, cc14c⟩ := R1.out.cells
  obtain ⟨cc15a, cc15b, cc15c⟩ := R2.out.cells
  obtain ⟨cc16a, cc16b, cc16c⟩ := X7.out.cells
  go_wp2_with fail
  generalize hW : w10.alloc (.cells #[.bool s5a, .slice p5a n5a c5a, .slice p5b n5b c5b] 28) = W17 at *
  clear hW
  obtain ⟨cc18a, cc18b, cc18c⟩ := X7.out.cells
  obtain ⟨⟨cc19a, cc19b⟩, ⟨cc19c, cc19d⟩, cc19e, cc19f⟩ := R1.out.stores
  obtain ⟨r20a, r20b, r20c⟩ := R1.out.last B.out (by have := L0.out; omega) s5a p5a n5a c5a p5b n5b c5b
  replace R2 := hid (((R2.out.other (g2 := w.heap.size) (by have := L0.out; omega) 0 (.bool s5a)).other (g2 := w.heap.size) (by have := L0.out; omega) 1 (.slice p5a n5a c5a)).other (g2 := w.heap.size) (by have := L0.out; omega) 2 (.slice p5b n5b c5b))
  replace X7 := hid (((X7.out.other (g2 := w.heap.size) (by have := L0.out; omega) 0 (.bool s5a)).other (g2 := w.heap.size) (by have := L0.out; omega) 1 (.slice p5a n5a c5a)).other (g2 := w.heap.size) (by have := L0.out; omega) 2 (.slice p5b n5b c5b))
  replace R1 := hid r20a
  replace B := hid r20b
  clear r20a r20b r20c
  obtain ⟨cc21a, cc21b, cc21c⟩ := X7.out.cells
  obtain ⟨⟨cc22a, cc22b⟩, ⟨cc22c, cc22d⟩, cc22e, cc22f⟩ := R2.out.stores
  obtain ⟨r23a, r23b, r23c⟩ := R2.out.last B.out (by have := L0.out; omega) s5a p5a n5a c5a p5b n5b c5b
  replace R1 := hid (((R1.out.other (g2 := w.heap.size + 1) (by have := L0.out; omega) 0 (.bool s5a)).other (g2 := w.heap.size + 1) (by have := L0.out; omega) 1 (.slice p5a n5a c5a)).other (g2 := w.heap.size + 1) (by have := L0.out; omega) 2 (.slice p5b n5b c5b))
  replace X7 := hid (((X7.out.other (g2 := w.heap.size + 1) (by have := L0.out; omega) 0 (.bool s5a)).other (g2 := w.heap.size + 1) (by have := L0.out; omega) 1 (.slice p5a n5a c5a)).other (g2 := w.heap.size + 1) (by have := L0.out; omega) 2 (.slice p5b n5b c5b))
  replace R2 := hid r23a
  replace B := hid r23b
  clear r23a r23b r23c
  obtain ⟨cc24a, cc24b, cc24c⟩ := X7.out.cells
  go_region_held3 (fun w' => w'.cell? ⟨w10.heap.size, 0, none⟩ = some (.bool s5a) ∧ w'.cell? ⟨w10.heap.size, 1, none⟩ = some (.slice p5a n5a c5a) ∧ w'.cell? ⟨w10.heap.size, 2, none⟩ = some (.slice p5b n5b c5b)) (go_keep) (first | fail)
  replace R1 := hid R1.out.dr
  replace R2 := hid R2.out.dr
  replace X7 := hid X7.out.dr
  replace B := hid (Below.drew B.out)
  go_wp2_with fail
  refine bodyPost_ret (res_qq_tmp rfl rfl rfl rfl R1.out R2.out) rfl ?_
  exact ⟨_, _, _, _, _, _, _, _, _, _, _, _, _, _, rfl, B.out⟩

set_option maxHeartbeats 4000000 in
theorem rtwo2 {a b : ByteArray} {k : Int} (h1 : GoodQ a) (h2 : BadQ b k) (ha : a.size ≤ maxLen) (hb0 : b.size ≤ maxLen) (w : World) :
    Calls Tryz.prog 13 #[.string a, .string b] w fun e w' => ∃ s5a p5a n5a c5a p5b n5b c5b s6a p6a n6a c6a p6b n6b c6b, e = .returned (.tuple #[.agg #[.bool s5a, .slice p5a n5a c5a, .slice p5b n5b c5b], .agg #[.bool s6a, .slice p6a n6a c6a, .slice p6b n6b c6b], .int .i64 k]) ∧ Below w.heap.size w w' := by
  have H1 := hid h1
  have H2 := hid h2
  have hk0 : ¬ k = 0 := h2.ne
  have B := hid (Below.refl w.heap.size w)
  have hb1 := (Below.refl _ _).alloc (Nat.le_refl w.heap.size) (.cells #[.bool false, .slice none 0 0, .slice none 0 0] 28)
  have hx2 := Qbx.new w false none 0 0 none 0 0
  replace B := bb B hb1
  have R1 := hid hx2
  have hs3 : (w.alloc (.cells #[.bool false, .slice none 0 0, .slice none 0 0] 28)).heap.size = w.heap.size + 1 := by simp
  clear hb1 hx2
  have hb4 := (Below.refl _ _).alloc (Nat.le_refl (w.alloc (.cells #[.bool false, .slice none 0 0, .slice none 0 0] 28)).heap.size) (.cells #[.bool false, .slice none 0 0, .slice none 0 0] 28)
  have hx5 := Qbx.new (w.alloc (.cells #[.bool false, .slice none 0 0, .slice none 0 0] 28)) false none 0 0 none 0 0
  rw [hs3] at hx5
  replace R1 := qx R1 hb4
  replace B := bb B hb4
  have R2 := hid hx5
  have hs6 : ((w.alloc (.cells #[.bool false, .slice none 0 0, .slice none 0 0] 28)).alloc (.cells #[.bool false, .slice none 0 0, .slice none 0 0] 28)).heap.size = w.heap.size + 1 + 1 := by simp [hs3]
  clear hb4 hx5
  clear hs6 h1 h2
  go_enter Tryz.func13, Tryz.ntmps13
  obtain ⟨cc7a, cc7b, cc7c⟩ := R1.out.cells
  obtain ⟨cc8a, cc8b, cc8c⟩ := R2.out.cells
  go_wp2_with fail
  generalize hW : (w.alloc (.cells #[.bool false, .slice none 0 0, .slice none 0 0] 28)).alloc (.cells #[.bool false, .slice none 0 0, .slice none 0 0] 28) = W9 at *
  clear hW
  refine (ratof_good H1.out _).mono ?_
  rintro e w10 ⟨v, rfl, hv, hb⟩
  obtain ⟨s5a, p5a, n5a, c5a, p5b, n5b, c5b, rfl⟩ := hv.opened
  obtain ⟨ht5, hu5⟩ := hv.two
  replace R1 := qx R1 hb
  replace R2 := qx R2 hb
  replace B := bb B hb
  clear cc7a cc7b cc7c cc8a cc8b cc8c
  have HN5 := hid ht5
  have HD5 := hid hu5
  clear hb hv ht5 hu5
  have hb11 := (Below.refl _ _).alloc (Nat.le_refl w10.heap.size) (.cells #[.bool s5a, .slice p5a n5a c5a, .slice p5b n5b c5b] 28)
  have hx12 := Qbx.new w10 s5a p5a n5a c5a p5b n5b c5b
  have L0 := hid R2.out.lt
  replace R1 := qx R1 hb11
  replace R2 := qx R2 hb11
  replace HN5 := wr HN5 hb11
  replace HD5 := wr HD5 hb11
  replace B := bb B hb11
  have X7 := hid hx12
  have hs13 : (w10.alloc (.cells #[.bool s5a, .slice p5a n5a c5a, .slice p5b n5b c5b] 28)).heap.size = w10.heap.size + 1 := by simp
  clear hb11 hx12
  obtain ⟨cc14a, cc14b, cc14c⟩ := R1.out.cells
  obtain ⟨cc15a, cc15b, cc15c⟩ := R2.out.cells
  obtain ⟨cc16a, cc16b, cc16c⟩ := X7.out.cells
  go_wp2_with fail
  generalize hW : w10.alloc (.cells #[.bool s5a, .slice p5a n5a c5a, .slice p5b n5b c5b] 28) = W17 at *
  clear hW
  refine (ratof_bad H2.out _ hb0).mono ?_
  rintro e w18 ⟨s6a, p6a, n6a, c6a, p6b, n6b, c6b, rfl, hb⟩
  replace R1 := qx R1 hb
  replace R2 := qx R2 hb
  replace X7 := qx X7 hb
  replace HN5 := wr HN5 hb
  replace HD5 := wr HD5 hb
  replace B := bb B hb
  clear cc14a cc14b cc14c cc15a cc15b cc15c cc16a cc16b cc16c
  clear hb 
  have hb19 := (Below.refl _ _).alloc (Nat.le_refl w18.heap.size) (.cells #[.bool s6a, .slice p6a n6a c6a, .slice p6b n6b c6b] 28)
  have hx20 := Qbx.new w18 s6a p6a n6a c6a p6b n6b c6b
  have L1 := hid X7.out.lt
  replace R1 := qx R1 hb19
  replace R2 := qx R2 hb19
  replace X7 := qx X7 hb19
  replace HN5 := wr HN5 hb19
  replace HD5 := wr HD5 hb19
  replace B := bb B hb19
  have X9 := hid hx20
  have hs21 : (w18.alloc (.cells #[.bool s6a, .slice p6a n6a c6a, .slice p6b n6b c6b] 28)).heap.size = w18.heap.size + 1 := by simp
  clear hb19 hx20
  obtain ⟨cc22a, cc22b, cc22c⟩ := R1.out.cells
  obtain ⟨cc23a, cc23b, cc23c⟩ := R2.out.cells
  obtain ⟨cc24a, cc24b, cc24c⟩ := X7.out.cells
  obtain ⟨cc25a, cc25b, cc25c⟩ := X9.out.cells
  go_wp2_with fail
  generalize hW : w18.alloc (.cells #[.bool s6a, .slice p6a n6a c6a, .slice p6b n6b c6b] 28) = W26 at *
  clear hW
  obtain ⟨cc27a, cc27b, cc27c⟩ := X7.out.cells
  obtain ⟨cc28a, cc28b, cc28c⟩ := X9.out.cells
  obtain ⟨⟨cc29a, cc29b⟩, ⟨cc29c, cc29d⟩, cc29e, cc29f⟩ := R1.out.stores
  obtain ⟨r30a, r30b, r30c⟩ := R1.out.last B.out (by have := L0.out; have := L1.out; omega) s5a p5a n5a c5a p5b n5b c5b
  replace R2 := hid (((R2.out.other (g2 := w.heap.size) (by have := L0.out; have := L1.out; omega) 0 (.bool s5a)).other (g2 := w.heap.size) (by have := L0.out; have := L1.out; omega) 1 (.slice p5a n5a c5a)).other (g2 := w.heap.size) (by have := L0.out; have := L1.out; omega) 2 (.slice p5b n5b c5b))
  replace X7 := hid (((X7.out.other (g2 := w.heap.size) (by have := L0.out; have := L1.out; omega) 0 (.bool s5a)).other (g2 := w.heap.size) (by have := L0.out; have := L1.out; omega) 1 (.slice p5a n5a c5a)).other (g2 := w.heap.size) (by have := L0.out; have := L1.out; omega) 2 (.slice p5b n5b c5b))
  replace X9 := hid (((X9.out.other (g2 := w.heap.size) (by have := L0.out; have := L1.out; omega) 0 (.bool s5a)).other (g2 := w.heap.size) (by have := L0.out; have := L1.out; omega) 1 (.slice p5a n5a c5a)).other (g2 := w.heap.size) (by have := L0.out; have := L1.out; omega) 2 (.slice p5b n5b c5b))
  replace HN5 := hid (r30c HN5.out)
  replace HD5 := hid (r30c HD5.out)
  replace R1 := hid r30a
  replace B := hid r30b
  clear r30a r30b r30c
  obtain ⟨cc31a, cc31b, cc31c⟩ := X7.out.cells
  obtain ⟨cc32a, cc32b, cc32c⟩ := X9.out.cells
  obtain ⟨⟨cc33a, cc33b⟩, ⟨cc33c, cc33d⟩, cc33e, cc33f⟩ := R2.out.stores
  obtain ⟨r34a, r34b, r34c⟩ := R2.out.last B.out (by have := L0.out; have := L1.out; omega) s6a p6a n6a c6a p6b n6b c6b
  replace R1 := hid (((R1.out.other (g2 := w.heap.size + 1) (by have := L0.out; have := L1.out; omega) 0 (.bool s6a)).other (g2 := w.heap.size + 1) (by have := L0.out; have := L1.out; omega) 1 (.slice p6a n6a c6a)).other (g2 := w.heap.size + 1) (by have := L0.out; have := L1.out; omega) 2 (.slice p6b n6b c6b))
  replace X7 := hid (((X7.out.other (g2 := w.heap.size + 1) (by have := L0.out; have := L1.out; omega) 0 (.bool s6a)).other (g2 := w.heap.size + 1) (by have := L0.out; have := L1.out; omega) 1 (.slice p6a n6a c6a)).other (g2 := w.heap.size + 1) (by have := L0.out; have := L1.out; omega) 2 (.slice p6b n6b c6b))
  replace X9 := hid (((X9.out.other (g2 := w.heap.size + 1) (by have := L0.out; have := L1.out; omega) 0 (.bool s6a)).other (g2 := w.heap.size + 1) (by have := L0.out; have := L1.out; omega) 1 (.slice p6a n6a c6a)).other (g2 := w.heap.size + 1) (by have := L0.out; have := L1.out; omega) 2 (.slice p6b n6b c6b))
  replace HN5 := hid (r34c HN5.out)
  replace HD5 := hid (r34c HD5.out)
  replace R2 := hid r34a
  replace B := hid r34b
  clear r34a r34b r34c
  obtain ⟨cc35a, cc35b, cc35c⟩ := X7.out.cells
  obtain ⟨cc36a, cc36b, cc36c⟩ := X9.out.cells
  go_region_held3 (fun w' => w'.cell? ⟨w10.heap.size, 0, none⟩ = some (.bool s5a) ∧ w'.cell? ⟨w10.heap.size, 1, none⟩ = some (.slice p5a n5a c5a) ∧ w'.cell? ⟨w10.heap.size, 2, none⟩ = some (.slice p5b n5b c5b) ∧ w'.cell? ⟨w18.heap.size, 0, none⟩ = some (.bool s6a) ∧ w'.cell? ⟨w18.heap.size, 1, none⟩ = some (.slice p6a n6a c6a) ∧ w'.cell? ⟨w18.heap.size, 2, none⟩ = some (.slice p6b n6b c6b)) (go_keep) (first | fail)
  replace R1 := hid R1.out.dr
  replace R2 := hid R2.out.dr
  replace X7 := hid X7.out.dr
  replace X9 := hid X9.out.dr
  replace HN5 := hid HN5.out.drew
  replace HD5 := hid HD5.out.drew
  replace B := hid (Below.drew B.out)
  go_wp2_with fail
  refine bodyPost_ret (res_qq_tmp rfl rfl rfl rfl R1.out R2.out) rfl ?_
  exact ⟨_, _, _, _, _, _, _, _, _, _, _, _, _, _, rfl, B.out⟩

set_option maxHeartbeats 4000000 in
theorem rtwo3 {a b : ByteArray} {k : Int} (h1 : GoodQ a) (h2 : GoodQ b) (ha : a.size ≤ maxLen) (hb0 : b.size ≤ maxLen) (w : World) :
    Calls Tryz.prog 13 #[.string a, .string b] w fun e w' => ∃ v u, e = .returned (.tuple #[v, u, .int .i64 0]) ∧ QR w' v (qnum a) 100 ∧ QR w' u (qnum b) 100 ∧ Below w.heap.size w w' := by
  have H1 := hid h1
  have H2 := hid h2
  have B := hid (Below.refl w.heap.size w)
  have hb1 := (Below.refl _ _).alloc (Nat.le_refl w.heap.size) (.cells #[.bool false, .slice none 0 0, .slice none 0 0] 28)
  have hx2 := Qbx.new w false none 0 0 none 0 0
  replace B := bb B hb1
  have R1 := hid hx2
  have hs3 : (w.alloc (.cells #[.bool false, .slice none 0 0, .slice none 0 0] 28)).heap.size = w.heap.size + 1 := by simp
  clear hb1 hx2
  have hb4 := (Below.refl _ _).alloc (Nat.le_refl (w.alloc (.cells #[.bool false, .slice none 0 0, .slice none 0 0] 28)).heap.size) (.cells #[.bool false, .slice none 0 0, .slice none 0 0] 28)
  have hx5 := Qbx.new (w.alloc (.cells #[.bool false, .slice none 0 0, .slice none 0 0] 28)) false none 0 0 none 0 0
  rw [hs3] at hx5
  replace R1 := qx R1 hb4
  replace B := bb B hb4
  have R2 := hid hx5
  have hs6 : ((w.alloc (.cells #[.bool false, .slice none 0 0, .slice none 0 0] 28)).alloc (.cells #[.bool false, .slice none 0 0, .slice none 0 0] 28)).heap.size = w.heap.size + 1 + 1 := by simp [hs3]
  clear hb4 hx5
  clear hs6 h1 h2
  go_enter Tryz.func13, Tryz.ntmps13
  obtain ⟨cc7a, cc7b, cc7c⟩ := R1.out.cells
  obtain ⟨cc8a, cc8b, cc8c⟩ := R2.out.cells
  go_wp2_with fail
  generalize hW : (w.alloc (.cells #[.bool false, .slice none 0 0, .slice none 0 0] 28)).alloc (.cells #[.bool false, .slice none 0 0, .slice none 0 0] 28) = W9 at *
  clear hW
  refine (ratof_good H1.out _).mono ?_
  rintro e w10 ⟨v, rfl, hv, hb⟩
  obtain ⟨s5a, p5a, n5a, c5a, p5b, n5b, c5b, rfl⟩ := hv.opened
  obtain ⟨ht5, hu5⟩ := hv.two
  replace R1 := qx R1 hb
  replace R2 := qx R2 hb
  replace B := bb B hb
  clear cc7a cc7b cc7c cc8a cc8b cc8c
  have HN5 := hid ht5
  have HD5 := hid hu5
  clear hb hv ht5 hu5
  have hb11 := (Below.refl _ _).alloc (Nat.le_refl w10.heap.size) (.cells #[.bool s5a, .slice p5a n5a c5a, .slice p5b n5b c5b] 28)
  have hx12 := Qbx.new w10 s5a p5a n5a c5a p5b n5b c5b
  have L0 := hid R2.out.lt
  replace R1 := qx R1 hb11
  replace R2 := qx R2 hb11
  replace HN5 := wr HN5 hb11
  replace HD5 := wr HD5 hb11
  replace B := bb B hb11
  have X7 := hid hx12
  have hs13 : (w10.alloc (.cells #[.bool s5a, .slice p5a n5a c5a, .slice p5b n5b c5b] 28)).heap.size = w10.heap.size + 1 := by simp
  clear hb11 hx12
  obtain ⟨cc14a, cc14b, cc14c⟩ := R1.out.cells
  obtain ⟨cc15a, cc15b, cc15c⟩ := R2.out.cells
  obtain ⟨cc16a, cc16b, cc16c⟩ := X7.out.cells
  go_wp2_with fail
  generalize hW : w10.alloc (.cells #[.bool s5a, .slice p5a n5a c5a, .slice p5b n5b c5b] 28) = W17 at *
  clear hW
  refine (ratof_good H2.out _).mono ?_
  rintro e w18 ⟨v, rfl, hv, hb⟩
  obtain ⟨s6a, p6a, n6a, c6a, p6b, n6b, c6b, rfl⟩ := hv.opened
  obtain ⟨ht6, hu6⟩ := hv.two
  replace R1 := qx R1 hb
  replace R2 := qx R2 hb
  replace X7 := qx X7 hb
  replace HN5 := wr HN5 hb
  replace HD5 := wr HD5 hb
  replace B := bb B hb
  clear cc14a cc14b cc14c cc15a cc15b cc15c cc16a cc16b cc16c
  have HN6 := hid ht6
  have HD6 := hid hu6
  clear hb hv ht6 hu6
  have hb19 := (Below.refl _ _).alloc (Nat.le_refl w18.heap.size) (.cells #[.bool s6a, .slice p6a n6a c6a, .slice p6b n6b c6b] 28)
  have hx20 := Qbx.new w18 s6a p6a n6a c6a p6b n6b c6b
  have L1 := hid X7.out.lt
  replace R1 := qx R1 hb19
  replace R2 := qx R2 hb19
  replace X7 := qx X7 hb19
  replace HN5 := wr HN5 hb19
  replace HD5 := wr HD5 hb19
  replace HN6 := wr HN6 hb19
  replace HD6 := wr HD6 hb19
  replace B := bb B hb19
  have X9 := hid hx20
  have hs21 : (w18.alloc (.cells #[.bool s6a, .slice p6a n6a c6a, .slice p6b n6b c6b] 28)).heap.size = w18.heap.size + 1 := by simp
  clear hb19 hx20
  obtain ⟨cc22a, cc22b, cc22c⟩ := R1.out.cells
  obtain ⟨cc23a, cc23b, cc23c⟩ := R2.out.cells
  obtain ⟨cc24a, cc24b, cc24c⟩ := X7.out.cells
  obtain ⟨cc25a, cc25b, cc25c⟩ := X9.out.cells
  go_wp2_with fail
  generalize hW : w18.alloc (.cells #[.bool s6a, .slice p6a n6a c6a, .slice p6b n6b c6b] 28) = W26 at *
  clear hW
  obtain ⟨cc27a, cc27b, cc27c⟩ := X7.out.cells
  obtain ⟨cc28a, cc28b, cc28c⟩ := X9.out.cells
  obtain ⟨⟨cc29a, cc29b⟩, ⟨cc29c, cc29d⟩, cc29e, cc29f⟩ := R1.out.stores
  obtain ⟨r30a, r30b, r30c⟩ := R1.out.last B.out (by have := L0.out; have := L1.out; omega) s5a p5a n5a c5a p5b n5b c5b
  replace R2 := hid (((R2.out.other (g2 := w.heap.size) (by have := L0.out; have := L1.out; omega) 0 (.bool s5a)).other (g2 := w.heap.size) (by have := L0.out; have := L1.out; omega) 1 (.slice p5a n5a c5a)).other (g2 := w.heap.size) (by have := L0.out; have := L1.out; omega) 2 (.slice p5b n5b c5b))
  replace X7 := hid (((X7.out.other (g2 := w.heap.size) (by have := L0.out; have := L1.out; omega) 0 (.bool s5a)).other (g2 := w.heap.size) (by have := L0.out; have := L1.out; omega) 1 (.slice p5a n5a c5a)).other (g2 := w.heap.size) (by have := L0.out; have := L1.out; omega) 2 (.slice p5b n5b c5b))
  replace X9 := hid (((X9.out.other (g2 := w.heap.size) (by have := L0.out; have := L1.out; omega) 0 (.bool s5a)).other (g2 := w.heap.size) (by have := L0.out; have := L1.out; omega) 1 (.slice p5a n5a c5a)).other (g2 := w.heap.size) (by have := L0.out; have := L1.out; omega) 2 (.slice p5b n5b c5b))
  replace HN5 := hid (r30c HN5.out)
  replace HD5 := hid (r30c HD5.out)
  replace HN6 := hid (r30c HN6.out)
  replace HD6 := hid (r30c HD6.out)
  replace R1 := hid r30a
  replace B := hid r30b
  clear r30a r30b r30c
  obtain ⟨cc31a, cc31b, cc31c⟩ := X7.out.cells
  obtain ⟨cc32a, cc32b, cc32c⟩ := X9.out.cells
  obtain ⟨⟨cc33a, cc33b⟩, ⟨cc33c, cc33d⟩, cc33e, cc33f⟩ := R2.out.stores
  obtain ⟨r34a, r34b, r34c⟩ := R2.out.last B.out (by have := L0.out; have := L1.out; omega) s6a p6a n6a c6a p6b n6b c6b
  replace R1 := hid (((R1.out.other (g2 := w.heap.size + 1) (by have := L0.out; have := L1.out; omega) 0 (.bool s6a)).other (g2 := w.heap.size + 1) (by have := L0.out; have := L1.out; omega) 1 (.slice p6a n6a c6a)).other (g2 := w.heap.size + 1) (by have := L0.out; have := L1.out; omega) 2 (.slice p6b n6b c6b))
  replace X7 := hid (((X7.out.other (g2 := w.heap.size + 1) (by have := L0.out; have := L1.out; omega) 0 (.bool s6a)).other (g2 := w.heap.size + 1) (by have := L0.out; have := L1.out; omega) 1 (.slice p6a n6a c6a)).other (g2 := w.heap.size + 1) (by have := L0.out; have := L1.out; omega) 2 (.slice p6b n6b c6b))
  replace X9 := hid (((X9.out.other (g2 := w.heap.size + 1) (by have := L0.out; have := L1.out; omega) 0 (.bool s6a)).other (g2 := w.heap.size + 1) (by have := L0.out; have := L1.out; omega) 1 (.slice p6a n6a c6a)).other (g2 := w.heap.size + 1) (by have := L0.out; have := L1.out; omega) 2 (.slice p6b n6b c6b))
  replace HN5 := hid (r34c HN5.out)
  replace HD5 := hid (r34c HD5.out)
  replace HN6 := hid (r34c HN6.out)
  replace HD6 := hid (r34c HD6.out)
  replace R2 := hid r34a
  replace B := hid r34b
  clear r34a r34b r34c
  obtain ⟨cc35a, cc35b, cc35c⟩ := X7.out.cells
  obtain ⟨cc36a, cc36b, cc36c⟩ := X9.out.cells
  go_region_held3 (fun w' => w'.cell? ⟨w10.heap.size, 0, none⟩ = some (.bool s5a) ∧ w'.cell? ⟨w10.heap.size, 1, none⟩ = some (.slice p5a n5a c5a) ∧ w'.cell? ⟨w10.heap.size, 2, none⟩ = some (.slice p5b n5b c5b) ∧ w'.cell? ⟨w18.heap.size, 0, none⟩ = some (.bool s6a) ∧ w'.cell? ⟨w18.heap.size, 1, none⟩ = some (.slice p6a n6a c6a) ∧ w'.cell? ⟨w18.heap.size, 2, none⟩ = some (.slice p6b n6b c6b)) (go_keep) (first | fail)
  replace R1 := hid R1.out.dr
  replace R2 := hid R2.out.dr
  replace X7 := hid X7.out.dr
  replace X9 := hid X9.out.dr
  replace HN5 := hid HN5.out.drew
  replace HD5 := hid HD5.out.drew
  replace HN6 := hid HN6.out.drew
  replace HD6 := hid HD6.out.drew
  replace B := hid (Below.drew B.out)
  go_wp2_with fail
  refine bodyPost_ret (res_qq_tmp rfl rfl rfl rfl R1.out R2.out) rfl ?_
  exact ⟨_, _, rfl, QR.mk2 HN5.out HD5.out, QR.mk2 HN6.out HD6.out, B.out⟩

end Go.Proofs.YtjeeepcnaaadmaaGreatDoor

/-
  RatTells: what its walks share.
-/
namespace Go.Proofs.YtjeeepcnaaadmaaGreatDoor
open Go.RowKit
open Num4
open Num (dg isNat dval)
set_option linter.unusedVariables false
set_option maxRecDepth 100000
set_option linter.unusedSimpArgs false

theorem made_neg {n d : Int} (h : d < 0) : Rat.divInt n d = Rat.divInt (-n) (d.natAbs : Int) := by
  have e : d = -(d.natAbs : Int) := by omega
  conv => lhs; rw [e]
  exact Rat.divInt_neg' ..
theorem made_pos {n d : Int} (h : 0 < d) : Rat.divInt n d = Rat.divInt n (d.natAbs : Int) := by
  have e : d = (d.natAbs : Int) := by omega
  conv => lhs; rw [e]
theorem less_sub (q r : Rat) : decide (q < r) = decide ((q - r).num.sign < 0) := by
  apply decide_eq_decide.2
  have h1 : q < r ↔ q - r < 0 := by grind
  rw [h1, Rat.lt_iff]
  simp
theorem BadQ.badZ {s : ByteArray} {k : Int} (h : BadQ s k) : BadZ s k := by
  rcases h with h | ⟨h1, h2, h3⟩
  · exact .inl h
  · refine .inr ⟨h1, ?_, h3⟩
    cases hw : isWhl s.data.toList
    · rfl
    · have := (qnum_whole (s := s) ⟨h1, hw⟩).1.2
      rw [this] at h2; cases h2
theorem BadZ.ne' {s : ByteArray} {k : Int} (h : BadZ s k) : k ≠ 0 := by
  rcases h with ⟨_, rfl⟩ | ⟨_, _, rfl⟩ <;> decide
theorem zero_whole {b : ByteArray} (h : GoodQ b) (h0 : qnum b = 0) : GoodZ b ∧ znum b = 0 := by
  have e := zero_text h h0
  subst e
  exact ⟨⟨by decide, by decide⟩, by decide⟩
theorem whole_zero {b : ByteArray} (h : GoodZ b) (h0 : qnum b ≠ 0) : znum b ≠ 0 := by
  intro e
  apply h0
  rw [(qnum_whole h).2, e]; rfl

end Go.Proofs.YtjeeepcnaaadmaaGreatDoor
