import Derived.Test.YtkdeopikojgboaaGreatDoorBunProofIvalTells21
import Derived.Test.YtkdeopikojgboaaGreatDoorBunProofIvalTells18
import Derived.Test.YtkdeopikojgboaaGreatDoorBunProofIvalTells14
import Derived.Deep.RegionHeld3
/-
  THE REFERENCE: IvalOf.
-/
namespace Go.Proofs.YtkdeopikojgboaaGreatDoor
open Go.RowKit
open Num4
open Num (dg isNat dval)
set_option linter.unusedVariables false
set_option maxRecDepth 100000
set_option linter.unusedSimpArgs false

theorem rsg_num (q r : Rat) : ((q - r).num < 0 ↔ q < r) ∧ (0 < (q - r).num ↔ r < q) := by
  have h1 := Rat.num_nonneg (q := q - r)
  have h2 := Rat.num_nonneg (q := r - q)
  have e : (r - q).num = -(q - r).num := by rw [show r - q = -(q - r) by grind, Rat.neg_num]
  rw [e] at h2
  constructor
  · rw [show (q - r).num < 0 ↔ q - r < 0 by rw [← Rat.not_le, ← h1]; omega]
    constructor <;> intro h <;> grind
  · rw [show 0 < (q - r).num ↔ r - q < 0 by rw [← Rat.not_le, ← h2]; omega]
    constructor <;> intro h <;> grind
theorem rcmpz {w : World} {v u : Value} {q r : Rat} {k : Nat} {z : Int} (hz : (q - r).num.sign = z) (h : QR w v q k) (h' : QR w u r k) (hk : k ≤ 1073741824) :
    Calls Tryz.prog 11 #[v, u] w fun e w' => e = .returned (.int .i64 z) ∧ Below w.heap.size w w' := by
  rw [← hz]
  exact rcmp h h' hk
theorem rsg_lt (q r : Rat) : (q - r).num.sign < 0 ↔ q < r := by rw [Int.sign_neg_iff]; exact (rsg_num q r).1
theorem rsg_gt (q r : Rat) : 0 < (q - r).num.sign ↔ r < q := by rw [Int.sign_pos_iff]; exact (rsg_num q r).2

theorem rtwo_bad {a b : ByteArray} {k : Int} (h : WrongQ a b k) (ha : a.size ≤ maxLen) (hb0 : b.size ≤ maxLen) (w : World) :
    Calls Tryz.prog 22 #[.string a, .string b] w fun e w' => ∃ s5a p5a n5a c5a p5b n5b c5b s6a p6a n6a c6a p6b n6b c6b, e = .returned (.tuple #[.agg #[.bool s5a, .slice p5a n5a c5a, .slice p5b n5b c5b], .agg #[.bool s6a, .slice p6a n6a c6a, .slice p6b n6b c6b], .int .i64 k]) ∧ Below w.heap.size w w' := by
  rcases h with h | ⟨h1, h2⟩
  · exact rtwo1 h ha hb0 w
  · exact rtwo2 h1 h2 ha hb0 w

set_option maxHeartbeats 4000000 in
theorem rivalof_a {a b : ByteArray} {k : Int} (h : WrongQ a b k) (ha : a.size ≤ maxLen) (hb0 : b.size ≤ maxLen) (w : World) :
    Calls Tryz.prog 5 #[.agg #[.string a, .string b]] w fun e w' => ∃ s5a p5a n5a c5a p5b n5b c5b s6a p6a n6a c6a p6b n6b c6b, e = .returned (.tuple #[.agg #[.bool s5a, .slice p5a n5a c5a, .slice p5b n5b c5b], .agg #[.bool s6a, .slice p6a n6a c6a, .slice p6b n6b c6b], .int .i64 k]) ∧ Below w.heap.size w w' := by
  have hk0 : ¬ k = 0 := h.ne
  have H1 := hid (fun w => rtwo_bad h ha hb0 w)
  have B := hid (Below.refl w.heap.size w)
  have hb1 := (Below.refl _ _).alloc (Nat.le_refl w.heap.size) (.cells #[.string a, .string b] 23)
  have hx2 := Vbx.new w a b
  replace B := bb B hb1
  have X1 := hid hx2
  have hs3 : (w.alloc (.cells #[.string a, .string b] 23)).heap.size = w.heap.size + 1 := by simp
  clear hb1 hx2
  have hb4 := (Below.refl _ _).alloc (Nat.le_refl (w.alloc (.cells #[.string a, .string b] 23)).heap.size) (.cells #[.bool false, .slice none 0 0, .slice none 0 0] 30)
  have hx5 := Qbx.new (w.alloc (.cells #[.string a, .string b] 23)) false none 0 0 none 0 0
  rw [hs3] at hx5
  replace X1 := vx X1 hb4
  replace B := bb B hb4
  have R2 := hid hx5
  have hs6 : ((w.alloc (.cells #[.string a, .string b] 23)).alloc (.cells #[.bool false, .slice none 0 0, .slice none 0 0] 30)).heap.size = w.heap.size + 1 + 1 := by simp [hs3]
  clear hb4 hx5
  have hb7 := (Below.refl _ _).alloc (Nat.le_refl ((w.alloc (.cells #[.string a, .string b] 23)).alloc (.cells #[.bool false, .slice none 0 0, .slice none 0 0] 30)).heap.size) (.cells #[.bool false, .slice none 0 0, .slice none 0 0] 30)
  have hx8 := Qbx.new ((w.alloc (.cells #[.string a, .string b] 23)).alloc (.cells #[.bool false, .slice none 0 0, .slice none 0 0] 30)) false none 0 0 none 0 0
  rw [hs6] at hx8
  replace X1 := vx X1 hb7
  replace R2 := qx R2 hb7
  replace B := bb B hb7
  have R3 := hid hx8
  have hs9 : (((w.alloc (.cells #[.string a, .string b] 23)).alloc (.cells #[.bool false, .slice none 0 0, .slice none 0 0] 30)).alloc (.cells #[.bool false, .slice none 0 0, .slice none 0 0] 30)).heap.size = w.heap.size + 1 + 1 + 1 := by simp [hs6]
  clear hb7 hx8
  clear hs9 h
  go_enter Tryz.func5, Tryz.ntmps5
  obtain ⟨cc10a, cc10b⟩ := X1.out.both
  obtain ⟨cc11a, cc11b, cc11c⟩ := R2.out.cells
  obtain ⟨cc12a, cc12b, cc12c⟩ := R3.out.cells
  go_wp2_with fail
  generalize hW : ((w.alloc (.cells #[.string a, .string b] 23)).alloc (.cells #[.bool false, .slice none 0 0, .slice none 0 0] 30)).alloc (.cells #[.bool false, .slice none 0 0, .slice none 0 0] 30) = W13 at *
  clear hW
  refine (H1.out _).mono ?_
  rintro e w14 ⟨s5a, p5a, n5a, c5a, p5b, n5b, c5b, s6a, p6a, n6a, c6a, p6b, n6b, c6b, rfl, hb⟩
  replace R2 := qx R2 hb
  replace R3 := qx R3 hb
  replace B := bb B hb
  clear cc10a cc10b cc11a cc11b cc11c cc12a cc12b cc12c
  clear hb H1
  have hb15 := (Below.refl _ _).alloc (Nat.le_refl w14.heap.size) (.cells #[.bool s5a, .slice p5a n5a c5a, .slice p5b n5b c5b] 30)
  have hx16 := Qbx.new w14 s5a p5a n5a c5a p5b n5b c5b
  have L0 := hid R3.out.lt
  replace R2 := qx R2 hb15
  replace R3 := qx R3 hb15
  replace B := bb B hb15
  have X5 := hid hx16
  have hs17 : (w14.alloc (.cells #[.bool s5a, .slice p5a n5a c5a, .slice p5b n5b c5b] 30)).heap.size = w14.heap.size + 1 := by simp
  clear hb15 hx16
  have hb18 := (Below.refl _ _).alloc (Nat.le_refl (w14.alloc (.cells #[.bool s5a, .slice p5a n5a c5a, .slice p5b n5b c5b] 30)).heap.size) (.cells #[.bool s6a, .slice p6a n6a c6a, .slice p6b n6b c6b] 30)
  have hx19 := Qbx.new (w14.alloc (.cells #[.bool s5a, .slice p5a n5a c5a, .slice p5b n5b c5b] 30)) s6a p6a n6a c6a p6b n6b c6b
  rw [hs17] at hx19
  replace R2 := qx R2 hb18
  replace R3 := qx R3 hb18
  replace X5 := qx X5 hb18
  replace B := bb B hb18
  have X6 := hid hx19
  have hs20 : ((w14.alloc (.cells #[.bool s5a, .slice p5a n5a c5a, .slice p5b n5b c5b] 30)).alloc (.cells #[.bool s6a, .slice p6a n6a c6a, .slice p6b n6b c6b] 30)).heap.size = w14.heap.size + 1 + 1 := by simp [hs17]
  clear hb18 hx19
  obtain ⟨cc21a, cc21b, cc21c⟩ := R2.out.cells
  obtain ⟨cc22a, cc22b, cc22c⟩ := R3.out.cells
  obtain ⟨cc23a, cc23b, cc23c⟩ := X5.out.cells
  obtain ⟨cc24a, cc24b, cc24c⟩ := X6.out.cells
  go_wp2_with fail
  generalize hW : (w14.alloc (.cells #[.bool s5a, .slice p5a n5a c5a, .slice p5b n5b c5b] 30)).alloc (.cells #[.bool s6a, .slice p6a n6a c6a, .slice p6b n6b c6b] 30) = W25 at *
  clear hW
  obtain ⟨cc26a, cc26b, cc26c⟩ := X5.out.cells
  obtain ⟨cc27a, cc27b, cc27c⟩ := X6.out.cells
  obtain ⟨cc28a, cc28b, cc28c⟩ := R2.out.cells
  obtain ⟨cc29a, cc29b, cc29c⟩ := R3.out.cells
  obtain ⟨cc30a, cc30b, cc30c⟩ := X5.out.cells
  obtain ⟨cc31a, cc31b, cc31c⟩ := X6.out.cells
  obtain ⟨⟨cc32a, cc32b⟩, ⟨cc32c, cc32d⟩, cc32e, cc32f⟩ := R2.out.stores
  obtain ⟨r33a, r33b, r33c⟩ := R2.out.last B.out (by have := L0.out; omega) s5a p5a n5a c5a p5b n5b c5b
  replace R3 := hid (((R3.out.other (g2 := w.heap.size + 1) (by have := L0.out; omega) 0 (.bool s5a)).other (g2 := w.heap.size + 1) (by have := L0.out; omega) 1 (.slice p5a n5a c5a)).other (g2 := w.heap.size + 1) (by have := L0.out; omega) 2 (.slice p5b n5b c5b))
  replace X5 := hid (((X5.out.other (g2 := w.heap.size + 1) (by have := L0.out; omega) 0 (.bool s5a)).other (g2 := w.heap.size + 1) (by have := L0.out; omega) 1 (.slice p5a n5a c5a)).other (g2 := w.heap.size + 1) (by have := L0.out; omega) 2 (.slice p5b n5b c5b))
  replace X6 := hid (((X6.out.other (g2 := w.heap.size + 1) (by have := L0.out; omega) 0 (.bool s5a)).other (g2 := w.heap.size + 1) (by have := L0.out; omega) 1 (.slice p5a n5a c5a)).other (g2 := w.heap.size + 1) (by have := L0.out; omega) 2 (.slice p5b n5b c5b))
  replace R2 := hid r33a
  replace B := hid r33b
  clear r33a r33b r33c
  obtain ⟨cc34a, cc34b, cc34c⟩ := R2.out.cells
  obtain ⟨cc35a, cc35b, cc35c⟩ := R3.out.cells
  obtain ⟨cc36a, cc36b, cc36c⟩ := X5.out.cells
  obtain ⟨cc37a, cc37b, cc37c⟩ := X6.out.cells
  obtain ⟨⟨cc38a, cc38b⟩, ⟨cc38c, cc38d⟩, cc38e, cc38f⟩ := R3.out.stores
  obtain ⟨r39a, r39b, r39c⟩ := R3.out.last B.out (by have := L0.out; omega) s6a p6a n6a c6a p6b n6b c6b
  replace R2 := hid (((R2.out.other (g2 := w.heap.size + 1 + 1) (by have := L0.out; omega) 0 (.bool s6a)).other (g2 := w.heap.size + 1 + 1) (by have := L0.out; omega) 1 (.slice p6a n6a c6a)).other (g2 := w.heap.size + 1 + 1) (by have := L0.out; omega) 2 (.slice p6b n6b c6b))
  replace X5 := hid (((X5.out.other (g2 := w.heap.size + 1 + 1) (by have := L0.out; omega) 0 (.bool s6a)).other (g2 := w.heap.size + 1 + 1) (by have := L0.out; omega) 1 (.slice p6a n6a c6a)).other (g2 := w.heap.size + 1 + 1) (by have := L0.out; omega) 2 (.slice p6b n6b c6b))
  replace X6 := hid (((X6.out.other (g2 := w.heap.size + 1 + 1) (by have := L0.out; omega) 0 (.bool s6a)).other (g2 := w.heap.size + 1 + 1) (by have := L0.out; omega) 1 (.slice p6a n6a c6a)).other (g2 := w.heap.size + 1 + 1) (by have := L0.out; omega) 2 (.slice p6b n6b c6b))
  replace R3 := hid r39a
  replace B := hid r39b
  clear r39a r39b r39c
  obtain ⟨cc40a, cc40b, cc40c⟩ := R2.out.cells
  obtain ⟨cc41a, cc41b, cc41c⟩ := R3.out.cells
  obtain ⟨cc42a, cc42b, cc42c⟩ := X5.out.cells
  obtain ⟨cc43a, cc43b, cc43c⟩ := X6.out.cells
  go_region_held3 (fun w' => w'.cell? ⟨w14.heap.size, 0, none⟩ = some (.bool s5a) ∧ w'.cell? ⟨w14.heap.size, 1, none⟩ = some (.slice p5a n5a c5a) ∧ w'.cell? ⟨w14.heap.size, 2, none⟩ = some (.slice p5b n5b c5b) ∧ w'.cell? ⟨w14.heap.size + 1, 0, none⟩ = some (.bool s6a) ∧ w'.cell? ⟨w14.heap.size + 1, 1, none⟩ = some (.slice p6a n6a c6a) ∧ w'.cell? ⟨w14.heap.size + 1, 2, none⟩ = some (.slice p6b n6b c6b)) (go_keep) (first | fail)
  replace R2 := hid R2.out.dr
  replace R3 := hid R3.out.dr
  replace X5 := hid X5.out.dr
  replace X6 := hid X6.out.dr
  replace B := hid (Below.drew B.out)
  go_wp2_with fail
  refine bodyPost_ret (res_qq_tmp rfl rfl rfl rfl R2.out R3.out) rfl ?_
  exact ⟨_, _, _, _, _, _, _, _, _, _, _, _, _, _, rfl, B.out⟩

set_option maxHeartbeats 4000000 in
theorem rivalof_b {a b : ByteArray} (h1 : GoodQ a) (h2 : GoodQ b) (h3 : qnum b < qnum a) (ha : a.size ≤ maxLen) (hb0 : b.size ≤ maxLen) (w : World) :
    Calls Tryz.prog 5 #[.agg #[.string a, .string b]] w fun e w' => ∃ s5a p5a n5a c5a p5b n5b c5b s6a p6a n6a c6a p6b n6b c6b, e = .returned (.tuple #[.agg #[.bool s5a, .slice p5a n5a c5a, .slice p5b n5b c5b], .agg #[.bool s6a, .slice p6a n6a c6a, .slice p6b n6b c6b], .int .i64 2]) ∧ Below w.heap.size w w' := by
  have H1 := hid (fun w => rtwo3 (k := 0) h1 h2 ha hb0 w)
  have hs : 0 < (qnum a - qnum b).num.sign := (rsg_gt _ _).2 h3
  have B := hid (Below.refl w.heap.size w)
  have hb1 := (Below.refl _ _).alloc (Nat.le_refl w.heap.size) (.cells #[.string a, .string b] 23)
  have hx2 := Vbx.new w a b
  replace B := bb B hb1
  have X1 := hid hx2
  have hs3 : (w.alloc (.cells #[.string a, .string b] 23)).heap.size = w.heap.size + 1 := by simp
  clear hb1 hx2
  have hb4 := (Below.refl _ _).alloc (Nat.le_refl (w.alloc (.cells #[.string a, .string b] 23)).heap.size) (.cells #[.bool false, .slice none 0 0, .slice none 0 0] 30)
  have hx5 := Qbx.new (w.alloc (.cells #[.string a, .string b] 23)) false none 0 0 none 0 0
  rw [hs3] at hx5
  replace X1 := vx X1 hb4
  replace B := bb B hb4
  have R2 := hid hx5
  have hs6 : ((w.alloc (.cells #[.string a, .string b] 23)).alloc (.cells #[.bool false, .slice none 0 0, .slice none 0 0] 30)).heap.size = w.heap.size + 1 + 1 := by simp [hs3]
  clear hb4 hx5
  have hb7 := (Below.refl _ _).alloc (Nat.le_refl ((w.alloc (.cells #[.string a, .string b] 23)).alloc (.cells #[.bool false, .slice none 0 0, .slice none 0 0] 30)).heap.size) (.cells #[.bool false, .slice none 0 0, .slice none 0 0] 30)
  have hx8 := Qbx.new ((w.alloc (.cells #[.string a, .string b] 23)).alloc (.cells #[.bool false, .slice none 0 0, .slice none 0 0] 30)) false none 0 0 none 0 0
  rw [hs6] at hx8
  replace X1 := vx X1 hb7
  replace R2 := qx R2 hb7
  replace B := bb B hb7
  have R3 := hid hx8
  have hs9 : (((w.alloc (.cells #[.string a, .string b] 23)).alloc (.cells #[.bool false, .slice none 0 0, .slice none 0 0] 30)).alloc (.cells #[.bool false, .slice none 0 0, .slice none 0 0] 30)).heap.size = w.heap.size + 1 + 1 + 1 := by simp [hs6]
  clear hb7 hx8
  clear hs9 h1 h2 h3
  go_enter Tryz.func5, Tryz.ntmps5
  obtain ⟨cc10a, cc10b⟩ := X1.out.both
  obtain ⟨cc11a, cc11b, cc11c⟩ := R2.out.cells
  obtain ⟨cc12a, cc12b, cc12c⟩ := R3.out.cells
  go_wp2_with fail
  generalize hW : ((w.alloc (.cells #[.string a, .string b] 23)).alloc (.cells #[.bool false, .slice none 0 0, .slice none 0 0] 30)).alloc (.cells #[.bool false, .slice none 0 0, .slice none 0 0] 30) = W13 at *
  clear hW
  refine (H1.out _).mono ?_
  rintro e w14 ⟨v, u, rfl, hv, hu, hb⟩
  obtain ⟨s5a, p5a, n5a, c5a, p5b, n5b, c5b, rfl⟩ := hv.opened
  obtain ⟨ht5, hu5⟩ := hv.two
  obtain ⟨s6a, p6a, n6a, c6a, p6b, n6b, c6b, rfl⟩ := hu.opened
  obtain ⟨ht6, hu6⟩ := hu.two
  replace R2 := qx R2 hb
  replace R3 := qx R3 hb
  replace B := bb B hb
  clear cc10a cc10b cc11a cc11b cc11c cc12a cc12b cc12c
  have HN5 := hid ht5
  have HD5 := hid hu5
  have HN6 := hid ht6
  have HD6 := hid hu6
  clear hb hv hu ht5 hu5 ht6 hu6 H1
  have hb15 := (Below.refl _ _).alloc (Nat.le_refl w14.heap.size) (.cells #[.bool s5a, .slice p5a n5a c5a, .slice p5b n5b c5b] 30)
  have hx16 := Qbx.new w14 s5a p5a n5a c5a p5b n5b c5b
  have L0 := hid R3.out.lt
  replace R2 := qx R2 hb15
  replace R3 := qx R3 hb15
  replace HN5 := wr HN5 hb15
  replace HD5 := wr HD5 hb15
  replace HN6 := wr HN6 hb15
  replace HD6 := wr HD6 hb15
  replace B := bb B hb15
  have X5 := hid hx16
  have hs17 : (w14.alloc (.cells #[.bool s5a, .slice p5a n5a c5a, .slice p5b n5b c5b] 30)).heap.size = w14.heap.size + 1 := by simp
  clear hb15 hx16
  have hb18 := (Below.refl _ _).alloc (Nat.le_refl (w14.alloc (.cells #[.bool s5a, .slice p5a n5a c5a, .slice p5b n5b c5b] 30)).heap.size) (.cells #[.bool s6a, .slice p6a n6a c6a, .slice p6b n6b c6b] 30)
  have hx19 := Qbx.new (w14.alloc (.cells #[.bool s5a, .slice p5a n5a c5a, .slice p5b n5b c5b] 30)) s6a p6a n6a c6a p6b n6b c6b
  rw [hs17] at hx19
  replace R2 := qx R2 hb18
  replace R3 := qx R3 hb18
  replace X5 := qx X5 hb18
  replace HN5 := wr HN5 hb18
  replace HD5 := wr HD5 hb18
  replace HN6 := wr HN6 hb18
  replace HD6 := wr HD6 hb18
  replace B := bb B hb18
  have X6 := hid hx19
  have hs20 : ((w14.alloc (.cells #[.bool s5a, .slice p5a n5a c5a, .slice p5b n5b c5b] 30)).alloc (.cells #[.bool s6a, .slice p6a n6a c6a, .slice p6b n6b c6b] 30)).heap.size = w14.heap.size + 1 + 1 := by simp [hs17]
  clear hb18 hx19
  obtain ⟨cc21a, cc21b, cc21c⟩ := R2.out.cells
  obtain ⟨cc22a, cc22b, cc22c⟩ := R3.out.cells
  obtain ⟨cc23a, cc23b, cc23c⟩ := X5.out.cells
  obtain ⟨cc24a, cc24b, cc24c⟩ := X6.out.cells
  go_wp2_with fail
  generalize hW : (w14.alloc (.cells #[.bool s5a, .slice p5a n5a c5a, .slice p5b n5b c5b] 30)).alloc (.cells #[.bool s6a, .slice p6a n6a c6a, .slice p6b n6b c6b] 30) = W25 at *
  clear hW
  refine (rcmp (QR.mk2 HN5.out HD5.out) (QR.mk2 HN6.out HD6.out) (by decide)).mono ?_
  rintro e w26 ⟨rfl, hb⟩
  replace R2 := qx R2 hb
  replace R3 := qx R3 hb
  replace X5 := qx X5 hb
  replace X6 := qx X6 hb
  replace HN5 := wr HN5 hb
  replace HD5 := wr HD5 hb
  replace HN6 := wr HN6 hb
  replace HD6 := wr HD6 hb
  replace B := bb B hb
  clear cc21a cc21b cc21c cc22a cc22b cc22c cc23a cc23b cc23c cc24a cc24b cc24c
  clear hb 
  obtain ⟨cc27a, cc27b, cc27c⟩ := R2.out.cells
  obtain ⟨cc28a, cc28b, cc28c⟩ := R3.out.cells
  obtain ⟨cc29a, cc29b, cc29c⟩ := X5.out.cells
  obtain ⟨cc30a, cc30b, cc30c⟩ := X6.out.cells
  generalize (qnum a - qnum b).num.sign = z at *
  go_wp2_with fail
  obtain ⟨cc31a, cc31b, cc31c⟩ := X5.out.cells
  obtain ⟨cc32a, cc32b, cc32c⟩ := X6.out.cells
  obtain ⟨cc33a, cc33b, cc33c⟩ := R2.out.cells
  obtain ⟨cc34a, cc34b, cc34c⟩ := R3.out.cells
  obtain ⟨cc35a, cc35b, cc35c⟩ := X5.out.cells
  obtain ⟨cc36a, cc36b, cc36c⟩ := X6.out.cells
  obtain ⟨⟨cc37a, cc37b⟩, ⟨cc37c, cc37d⟩, cc37e, cc37f⟩ := R2.out.stores
  obtain ⟨r38a, r38b, r38c⟩ := R2.out.last B.out (by have := L0.out; omega) s5a p5a n5a c5a p5b n5b c5b
  replace R3 := hid (((R3.out.other (g2 := w.heap.size + 1) (by have := L0.out; omega) 0 (.bool s5a)).other (g2 := w.heap.size + 1) (by have := L0.out; omega) 1 (.slice p5a n5a c5a)).other (g2 := w.heap.size + 1) (by have := L0.out; omega) 2 (.slice p5b n5b c5b))
  replace X5 := hid (((X5.out.other (g2 := w.heap.size + 1) (by have := L0.out; omega) 0 (.bool s5a)).other (g2 := w.heap.size + 1) (by have := L0.out; omega) 1 (.slice p5a n5a c5a)).other (g2 := w.heap.size + 1) (by have := L0.out; omega) 2 (.slice p5b n5b c5b))
  replace X6 := hid (((X6.out.other (g2 := w.heap.size + 1) (by have := L0.out; omega) 0 (.bool s5a)).other (g2 := w.heap.size + 1) (by have := L0.out; omega) 1 (.slice p5a n5a c5a)).other (g2 := w.heap.size + 1) (by have := L0.out; omega) 2 (.slice p5b n5b c5b))
  replace HN5 := hid (r38c HN5.out)
  replace HD5 := hid (r38c HD5.out)
  replace HN6 := hid (r38c HN6.out)
  replace HD6 := hid (r38c HD6.out)
  replace R2 := hid r38a
  replace B := hid r38b
  clear r38a r38b r38c
  obtain ⟨cc39a, cc39b, cc39c⟩ := R2.out.cells
  obtain ⟨cc40a, cc40b, cc40c⟩ := R3.out.cells
  obtain ⟨cc41a, cc41b, cc41c⟩ := X5.out.cells
  obtain ⟨cc42a, cc42b, cc42c⟩ := X6.out.cells
  obtain ⟨⟨cc43a, cc43b⟩, ⟨cc43c, cc43d⟩, cc43e, cc43f⟩ := R3.out.stores
  obtain ⟨r44a, r44b, r44c⟩ := R3.out.last B.out (by have := L0.out; omega) s6a p6a n6a c6a p6b n6b c6b
  replace R2 := hid (((R2.out.other (g2 := w.heap.size + 1 + 1) (by have := L0.out; omega) 0 (.bool s6a)).other (g2 := w.heap.size + 1 + 1) (by have := L0.out; omega) 1 (.slice p6a n6a c6a)).other (g2 := w.heap.size + 1 + 1) (by have := L0.out; omega) 2 (.slice p6b n6b c6b))
  replace X5 := hid (((X5.out.other (g2 := w.heap.size + 1 + 1) (by have := L0.out; omega) 0 (.bool s6a)).other (g2 := w.heap.size + 1 + 1) (by have := L0.out; omega) 1 (.slice p6a n6a c6a)).other (g2 := w.heap.size + 1 + 1) (by have := L0.out; omega) 2 (.slice p6b n6b c6b))
  replace X6 := hid (((X6.out.other (g2 := w.heap.size + 1 + 1) (by have := L0.out; omega) 0 (.bool s6a)).other (g2 := w.heap.size + 1 + 1) (by have := L0.out; omega) 1 (.slice p6a n6a c6a)).other (g2 := w.heap.size + 1 + 1) (by have := L0.out; omega) 2 (.slice p6b n6b c6b))
  replace HN5 := hid (r44c HN5.out)
  replace HD5 := hid (r44c HD5.out)
  replace HN6 := hid (r44c HN6.out)
  replace HD6 := hid (r44c HD6.out)
  replace R3 := hid r44a
  replace B := hid r44b
  clear r44a r44b r44c
  obtain ⟨cc45a, cc45b, cc45c⟩ := R2.out.cells
  obtain ⟨cc46a, cc46b, cc46c⟩ := R3.out.cells
  obtain ⟨cc47a, cc47b, cc47c⟩ := X5.out.cells
  obtain ⟨cc48a, cc48b, cc48c⟩ := X6.out.cells
  go_region_held3 (fun w' => w'.cell? ⟨w14.heap.size, 0, none⟩ = some (.bool s5a) ∧ w'.cell? ⟨w14.heap.size, 1, none⟩ = some (.slice p5a n5a c5a) ∧ w'.cell? ⟨w14.heap.size, 2, none⟩ = some (.slice p5b n5b c5b) ∧ w'.cell? ⟨w14.heap.size + 1, 0, none⟩ = some (.bool s6a) ∧ w'.cell? ⟨w14.heap.size + 1, 1, none⟩ = some (.slice p6a n6a c6a) ∧ w'.cell? ⟨w14.heap.size + 1, 2, none⟩ = some (.slice p6b n6b c6b)) (go_keep) (first | fail)
  replace R2 := hid R2.out.dr
  replace R3 := hid R3.out.dr
  replace X5 := hid X5.out.dr
  replace X6 := hid X6.out.dr
  replace HN5 := hid HN5.out.drew
  replace HD5 := hid HD5.out.drew
  replace HN6 := hid HN6.out.drew
  replace HD6 := hid HD6.out.drew
  replace B := hid (Below.drew B.out)
  go_wp2_with fail
  refine bodyPost_ret (res_qq_tmp rfl rfl rfl rfl R2.out R3.out) rfl ?_
  exact ⟨_, _, _, _, _, _, _, _, _, _, _, _, _, _, rfl, B.out⟩

set_option maxHeartbeats 4000000 in
theorem rivalof_ok {a b : ByteArray} (h1 : GoodQ a) (h2 : GoodQ b) (h3 : ¬ qnum b < qnum a) (ha : a.size ≤ maxLen) (hb0 : b.size ≤ maxLen) (w : World) :
    Calls Tryz.prog 5 #[.agg #[.string a, .string b]] w fun e w' => ∃ v u, e = .returned (.tuple #[v, u, .int .i64 0]) ∧ QR w' v (qnum a) 100 ∧ QR w' u (qnum b) 100 ∧ Below w.heap.size w w' := by
  have H1 := hid (fun w => rtwo3 (k := 0) h1 h2 ha hb0 w)
  have hs : ¬ 0 < (qnum a - qnum b).num.sign := fun e => h3 ((rsg_gt _ _).1 e)
  have B := hid (Below.refl w.heap.size w)
  have hb1 := (Below.refl _ _).alloc (Nat.le_refl w.heap.size) (.cells #[.string a, .string b] 23)
  have hx2 := Vbx.new w a b
  replace B := bb B hb1
  have X1 := hid hx2
  have hs3 : (w.alloc (.cells #[.string a, .string b] 23)).heap.size = w.heap.size + 1 := by simp
  clear hb1 hx2
  have hb4 := (Below.refl _ _).alloc (Nat.le_refl (w.alloc (.cells #[.string a, .string b] 23)).heap.size) (.cells #[.bool false, .slice none 0 0, .slice none 0 0] 30)
  have hx5 := Qbx.new (w.alloc (.cells #[.string a, .string b] 23)) false none 0 0 none 0 0
  rw [hs3] at hx5
  replace X1 := vx X1 hb4
  replace B := bb B hb4
  have R2 := hid hx5
  have hs6 : ((w.alloc (.cells #[.string a, .string b] 23)).alloc (.cells #[.bool false, .slice none 0 0, .slice none 0 0] 30)).heap.size = w.heap.size + 1 + 1 := by simp [hs3]
  clear hb4 hx5
  have hb7 := (Below.refl _ _).alloc (Nat.le_refl ((w.alloc (.cells #[.string a, .string b] 23)).alloc (.cells #[.bool false, .slice none 0 0, .slice none 0 0] 30)).heap.size) (.cells #[.bool false, .slice none 0 0, .slice none 0 0] 30)
  have hx8 := Qbx.new ((w.alloc (.cells #[.string a, .string b] 23)).alloc (.cells #[.bool false, .slice none 0 0, .slice none 0 0] 30)) false none 0 0 none 0 0
  rw [hs6] at hx8
  replace X1 := vx X1 hb7
  replace R2 := qx R2 hb7
  replace B := bb B hb7
  have R3 := hid hx8
  have hs9 : (((w.alloc (.cells #[.string a, .string b] 23)).alloc (.cells #[.bool false, .slice none 0 0, .slice none 0 0] 30)).alloc (.cells #[.bool false, .slice none 0 0, .slice none 0 0] 30)).heap.size = w.heap.size + 1 + 1 + 1 := by simp [hs6]
  clear hb7 hx8
  clear hs9 h1 h2 h3
  go_enter Tryz.func5, Tryz.ntmps5
  obtain ⟨cc10a, cc10b⟩ := X1.out.both
  obtain ⟨cc11a, cc11b, cc11c⟩ := R2.out.cells
  obtain ⟨cc12a, cc12b, cc12c⟩ := R3.out.cells
  go_wp2_with fail
  generalize hW : ((w.alloc (.cells #[.string a, .string b] 23)).alloc (.cells #[.bool false, .slice none 0 0, .slice none 0 0] 30)).alloc (.cells #[.bool false, .slice none 0 0, .slice none 0 0] 30) = W13 at *
  clear hW
  refine (H1.out _).mono ?_
  rintro e w14 ⟨v, u, rfl, hv, hu, hb⟩
  obtain ⟨s5a, p5a, n5a, c5a, p5b, n5b, c5b, rfl⟩ := hv.opened
  obtain ⟨ht5, hu5⟩ := hv.two
  obtain ⟨s6a, p6a, n6a, c6a, p6b, n6b, c6b, rfl⟩ := hu.opened
  obtain ⟨ht6, hu6⟩ := hu.two
  replace R2 := qx R2 hb
  replace R3 := qx R3 hb
  replace B := bb B hb
  clear cc10a cc10b cc11a cc11b cc11c cc12a cc12b cc12c
  have HN5 := hid ht5
  have HD5 := hid hu5
  have HN6 := hid ht6
  have HD6 := hid hu6
  clear hb hv hu ht5 hu5 ht6 hu6 H1
  have hb15 := (Below.refl _ _).alloc (Nat.le_refl w14.heap.size) (.cells #[.bool s5a, .slice p5a n5a c5a, .slice p5b n5b c5b] 30)
  have hx16 := Qbx.new w14 s5a p5a n5a c5a p5b n5b c5b
  have L0 := hid R3.out.lt
  replace R2 := qx R2 hb15
  replace R3 := qx R3 hb15
  replace HN5 := wr HN5 hb15
  replace HD5 := wr HD5 hb15
  replace HN6 := wr HN6 hb15
  replace HD6 := wr HD6 hb15
  replace B := bb B hb15
  have X5 := hid hx16
  have hs17 : (w14.alloc (.cells #[.bool s5a, .slice p5a n5a c5a, .slice p5b n5b c5b] 30)).heap.size = w14.heap.size + 1 := by simp
  clear hb15 hx16
  have hb18 := (Below.refl _ _).alloc (Nat.le_refl (w14.alloc (.cells #[.bool s5a, .slice p5a n5a c5a, .slice p5b n5b c5b] 30)).heap.size) (.cells #[.bool s6a, .slice p6a n6a c6a, .slice p6b n6b c6b] 30)
  have hx19 := Qbx.new (w14.alloc (.cells #[.bool s5a, .slice p5a n5a c5a, .slice p5b n5b c5b] 30)) s6a p6a n6a c6a p6b n6b c6b
  rw [hs17] at hx19
  replace R2 := qx R2 hb18
  replace R3 := qx R3 hb18
  replace X5 := qx X5 hb18
  replace HN5 := wr HN5 hb18
  replace HD5 := wr HD5 hb18
  replace HN6 := wr HN6 hb18
  replace HD6 := wr HD6 hb18
  replace B := bb B hb18
  have X6 := hid hx19
  have hs20 : ((w14.alloc (.cells #[.bool s5a, .slice p5a n5a c5a, .slice p5b n5b c5b] 30)).alloc (.cells #[.bool s6a, .slice p6a n6a c6a, .slice p6b n6b c6b] 30)).heap.size = w14.heap.size + 1 + 1 := by simp [hs17]
  clear hb18 hx19
  obtain ⟨cc21a, cc21b, cc21c⟩ := R2.out.cells
  obtain ⟨cc22a, cc22b, cc22c⟩ := R3.out.cells
  obtain ⟨cc23a, cc23b, cc23c⟩ := X5.out.cells
  obtain ⟨cc24a, cc24b, cc24c⟩ := X6.out.cells
  go_wp2_with fail
  generalize hW : (w14.alloc (.cells #[.bool s5a, .slice p5a n5a c5a, .slice p5b n5b c5b] 30)).alloc (.cells #[.bool s6a, .slice p6a n6a c6a, .slice p6b n6b c6b] 30) = W25 at *
  clear hW
  refine (rcmp (QR.mk2 HN5.out HD5.out) (QR.mk2 HN6.out HD6.out) (by decide)).mono ?_
  rintro e w26 ⟨rfl, hb⟩
  replace R2 := qx R2 hb
  replace R3 := qx R3 hb
  replace X5 := qx X5 hb
  replace X6 := qx X6 hb
  replace HN5 := wr HN5 hb
  replace HD5 := wr HD5 hb
  replace HN6 := wr HN6 hb
  replace HD6 := wr HD6 hb
  replace B := bb B hb
  clear cc21a cc21b cc21c cc22a cc22b cc22c cc23a cc23b cc23c cc24a cc24b cc24c
  clear hb 
  obtain ⟨cc27a, cc27b, cc27c⟩ := R2.out.cells
  obtain ⟨cc28a, cc28b, cc28c⟩ := R3.out.cells
  obtain ⟨cc29a, cc29b, cc29c⟩ := X5.out.cells
  obtain ⟨cc30a, cc30b, cc30c⟩ := X6.out.cells
  generalize (qnum a - qnum b).num.sign = z at *
  go_wp2_with fail
  obtain ⟨cc31a, cc31b, cc31c⟩ := X5.out.cells
  obtain ⟨cc32a, cc32b, cc32c⟩ := X6.out.cells
  obtain ⟨cc33a, cc33b, cc33c⟩ := R2.out.cells
  obtain ⟨cc34a, cc34b, cc34c⟩ := R3.out.cells
  obtain ⟨cc35a, cc35b, cc35c⟩ := X5.out.cells
  obtain ⟨cc36a, cc36b, cc36c⟩ := X6.out.cells
  obtain ⟨⟨cc37a, cc37b⟩, ⟨cc37c, cc37d⟩, cc37e, cc37f⟩ := R2.out.stores
  obtain ⟨r38a, r38b, r38c⟩ := R2.out.last B.out (by have := L0.out; omega) s5a p5a n5a c5a p5b n5b c5b
  replace R3 := hid (((R3.out.other (g2 := w.heap.size + 1) (by have := L0.out; omega) 0 (.bool s5a)).other (g2 := w.heap.size + 1) (by have := L0.out; omega) 1 (.slice p5a n5a c5a)).other (g2 := w.heap.size + 1) (by have := L0.out; omega) 2 (.slice p5b n5b c5b))
  replace X5 := hid (((X5.out.other (g2 := w.heap.size + 1) (by have := L0.out; omega) 0 (.bool s5a)).other (g2 := w.heap.size + 1) (by have := L0.out; omega) 1 (.slice p5a n5a c5a)).other (g2 := w.heap.size + 1) (by have := L0.out; omega) 2 (.slice p5b n5b c5b))
  replace X6 := hid (((X6.out.other (g2 := w.heap.size + 1) (by have := L0.out; omega) 0 (.bool s5a)).other (g2 := w.heap.size + 1) (by have := L0.out; omega) 1 (.slice p5a n5a c5a)).other (g2 := w.heap.size + 1) (by have := L0.out; omega) 2 (.slice p5b n5b c5b))
  replace HN5 := hid (r38c HN5.out)
  replace HD5 := hid (r38c HD5.out)
  replace HN6 := hid (r38c HN6.out)
  replace HD6 := hid (r38c HD6.out)
  replace R2 := hid r38a
  replace B := hid r38b
  clear r38a r38b r38c
  obtain ⟨cc39a, cc39b, cc39c⟩ := R2.out.cells
  obtain ⟨cc40a, cc40b, cc40c⟩ := R3.out.cells
  obtain ⟨cc41a, cc41b, cc41c⟩ := X5.out.cells
  obtain ⟨cc42a, cc42b, cc42c⟩ := X6.out.cells
  obtain ⟨⟨cc43a, cc43b⟩, ⟨cc43c, cc43d⟩, cc43e, cc43f⟩ := R3.out.stores
  obtain ⟨r44a, r44b, r44c⟩ := R3.out.last B.out (by have := L0.out; omega) s6a p6a n6a c6a p6b n6b c6b
  replace R2 := hid (((R2.out.other (g2 := w.heap.size + 1 + 1) (by have := L0.out; omega) 0 (.bool s6a)).other (g2 := w.heap.size + 1 + 1) (by have := L0.out; omega) 1 (.slice p6a n6a c6a)).other (g2 := w.heap.size + 1 + 1) (by have := L0.out; omega) 2 (.slice p6b n6b c6b))
  replace X5 := hid (((X5.out.other (g2 := w.heap.size + 1 + 1) (by have := L0.out; omega) 0 (.bool s6a)).other (g2 := w.heap.size + 1 + 1) (by have := L0.out; omega) 1 (.slice p6a n6a c6a)).other (g2 := w.heap.size + 1 + 1) (by have := L0.out; omega) 2 (.slice p6b n6b c6b))
  replace X6 := hid (((X6.out.other (g2 := w.heap.size + 1 + 1) (by have := L0.out; omega) 0 (.bool s6a)).other (g2 := w.heap.size + 1 + 1) (by have := L0.out; omega) 1 (.slice p6a n6a c6a)).other (g2 := w.heap.size + 1 + 1) (by have := L0.out; omega) 2 (.slice p6b n6b c6b))
  replace HN5 := hid (r44c HN5.out)
  replace HD5 := hid (r44c HD5.out)
  replace HN6 := hid (r44c HN6.out)
  replace HD6 := hid (r44c HD6.out)
  replace R3 := hid r44a
  replace B := hid r44b
  clear r44a r44b r44c
  obtain ⟨cc45a, cc45b, cc45c⟩ := R2.out.cells
  obtain ⟨cc46a, cc46b, cc46c⟩ := R3.out.cells
  obtain ⟨cc47a, cc47b, cc47c⟩ := X5.out.cells
  obtain ⟨cc48a, cc48b, cc48c⟩ := X6.out.cells
  go_region_held3 (fun w' => w'.cell? ⟨w14.heap.size, 0, none⟩ = some (.bool s5a) ∧ w'.cell? ⟨w14.heap.size, 1, none⟩ = some (.slice p5a n5a c5a) ∧ w'.cell? ⟨w14.heap.size, 2, none⟩ = some (.slice p5b n5b c5b) ∧ w'.cell? ⟨w14.heap.size + 1, 0, none⟩ = some (.bool s6a) ∧ w'.cell? ⟨w14.heap.size + 1, 1, none⟩ = some (.slice p6a n6a c6a) ∧ w'.cell? ⟨w14.heap.size + 1, 2, none⟩ = some (.slice p6b n6b c6b)) (go_keep) (first | fail)
  replace R2 := hid R2.out.dr
  replace R3 := hid R3.out.dr
  replace X5 := hid X5.out.dr
  replace X6 := hid X6.out.dr
  replace HN5 := hid HN5.out.drew
  replace HD5 := hid HD5.out.drew
  replace HN6 := hid HN6.out.drew
  replace HD6 := hid HD6.out.drew
  replace B := hid (Below.drew B.out)
  go_wp2_with fail
  refine bodyPost_ret (res_qq_tmp rfl rfl rfl rfl R2.out R3.out) rfl ?_
  exact ⟨_, _, rfl, QR.mk2 HN5.out HD5.out, QR.mk2 HN6.out HD6.out, B.out⟩

theorem rival_good {a b : ByteArray} (h : GoodI a b) (ha : a.size ≤ maxLen) (hb0 : b.size ≤ maxLen) (w : World) :
    Calls Tryz.prog 5 #[.agg #[.string a, .string b]] w fun e w' => ∃ v u, e = .returned (.tuple #[v, u, .int .i64 0]) ∧ QR w' v (qnum a) 100 ∧ QR w' u (qnum b) 100 ∧ Below w.heap.size w w' :=
  rivalof_ok h.1 h.2.1 (by have := h.2.2; grind) ha hb0 w
theorem rival_bad {a b : ByteArray} {k : Int} (h : BadI a b k) (ha : a.size ≤ maxLen) (hb0 : b.size ≤ maxLen) (w : World) :
    Calls Tryz.prog 5 #[.agg #[.string a, .string b]] w fun e w' => ∃ s5a p5a n5a c5a p5b n5b c5b s6a p6a n6a c6a p6b n6b c6b, e = .returned (.tuple #[.agg #[.bool s5a, .slice p5a n5a c5a, .slice p5b n5b c5b], .agg #[.bool s6a, .slice p6a n6a c6a, .slice p6b n6b c6b], .int .i64 k]) ∧ Below w.heap.size w w' := by
  rcases h with h | ⟨h1, h2, h3, rfl⟩
  · exact rivalof_a h ha hb0 w
  · exact rivalof_b h1 h2 h3 ha hb0 w

end Go.Proofs.YtkdeopikojgboaaGreatDoor

/-
  THE REFERENCE: rows of fractions.
-/
namespace Go.Proofs.YtkdeopikojgboaaGreatDoor
open Go.RowKit
open Num4
open Num (dg isNat dval)
set_option linter.unusedVariables false
set_option maxRecDepth 100000
set_option linter.unusedSimpArgs false

/-- A fraction's three cells. -/
abbrev Qt := Bool × (Option Addr × Nat × Nat) × (Option Addr × Nat × Nat)
def qcs (r : Qt) : List Value := [.bool r.1, .slice r.2.1.1 r.2.1.2.1 r.2.1.2.2, .slice r.2.2.1 r.2.2.2.1 r.2.2.2.2]
def qag (r : Qt) : Value := .agg #[.bool r.1, .slice r.2.1.1 r.2.1.2.1 r.2.1.2.2, .slice r.2.2.1 r.2.2.2.1 r.2.2.2.2]
def qrat (vs : List Qt) (i : Nat) : Qt := vs[i]?.getD (false, (none, 0, 0), (none, 0, 0))
def flq (vs : List Qt) : Array Value := (vs.map qcs).flatten.toArray
theorem qcs_len (vs : List Qt) : ∀ r ∈ vs.map qcs, r.length = 3 := by
  intro r hr
  obtain ⟨x, _, rfl⟩ := List.mem_map.1 hr
  rfl
theorem flq_get (vs : List Qt) (i : Nat) (h : i < vs.length) : (flq vs)[i * 3]? = some (.bool (qrat vs i).1) ∧ (flq vs)[i * 3 + 1]? = some (.slice (qrat vs i).2.1.1 (qrat vs i).2.1.2.1 (qrat vs i).2.1.2.2) ∧ (flq vs)[i * 3 + 2]? = some (.slice (qrat vs i).2.2.1 (qrat vs i).2.2.2.1 (qrat vs i).2.2.2.2) := by
  have h0 := flat_get 3 (vs.map qcs) (qcs_len vs) i 0 (by simpa using h) (by omega)
  have h1 := flat_get 3 (vs.map qcs) (qcs_len vs) i 1 (by simpa using h) (by omega)
  have h2 := flat_get 3 (vs.map qcs) (qcs_len vs) i 2 (by simpa using h) (by omega)
  simp only [Nat.add_zero] at h0
  refine ⟨?_, ?_, ?_⟩
  · rw [flq, List.getElem?_toArray, h0]; simp [qrat, h, qcs]
  · rw [flq, List.getElem?_toArray, h1]; simp [qrat, h, qcs]
  · rw [flq, List.getElem?_toArray, h2]; simp [qrat, h, qcs]
/-- Block b holds m fractions, that read as these. -/
def Qrw (w : World) (b m : Nat) (qf : Nat → Rat) (k : Nat) : Prop := ∃ (vs : List Qt) (T : TypeId) (fr : Nat × Nat), w.heap[b]? = some (.cells (flq vs) T fr) ∧ vs.length = m ∧ ∀ i, i < m → QR w (qag (qrat vs i)) (qf i) k
theorem Qrw.lt {w : World} {b m : Nat} {qf : Nat → Rat} {k : Nat} (h : Qrw w b m qf k) : b < w.heap.size := by
  obtain ⟨vs, T, fr, h1, _⟩ := h
  exact (Array.getElem?_eq_some_iff.1 h1).1
theorem Qrw.on {w w' : World} {b m : Nat} {qf : Nat → Rat} {k : Nat} (h : Qrw w b m qf k) (hb : Below w.heap.size w w') : Qrw w' b m qf k := by
  have hl := h.lt
  obtain ⟨vs, T, fr, h1, h2, h3⟩ := h
  exact ⟨vs, T, fr, (hb.block b hl).trans h1, h2, fun i hi => (h3 i hi).on hb⟩
theorem Qrw.moved {w w' : World} {b m : Nat} {qf : Nat → Rat} {k : Nat} (h : Qrw w b m qf k) (he : w'.heap[b]? = w.heap[b]?) (hm : ∀ v z k, WhlR w v z k → WhlR w' v z k) : Qrw w' b m qf k := by
  obtain ⟨vs, T, fr, h1, h2, h3⟩ := h
  exact ⟨vs, T, fr, he.trans h1, h2, fun i hi => (h3 i hi).moved hm⟩
theorem Qrw.at {w : World} {b m : Nat} {qf : Nat → Rat} {k : Nat} (h : Qrw w b m qf k) {i : Nat} (hi : i < m) : ∃ (s1 : Bool) (p1 : Option Addr) (n1 c1 : Nat) (p2 : Option Addr) (n2 c2 : Nat),
    w.cell? ⟨b, i * 3, none⟩ = some (.bool s1) ∧ w.cell? ⟨b, i * 3 + 1, none⟩ = some (.slice p1 n1 c1) ∧ w.cell? ⟨b, i * 3 + 2, none⟩ = some (.slice p2 n2 c2) ∧ QR w (.agg #[.bool s1, .slice p1 n1 c1, .slice p2 n2 c2]) (qf i) k := by
  obtain ⟨vs, T, fr, h1, h2, h3⟩ := h
  obtain ⟨g0, g1, g2⟩ := flq_get vs i (by omega)
  refine ⟨_, _, _, _, _, _, _, ?_, ?_, ?_, h3 i hi⟩ <;> simp [World.cell?, h1, g0, g1, g2]
theorem heap3 {w : World} {b g : Nat} (hne : b ≠ g) (x0 x1 x2 : Value) : (((w.setCell ⟨g, 0, none⟩ x0).setCell ⟨g, 1, none⟩ x1).setCell ⟨g, 2, none⟩ x2).heap[b]? = w.heap[b]? := by
  rw [Below.heap_setCell _ _ _ _ (by exact hne), Below.heap_setCell _ _ _ _ (by exact hne), Below.heap_setCell _ _ _ _ (by exact hne)]

theorem qrow_new4 {w : World} {k : Nat} {a b c d : Rat} {s0a : Bool} {p0a : Option Addr} {n0a c0a : Nat} {p0b : Option Addr} {n0b c0b : Nat} {s1a : Bool} {p1a : Option Addr} {n1a c1a : Nat} {p1b : Option Addr} {n1b c1b : Nat} {s2a : Bool} {p2a : Option Addr} {n2a c2a : Nat} {p2b : Option Addr} {n2b c2b : Nat} {s3a : Bool} {p3a : Option Addr} {n3a c3a : Nat} {p3b : Option Addr} {n3b c3b : Nat} (h0 : QR w (.agg #[.bool s0a, .slice p0a n0a c0a, .slice p0b n0b c0b]) a k) (h1 : QR w (.agg #[.bool s1a, .slice p1a n1a c1a, .slice p1b n1b c1b]) b k) (h2 : QR w (.agg #[.bool s2a, .slice p2a n2a c2a, .slice p2b n2b c2b]) c k) (h3 : QR w (.agg #[.bool s3a, .slice p3a n3a c3a, .slice p3b n3b c3b]) d k) : Qrw (w.alloc (.cells #[.bool s0a, .slice p0a n0a c0a, .slice p0b n0b c0b, .bool s1a, .slice p1a n1a c1a, .slice p1b n1b c1b, .bool s2a, .slice p2a n2a c2a, .slice p2b n2b c2b, .bool s3a, .slice p3a n3a c3a, .slice p3b n3b c3b] 30)) w.heap.size 4 (sel4 a b c d) k := by
  have hb := (Below.refl w.heap.size w).alloc (Nat.le_refl _) (.cells #[.bool s0a, .slice p0a n0a c0a, .slice p0b n0b c0b, .bool s1a, .slice p1a n1a c1a, .slice p1b n1b c1b, .bool s2a, .slice p2a n2a c2a, .slice p2b n2b c2b, .bool s3a, .slice p3a n3a c3a, .slice p3b n3b c3b] 30)
  refine ⟨[(s0a, (p0a, n0a, c0a), (p0b, n0b, c0b)), (s1a, (p1a, n1a, c1a), (p1b, n1b, c1b)), (s2a, (p2a, n2a, c2a), (p2b, n2b, c2b)), (s3a, (p3a, n3a, c3a), (p3b, n3b, c3b))], 30, (0, 0), ?_, rfl, fun i hi => ?_⟩
  · show (w.heap.push _)[w.heap.size]? = _
    simp [flq, qcs]
  · rcases i with _ | _ | _ | _ | i
    · exact h0.on hb
    · exact h1.on hb
    · exact h2.on hb
    · exact h3.on hb
    · omega

end Go.Proofs.YtkdeopikojgboaaGreatDoor

/-
  THE REFERENCE: Ends.
-/
namespace Go.Proofs.YtkdeopikojgboaaGreatDoor
open Go.RowKit
open Num4
open Num (dg isNat dval)
set_option linter.unusedVariables false
set_option maxRecDepth 100000
set_option linter.unusedSimpArgs false

set_option maxHeartbeats 8000000 in
theorem rends {w : World} {b m : Nat} {qf : Nat → Rat} {k : Nat} (h : Qrw w b m qf k) (hm1 : 1 ≤ m) (hm : m ≤ 100) (hk : k ≤ 1073741824) :
    Calls Tryz.prog 14 #[.slice (some ⟨b, 0, none⟩) m m] w fun e w' => e = .returned (.agg #[.string (qtxt (lofN qf (m - 1))), .string (qtxt (hifN qf (m - 1)))]) ∧ Below w.heap.size w w' := by
  have HR := hid h
  have HK := hid hk
  have hbl := h.lt
  have HBL := hid hbl
  obtain ⟨s0a, p0a, n0a, c0a, p0b, n0b, c0b, y0, y1, y2, hr⟩ := h.at (i := 0) (by omega)
  simp only [Nat.zero_mul, Nat.zero_add] at y0 y1 y2
  obtain ⟨ht0, hu0⟩ := hr.two
  have hn2 : (0 : Int) < (m : Int) := by omega
  have hb8 := (Below.refl w.heap.size w).alloc (Nat.le_refl _) (.cells #[.string ⟨#[]⟩, .string ⟨#[]⟩] 23)
  have hb9 := hb8.alloc (Nat.le_of_lt (by simp)) (.cells #[.bool s0a, .slice p0a n0a c0a, .slice p0b n0b c0b] 30)
  have z0 := (World.cell?_of_block (a := ⟨b, 0, none⟩) (hb8.block b hbl)).trans y0
  have x0 := (World.cell?_of_block (a := ⟨b, 0, none⟩) (hb9.block b hbl)).trans y0
  have z1 := (World.cell?_of_block (a := ⟨b, 1, none⟩) (hb8.block b hbl)).trans y1
  have x1 := (World.cell?_of_block (a := ⟨b, 1, none⟩) (hb9.block b hbl)).trans y1
  have z2 := (World.cell?_of_block (a := ⟨b, 2, none⟩) (hb8.block b hbl)).trans y2
  have x2 := (World.cell?_of_block (a := ⟨b, 2, none⟩) (hb9.block b hbl)).trans y2
  clear hb8 hb9
  have B := hid (Below.refl w.heap.size w)
  have HN0 := hid ht0
  have HD0 := hid hu0
  have hb1 := (Below.refl _ _).alloc (Nat.le_refl w.heap.size) (.cells #[.string ⟨#[]⟩, .string ⟨#[]⟩] 23)
  have hx2 := Vbx.new w ⟨#[]⟩ ⟨#[]⟩
  replace HN0 := wr HN0 hb1
  replace HD0 := wr HD0 hb1
  replace B := bb B hb1
  replace HR := hid (HR.out.on hb1)
  have XV := hid hx2
  have hs3 : (w.alloc (.cells #[.string ⟨#[]⟩, .string ⟨#[]⟩] 23)).heap.size = w.heap.size + 1 := by simp
  clear hb1 hx2
  have hb4 := (Below.refl _ _).alloc (Nat.le_refl (w.alloc (.cells #[.string ⟨#[]⟩, .string ⟨#[]⟩] 23)).heap.size) (.cells #[.bool s0a, .slice p0a n0a c0a, .slice p0b n0b c0b] 30)
  have hx5 := Qbx.new (w.alloc (.cells #[.string ⟨#[]⟩, .string ⟨#[]⟩] 23)) s0a p0a n0a c0a p0b n0b c0b
  rw [hs3] at hx5
  replace XV := vx XV hb4
  replace HN0 := wr HN0 hb4
  replace HD0 := wr HD0 hb4
  replace B := bb B hb4
  replace HR := hid (HR.out.on hb4)
  have XL := hid hx5
  have hs6 : ((w.alloc (.cells #[.string ⟨#[]⟩, .string ⟨#[]⟩] 23)).alloc (.cells #[.bool s0a, .slice p0a n0a c0a, .slice p0b n0b c0b] 30)).heap.size = w.heap.size + 1 + 1 := by simp [hs3]
  clear hb4 hx5
  have hb7 := (Below.refl _ _).alloc (Nat.le_refl ((w.alloc (.cells #[.string ⟨#[]⟩, .string ⟨#[]⟩] 23)).alloc (.cells #[.bool s0a, .slice p0a n0a c0a, .slice p0b n0b c0b] 30)).heap.size) (.cells #[.bool s0a, .slice p0a n0a c0a, .slice p0b n0b c0b] 30)
  have hx8 := Qbx.new ((w.alloc (.cells #[.string ⟨#[]⟩, .string ⟨#[]⟩] 23)).alloc (.cells #[.bool s0a, .slice p0a n0a c0a, .slice p0b n0b c0b] 30)) s0a p0a n0a c0a p0b n0b c0b
  rw [hs6] at hx8
  replace XV := vx XV hb7
  replace XL := qx XL hb7
  replace HN0 := wr HN0 hb7
  replace HD0 := wr HD0 hb7
  replace B := bb B hb7
  replace HR := hid (HR.out.on hb7)
  have XH := hid hx8
  have hs9 : (((w.alloc (.cells #[.string ⟨#[]⟩, .string ⟨#[]⟩] 23)).alloc (.cells #[.bool s0a, .slice p0a n0a c0a, .slice p0b n0b c0b] 30)).alloc (.cells #[.bool s0a, .slice p0a n0a c0a, .slice p0b n0b c0b] 30)).heap.size = w.heap.size + 1 + 1 + 1 := by simp [hs6]
  clear hb7 hx8
  clear hs9 h hr ht0 hu0 hk y0 y1 y2 hbl
  go_enter Tryz.func14, Tryz.ntmps14
  obtain ⟨cc10a, cc10b⟩ := XV.out.both
  obtain ⟨cc11a, cc11b, cc11c⟩ := XL.out.cells
  obtain ⟨cc12a, cc12b, cc12c⟩ := XH.out.cells
  go_wp2_with fail
  generalize hW : ((w.alloc (.cells #[.string ⟨#[]⟩, .string ⟨#[]⟩] 23)).alloc (.cells #[.bool s0a, .slice p0a n0a c0a, .slice p0b n0b c0b] 30)).alloc (.cells #[.bool s0a, .slice p0a n0a c0a, .slice p0b n0b c0b] 30) = W13 at *
  clear hW
  clear z0 z1 z2 x0 x1 x2 cc10a cc10b cc11a cc11b cc11c cc12a cc12b cc12c
  obtain ⟨G, hG⟩ : ∃ G, G = w.heap.size + 1 := ⟨_, rfl⟩
  rw [← hG] at XL XH
  have LG := hid (show w.heap.size < G by omega)
  rw [← hG]
  clear hG
  go_loopw [5] (fun i wr => ∃ (t : Nat) (sla : Bool) (pla : Option Addr) (nla cla : Nat) (plb : Option Addr) (nlb clb : Nat) (sha : Bool) (pha : Option Addr) (nha cha : Nat) (phb : Option Addr) (nhb chb : Nat), 1 ≤ t ∧ t ≤ m ∧ i = .int .i64 t ∧ Hid (Vbx wr w.heap.size ⟨#[]⟩ ⟨#[]⟩) ∧ Hid (Qbx wr G sla (.slice pla nla cla) (.slice plb nlb clb)) ∧ Hid (Qbx wr (G + 1) sha (.slice pha nha cha) (.slice phb nhb chb)) ∧ Hid (QR wr (.agg #[.bool sla, .slice pla nla cla, .slice plb nlb clb]) (lofN qf (t - 1)) k) ∧ Hid (QR wr (.agg #[.bool sha, .slice pha nha cha, .slice phb nhb chb]) (hifN qf (t - 1)) k) ∧ Hid (Qrw wr b m qf k) ∧ Hid (Below w.heap.size w wr)) (fun i _ => m - (intOf i).toNat)
  case atStart => exact ⟨1, _, _, _, _, _, _, _, _, _, _, _, _, _, _, Nat.le_refl _, hm1, rfl, XV, XL, XH, hid (QR.mk2 HN0.out HD0.out), hid (QR.mk2 HN0.out HD0.out), HR, B⟩
  case round =>
    obtain ⟨wo, rfl⟩ : ∃ wo : World, wo = wr := ⟨_, rfl⟩
    clear XV XL XH HN0 HD0 HR B
    obtain ⟨t, sla, pla, nla, cla, plb, nlb, clb, sha, pha, nha, cha, phb, nhb, chb, ht1, htm, rfl, XV, XL, XH, HL, HH, HR, B⟩ := hrel
    obtain ⟨ht, hu⟩ := HL.out.two
    have HNl := hid ht
    have HDl := hid hu
    obtain ⟨ht2, hu2⟩ := HH.out.two
    have HNh := hid ht2
    have HDh := hid hu2
    clear ht hu ht2 hu2 HL HH
    by_cases hlt : t < m
    · have hltz : (t : Int) < (m : Int) := by omega
      have hz0 : (0 : Int) ≤ (t : Int) := by omega
      obtain ⟨s9a, p9a, n9a, c9a, p9b, n9b, c9b, y0, y1, y2, hr9⟩ := HR.out.at hlt
      obtain ⟨ht9, hu9⟩ := hr9.two
      have HN9 := hid ht9
      have HD9 := hid hu9
      clear hr9 ht9 hu9
      have hsl := lof_step qf ht1
      have hsh := hif_step qf ht1
      by_cases hc : qf t < lofN qf (t - 1)
      · have hcz : (qf t - lofN qf (t - 1)).num.sign < 0 := (rsg_lt _ _).2 hc
        rw [mn, if_pos hc] at hsl
        obtain ⟨zl, hzl⟩ : ∃ z, (qf t - lofN qf (t - 1)).num.sign = z := ⟨_, rfl⟩
        rw [hzl] at hcz
        have HZl := hid hzl
        clear hzl
        obtain ⟨cc301a, cc301b, cc301c⟩ := XL.out.cells
        go_wp2_with fail
        obtain ⟨cc302a, cc302b, cc302c⟩ := XL.out.cells
        replace XV := hid XV.out.dr
        replace XL := hid XL.out.dr
        replace XH := hid XH.out.dr
        replace HNl := hid HNl.out.drew
        replace HDl := hid HDl.out.drew
        replace HNh := hid HNh.out.drew
        replace HDh := hid HDh.out.drew
        replace HN9 := hid HN9.out.drew
        replace HD9 := hid HD9.out.drew
        replace B := hid (Below.drew B.out)
        replace HR := hid (HR.out.on (Below.drew (Below.refl _ _)))
        obtain ⟨cc303a, cc303b, cc303c⟩ := XL.out.cells
        have y0 := (show wo.drew.cell? ⟨b, t * 3, none⟩ = some (.bool s9a) from y0)
        have y1 := (show wo.drew.cell? ⟨b, t * 3 + 1, none⟩ = some (.slice p9a n9a c9a) from y1)
        have y2 := (show wo.drew.cell? ⟨b, t * 3 + 2, none⟩ = some (.slice p9b n9b c9b) from y2)
        go_region_held3 (fun w' => w'.cell? ⟨b, t * 3, none⟩ = some (.bool s9a) ∧ w'.cell? ⟨b, t * 3 + 1, none⟩ = some (.slice p9a n9a c9a) ∧ w'.cell? ⟨b, t * 3 + 2, none⟩ = some (.slice p9b n9b c9b) ∧ w'.cell? ⟨G, 0, none⟩ = some (.bool sla) ∧ w'.cell? ⟨G, 1, none⟩ = some (.slice pla nla cla) ∧ w'.cell? ⟨G, 2, none⟩ = some (.slice plb nlb clb)) (go_keep) (first
          | (go_at_call 11; refine (rcmpz HZl.out (QR.mk2 HN9.out HD9.out) (QR.mk2 HNl.out HDl.out) HK.out).mono ?_; rintro e w305 ⟨rfl, hb⟩; have hbb := HR.out.lt; replace y0 := (World.cell?_of_block (a := ⟨b, t * 3, none⟩) (hb.block b hbb)).trans y0; replace y1 := (World.cell?_of_block (a := ⟨b, t * 3 + 1, none⟩) (hb.block b hbb)).trans y1; replace y2 := (World.cell?_of_block (a := ⟨b, t * 3 + 2, none⟩) (hb.block b hbb)).trans y2; replace XV := vx XV hb; replace XL := qx XL hb; replace XH := qx XH hb; replace HNl := wr HNl hb; replace HDl := wr HDl hb; replace HNh := wr HNh hb; replace HDh := wr HDh hb; replace HN9 := wr HN9 hb; replace HD9 := wr HD9 hb; replace B := bb B hb; replace HR := hid (HR.out.on hb); clear cc301a cc301b cc301c cc302a cc302b cc302c cc303a cc303b cc303c; clear hb hbb; obtain ⟨cc306a, cc306b, cc306c⟩ := XL.out.cells; have mk304_0 := hid True.intro))
        clear cc306a cc306b cc306c
        obtain ⟨cc307a, cc307b, cc307c⟩ := XL.out.cells
        obtain ⟨⟨cc308a, cc308b⟩, ⟨cc308c, cc308d⟩, cc308e, cc308f⟩ := XL.out.stores
        obtain ⟨r309a, r309b, r309c⟩ := XL.out.last B.out (by have := LG.out; omega) s9a p9a n9a c9a p9b n9b c9b
        replace HR := hid (HR.out.moved (heap3 (by have := HBL.out; have := LG.out; omega) _ _ _) (fun v z k h => r309c h))
        replace XV := hid (((XV.out.other (g2 := G) (by have := LG.out; omega) 0 (.bool s9a)).other (g2 := G) (by have := LG.out; omega) 1 (.slice p9a n9a c9a)).other (g2 := G) (by have := LG.out; omega) 2 (.slice p9b n9b c9b))
        replace XH := hid (((XH.out.other (g2 := G) (by have := LG.out; omega) 0 (.bool s9a)).other (g2 := G) (by have := LG.out; omega) 1 (.slice p9a n9a c9a)).other (g2 := G) (by have := LG.out; omega) 2 (.slice p9b n9b c9b))
        replace HNl := hid (r309c HNl.out)
        replace HDl := hid (r309c HDl.out)
        replace HNh := hid (r309c HNh.out)
        replace HDh := hid (r309c HDh.out)
        replace HN9 := hid (r309c HN9.out)
        replace HD9 := hid (r309c HD9.out)
        replace XL := hid r309a
        replace B := hid r309b
        clear r309a r309b r309c
        replace y0 := (World.cell?_of_block (a := ⟨b, t * 3, none⟩) (heap3 (w := w305) (b := b) (g := G) (by have := HBL.out; have := LG.out; omega) (.bool s9a) (.slice p9a n9a c9a) (.slice p9b n9b c9b))).trans y0
        replace y1 := (World.cell?_of_block (a := ⟨b, t * 3 + 1, none⟩) (heap3 (w := w305) (b := b) (g := G) (by have := HBL.out; have := LG.out; omega) (.bool s9a) (.slice p9a n9a c9a) (.slice p9b n9b c9b))).trans y1
        replace y2 := (World.cell?_of_block (a := ⟨b, t * 3 + 2, none⟩) (heap3 (w := w305) (b := b) (g := G) (by have := HBL.out; have := LG.out; omega) (.bool s9a) (.slice p9a n9a c9a) (.slice p9b n9b c9b))).trans y2
        obtain ⟨cc310a, cc310b, cc310c⟩ := XH.out.cells
        go_wp2_with fail
        by_cases hd : hifN qf (t - 1) < qf t
        · have hdz : 0 < (qf t - hifN qf (t - 1)).num.sign := (rsg_gt _ _).2 hd
          rw [mx, if_pos hd] at hsh
          obtain ⟨zh, hzh⟩ : ∃ z, (qf t - hifN qf (t - 1)).num.sign = z := ⟨_, rfl⟩
          rw [hzh] at hdz
          have HZh := hid hzh
          clear hzh
          obtain ⟨cc411a, cc411b, cc411c⟩ := XH.out.cells
          replace XV := hid XV.out.dr
          replace XL := hid XL.out.dr
          replace XH := hid XH.out.dr
          replace HN9 := hid HN9.out.drew
          replace HD9 := hid HD9.out.drew
          replace HNh := hid HNh.out.drew
          replace HDh := hid HDh.out.drew
          replace B := hid (Below.drew B.out)
          replace HR := hid (HR.out.on (Below.drew (Below.refl _ _)))
          obtain ⟨cc412a, cc412b, cc412c⟩ := XH.out.cells
          have y0 := (show ((((w305.setCell ⟨G, 0, none⟩ (.bool s9a)).setCell ⟨G, 1, none⟩ (.slice p9a n9a c9a)).setCell ⟨G, 2, none⟩ (.slice p9b n9b c9b)).drew).cell? ⟨b, t * 3, none⟩ = some (.bool s9a) from y0)
          have y1 := (show ((((w305.setCell ⟨G, 0, none⟩ (.bool s9a)).setCell ⟨G, 1, none⟩ (.slice p9a n9a c9a)).setCell ⟨G, 2, none⟩ (.slice p9b n9b c9b)).drew).cell? ⟨b, t * 3 + 1, none⟩ = some (.slice p9a n9a c9a) from y1)
          have y2 := (show ((((w305.setCell ⟨G, 0, none⟩ (.bool s9a)).setCell ⟨G, 1, none⟩ (.slice p9a n9a c9a)).setCell ⟨G, 2, none⟩ (.slice p9b n9b c9b)).drew).cell? ⟨b, t * 3 + 2, none⟩ = some (.slice p9b n9b c9b) from y2)
          go_region_held3 (fun w' => w'.cell? ⟨b, t * 3, none⟩ = some (.bool s9a) ∧ w'.cell? ⟨b, t * 3 + 1, none⟩ = some (.slice p9a n9a c9a) ∧ w'.cell? ⟨b, t * 3 + 2, none⟩ = some (.slice p9b n9b c9b) ∧ w'.cell? ⟨G + 1, 0, none⟩ = some (.bool sha) ∧ w'.cell? ⟨G + 1, 1, none⟩ = some (.slice pha nha cha) ∧ w'.cell? ⟨G + 1, 2, none⟩ = some (.slice phb nhb chb)) (go_keep) (first
            | (go_at_call 11; refine (rcmpz HZh.out (QR.mk2 HN9.out HD9.out) (QR.mk2 HNh.out HDh.out) HK.out).mono ?_; rintro e w414 ⟨rfl, hb⟩; have hbb := HR.out.lt; replace y0 := (World.cell?_of_block (a := ⟨b, t * 3, none⟩) (hb.block b hbb)).trans y0; replace y1 := (World.cell?_of_block (a := ⟨b, t * 3 + 1, none⟩) (hb.block b hbb)).trans y1; replace y2 := (World.cell?_of_block (a := ⟨b, t * 3 + 2, none⟩) (hb.block b hbb)).trans y2; replace XV := vx XV hb; replace XL := qx XL hb; replace XH := qx XH hb; replace HN9 := wr HN9 hb; replace HD9 := wr HD9 hb; replace HNh := wr HNh hb; replace HDh := wr HDh hb; replace B := bb B hb; replace HR := hid (HR.out.on hb); clear cc411a cc411b cc411c cc412a cc412b cc412c; clear hb hbb; obtain ⟨cc415a, cc415b, cc415c⟩ := XH.out.cells; have mk413_0 := hid True.intro))
          clear cc415a cc415b cc415c
          obtain ⟨cc416a, cc416b, cc416c⟩ := XH.out.cells
          obtain ⟨⟨cc417a, cc417b⟩, ⟨cc417c, cc417d⟩, cc417e, cc417f⟩ := XH.out.stores
          obtain ⟨r418a, r418b, r418c⟩ := XH.out.last B.out (by have := LG.out; omega) s9a p9a n9a c9a p9b n9b c9b
          replace HR := hid (HR.out.moved (heap3 (by have := HBL.out; have := LG.out; omega) _ _ _) (fun v z k h => r418c h))
          replace XV := hid (((XV.out.other (g2 := G + 1) (by have := LG.out; omega) 0 (.bool s9a)).other (g2 := G + 1) (by have := LG.out; omega) 1 (.slice p9a n9a c9a)).other (g2 := G + 1) (by have := LG.out; omega) 2 (.slice p9b n9b c9b))
          replace XL := hid (((XL.out.other (g2 := G + 1) (by have := LG.out; omega) 0 (.bool s9a)).other (g2 := G + 1) (by have := LG.out; omega) 1 (.slice p9a n9a c9a)).other (g2 := G + 1) (by have := LG.out; omega) 2 (.slice p9b n9b c9b))
          replace HN9 := hid (r418c HN9.out)
          replace HD9 := hid (r418c HD9.out)
          replace HNh := hid (r418c HNh.out)
          replace HDh := hid (r418c HDh.out)
          replace XH := hid r418a
          replace B := hid r418b
          clear r418a r418b r418c
          obtain ⟨cc419a, cc419b⟩ := XV.out.both
          obtain ⟨cc420a, cc420b, cc420c⟩ := XL.out.cells
          obtain ⟨cc421a, cc421b, cc421c⟩ := XH.out.cells
          go_wp2_with fail
          go_roundw
          case rel => exact ⟨t + 1, _, _, _, _, _, _, _, _, _, _, _, _, _, _, by omega, by omega, by go_num, XV, XL, XH, hid (by rw [Nat.add_sub_cancel, hsl]; exact QR.mk2 HN9.out HD9.out), hid (by rw [Nat.add_sub_cancel, hsh]; exact QR.mk2 HN9.out HD9.out), HR, B⟩
          case measure => simp [intOf]; omega
        · have hdz : ¬ 0 < (qf t - hifN qf (t - 1)).num.sign := fun e => hd ((rsg_gt _ _).1 e)
          rw [mx, if_neg hd] at hsh
          obtain ⟨zh, hzh⟩ : ∃ z, (qf t - hifN qf (t - 1)).num.sign = z := ⟨_, rfl⟩
          rw [hzh] at hdz
          have HZh := hid hzh
          clear hzh
          obtain ⟨cc511a, cc511b, cc511c⟩ := XH.out.cells
          replace XV := hid XV.out.dr
          replace XL := hid XL.out.dr
          replace XH := hid XH.out.dr
          replace HN9 := hid HN9.out.drew
          replace HD9 := hid HD9.out.drew
          replace HNh := hid HNh.out.drew
          replace HDh := hid HDh.out.drew
          replace B := hid (Below.drew B.out)
          replace HR := hid (HR.out.on (Below.drew (Below.refl _ _)))
          obtain ⟨cc512a, cc512b, cc512c⟩ := XH.out.cells
          have y0 := (show ((((w305.setCell ⟨G, 0, none⟩ (.bool s9a)).setCell ⟨G, 1, none⟩ (.slice p9a n9a c9a)).setCell ⟨G, 2, none⟩ (.slice p9b n9b c9b)).drew).cell? ⟨b, t * 3, none⟩ = some (.bool s9a) from y0)
          have y1 := (show ((((w305.setCell ⟨G, 0, none⟩ (.bool s9a)).setCell ⟨G, 1, none⟩ (.slice p9a n9a c9a)).setCell ⟨G, 2, none⟩ (.slice p9b n9b c9b)).drew).cell? ⟨b, t * 3 + 1, none⟩ = some (.slice p9a n9a c9a) from y1)
          have y2 := (show ((((w305.setCell ⟨G, 0, none⟩ (.bool s9a)).setCell ⟨G, 1, none⟩ (.slice p9a n9a c9a)).setCell ⟨G, 2, none⟩ (.slice p9b n9b c9b)).drew).cell? ⟨b, t * 3 + 2, none⟩ = some (.slice p9b n9b c9b) from y2)
          go_region_held3 (fun w' => w'.cell? ⟨b, t * 3, none⟩ = some (.bool s9a) ∧ w'.cell? ⟨b, t * 3 + 1, none⟩ = some (.slice p9a n9a c9a) ∧ w'.cell? ⟨b, t * 3 + 2, none⟩ = some (.slice p9b n9b c9b) ∧ w'.cell? ⟨G + 1, 0, none⟩ = some (.bool sha) ∧ w'.cell? ⟨G + 1, 1, none⟩ = some (.slice pha nha cha) ∧ w'.cell? ⟨G + 1, 2, none⟩ = some (.slice phb nhb chb)) (go_keep) (first
            | (go_at_call 11; refine (rcmpz HZh.out (QR.mk2 HN9.out HD9.out) (QR.mk2 HNh.out HDh.out) HK.out).mono ?_; rintro e w514 ⟨rfl, hb⟩; have hbb := HR.out.lt; replace y0 := (World.cell?_of_block (a := ⟨b, t * 3, none⟩) (hb.block b hbb)).trans y0; replace y1 := (World.cell?_of_block (a := ⟨b, t * 3 + 1, none⟩) (hb.block b hbb)).trans y1; replace y2 := (World.cell?_of_block (a := ⟨b, t * 3 + 2, none⟩) (hb.block b hbb)).trans y2; replace XV := vx XV hb; replace XL := qx XL hb; replace XH := qx XH hb; replace HN9 := wr HN9 hb; replace HD9 := wr HD9 hb; replace HNh := wr HNh hb; replace HDh := wr HDh hb; replace B := bb B hb; replace HR := hid (HR.out.on hb); clear cc511a cc511b cc511c cc512a cc512b cc512c; clear hb hbb; obtain ⟨cc515a, cc515b, cc515c⟩ := XH.out.cells; have mk513_0 := hid True.intro))
          go_wp2_with fail
          go_roundw
          case rel => exact ⟨t + 1, _, _, _, _, _, _, _, _, _, _, _, _, _, _, by omega, by omega, by go_num, XV, XL, XH, hid (by rw [Nat.add_sub_cancel, hsl]; exact QR.mk2 HN9.out HD9.out), hid (by rw [Nat.add_sub_cancel, hsh]; exact QR.mk2 HNh.out HDh.out), HR, B⟩
          case measure => simp [intOf]; omega
      · have hcz : ¬ (qf t - lofN qf (t - 1)).num.sign < 0 := fun e => hc ((rsg_lt _ _).1 e)
        rw [mn, if_neg hc] at hsl
        obtain ⟨zl, hzl⟩ : ∃ z, (qf t - lofN qf (t - 1)).num.sign = z := ⟨_, rfl⟩
        rw [hzl] at hcz
        have HZl := hid hzl
        clear hzl
        obtain ⟨cc601a, cc601b, cc601c⟩ := XL.out.cells
        go_wp2_with fail
        obtain ⟨cc602a, cc602b, cc602c⟩ := XL.out.cells
        replace XV := hid XV.out.dr
        replace XL := hid XL.out.dr
        replace XH := hid XH.out.dr
        replace HNl := hid HNl.out.drew
        replace HDl := hid HDl.out.drew
        replace HNh := hid HNh.out.drew
        replace HDh := hid HDh.out.drew
        replace HN9 := hid HN9.out.drew
        replace HD9 := hid HD9.out.drew
        replace B := hid (Below.drew B.out)
        replace HR := hid (HR.out.on (Below.drew (Below.refl _ _)))
        obtain ⟨cc603a, cc603b, cc603c⟩ := XL.out.cells
        have y0 := (show wo.drew.cell? ⟨b, t * 3, none⟩ = some (.bool s9a) from y0)
        have y1 := (show wo.drew.cell? ⟨b, t * 3 + 1, none⟩ = some (.slice p9a n9a c9a) from y1)
        have y2 := (show wo.drew.cell? ⟨b, t * 3 + 2, none⟩ = some (.slice p9b n9b c9b) from y2)
        go_region_held3 (fun w' => w'.cell? ⟨b, t * 3, none⟩ = some (.bool s9a) ∧ w'.cell? ⟨b, t * 3 + 1, none⟩ = some (.slice p9a n9a c9a) ∧ w'.cell? ⟨b, t * 3 + 2, none⟩ = some (.slice p9b n9b c9b) ∧ w'.cell? ⟨G, 0, none⟩ = some (.bool sla) ∧ w'.cell? ⟨G, 1, none⟩ = some (.slice pla nla cla) ∧ w'.cell? ⟨G, 2, none⟩ = some (.slice plb nlb clb)) (go_keep) (first
          | (go_at_call 11; refine (rcmpz HZl.out (QR.mk2 HN9.out HD9.out) (QR.mk2 HNl.out HDl.out) HK.out).mono ?_; rintro e w605 ⟨rfl, hb⟩; have hbb := HR.out.lt; replace y0 := (World.cell?_of_block (a := ⟨b, t * 3, none⟩) (hb.block b hbb)).trans y0; replace y1 := (World.cell?_of_block (a := ⟨b, t * 3 + 1, none⟩) (hb.block b hbb)).trans y1; replace y2 := (World.cell?_of_block (a := ⟨b, t * 3 + 2, none⟩) (hb.block b hbb)).trans y2; replace XV := vx XV hb; replace XL := qx XL hb; replace XH := qx XH hb; replace HNl := wr HNl hb; replace HDl := wr HDl hb; replace HNh := wr HNh hb; replace HDh := wr HDh hb; replace HN9 := wr HN9 hb; replace HD9 := wr HD9 hb; replace B := bb B hb; replace HR := hid (HR.out.on hb); clear cc601a cc601b cc601c cc602a cc602b cc602c cc603a cc603b cc603c; clear hb hbb; obtain ⟨cc606a, cc606b, cc606c⟩ := XL.out.cells; have mk604_0 := hid True.intro))
        obtain ⟨cc607a, cc607b, cc607c⟩ := XH.out.cells
        go_wp2_with fail
        by_cases hd : hifN qf (t - 1) < qf t
        · have hdz : 0 < (qf t - hifN qf (t - 1)).num.sign := (rsg_gt _ _).2 hd
          rw [mx, if_pos hd] at hsh
          obtain ⟨zh, hzh⟩ : ∃ z, (qf t - hifN qf (t - 1)).num.sign = z := ⟨_, rfl⟩
          rw [hzh] at hdz
          have HZh := hid hzh
          clear hzh
          obtain ⟨cc708a, cc708b, cc708c⟩ := XH.out.cells
          replace XV := hid XV.out.dr
          replace XL := hid XL.out.dr
          replace XH := hid XH.out.dr
          replace HN9 := hid HN9.out.drew
          replace HD9 := hid HD9.out.drew
          replace HNh := hid HNh.out.drew
          replace HDh := hid HDh.out.drew
          replace HNl := hid HNl.out.drew
          replace HDl := hid HDl.out.drew
          replace B := hid (Below.drew B.out)
          replace HR := hid (HR.out.on (Below.drew (Below.refl _ _)))
          obtain ⟨cc709a, cc709b, cc709c⟩ := XH.out.cells
          have y0 := (show w605.drew.cell? ⟨b, t * 3, none⟩ = some (.bool s9a) from y0)
          have y1 := (show w605.drew.cell? ⟨b, t * 3 + 1, none⟩ = some (.slice p9a n9a c9a) from y1)
          have y2 := (show w605.drew.cell? ⟨b, t * 3 + 2, none⟩ = some (.slice p9b n9b c9b) from y2)
          go_region_held3 (fun w' => w'.cell? ⟨b, t * 3, none⟩ = some (.bool s9a) ∧ w'.cell? ⟨b, t * 3 + 1, none⟩ = some (.slice p9a n9a c9a) ∧ w'.cell? ⟨b, t * 3 + 2, none⟩ = some (.slice p9b n9b c9b) ∧ w'.cell? ⟨G + 1, 0, none⟩ = some (.bool sha) ∧ w'.cell? ⟨G + 1, 1, none⟩ = some (.slice pha nha cha) ∧ w'.cell? ⟨G + 1, 2, none⟩ = some (.slice phb nhb chb)) (go_keep) (first
            | (go_at_call 11; refine (rcmpz HZh.out (QR.mk2 HN9.out HD9.out) (QR.mk2 HNh.out HDh.out) HK.out).mono ?_; rintro e w711 ⟨rfl, hb⟩; have hbb := HR.out.lt; replace y0 := (World.cell?_of_block (a := ⟨b, t * 3, none⟩) (hb.block b hbb)).trans y0; replace y1 := (World.cell?_of_block (a := ⟨b, t * 3 + 1, none⟩) (hb.block b hbb)).trans y1; replace y2 := (World.cell?_of_block (a := ⟨b, t * 3 + 2, none⟩) (hb.block b hbb)).trans y2; replace XV := vx XV hb; replace XL := qx XL hb; replace XH := qx XH hb; replace HN9 := wr HN9 hb; replace HD9 := wr HD9 hb; replace HNh := wr HNh hb; replace HDh := wr HDh hb; replace HNl := wr HNl hb; replace HDl := wr HDl hb; replace B := bb B hb; replace HR := hid (HR.out.on hb); clear cc708a cc708b cc708c cc709a cc709b cc709c; clear hb hbb; obtain ⟨cc712a, cc712b, cc712c⟩ := XH.out.cells; have mk710_0 := hid True.intro))
          clear cc712a cc712b cc712c
          obtain ⟨cc713a, cc713b, cc713c⟩ := XH.out.cells
          obtain ⟨⟨cc714a, cc714b⟩, ⟨cc714c, cc714d⟩, cc714e, cc714f⟩ := XH.out.stores
          obtain ⟨r715a, r715b, r715c⟩ := XH.out.last B.out (by have := LG.out; omega) s9a p9a n9a c9a p9b n9b c9b
          replace HR := hid (HR.out.moved (heap3 (by have := HBL.out; have := LG.out; omega) _ _ _) (fun v z k h => r715c h))
          replace XV := hid (((XV.out.other (g2 := G + 1) (by have := LG.out; omega) 0 (.bool s9a)).other (g2 := G + 1) (by have := LG.out; omega) 1 (.slice p9a n9a c9a)).other (g2 := G + 1) (by have := LG.out; omega) 2 (.slice p9b n9b c9b))
          replace XL := hid (((XL.out.other (g2 := G + 1) (by have := LG.out; omega) 0 (.bool s9a)).other (g2 := G + 1) (by have := LG.out; omega) 1 (.slice p9a n9a c9a)).other (g2 := G + 1) (by have := LG.out; omega) 2 (.slice p9b n9b c9b))
          replace HN9 := hid (r715c HN9.out)
          replace HD9 := hid (r715c HD9.out)
          replace HNh := hid (r715c HNh.out)
          replace HDh := hid (r715c HDh.out)
          replace HNl := hid (r715c HNl.out)
          replace HDl := hid (r715c HDl.out)
          replace XH := hid r715a
          replace B := hid r715b
          clear r715a r715b r715c
          obtain ⟨cc716a, cc716b⟩ := XV.out.both
          obtain ⟨cc717a, cc717b, cc717c⟩ := XL.out.cells
          obtain ⟨cc718a, cc718b, cc718c⟩ := XH.out.cells
          go_wp2_with fail
          go_roundw
          case rel => exact ⟨t + 1, _, _, _, _, _, _, _, _, _, _, _, _, _, _, by omega, by omega, by go_num, XV, XL, XH, hid (by rw [Nat.add_sub_cancel, hsl]; exact QR.mk2 HNl.out HDl.out), hid (by rw [Nat.add_sub_cancel, hsh]; exact QR.mk2 HN9.out HD9.out), HR, B⟩
          case measure => simp [intOf]; omega
        · have hdz : ¬ 0 < (qf t - hifN qf (t - 1)).num.sign := fun e => hd ((rsg_gt _ _).1 e)
          rw [mx, if_neg hd] at hsh
          obtain ⟨zh, hzh⟩ : ∃ z, (qf t - hifN qf (t - 1)).num.sign = z := ⟨_, rfl⟩
          rw [hzh] at hdz
          have HZh := hid hzh
          clear hzh
          obtain ⟨cc808a, cc808b, cc808c⟩ := XH.out.cells
          replace XV := hid XV.out.dr
          replace XL := hid XL.out.dr
          replace XH := hid XH.out.dr
          replace HN9 := hid HN9.out.drew
          replace HD9 := hid HD9.out.drew
          replace HNh := hid HNh.out.drew
          replace HDh := hid HDh.out.drew
          replace HNl := hid HNl.out.drew
          replace HDl := hid HDl.out.drew
          replace B := hid (Below.drew B.out)
          replace HR := hid (HR.out.on (Below.drew (Below.refl _ _)))
          obtain ⟨cc809a, cc809b, cc809c⟩ := XH.out.cells
          have y0 := (show w605.drew.cell? ⟨b, t * 3, none⟩ = some (.bool s9a) from y0)
          have y1 := (show w605.drew.cell? ⟨b, t * 3 + 1, none⟩ = some (.slice p9a n9a c9a) from y1)
          have y2 := (show w605.drew.cell? ⟨b, t * 3 + 2, none⟩ = some (.slice p9b n9b c9b) from y2)
          go_region_held3 (fun w' => w'.cell? ⟨b, t * 3, none⟩ = some (.bool s9a) ∧ w'.cell? ⟨b, t * 3 + 1, none⟩ = some (.slice p9a n9a c9a) ∧ w'.cell? ⟨b, t * 3 + 2, none⟩ = some (.slice p9b n9b c9b) ∧ w'.cell? ⟨G + 1, 0, none⟩ = some (.bool sha) ∧ w'.cell? ⟨G + 1, 1, none⟩ = some (.slice pha nha cha) ∧ w'.cell? ⟨G + 1, 2, none⟩ = some (.slice phb nhb chb)) (go_keep) (first
            | (go_at_call 11; refine (rcmpz HZh.out (QR.mk2 HN9.out HD9.out) (QR.mk2 HNh.out HDh.out) HK.out).mono ?_; rintro e w811 ⟨rfl, hb⟩; have hbb := HR.out.lt; replace y0 := (World.cell?_of_block (a := ⟨b, t * 3, none⟩) (hb.block b hbb)).trans y0; replace y1 := (World.cell?_of_block (a := ⟨b, t * 3 + 1, none⟩) (hb.block b hbb)).trans y1; replace y2 := (World.cell?_of_block (a := ⟨b, t * 3 + 2, none⟩) (hb.block b hbb)).trans y2; replace XV := vx XV hb; replace XL := qx XL hb; replace XH := qx XH hb; replace HN9 := wr HN9 hb; replace HD9 := wr HD9 hb; replace HNh := wr HNh hb; replace HDh := wr HDh hb; replace HNl := wr HNl hb; replace HDl := wr HDl hb; replace B := bb B hb; replace HR := hid (HR.out.on hb); clear cc808a cc808b cc808c cc809a cc809b cc809c; clear hb hbb; obtain ⟨cc812a, cc812b, cc812c⟩ := XH.out.cells; have mk810_0 := hid True.intro))
          go_wp2_with fail
          go_roundw
          case rel => exact ⟨t + 1, _, _, _, _, _, _, _, _, _, _, _, _, _, _, by omega, by omega, by go_num, XV, XL, XH, hid (by rw [Nat.add_sub_cancel, hsl]; exact QR.mk2 HNl.out HDl.out), hid (by rw [Nat.add_sub_cancel, hsh]; exact QR.mk2 HNh.out HDh.out), HR, B⟩
          case measure => simp [intOf]; omega
    · obtain rfl : t = m := by omega
      obtain ⟨cc901a, cc901b⟩ := XV.out.both
      obtain ⟨cc902a, cc902b, cc902c⟩ := XL.out.cells
      obtain ⟨cc903a, cc903b, cc903c⟩ := XH.out.cells
      go_wp2_with fail
      obtain ⟨cc904a, cc904b, cc904c⟩ := XL.out.cells
      obtain ⟨cc905a, cc905b, cc905c⟩ := XH.out.cells
      replace XV := hid XV.out.dr
      replace XL := hid XL.out.dr
      replace XH := hid XH.out.dr
      replace HNl := hid HNl.out.drew
      replace HDl := hid HDl.out.drew
      replace HNh := hid HNh.out.drew
      replace HDh := hid HDh.out.drew
      replace B := hid (Below.drew B.out)
      obtain ⟨cc906a, cc906b, cc906c⟩ := XL.out.cells
      obtain ⟨cc907a, cc907b, cc907c⟩ := XH.out.cells
      go_region_held3 (fun w' => w'.cell? ⟨G, 0, none⟩ = some (.bool sla) ∧ w'.cell? ⟨G, 1, none⟩ = some (.slice pla nla cla) ∧ w'.cell? ⟨G, 2, none⟩ = some (.slice plb nlb clb) ∧ w'.cell? ⟨G + 1, 0, none⟩ = some (.bool sha) ∧ w'.cell? ⟨G + 1, 1, none⟩ = some (.slice pha nha cha) ∧ w'.cell? ⟨G + 1, 2, none⟩ = some (.slice phb nhb chb)) (go_keep) (first
        | (have hm := mk908_0; clear hm; go_at_call 12; refine (rqtext (QR.mk2 HNh.out HDh.out) (by have := HK.out; omega)).mono ?_; rintro e w912 ⟨rfl, hb⟩; replace XV := vx XV hb; replace XL := qx XL hb; replace XH := qx XH hb; replace HNl := wr HNl hb; replace HDl := wr HDl hb; replace HNh := wr HNh hb; replace HDh := wr HDh hb; replace B := bb B hb; clear cc910a cc910b cc910c cc911a cc911b cc911c; clear hb ; obtain ⟨cc913a, cc913b, cc913c⟩ := XL.out.cells; obtain ⟨cc914a, cc914b, cc914c⟩ := XH.out.cells; obtain ⟨cc915a, cc915b, cc915c, cc915d⟩ := XV.out.stores; obtain ⟨r916a, r916b, r916c⟩ := XV.out.lastR B.out (by have := LG.out; omega) (qtxt (lofN qf (t - 1))) (qtxt (hifN qf (t - 1))); replace XL := hid ((XL.out.other (g2 := w.heap.size) (by have := LG.out; omega) 0 (.string (qtxt (lofN qf (t - 1))))).other (g2 := w.heap.size) (by have := LG.out; omega) 1 (.string (qtxt (hifN qf (t - 1))))); replace XH := hid ((XH.out.other (g2 := w.heap.size) (by have := LG.out; omega) 0 (.string (qtxt (lofN qf (t - 1))))).other (g2 := w.heap.size) (by have := LG.out; omega) 1 (.string (qtxt (hifN qf (t - 1))))); replace HNl := hid (r916c HNl.out); replace HDl := hid (r916c HDl.out); replace HNh := hid (r916c HNh.out); replace HDh := hid (r916c HDh.out); replace XV := hid r916a; replace B := hid r916b; clear r916a r916b r916c; obtain ⟨cc917a, cc917b, cc917c⟩ := XL.out.cells; obtain ⟨cc918a, cc918b, cc918c⟩ := XH.out.cells; have mk908_1 := hid True.intro)
        | (go_at_call 12; refine (rqtext (QR.mk2 HNl.out HDl.out) (by have := HK.out; omega)).mono ?_; rintro e w909 ⟨rfl, hb⟩; replace XV := vx XV hb; replace XL := qx XL hb; replace XH := qx XH hb; replace HNl := wr HNl hb; replace HDl := wr HDl hb; replace HNh := wr HNh hb; replace HDh := wr HDh hb; replace B := bb B hb; clear cc901a cc901b cc902a cc902b cc902c cc903a cc903b cc903c cc904a cc904b cc904c cc905a cc905b cc905c cc906a cc906b cc906c cc907a cc907b cc907c; clear hb ; obtain ⟨cc910a, cc910b, cc910c⟩ := XL.out.cells; obtain ⟨cc911a, cc911b, cc911c⟩ := XH.out.cells; have mk908_0 := hid True.intro))
      go_wp2_with fail
      refine bodyPost_ret (res_ival rfl rfl XV.out) rfl ?_
      exact ⟨rfl, B.out⟩

end Go.Proofs.YtkdeopikojgboaaGreatDoor

/-
  THE REFERENCE: Mul, Div.
-/
namespace Go.Proofs.YtkdeopikojgboaaGreatDoor
open Go.RowKit
open Num4
open Num (dg isNat dval)
set_option linter.unusedVariables false
set_option maxRecDepth 100000
set_option linter.unusedSimpArgs false

set_option maxHeartbeats 4000000 in
theorem rmul {w : World} {v u : Value} {q r : Rat} {k : Nat} (h : QR w v q k) (h' : QR w u r k)  (hk : k ≤ 4294967296) :
    Calls Tryz.prog 15 #[v, u] w fun e w' => ∃ v, e = .returned v ∧ QR w' v (q * r) (k + k + 1) ∧ Below w.heap.size w w' := by
  obtain ⟨s1a, p1a, n1a, c1a, p1b, n1b, c1b, rfl⟩ := h.opened
  obtain ⟨ht1, hu1⟩ := h.two
  obtain ⟨s2a, p2a, n2a, c2a, p2b, n2b, c2b, rfl⟩ := h'.opened
  obtain ⟨ht2, hu2⟩ := h'.two
  have HK := hid hk
  have B := hid (Below.refl w.heap.size w)
  have HN1 := hid ht1
  have HD1 := hid hu1
  have HN2 := hid ht2
  have HD2 := hid hu2
  have hb1 := (Below.refl _ _).alloc (Nat.le_refl w.heap.size) (.cells #[.bool s1a, .slice p1a n1a c1a, .slice p1b n1b c1b] 30)
  have hx2 := Qbx.new w s1a p1a n1a c1a p1b n1b c1b
  replace HN1 := wr HN1 hb1
  replace HD1 := wr HD1 hb1
  replace HN2 := wr HN2 hb1
  replace HD2 := wr HD2 hb1
  replace B := bb B hb1
  have X1 := hid hx2
  have hs3 : (w.alloc (.cells #[.bool s1a, .slice p1a n1a c1a, .slice p1b n1b c1b] 30)).heap.size = w.heap.size + 1 := by simp
  clear hb1 hx2
  have hb4 := (Below.refl _ _).alloc (Nat.le_refl (w.alloc (.cells #[.bool s1a, .slice p1a n1a c1a, .slice p1b n1b c1b] 30)).heap.size) (.cells #[.bool s2a, .slice p2a n2a c2a, .slice p2b n2b c2b] 30)
  have hx5 := Qbx.new (w.alloc (.cells #[.bool s1a, .slice p1a n1a c1a, .slice p1b n1b c1b] 30)) s2a p2a n2a c2a p2b n2b c2b
  rw [hs3] at hx5
  replace X1 := qx X1 hb4
  replace HN1 := wr HN1 hb4
  replace HD1 := wr HD1 hb4
  replace HN2 := wr HN2 hb4
  replace HD2 := wr HD2 hb4
  replace B := bb B hb4
  have X2 := hid hx5
  have hs6 : ((w.alloc (.cells #[.bool s1a, .slice p1a n1a c1a, .slice p1b n1b c1b] 30)).alloc (.cells #[.bool s2a, .slice p2a n2a c2a, .slice p2b n2b c2b] 30)).heap.size = w.heap.size + 1 + 1 := by simp [hs3]
  clear hb4 hx5
  have hb7 := (Below.refl _ _).alloc (Nat.le_refl ((w.alloc (.cells #[.bool s1a, .slice p1a n1a c1a, .slice p1b n1b c1b] 30)).alloc (.cells #[.bool s2a, .slice p2a n2a c2a, .slice p2b n2b c2b] 30)).heap.size) (.cells #[.bool false, .slice none 0 0, .slice none 0 0] 30)
  have hx8 := Qbx.new ((w.alloc (.cells #[.bool s1a, .slice p1a n1a c1a, .slice p1b n1b c1b] 30)).alloc (.cells #[.bool s2a, .slice p2a n2a c2a, .slice p2b n2b c2b] 30)) false none 0 0 none 0 0
  rw [hs6] at hx8
  replace X1 := qx X1 hb7
  replace X2 := qx X2 hb7
  replace HN1 := wr HN1 hb7
  replace HD1 := wr HD1 hb7
  replace HN2 := wr HN2 hb7
  replace HD2 := wr HD2 hb7
  replace B := bb B hb7
  have XQ := hid hx8
  have hs9 : (((w.alloc (.cells #[.bool s1a, .slice p1a n1a c1a, .slice p1b n1b c1b] 30)).alloc (.cells #[.bool s2a, .slice p2a n2a c2a, .slice p2b n2b c2b] 30)).alloc (.cells #[.bool false, .slice none 0 0, .slice none 0 0] 30)).heap.size = w.heap.size + 1 + 1 + 1 := by simp [hs6]
  clear hb7 hx8
  clear hs9 h h' ht1 hu1 ht2 hu2 hk
  go_enter Tryz.func15, Tryz.ntmps15
  obtain ⟨cc10a, cc10b, cc10c⟩ := X1.out.cells
  obtain ⟨cc11a, cc11b, cc11c⟩ := X2.out.cells
  obtain ⟨cc12a, cc12b, cc12c⟩ := XQ.out.cells
  go_wp2_with fail
  generalize hW : ((w.alloc (.cells #[.bool s1a, .slice p1a n1a c1a, .slice p1b n1b c1b] 30)).alloc (.cells #[.bool s2a, .slice p2a n2a c2a, .slice p2b n2b c2b] 30)).alloc (.cells #[.bool false, .slice none 0 0, .slice none 0 0] 30) = W13 at *
  clear hW
  obtain ⟨cc14a, cc14b, cc14c⟩ := X1.out.cells
  obtain ⟨cc15a, cc15b, cc15c⟩ := X2.out.cells
  replace X1 := hid X1.out.dr
  replace X2 := hid X2.out.dr
  replace XQ := hid XQ.out.dr
  replace HN1 := hid HN1.out.drew
  replace HD1 := hid HD1.out.drew
  replace HN2 := hid HN2.out.drew
  replace HD2 := hid HD2.out.drew
  replace B := hid (Below.drew B.out)
  obtain ⟨cc16a, cc16b, cc16c⟩ := X1.out.cells
  obtain ⟨cc17a, cc17b, cc17c⟩ := X2.out.cells
  go_region_held3 (fun w' => w'.cell? ⟨w.heap.size, 0, none⟩ = some (.bool s1a) ∧ w'.cell? ⟨w.heap.size, 1, none⟩ = some (.slice p1a n1a c1a) ∧ w'.cell? ⟨w.heap.size, 2, none⟩ = some (.slice p1b n1b c1b) ∧ w'.cell? ⟨w.heap.size + 1, 0, none⟩ = some (.bool s2a) ∧ w'.cell? ⟨w.heap.size + 1, 1, none⟩ = some (.slice p2a n2a c2a) ∧ w'.cell? ⟨w.heap.size + 1, 2, none⟩ = some (.slice p2b n2b c2b)) (go_keep) (first
    | (have hm := mk18_1; clear hm; go_at_call 34; refine (rover (k := k + k + 1) (P1.out.mono (by omega)) (P3.out.mono (by omega)).nat (Nat.mul_pos q.den_pos r.den_pos) (by have := HK.out; omega)).mono ?_; rintro e w25 ⟨v, rfl, hv, hb⟩; obtain ⟨s9a, p9a, n9a, c9a, p9b, n9b, c9b, rfl⟩ := hv.opened; obtain ⟨ht9, hu9⟩ := hv.two; replace X1 := qx X1 hb; replace X2 := qx X2 hb; replace XQ := qx XQ hb; replace HN1 := wr HN1 hb; replace HD1 := wr HD1 hb; replace HN2 := wr HN2 hb; replace HD2 := wr HD2 hb; replace P1 := wr P1 hb; replace P3 := wr P3 hb; replace B := bb B hb; clear cc23a cc23b cc23c cc24a cc24b cc24c; have HN9 := hid ht9; have HD9 := hid hu9; clear hb hv ht9 hu9; obtain ⟨cc26a, cc26b, cc26c⟩ := X1.out.cells; obtain ⟨cc27a, cc27b, cc27c⟩ := X2.out.cells; obtain ⟨⟨cc28a, cc28b⟩, ⟨cc28c, cc28d⟩, cc28e, cc28f⟩ := XQ.out.stores; obtain ⟨r29a, r29b, r29c⟩ := XQ.out.last B.out (by omega) s9a p9a n9a c9a p9b n9b c9b; replace X1 := hid (((X1.out.other (g2 := w.heap.size + 1 + 1) (by omega) 0 (.bool s9a)).other (g2 := w.heap.size + 1 + 1) (by omega) 1 (.slice p9a n9a c9a)).other (g2 := w.heap.size + 1 + 1) (by omega) 2 (.slice p9b n9b c9b)); replace X2 := hid (((X2.out.other (g2 := w.heap.size + 1 + 1) (by omega) 0 (.bool s9a)).other (g2 := w.heap.size + 1 + 1) (by omega) 1 (.slice p9a n9a c9a)).other (g2 := w.heap.size + 1 + 1) (by omega) 2 (.slice p9b n9b c9b)); replace HN1 := hid (r29c HN1.out); replace HD1 := hid (r29c HD1.out); replace HN2 := hid (r29c HN2.out); replace HD2 := hid (r29c HD2.out); replace P1 := hid (r29c P1.out); replace P3 := hid (r29c P3.out); replace HN9 := hid (r29c HN9.out); replace HD9 := hid (r29c HD9.out); replace XQ := hid r29a; replace B := hid r29b; clear r29a r29b r29c; obtain ⟨cc30a, cc30b, cc30c⟩ := X1.out.cells; obtain ⟨cc31a, cc31b, cc31c⟩ := X2.out.cells; have mk18_2 := hid True.intro)
    | (have hm := mk18_0; clear hm; go_at_call 37; refine (rmuln HD1.out.nat HD2.out.nat (by have := HK.out; omega) (by have := HK.out; omega)).mono ?_; rintro e w22 ⟨p7, n7, c7, rfl, hv, hb⟩; replace X1 := qx X1 hb; replace X2 := qx X2 hb; replace XQ := qx XQ hb; replace HN1 := wr HN1 hb; replace HD1 := wr HD1 hb; replace HN2 := wr HN2 hb; replace HD2 := wr HD2 hb; replace P1 := wr P1 hb; replace B := bb B hb; clear cc20a cc20b cc20c cc21a cc21b cc21c; have P3 := hid hv.value; clear hb hv; obtain ⟨cc23a, cc23b, cc23c⟩ := X1.out.cells; obtain ⟨cc24a, cc24b, cc24c⟩ := X2.out.cells; have mk18_1 := hid True.intro)
    | (go_at_call 36; refine (rmulz HN1.out HN2.out (by have := HK.out; omega) (by have := HK.out; omega)).mono ?_; rintro e w19 ⟨v, rfl, hv, hb⟩; obtain ⟨s4, p4, n4, c4, rfl⟩ := hv.opened; replace X1 := qx X1 hb; replace X2 := qx X2 hb; replace XQ := qx XQ hb; replace HN1 := wr HN1 hb; replace HD1 := wr HD1 hb; replace HN2 := wr HN2 hb; replace HD2 := wr HD2 hb; replace B := bb B hb; clear cc10a cc10b cc10c cc11a cc11b cc11c cc12a cc12b cc12c cc14a cc14b cc14c cc15a cc15b cc15c cc16a cc16b cc16c cc17a cc17b cc17c; have P1 := hid hv; clear hb hv; obtain ⟨cc20a, cc20b, cc20c⟩ := X1.out.cells; obtain ⟨cc21a, cc21b, cc21c⟩ := X2.out.cells; have mk18_0 := hid True.intro))
  go_wp2_with fail
  refine bodyPost_ret (res_q rfl rfl XQ.out) rfl ?_
  exact ⟨_, rfl, (by rw [mul_parts, ← Int.natCast_mul]; exact QR.mk2 HN9.out HD9.out), B.out⟩

theorem inv_parts (r : Rat) (hr : r ≠ 0) : zof (decide (r.num < 0)) r.den = (r⁻¹).num ∧ (r.num.natAbs : Int) = (r⁻¹).den := by
  have hn : r.num ≠ 0 := by rw [Ne, Rat.num_eq_zero]; exact hr
  have hg : Int.gcd r.den r.num = 1 := by rw [Int.gcd_comm]; exact r.reduced
  obtain ⟨e1, e2⟩ := divInt_parts r.den r.num hn
  rw [Rat.inv_def, e1, e2, hg]
  by_cases h : r.num < 0
  · rw [if_pos h, decide_eq_true h]
    refine ⟨?_, ?_⟩
    · show -(r.den : Int) = _
      simp
    · simp; omega
  · rw [if_neg h, decide_eq_false h]
    refine ⟨?_, ?_⟩
    · show (r.den : Int) = _
      simp
    · simp; omega
theorem WhlR.resign {w : World} {v : Value} {n k : Nat} (s : Bool) (h : NatR w v n k) (hn : n ≠ 0) : WhlR w (.agg #[.bool s, v]) (zof s n) k := by
  obtain ⟨xs, h1, h2, h3, rfl⟩ := h
  exact ⟨s, v, xs, rfl, h1, h2, h3, fun _ => hn, rfl⟩

set_option maxHeartbeats 4000000 in
theorem rdivq {w : World} {v u : Value} {q r : Rat} {k : Nat} (h : QR w v q k) (h' : QR w u r k) (hr : r ≠ 0) (hk : k ≤ 4294967296) :
    Calls Tryz.prog 17 #[v, u] w fun e w' => ∃ v, e = .returned v ∧ QR w' v (q / r) (k + k + 1) ∧ Below w.heap.size w w' := by
  have HI := hid (inv_parts r hr)
  have HR := hid hr
  obtain ⟨s1a, p1a, n1a, c1a, p1b, n1b, c1b, rfl⟩ := h.opened
  obtain ⟨ht1, hu1⟩ := h.two
  obtain ⟨s2a, p2a, n2a, c2a, p2b, n2b, c2b, rfl⟩ := h'.opened
  obtain ⟨ht2, hu2⟩ := h'.two
  have HK := hid hk
  have B := hid (Below.refl w.heap.size w)
  have HN1 := hid ht1
  have HD1 := hid hu1
  have HN2 := hid ht2
  have HD2 := hid hu2
  have hb1 := (Below.refl _ _).alloc (Nat.le_refl w.heap.size) (.cells #[.bool s1a, .slice p1a n1a c1a, .slice p1b n1b c1b] 30)
  have hx2 := Qbx.new w s1a p1a n1a c1a p1b n1b c1b
  replace HN1 := wr HN1 hb1
  replace HD1 := wr HD1 hb1
  replace HN2 := wr HN2 hb1
  replace HD2 := wr HD2 hb1
  replace B := bb B hb1
  have X1 := hid hx2
  have hs3 : (w.alloc (.cells #[.bool s1a, .slice p1a n1a c1a, .slice p1b n1b c1b] 30)).heap.size = w.heap.size + 1 := by simp
  clear hb1 hx2
  have hb4 := (Below.refl _ _).alloc (Nat.le_refl (w.alloc (.cells #[.bool s1a, .slice p1a n1a c1a, .slice p1b n1b c1b] 30)).heap.size) (.cells #[.bool s2a, .slice p2a n2a c2a, .slice p2b n2b c2b] 30)
  have hx5 := Qbx.new (w.alloc (.cells #[.bool s1a, .slice p1a n1a c1a, .slice p1b n1b c1b] 30)) s2a p2a n2a c2a p2b n2b c2b
  rw [hs3] at hx5
  replace X1 := qx X1 hb4
  replace HN1 := wr HN1 hb4
  replace HD1 := wr HD1 hb4
  replace HN2 := wr HN2 hb4
  replace HD2 := wr HD2 hb4
  replace B := bb B hb4
  have X2 := hid hx5
  have hs6 : ((w.alloc (.cells #[.bool s1a, .slice p1a n1a c1a, .slice p1b n1b c1b] 30)).alloc (.cells #[.bool s2a, .slice p2a n2a c2a, .slice p2b n2b c2b] 30)).heap.size = w.heap.size + 1 + 1 := by simp [hs3]
  clear hb4 hx5
  have hb7 := (Below.refl _ _).alloc (Nat.le_refl ((w.alloc (.cells #[.bool s1a, .slice p1a n1a c1a, .slice p1b n1b c1b] 30)).alloc (.cells #[.bool s2a, .slice p2a n2a c2a, .slice p2b n2b c2b] 30)).heap.size) (.cells #[.bool false, .slice none 0 0, .slice none 0 0] 30)
  have hx8 := Qbx.new ((w.alloc (.cells #[.bool s1a, .slice p1a n1a c1a, .slice p1b n1b c1b] 30)).alloc (.cells #[.bool s2a, .slice p2a n2a c2a, .slice p2b n2b c2b] 30)) false none 0 0 none 0 0
  rw [hs6] at hx8
  replace X1 := qx X1 hb7
  replace X2 := qx X2 hb7
  replace HN1 := wr HN1 hb7
  replace HD1 := wr HD1 hb7
  replace HN2 := wr HN2 hb7
  replace HD2 := wr HD2 hb7
  replace B := bb B hb7
  have XQ := hid hx8
  have hs9 : (((w.alloc (.cells #[.bool s1a, .slice p1a n1a c1a, .slice p1b n1b c1b] 30)).alloc (.cells #[.bool s2a, .slice p2a n2a c2a, .slice p2b n2b c2b] 30)).alloc (.cells #[.bool false, .slice none 0 0, .slice none 0 0] 30)).heap.size = w.heap.size + 1 + 1 + 1 := by simp [hs6]
  clear hb7 hx8
  clear hs9 h h' ht1 hu1 ht2 hu2 hk
  go_enter Tryz.func17, Tryz.ntmps17
  obtain ⟨cc10a, cc10b, cc10c⟩ := X1.out.cells
  obtain ⟨cc11a, cc11b, cc11c⟩ := X2.out.cells
  obtain ⟨cc12a, cc12b, cc12c⟩ := XQ.out.cells
  go_wp2_with fail
  go_wp2_with fail
  have hi1 := WhlR.resign s2a HD2.out.nat (by have := r.den_pos; omega)
  rw [HN2.out.inside.2, HI.out.1] at hi1
  have hi2 := HN2.out.abs
  rw [HI.out.2] at hi2
  have hs2 := HN2.out.inside.2
  rw [← hs2] at hi1
  refine (rmul (QR.mk2 HN1.out HD1.out) (QR.mk2 hi1 hi2) (by have := HK.out; omega)).mono ?_
  rintro e w14 ⟨v, rfl, hv, hb⟩
  obtain ⟨s9a, p9a, n9a, c9a, p9b, n9b, c9b, rfl⟩ := hv.opened
  obtain ⟨ht9, hu9⟩ := hv.two
  replace X1 := qx X1 hb
  replace X2 := qx X2 hb
  replace XQ := qx XQ hb
  replace HN1 := wr HN1 hb
  replace HD1 := wr HD1 hb
  replace HN2 := wr HN2 hb
  replace HD2 := wr HD2 hb
  replace B := bb B hb
  clear cc10a cc10b cc10c cc11a cc11b cc11c cc12a cc12b cc12c
  have HN9 := hid ht9
  have HD9 := hid hu9
  clear hb hv ht9 hu9
  clear hi1 hi2 hs2
  obtain ⟨cc15a, cc15b, cc15c⟩ := X1.out.cells
  obtain ⟨cc16a, cc16b, cc16c⟩ := X2.out.cells
  obtain ⟨cc17a, cc17b, cc17c⟩ := XQ.out.cells
  obtain ⟨⟨cc18a, cc18b⟩, ⟨cc18c, cc18d⟩, cc18e, cc18f⟩ := XQ.out.stores
  obtain ⟨r19a, r19b, r19c⟩ := XQ.out.last B.out (by omega) s9a p9a n9a c9a p9b n9b c9b
  replace X1 := hid (((X1.out.other (g2 := w.heap.size + 1 + 1) (by omega) 0 (.bool s9a)).other (g2 := w.heap.size + 1 + 1) (by omega) 1 (.slice p9a n9a c9a)).other (g2 := w.heap.size + 1 + 1) (by omega) 2 (.slice p9b n9b c9b))
  replace X2 := hid (((X2.out.other (g2 := w.heap.size + 1 + 1) (by omega) 0 (.bool s9a)).other (g2 := w.heap.size + 1 + 1) (by omega) 1 (.slice p9a n9a c9a)).other (g2 := w.heap.size + 1 + 1) (by omega) 2 (.slice p9b n9b c9b))
  replace HN1 := hid (r19c HN1.out)
  replace HD1 := hid (r19c HD1.out)
  replace HN2 := hid (r19c HN2.out)
  replace HD2 := hid (r19c HD2.out)
  replace HN9 := hid (r19c HN9.out)
  replace HD9 := hid (r19c HD9.out)
  replace XQ := hid r19a
  replace B := hid r19b
  clear r19a r19b r19c
  go_wp2_with fail
  refine bodyPost_ret (res_q rfl rfl XQ.out) rfl ?_
  exact ⟨_, rfl, (by rw [Rat.div_def]; exact QR.mk2 HN9.out HD9.out), B.out⟩

end Go.Proofs.YtkdeopikojgboaaGreatDoor
