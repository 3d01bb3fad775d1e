/-
  PACKAGE rat: Read, readBoth.
-/
import Derived.Test.YtjeeepcnaaadmaaRatParse
import Derived.Deep.RegionHeld3
namespace Go.Proofs.Ytjeeepcnaaadmaa
open Go.RowKit
open Num
set_option linter.unusedVariables false
set_option maxRecDepth 100000
set_option linter.unusedSimpArgs false

set_option maxHeartbeats 1000000 in
theorem qread_long {s : ByteArray} (h : 100 < s.size) (w : World) (hs : s.size ≤ maxLen) :
    Calls Try.prog 36 #[.string s] w fun e w' => e = .returned (.tuple #[.agg #[.bool false, .slice none 0 0, .bool false, .slice none 0 0], errno 4]) ∧ Below w.heap.size w w' := by
  have h' : (100 : Int) < (s.size : Int) := by omega
  unfold maxLen at hs
  have B := hid (Below.refl w.heap.size w)
  have hb1 := (Below.refl _ _).alloc (Nat.le_refl w.heap.size) (.cells #[.bool false, .slice none 0 0, .bool false, .slice none 0 0] 51)
  have hx2 := Nbx.new w false false (.slice none 0 0) (.slice none 0 0)
  replace B := bb B hb1
  have XQ := hid hx2
  have hs3 : (w.alloc (.cells #[.bool false, .slice none 0 0, .bool false, .slice none 0 0] 51)).heap.size = w.heap.size + 1 := by simp
  clear hb1 hx2
  clear hs3 h
  go_enter Try.func36, Try.ntmps36
  go_wp2_with fail
  refine bodyPost_ret (res_num_tmp rfl rfl rfl XQ.out) rfl ?_
  exact ⟨rfl, B.out⟩

set_option maxHeartbeats 1000000 in
theorem qread_form {s : ByteArray} (h : s.size ≤ 100) (hn : isRat s.data.toList = false) (w : World) :
    Calls Try.prog 36 #[.string s] w fun e w' => e = .returned (.tuple #[.agg #[.bool false, .slice none 0 0, .bool false, .slice none 0 0], errno 1]) ∧ Below w.heap.size w w' := by
  have h' : (s.size : Int) ≤ 100 := by omega
  have HN := hid hn
  have HS := hid h
  have B := hid (Below.refl w.heap.size w)
  have hb1 := (Below.refl _ _).alloc (Nat.le_refl w.heap.size) (.cells #[.bool false, .slice none 0 0, .bool false, .slice none 0 0] 51)
  have hx2 := Nbx.new w false false (.slice none 0 0) (.slice none 0 0)
  replace B := bb B hb1
  have XQ := hid hx2
  have hs3 : (w.alloc (.cells #[.bool false, .slice none 0 0, .bool false, .slice none 0 0] 51)).heap.size = w.heap.size + 1 := by simp
  clear hb1 hx2
  clear hs3 h hn
  go_enter Try.func36, Try.ntmps36
  obtain ⟨cc4a, cc4b, cc4c, cc4d⟩ := XQ.out.cells
  go_wp2_with fail
  generalize hW : w.alloc (.cells #[.bool false, .slice none 0 0, .bool false, .slice none 0 0] 51) = W5 at *
  clear hW
  refine (qparse_no s _ (by have := HS.out; omega) HN.out).mono ?_
  rintro e w6 ⟨rfl, hb⟩
  replace XQ := nx XQ hb
  replace B := bb B hb
  clear cc4a cc4b cc4c cc4d
  clear hb 
  obtain ⟨cc7a, cc7b, cc7c, cc7d⟩ := XQ.out.cells
  obtain ⟨⟨cc8a, cc8b⟩, ⟨cc8c, cc8d⟩, ⟨cc8e, cc8f⟩, cc8g, cc8h⟩ := XQ.out.stores
  obtain ⟨r9a, r9b, r9c⟩ := XQ.out.last B.out (by omega) false false none none 0 0 0 0
  replace XQ := hid r9a
  replace B := hid r9b
  clear r9a r9b r9c
  go_wp2_with fail
  refine bodyPost_ret (res_num_tmp rfl rfl rfl XQ.out) rfl ?_
  exact ⟨rfl, B.out⟩

theorem qread_bad {s : ByteArray} {k : Int} (h : BadQ s k) (w : World) (hs : s.size ≤ maxLen) :
    Calls Try.prog 36 #[.string s] w fun e w' => e = .returned (.tuple #[.agg #[.bool false, .slice none 0 0, .bool false, .slice none 0 0], errno k]) ∧ Below w.heap.size w w' := by
  rcases h with ⟨h, rfl⟩ | ⟨h, hn, rfl⟩
  · exact qread_long h w hs
  · exact qread_form h hn w

set_option maxHeartbeats 1000000 in
theorem qread_good {s : ByteArray} (h : GoodQ s) (w : World) :
    Calls Try.prog 36 #[.string s] w fun e w' => ∃ v, e = .returned (.tuple #[v, .nilIface]) ∧ Rtl w' v (qnum s) 100 ∧ Below w.heap.size w w' := by
  obtain ⟨h, hn⟩ := h
  have h' : (s.size : Int) ≤ 100 := by omega
  have HN := hid hn
  have HS := hid h
  have B := hid (Below.refl w.heap.size w)
  have hb1 := (Below.refl _ _).alloc (Nat.le_refl w.heap.size) (.cells #[.bool false, .slice none 0 0, .bool false, .slice none 0 0] 51)
  have hx2 := Nbx.new w false false (.slice none 0 0) (.slice none 0 0)
  replace B := bb B hb1
  have XQ := hid hx2
  have hs3 : (w.alloc (.cells #[.bool false, .slice none 0 0, .bool false, .slice none 0 0] 51)).heap.size = w.heap.size + 1 := by simp
  clear hb1 hx2
  clear hs3 h hn
  go_enter Try.func36, Try.ntmps36
  obtain ⟨cc4a, cc4b, cc4c, cc4d⟩ := XQ.out.cells
  go_wp2_with fail
  generalize hW : w.alloc (.cells #[.bool false, .slice none 0 0, .bool false, .slice none 0 0] 51) = W5 at *
  clear hW
  refine (qparse_yes s _ (by have := HS.out; omega) HN.out).mono ?_
  rintro e w6 ⟨v, rfl, hv, hb⟩
  replace hv := hv.mono HS.out
  obtain ⟨s9a, p9a, n9a, c9a, s9b, p9b, n9b, c9b, rfl⟩ := hv.opened
  obtain ⟨ht9, d9, hu9, hd9⟩ := hv.two
  have HD9 := hid hd9
  replace XQ := nx XQ hb
  replace B := bb B hb
  clear cc4a cc4b cc4c cc4d
  have HT9 := hid ht9
  have HU9 := hid hu9
  clear hb hv ht9 hu9 hd9
  obtain ⟨cc7a, cc7b, cc7c, cc7d⟩ := XQ.out.cells
  obtain ⟨⟨cc8a, cc8b⟩, ⟨cc8c, cc8d⟩, ⟨cc8e, cc8f⟩, cc8g, cc8h⟩ := XQ.out.stores
  obtain ⟨r9a, r9b, r9c⟩ := XQ.out.last B.out (by omega) s9a s9b p9a p9b n9a n9b c9a c9b
  replace HT9 := hid (r9c HT9.out)
  replace HU9 := hid (r9c HU9.out)
  replace XQ := hid r9a
  replace B := hid r9b
  clear r9a r9b r9c
  go_wp2_with fail
  refine bodyPost_ret (res_num_tmp rfl rfl rfl XQ.out) rfl ?_
  exact ⟨_, rfl, Rtl.mk2 HT9.out HU9.out HD9.out, B.out⟩

set_option maxHeartbeats 1000000 in
theorem qboth1 {a b : ByteArray} {k : Int} (h : BadQ a k) (ha : a.size ≤ maxLen) (hb0 : b.size ≤ maxLen) (w : World) :
    Calls Try.prog 32 #[.string a, .string b] w fun e w' => e = .returned (.tuple #[.agg #[.bool false, .slice none 0 0, .bool false, .slice none 0 0], .agg #[.bool false, .slice none 0 0, .bool false, .slice none 0 0], errno k]) ∧ Below w.heap.size w w' := by
  have H1 := hid h
  have B := hid (Below.refl w.heap.size w)
  have hb1 := (Below.refl _ _).alloc (Nat.le_refl w.heap.size) (.cells #[.bool false, .slice none 0 0, .bool false, .slice none 0 0] 51)
  have hx2 := Nbx.new w false false (.slice none 0 0) (.slice none 0 0)
  replace B := bb B hb1
  have R1 := hid hx2
  have hs3 : (w.alloc (.cells #[.bool false, .slice none 0 0, .bool false, .slice none 0 0] 51)).heap.size = w.heap.size + 1 := by simp
  clear hb1 hx2
  have hb4 := (Below.refl _ _).alloc (Nat.le_refl (w.alloc (.cells #[.bool false, .slice none 0 0, .bool false, .slice none 0 0] 51)).heap.size) (.cells #[.bool false, .slice none 0 0, .bool false, .slice none 0 0] 51)
  have hx5 := Nbx.new (w.alloc (.cells #[.bool false, .slice none 0 0, .bool false, .slice none 0 0] 51)) false false (.slice none 0 0) (.slice none 0 0)
  rw [hs3] at hx5
  replace R1 := nx R1 hb4
  replace B := bb B hb4
  have R2 := hid hx5
  have hs6 : ((w.alloc (.cells #[.bool false, .slice none 0 0, .bool false, .slice none 0 0] 51)).alloc (.cells #[.bool false, .slice none 0 0, .bool false, .slice none 0 0] 51)).heap.size = w.heap.size + 1 + 1 := by simp [hs3]
  clear hb4 hx5
  clear hs6 h
  go_enter Try.func32, Try.ntmps32
  obtain ⟨cc7a, cc7b, cc7c, cc7d⟩ := R1.out.cells
  obtain ⟨cc8a, cc8b, cc8c, cc8d⟩ := R2.out.cells
  go_wp2_with fail
  generalize hW : (w.alloc (.cells #[.bool false, .slice none 0 0, .bool false, .slice none 0 0] 51)).alloc (.cells #[.bool false, .slice none 0 0, .bool false, .slice none 0 0] 51) = W9 at *
  clear hW
  refine (qread_bad H1.out _ ha).mono ?_
  rintro e w10 ⟨rfl, hb⟩
  replace R1 := nx R1 hb
  replace R2 := nx R2 hb
  replace B := bb B hb
  clear cc7a cc7b cc7c cc7d cc8a cc8b cc8c cc8d
  clear hb 
  obtain ⟨cc11a, cc11b, cc11c, cc11d⟩ := R1.out.cells
  obtain ⟨cc12a, cc12b, cc12c, cc12d⟩ := R2.out.cells
  obtain ⟨⟨cc13a, cc13b⟩, ⟨cc13c, cc13d⟩, ⟨cc13e, cc13f⟩, cc13g, cc13h⟩ := R1.out.stores
  obtain ⟨r14a, r14b, r14c⟩ := R1.out.last B.out (by omega) false false none none 0 0 0 0
  replace R2 := hid ((((R2.out.other (g2 := w.heap.size) (by omega) 0 (.bool false)).other (g2 := w.heap.size) (by omega) 1 (.slice none 0 0)).other (g2 := w.heap.size) (by omega) 2 (.bool false)).other (g2 := w.heap.size) (by omega) 3 (.slice none 0 0))
  replace R1 := hid r14a
  replace B := hid r14b
  clear r14a r14b r14c
  obtain ⟨cc15a, cc15b, cc15c, cc15d⟩ := R1.out.cells
  obtain ⟨cc16a, cc16b, cc16c, cc16d⟩ := R2.out.cells
  obtain ⟨⟨cc17a, cc17b⟩, ⟨cc17c, cc17d⟩, ⟨cc17e, cc17f⟩, cc17g, cc17h⟩ := R1.out.stores
  obtain ⟨r18a, r18b, r18c⟩ := R1.out.last B.out (by omega) false false none none 0 0 0 0
  replace R2 := hid ((((R2.out.other (g2 := w.heap.size) (by omega) 0 (.bool false)).other (g2 := w.heap.size) (by omega) 1 (.slice none 0 0)).other (g2 := w.heap.size) (by omega) 2 (.bool false)).other (g2 := w.heap.size) (by omega) 3 (.slice none 0 0))
  replace R1 := hid r18a
  replace B := hid r18b
  clear r18a r18b r18c
  obtain ⟨cc19a, cc19b, cc19c, cc19d⟩ := R1.out.cells
  obtain ⟨cc20a, cc20b, cc20c, cc20d⟩ := R2.out.cells
  obtain ⟨⟨cc21a, cc21b⟩, ⟨cc21c, cc21d⟩, ⟨cc21e, cc21f⟩, cc21g, cc21h⟩ := R2.out.stores
  obtain ⟨r22a, r22b, r22c⟩ := R2.out.last B.out (by omega) false false none none 0 0 0 0
  replace R1 := hid ((((R1.out.other (g2 := w.heap.size + 1) (by omega) 0 (.bool false)).other (g2 := w.heap.size + 1) (by omega) 1 (.slice none 0 0)).other (g2 := w.heap.size + 1) (by omega) 2 (.bool false)).other (g2 := w.heap.size + 1) (by omega) 3 (.slice none 0 0))
  replace R2 := hid r22a
  replace B := hid r22b
  clear r22a r22b r22c
  obtain ⟨cc23a, cc23b, cc23c, cc23d⟩ := R1.out.cells
  obtain ⟨cc24a, cc24b, cc24c, cc24d⟩ := R2.out.cells
  go_wp2_with fail
  refine bodyPost_ret (res_nn_tmp rfl rfl rfl rfl R1.out R2.out) rfl ?_
  exact ⟨rfl, B.out⟩

set_option maxHeartbeats 1000000 in
theorem qboth2 {a b : ByteArray} {k : Int} (h1 : GoodQ a) (h2 : BadQ b k) (ha : a.size ≤ maxLen) (hb0 : b.size ≤ maxLen) (w : World) :
    Calls Try.prog 32 #[.string a, .string b] w fun e w' => e = .returned (.tuple #[.agg #[.bool false, .slice none 0 0, .bool false, .slice none 0 0], .agg #[.bool false, .slice none 0 0, .bool false, .slice none 0 0], errno k]) ∧ Below w.heap.size w w' := by
  have H1 := hid h1
  have H2 := hid h2
  have B := hid (Below.refl w.heap.size w)
  have hb1 := (Below.refl _ _).alloc (Nat.le_refl w.heap.size) (.cells #[.bool false, .slice none 0 0, .bool false, .slice none 0 0] 51)
  have hx2 := Nbx.new w false false (.slice none 0 0) (.slice none 0 0)
  replace B := bb B hb1
  have R1 := hid hx2
  have hs3 : (w.alloc (.cells #[.bool false, .slice none 0 0, .bool false, .slice none 0 0] 51)).heap.size = w.heap.size + 1 := by simp
  clear hb1 hx2
  have hb4 := (Below.refl _ _).alloc (Nat.le_refl (w.alloc (.cells #[.bool false, .slice none 0 0, .bool false, .slice none 0 0] 51)).heap.size) (.cells #[.bool false, .slice none 0 0, .bool false, .slice none 0 0] 51)
  have hx5 := Nbx.new (w.alloc (.cells #[.bool false, .slice none 0 0, .bool false, .slice none 0 0] 51)) false false (.slice none 0 0) (.slice none 0 0)
  rw [hs3] at hx5
  replace R1 := nx R1 hb4
  replace B := bb B hb4
  have R2 := hid hx5
  have hs6 : ((w.alloc (.cells #[.bool false, .slice none 0 0, .bool false, .slice none 0 0] 51)).alloc (.cells #[.bool false, .slice none 0 0, .bool false, .slice none 0 0] 51)).heap.size = w.heap.size + 1 + 1 := by simp [hs3]
  clear hb4 hx5
  clear hs6 h1 h2
  go_enter Try.func32, Try.ntmps32
  obtain ⟨cc7a, cc7b, cc7c, cc7d⟩ := R1.out.cells
  obtain ⟨cc8a, cc8b, cc8c, cc8d⟩ := R2.out.cells
  go_wp2_with fail
  generalize hW : (w.alloc (.cells #[.bool false, .slice none 0 0, .bool false, .slice none 0 0] 51)).alloc (.cells #[.bool false, .slice none 0 0, .bool false, .slice none 0 0] 51) = W9 at *
  clear hW
  refine (qread_good H1.out _).mono ?_
  rintro e w10 ⟨v, rfl, hv, hb⟩
  obtain ⟨s5a, p5a, n5a, c5a, s5b, p5b, n5b, c5b, rfl⟩ := hv.opened
  obtain ⟨ht5, d5, hu5, hd5⟩ := hv.two
  have HD5 := hid hd5
  replace R1 := nx R1 hb
  replace R2 := nx R2 hb
  replace B := bb B hb
  clear cc7a cc7b cc7c cc7d cc8a cc8b cc8c cc8d
  have HT5 := hid ht5
  have HU5 := hid hu5
  clear hb hv ht5 hu5 hd5
  obtain ⟨cc11a, cc11b, cc11c, cc11d⟩ := R1.out.cells
  obtain ⟨cc12a, cc12b, cc12c, cc12d⟩ := R2.out.cells
  obtain ⟨⟨cc13a, cc13b⟩, ⟨cc13c, cc13d⟩, ⟨cc13e, cc13f⟩, cc13g, cc13h⟩ := R1.out.stores
  obtain ⟨r14a, r14b, r14c⟩ := R1.out.last B.out (by omega) s5a s5b p5a p5b n5a n5b c5a c5b
  replace R2 := hid ((((R2.out.other (g2 := w.heap.size) (by omega) 0 (.bool s5a)).other (g2 := w.heap.size) (by omega) 1 (.slice p5a n5a c5a)).other (g2 := w.heap.size) (by omega) 2 (.bool s5b)).other (g2 := w.heap.size) (by omega) 3 (.slice p5b n5b c5b))
  replace HT5 := hid (r14c HT5.out)
  replace HU5 := hid (r14c HU5.out)
  replace R1 := hid r14a
  replace B := hid r14b
  clear r14a r14b r14c
  obtain ⟨cc15a, cc15b, cc15c, cc15d⟩ := R1.out.cells
  obtain ⟨cc16a, cc16b, cc16c, cc16d⟩ := R2.out.cells
  go_wp2_with fail
  generalize hW : (((w10.setCell ⟨w.heap.size, 0, none⟩ (.bool s5a)).setCell ⟨w.heap.size, 1, none⟩ (.slice p5a n5a c5a)).setCell ⟨w.heap.size, 2, none⟩ (.bool s5b)).setCell ⟨w.heap.size, 3, none⟩ (.slice p5b n5b c5b) = W17 at *
  clear hW
  refine (qread_bad H2.out _ hb0).mono ?_
  rintro e w18 ⟨rfl, hb⟩
  replace R1 := nx R1 hb
  replace R2 := nx R2 hb
  replace HT5 := wl HT5 hb
  replace HU5 := wl HU5 hb
  replace B := bb B hb
  clear cc11a cc11b cc11c cc11d cc12a cc12b cc12c cc12d cc13a cc13b cc13c cc13d cc13e cc13f cc13g cc13h cc15a cc15b cc15c cc15d cc16a cc16b cc16c cc16d
  clear hb 
  obtain ⟨cc19a, cc19b, cc19c, cc19d⟩ := R1.out.cells
  obtain ⟨cc20a, cc20b, cc20c, cc20d⟩ := R2.out.cells
  obtain ⟨⟨cc21a, cc21b⟩, ⟨cc21c, cc21d⟩, ⟨cc21e, cc21f⟩, cc21g, cc21h⟩ := R2.out.stores
  obtain ⟨r22a, r22b, r22c⟩ := R2.out.last B.out (by omega) false false none none 0 0 0 0
  replace R1 := hid ((((R1.out.other (g2 := w.heap.size + 1) (by omega) 0 (.bool false)).other (g2 := w.heap.size + 1) (by omega) 1 (.slice none 0 0)).other (g2 := w.heap.size + 1) (by omega) 2 (.bool false)).other (g2 := w.heap.size + 1) (by omega) 3 (.slice none 0 0))
  replace HT5 := hid (r22c HT5.out)
  replace HU5 := hid (r22c HU5.out)
  replace R2 := hid r22a
  replace B := hid r22b
  clear r22a r22b r22c
  obtain ⟨cc23a, cc23b, cc23c, cc23d⟩ := R1.out.cells
  obtain ⟨cc24a, cc24b, cc24c, cc24d⟩ := R2.out.cells
  obtain ⟨⟨cc25a, cc25b⟩, ⟨cc25c, cc25d⟩, ⟨cc25e, cc25f⟩, cc25g, cc25h⟩ := R1.out.stores
  obtain ⟨r26a, r26b, r26c⟩ := R1.out.last B.out (by omega) false false none none 0 0 0 0
  replace R2 := hid ((((R2.out.other (g2 := w.heap.size) (by omega) 0 (.bool false)).other (g2 := w.heap.size) (by omega) 1 (.slice none 0 0)).other (g2 := w.heap.size) (by omega) 2 (.bool false)).other (g2 := w.heap.size) (by omega) 3 (.slice none 0 0))
  replace HT5 := hid (r26c HT5.out)
  replace HU5 := hid (r26c HU5.out)
  replace R1 := hid r26a
  replace B := hid r26b
  clear r26a r26b r26c
  obtain ⟨cc27a, cc27b, cc27c, cc27d⟩ := R1.out.cells
  obtain ⟨cc28a, cc28b, cc28c, cc28d⟩ := R2.out.cells
  obtain ⟨⟨cc29a, cc29b⟩, ⟨cc29c, cc29d⟩, ⟨cc29e, cc29f⟩, cc29g, cc29h⟩ := R2.out.stores
  obtain ⟨r30a, r30b, r30c⟩ := R2.out.last B.out (by omega) false false none none 0 0 0 0
  replace R1 := hid ((((R1.out.other (g2 := w.heap.size + 1) (by omega) 0 (.bool false)).other (g2 := w.heap.size + 1) (by omega) 1 (.slice none 0 0)).other (g2 := w.heap.size + 1) (by omega) 2 (.bool false)).other (g2 := w.heap.size + 1) (by omega) 3 (.slice none 0 0))
  replace HT5 := hid (r30c HT5.out)
  replace HU5 := hid (r30c HU5.out)
  replace R2 := hid r30a
  replace B := hid r30b
  clear r30a r30b r30c
  obtain ⟨cc31a, cc31b, cc31c, cc31d⟩ := R1.out.cells
  obtain ⟨cc32a, cc32b, cc32c, cc32d⟩ := R2.out.cells
  go_wp2_with fail
  refine bodyPost_ret (res_nn_tmp rfl rfl rfl rfl R1.out R2.out) rfl ?_
  exact ⟨rfl, B.out⟩

set_option maxHeartbeats 1000000 in
theorem qboth3 {a b : ByteArray} {k : Int} (h1 : GoodQ a) (h2 : GoodQ b) (ha : a.size ≤ maxLen) (hb0 : b.size ≤ maxLen) (w : World) :
    Calls Try.prog 32 #[.string a, .string b] w fun e w' => ∃ v u, e = .returned (.tuple #[v, u, .nilIface]) ∧ Rtl w' v (qnum a) 100 ∧ Rtl w' u (qnum b) 100 ∧ Below w.heap.size w w' := by
  have H1 := hid h1
  have H2 := hid h2
  have B := hid (Below.refl w.heap.size w)
  have hb1 := (Below.refl _ _).alloc (Nat.le_refl w.heap.size) (.cells #[.bool false, .slice none 0 0, .bool false, .slice none 0 0] 51)
  have hx2 := Nbx.new w false false (.slice none 0 0) (.slice none 0 0)
  replace B := bb B hb1
  have R1 := hid hx2
  have hs3 : (w.alloc (.cells #[.bool false, .slice none 0 0, .bool false, .slice none 0 0] 51)).heap.size = w.heap.size + 1 := by simp
  clear hb1 hx2
  have hb4 := (Below.refl _ _).alloc (Nat.le_refl (w.alloc (.cells #[.bool false, .slice none 0 0, .bool false, .slice none 0 0] 51)).heap.size) (.cells #[.bool false, .slice none 0 0, .bool false, .slice none 0 0] 51)
  have hx5 := Nbx.new (w.alloc (.cells #[.bool false, .slice none 0 0, .bool false, .slice none 0 0] 51)) false false (.slice none 0 0) (.slice none 0 0)
  rw [hs3] at hx5
  replace R1 := nx R1 hb4
  replace B := bb B hb4
  have R2 := hid hx5
  have hs6 : ((w.alloc (.cells #[.bool false, .slice none 0 0, .bool false, .slice none 0 0] 51)).alloc (.cells #[.bool false, .slice none 0 0, .bool false, .slice none 0 0] 51)).heap.size = w.heap.size + 1 + 1 := by simp [hs3]
  clear hb4 hx5
  clear hs6 h1 h2
  go_enter Try.func32, Try.ntmps32
  obtain ⟨cc7a, cc7b, cc7c, cc7d⟩ := R1.out.cells
  obtain ⟨cc8a, cc8b, cc8c, cc8d⟩ := R2.out.cells
  go_wp2_with fail
  generalize hW : (w.alloc (.cells #[.bool false, .slice none 0 0, .bool false, .slice none 0 0] 51)).alloc (.cells #[.bool false, .slice none 0 0, .bool false, .slice none 0 0] 51) = W9 at *
  clear hW
  refine (qread_good H1.out _).mono ?_
  rintro e w10 ⟨v, rfl, hv, hb⟩
  obtain ⟨s5a, p5a, n5a, c5a, s5b, p5b, n5b, c5b, rfl⟩ := hv.opened
  obtain ⟨ht5, d5, hu5, hd5⟩ := hv.two
  have HD5 := hid hd5
  replace R1 := nx R1 hb
  replace R2 := nx R2 hb
  replace B := bb B hb
  clear cc7a cc7b cc7c cc7d cc8a cc8b cc8c cc8d
  have HT5 := hid ht5
  have HU5 := hid hu5
  clear hb hv ht5 hu5 hd5
  obtain ⟨cc11a, cc11b, cc11c, cc11d⟩ := R1.out.cells
  obtain ⟨cc12a, cc12b, cc12c, cc12d⟩ := R2.out.cells
  obtain ⟨⟨cc13a, cc13b⟩, ⟨cc13c, cc13d⟩, ⟨cc13e, cc13f⟩, cc13g, cc13h⟩ := R1.out.stores
  obtain ⟨r14a, r14b, r14c⟩ := R1.out.last B.out (by omega) s5a s5b p5a p5b n5a n5b c5a c5b
  replace R2 := hid ((((R2.out.other (g2 := w.heap.size) (by omega) 0 (.bool s5a)).other (g2 := w.heap.size) (by omega) 1 (.slice p5a n5a c5a)).other (g2 := w.heap.size) (by omega) 2 (.bool s5b)).other (g2 := w.heap.size) (by omega) 3 (.slice p5b n5b c5b))
  replace HT5 := hid (r14c HT5.out)
  replace HU5 := hid (r14c HU5.out)
  replace R1 := hid r14a
  replace B := hid r14b
  clear r14a r14b r14c
  obtain ⟨cc15a, cc15b, cc15c, cc15d⟩ := R1.out.cells
  obtain ⟨cc16a, cc16b, cc16c, cc16d⟩ := R2.out.cells
  go_wp2_with fail
  generalize hW : (((w10.setCell ⟨w.heap.size, 0, none⟩ (.bool s5a)).setCell ⟨w.heap.size, 1, none⟩ (.slice p5a n5a c5a)).setCell ⟨w.heap.size, 2, none⟩ (.bool s5b)).setCell ⟨w.heap.size, 3, none⟩ (.slice p5b n5b c5b) = W17 at *
  clear hW
  refine (qread_good H2.out _).mono ?_
  rintro e w18 ⟨v, rfl, hv, hb⟩
  obtain ⟨s6a, p6a, n6a, c6a, s6b, p6b, n6b, c6b, rfl⟩ := hv.opened
  obtain ⟨ht6, d6, hu6, hd6⟩ := hv.two
  have HD6 := hid hd6
  replace R1 := nx R1 hb
  replace R2 := nx R2 hb
  replace HT5 := wl HT5 hb
  replace HU5 := wl HU5 hb
  replace B := bb B hb
  clear cc11a cc11b cc11c cc11d cc12a cc12b cc12c cc12d cc13a cc13b cc13c cc13d cc13e cc13f cc13g cc13h cc15a cc15b cc15c cc15d cc16a cc16b cc16c cc16d
  have HT6 := hid ht6
  have HU6 := hid hu6
  clear hb hv ht6 hu6 hd6
  obtain ⟨cc19a, cc19b, cc19c, cc19d⟩ := R1.out.cells
  obtain ⟨cc20a, cc20b, cc20c, cc20d⟩ := R2.out.cells
  obtain ⟨⟨cc21a, cc21b⟩, ⟨cc21c, cc21d⟩, ⟨cc21e, cc21f⟩, cc21g, cc21h⟩ := R2.out.stores
  obtain ⟨r22a, r22b, r22c⟩ := R2.out.last B.out (by omega) s6a s6b p6a p6b n6a n6b c6a c6b
  replace R1 := hid ((((R1.out.other (g2 := w.heap.size + 1) (by omega) 0 (.bool s6a)).other (g2 := w.heap.size + 1) (by omega) 1 (.slice p6a n6a c6a)).other (g2 := w.heap.size + 1) (by omega) 2 (.bool s6b)).other (g2 := w.heap.size + 1) (by omega) 3 (.slice p6b n6b c6b))
  replace HT5 := hid (r22c HT5.out)
  replace HU5 := hid (r22c HU5.out)
  replace HT6 := hid (r22c HT6.out)
  replace HU6 := hid (r22c HU6.out)
  replace R2 := hid r22a
  replace B := hid r22b
  clear r22a r22b r22c
  obtain ⟨cc23a, cc23b, cc23c, cc23d⟩ := R1.out.cells
  obtain ⟨cc24a, cc24b, cc24c, cc24d⟩ := R2.out.cells
  go_wp2_with fail
  generalize hW : (((w18.setCell ⟨w.heap.size + 1, 0, none⟩ (.bool s6a)).setCell ⟨w.heap.size + 1, 1, none⟩ (.slice p6a n6a c6a)).setCell ⟨w.heap.size + 1, 2, none⟩ (.bool s6b)).setCell ⟨w.heap.size + 1, 3, none⟩ (.slice p6b n6b c6b) = W25 at *
  clear hW
  obtain ⟨cc26a, cc26b, cc26c, cc26d⟩ := R1.out.cells
  obtain ⟨cc27a, cc27b, cc27c, cc27d⟩ := R2.out.cells
  obtain ⟨⟨cc28a, cc28b⟩, ⟨cc28c, cc28d⟩, ⟨cc28e, cc28f⟩, cc28g, cc28h⟩ := R1.out.stores
  obtain ⟨r29a, r29b, r29c⟩ := R1.out.last B.out (by omega) s5a s5b p5a p5b n5a n5b c5a c5b
  replace R2 := hid ((((R2.out.other (g2 := w.heap.size) (by omega) 0 (.bool s5a)).other (g2 := w.heap.size) (by omega) 1 (.slice p5a n5a c5a)).other (g2 := w.heap.size) (by omega) 2 (.bool s5b)).other (g2 := w.heap.size) (by omega) 3 (.slice p5b n5b c5b))
  replace HT5 := hid (r29c HT5.out)
  replace HU5 := hid (r29c HU5.out)
  replace HT6 := hid (r29c HT6.out)
  replace HU6 := hid (r29c HU6.out)
  replace R1 := hid r29a
  replace B := hid r29b
  clear r29a r29b r29c
  obtain ⟨cc30a, cc30b, cc30c, cc30d⟩ := R1.out.cells
  obtain ⟨cc31a, cc31b, cc31c, cc31d⟩ := R2.out.cells
  obtain ⟨⟨cc32a, cc32b⟩, ⟨cc32c, cc32d⟩, ⟨cc32e, cc32f⟩, cc32g, cc32h⟩ := R2.out.stores
  obtain ⟨r33a, r33b, r33c⟩ := R2.out.last B.out (by omega) s6a s6b p6a p6b n6a n6b c6a c6b
  replace R1 := hid ((((R1.out.other (g2 := w.heap.size + 1) (by omega) 0 (.bool s6a)).other (g2 := w.heap.size + 1) (by omega) 1 (.slice p6a n6a c6a)).other (g2 := w.heap.size + 1) (by omega) 2 (.bool s6b)).other (g2 := w.heap.size + 1) (by omega) 3 (.slice p6b n6b c6b))
  replace HT5 := hid (r33c HT5.out)
  replace HU5 := hid (r33c HU5.out)
  replace HT6 := hid (r33c HT6.out)
  replace HU6 := hid (r33c HU6.out)
  replace R2 := hid r33a
  replace B := hid r33b
  clear r33a r33b r33c
  obtain ⟨cc34a, cc34b, cc34c, cc34d⟩ := R1.out.cells
  obtain ⟨cc35a, cc35b, cc35c, cc35d⟩ := R2.out.cells
  go_region_held3 (fun w' => w'.cell? ⟨w.heap.size, 0, none⟩ = some (.bool s5a) ∧ w'.cell? ⟨w.heap.size, 1, none⟩ = some (.slice p5a n5a c5a) ∧ w'.cell? ⟨w.heap.size, 2, none⟩ = some (.bool s5b) ∧ w'.cell? ⟨w.heap.size, 3, none⟩ = some (.slice p5b n5b c5b) ∧ w'.cell? ⟨w.heap.size + 1, 0, none⟩ = some (.bool s6a) ∧ w'.cell? ⟨w.heap.size + 1, 1, none⟩ = some (.slice p6a n6a c6a) ∧ w'.cell? ⟨w.heap.size + 1, 2, none⟩ = some (.bool s6b) ∧ w'.cell? ⟨w.heap.size + 1, 3, none⟩ = some (.slice p6b n6b c6b)) (go_keep) (first | fail)
  replace R1 := hid R1.out.dr
  replace R2 := hid R2.out.dr
  replace HT5 := hid HT5.out.drew
  replace HU5 := hid HU5.out.drew
  replace HT6 := hid HT6.out.drew
  replace HU6 := hid HU6.out.drew
  replace B := hid (Below.drew B.out)
  go_wp2_with fail
  refine bodyPost_ret (res_nn_tmp rfl rfl rfl rfl R1.out R2.out) rfl ?_
  exact ⟨_, _, rfl, Rtl.mk2 HT5.out HU5.out HD5.out, Rtl.mk2 HT6.out HU6.out HD6.out, B.out⟩

theorem qboth_bad {a b : ByteArray} {k : Int} (h : WrongQ a b k) (ha : a.size ≤ maxLen) (hb : b.size ≤ maxLen) (w : World) :
    Calls Try.prog 32 #[.string a, .string b] w fun e w' => e = .returned (.tuple #[.agg #[.bool false, .slice none 0 0, .bool false, .slice none 0 0], .agg #[.bool false, .slice none 0 0, .bool false, .slice none 0 0], errno k]) ∧ Below w.heap.size w w' := by
  rcases h with h | ⟨h1, h2⟩
  · exact qboth1 h ha hb w
  · exact qboth2 h1 h2 ha hb w
theorem qboth_good {a b : ByteArray} (h1 : GoodQ a) (h2 : GoodQ b) (w : World) :
    Calls Try.prog 32 #[.string a, .string b] w fun e w' => ∃ v u, e = .returned (.tuple #[v, u, .nilIface]) ∧ Rtl w' v (qnum a) 100 ∧ Rtl w' u (qnum b) 100 ∧ Below w.heap.size w w' :=
  qboth3 (k := 0) h1 h2 (by have := h1.1; unfold maxLen; omega) (by have := h2.1; unfold maxLen; omega) w

end Go.Proofs.Ytjeeepcnaaadmaa

