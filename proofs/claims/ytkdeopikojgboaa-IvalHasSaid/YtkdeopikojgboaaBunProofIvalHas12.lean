import Derived.Test.YtkdeopikojgboaaBunProofIvalHas11
import Derived.Test.YtkdeopikojgboaaBunProofIvalHas10
import Derived.Deep.RegionHeld3
import Derived.Test.YtkdeopikojgboaaBunProofIvalHas9
import Derived.Test.YtkdeopikojgboaaBunProofIvalHas1
/-
  PACKAGE rat: Parse.
-/
namespace Go.Proofs.Ytkdeopikojgboaa
open Go.RowKit
open Num
set_option linter.unusedVariables false
set_option maxRecDepth 100000
set_option linter.unusedSimpArgs false

/-- A fraction that may be handed in. -/
def GoodQ (s : ByteArray) : Prop := s.size ≤ 100 ∧ isRat s.data.toList = true
/-- What is wrong with a text. -/
def BadQ (s : ByteArray) (k : Int) : Prop := (100 < s.size ∧ k = 4) ∨ (s.size ≤ 100 ∧ isRat s.data.toList = false ∧ k = 1)
theorem goodQ_or_bad (s : ByteArray) : GoodQ s ∨ ∃ k, BadQ s k := by
  by_cases h : s.size ≤ 100
  · cases hn : isRat s.data.toList with
    | true => exact .inl ⟨h, hn⟩
    | false => exact .inr ⟨1, .inr ⟨h, hn, rfl⟩⟩
  · exact .inr ⟨4, .inl ⟨by omega, rfl⟩⟩
/-- The fraction of a text. -/
def qnum (s : ByteArray) : Rat := ratOf s.data.toList
/-- The error of two texts. -/
def WrongQ (a b : ByteArray) (k : Int) : Prop := BadQ a k ∨ (GoodQ a ∧ BadQ b k)
theorem rightQ_or_wrong (a b : ByteArray) : (GoodQ a ∧ GoodQ b) ∨ ∃ k, WrongQ a b k := by
  rcases goodQ_or_bad a with ha | ⟨k, ha⟩
  · rcases goodQ_or_bad b with hb | ⟨k, hb⟩
    · exact .inl ⟨ha, hb⟩
    · exact .inr ⟨k, .inr ⟨ha, hb⟩⟩
  · exact .inr ⟨k, .inl ha⟩
theorem divInt_coprime {n d : Int} (hd : 1 < d) (hg : Int.gcd n d = 1) : (Rat.divInt n d).num = n ∧ ((Rat.divInt n d).den : Int) = d := by
  have h := divInt_parts n d (by omega)
  rw [if_neg (by omega), hg] at h
  simpa using h
theorem res_nn_tmp {fn : Func} {t t' t'' : Tmp} {tmps : Array Value} {w : World} {g g' : Nat} {s s' a a' : Bool} {sv sv' av av' u : Value} (hf : fn.results = #[.cell t 40, .cell t' 40, .tmp t'']) (ht : tmps.getD t undef = .pointer (some ⟨g, 0, none⟩)) (ht' : tmps.getD t' undef = .pointer (some ⟨g', 0, none⟩)) (hu : tmps.getD t'' undef = u) (h2 : Nbx w g s sv s' sv') (h2' : Nbx w g' a av a' av') :
    (results fn tmps).run Try.prog w = .ok (.tuple #[.agg #[.bool s, sv, .bool s', sv'], .agg #[.bool a, av, .bool a', av'], u]) w := by
  have h1 := at_addr (P := Try.prog) (w := w) ht
  have h1' := at_addr (P := Try.prog) (w := w) ht'
  have h3 := load_num h2
  have h3' := load_num h2'
  simp only [Array.getD_eq_getD_getElem?] at h1 h1' hu
  simp [results, hf, Sem.run_bind, h1, h3, h1', h3', hu]

set_option maxHeartbeats 2000000 in
theorem qparseA (s : ByteArray) (w : World) (hs : s.size ≤ 68719476736) (hA : isWhl (cutB s.data.toList) = false) :
    Calls Try.prog 32 #[.string s] w fun e w' => e = .returned (.tuple #[.agg #[.bool false, .slice none 0 0, .bool false, .slice none 0 0], errno 1]) ∧ Below w.heap.size w w' := by
  have HA := hid hA
  have HS := hid hs
  have B := hid (Below.refl w.heap.size w)
  have hb1 := (Below.refl _ _).alloc (Nat.le_refl w.heap.size) (.cells #[.bool false, .slice none 0 0, .bool false, .slice none 0 0] 40)
  have hx2 := Nbx.new w false false (.slice none 0 0) (.slice none 0 0)
  replace B := bb B hb1
  have XQ := hid hx2
  have hs3 : (w.alloc (.cells #[.bool false, .slice none 0 0, .bool false, .slice none 0 0] 40)).heap.size = w.heap.size + 1 := by simp
  clear hb1 hx2
  clear hs3 hs hA
  go_enter Try.func32, Try.ntmps32
  obtain ⟨cc4a, cc4b, cc4c, cc4d⟩ := XQ.out.cells
  go_wp2_with fail
  generalize hW : w.alloc (.cells #[.bool false, .slice none 0 0, .bool false, .slice none 0 0] 40) = W5 at *
  clear hW
  have HC := cut_slash s W5 (by have := HS.out; unfold maxLen; omega)
  refine (HC).mono ?_
  rintro e w6 ⟨a, b, rfl, ha, hbb, hsa, hsb, hb⟩
  have HAL := hid ha
  have HBL := hid hbb
  have HSA := hid hsa
  have HSB := hid hsb
  replace XQ := nx XQ hb
  replace B := bb B hb
  clear cc4a cc4b cc4c cc4d
  clear hb HC ha hbb hsa hsb
  obtain ⟨cc7a, cc7b, cc7c, cc7d⟩ := XQ.out.cells
  generalize hasSl s.data.toList = sl at *
  go_wp2_with fail
  refine (zparse_no a _ (by have := HS.out; have := HSA.out; omega) (by rw [HAL.out]; exact HA.out)).mono ?_
  rintro e w8 ⟨rfl, hb⟩
  replace XQ := nx XQ hb
  replace B := bb B hb
  clear cc7a cc7b cc7c cc7d
  clear hb 
  have hb9 := (Below.refl _ _).alloc (Nat.le_refl w8.heap.size) (.cells #[.bool false, .slice none 0 0] 38)
  have hx10 := Box.new w8 false none 0 0
  have L0 := hid XQ.out.lt
  replace XQ := nx XQ hb9
  replace B := bb B hb9
  have X7 := hid hx10
  have hs11 : (w8.alloc (.cells #[.bool false, .slice none 0 0] 38)).heap.size = w8.heap.size + 1 := by simp
  clear hb9 hx10
  obtain ⟨cc12a, cc12b, cc12c, cc12d⟩ := XQ.out.cells
  obtain ⟨cc13a, cc13b⟩ := X7.out.both
  obtain ⟨⟨cc14a, cc14b⟩, ⟨cc14c, cc14d⟩, ⟨cc14e, cc14f⟩, cc14g, cc14h⟩ := XQ.out.stores
  obtain ⟨r15a, r15b, r15c⟩ := XQ.out.last B.out (by have := L0.out; omega) false false none none 0 0 0 0
  replace X7 := hid ((((X7.out.other (g2 := w.heap.size) (by have := L0.out; omega) 0 (.bool false)).other (g2 := w.heap.size) (by have := L0.out; omega) 1 (.slice none 0 0)).other (g2 := w.heap.size) (by have := L0.out; omega) 2 (.bool false)).other (g2 := w.heap.size) (by have := L0.out; omega) 3 (.slice none 0 0))
  replace XQ := hid r15a
  replace B := hid r15b
  clear r15a r15b r15c
  go_wp2_with fail
  refine bodyPost_ret (res_num_tmp rfl rfl rfl XQ.out) rfl ?_
  exact ⟨rfl, B.out⟩

set_option maxHeartbeats 2000000 in
theorem qparseB (s : ByteArray) (w : World) (hs : s.size ≤ 68719476736) (hsl : hasSl s.data.toList = false) (hA : isWhl (cutB s.data.toList) = true) :
    Calls Try.prog 32 #[.string s] w fun e w' => ∃ v, e = .returned (.tuple #[v, .nilIface]) ∧ Rtl w' v (ratOf s.data.toList) s.size ∧ Below w.heap.size w w' := by
  have HSL := hid hsl
  have HA := hid hA
  have HS := hid hs
  have B := hid (Below.refl w.heap.size w)
  have hb1 := (Below.refl _ _).alloc (Nat.le_refl w.heap.size) (.cells #[.bool false, .slice none 0 0, .bool false, .slice none 0 0] 40)
  have hx2 := Nbx.new w false false (.slice none 0 0) (.slice none 0 0)
  replace B := bb B hb1
  have XQ := hid hx2
  have hs3 : (w.alloc (.cells #[.bool false, .slice none 0 0, .bool false, .slice none 0 0] 40)).heap.size = w.heap.size + 1 := by simp
  clear hb1 hx2
  clear hs3 hs hsl hA
  go_enter Try.func32, Try.ntmps32
  obtain ⟨cc4a, cc4b, cc4c, cc4d⟩ := XQ.out.cells
  go_wp2_with fail
  generalize hW : w.alloc (.cells #[.bool false, .slice none 0 0, .bool false, .slice none 0 0] 40) = W5 at *
  clear hW
  have HC := cut_slash s W5 (by have := HS.out; unfold maxLen; omega)
  rw [HSL.out] at HC
  refine (HC).mono ?_
  rintro e w6 ⟨a, b, rfl, ha, hbb, hsa, hsb, hb⟩
  have HAL := hid ha
  have HBL := hid hbb
  have HSA := hid hsa
  have HSB := hid hsb
  replace XQ := nx XQ hb
  replace B := bb B hb
  clear cc4a cc4b cc4c cc4d
  clear hb HC ha hbb hsa hsb
  obtain ⟨cc7a, cc7b, cc7c, cc7d⟩ := XQ.out.cells
  go_wp2_with fail
  refine (zparse_yes a _ (by have := HS.out; have := HSA.out; omega) (by rw [HAL.out]; exact HA.out)).mono ?_
  rintro e w8 ⟨v, rfl, hv, hb⟩
  rw [HAL.out] at hv
  replace hv := hv.mono HSA.out
  obtain ⟨s5, p5, n5, c5, rfl⟩ := hv.opened
  replace XQ := nx XQ hb
  replace B := bb B hb
  clear cc7a cc7b cc7c cc7d
  have HT := hid hv
  clear hb hv
  have hb9 := (Below.refl _ _).alloc (Nat.le_refl w8.heap.size) (.cells #[.bool s5, .slice p5 n5 c5] 38)
  have hx10 := Box.new w8 s5 p5 n5 c5
  have L0 := hid XQ.out.lt
  replace XQ := nx XQ hb9
  replace HT := wl HT hb9
  replace B := bb B hb9
  have X7 := hid hx10
  have hs11 : (w8.alloc (.cells #[.bool s5, .slice p5 n5 c5] 38)).heap.size = w8.heap.size + 1 := by simp
  clear hb9 hx10
  obtain ⟨cc12a, cc12b, cc12c, cc12d⟩ := XQ.out.cells
  obtain ⟨cc13a, cc13b⟩ := X7.out.both
  obtain ⟨⟨cc14a, cc14b⟩, ⟨cc14c, cc14d⟩, ⟨cc14e, cc14f⟩, cc14g, cc14h⟩ := XQ.out.stores
  obtain ⟨r15a, r15b, r15c⟩ := XQ.out.last B.out (by have := L0.out; omega) s5 false p5 none n5 0 c5 0
  replace X7 := hid ((((X7.out.other (g2 := w.heap.size) (by have := L0.out; omega) 0 (.bool s5)).other (g2 := w.heap.size) (by have := L0.out; omega) 1 (.slice p5 n5 c5)).other (g2 := w.heap.size) (by have := L0.out; omega) 2 (.bool false)).other (g2 := w.heap.size) (by have := L0.out; omega) 3 (.slice none 0 0))
  replace HT := hid (r15c HT.out)
  replace XQ := hid r15a
  replace B := hid r15b
  clear r15a r15b r15c
  go_wp2_with fail
  refine bodyPost_ret (res_num_tmp rfl rfl rfl XQ.out) rfl ?_
  refine ⟨_, rfl, Rtl.mk2 (d := 0) ?_ (Whl.nil _ _) (.inr ⟨rfl, ?_⟩), B.out⟩
  · rw [ratOf, if_neg (by rw [HSL.out]; decide), Rat.num_intCast]
    have h := HT.out
    have e : cutB s.data.toList = s.data.toList := by rcases index_cut s.data.toList with ⟨_, _, e⟩ | ⟨e, _⟩; exact e; rw [HSL.out] at e; exact absurd e (by decide)
    rw [e] at h; exact h
  · rw [ratOf, if_neg (by rw [HSL.out]; decide), Rat.den_intCast]

set_option maxHeartbeats 2000000 in
theorem qparseC (s : ByteArray) (w : World) (hs : s.size ≤ 68719476736) (hsl : hasSl s.data.toList = true) (hA : isWhl (cutB s.data.toList) = true) (hB : isWhl (cutA s.data.toList) = false) :
    Calls Try.prog 32 #[.string s] w fun e w' => e = .returned (.tuple #[.agg #[.bool false, .slice none 0 0, .bool false, .slice none 0 0], errno 1]) ∧ Below w.heap.size w w' := by
  have HSL := hid hsl
  have HA := hid hA
  have HB := hid hB
  have HS := hid hs
  have B := hid (Below.refl w.heap.size w)
  have hb1 := (Below.refl _ _).alloc (Nat.le_refl w.heap.size) (.cells #[.bool false, .slice none 0 0, .bool false, .slice none 0 0] 40)
  have hx2 := Nbx.new w false false (.slice none 0 0) (.slice none 0 0)
  replace B := bb B hb1
  have XQ := hid hx2
  have hs3 : (w.alloc (.cells #[.bool false, .slice none 0 0, .bool false, .slice none 0 0] 40)).heap.size = w.heap.size + 1 := by simp
  clear hb1 hx2
  clear hs3 hs hsl hA hB
  go_enter Try.func32, Try.ntmps32
  obtain ⟨cc4a, cc4b, cc4c, cc4d⟩ := XQ.out.cells
  go_wp2_with fail
  generalize hW : w.alloc (.cells #[.bool false, .slice none 0 0, .bool false, .slice none 0 0] 40) = W5 at *
  clear hW
  have HC := cut_slash s W5 (by have := HS.out; unfold maxLen; omega)
  rw [HSL.out] at HC
  refine (HC).mono ?_
  rintro e w6 ⟨a, b, rfl, ha, hbb, hsa, hsb, hb⟩
  have HAL := hid ha
  have HBL := hid hbb
  have HSA := hid hsa
  have HSB := hid hsb
  replace XQ := nx XQ hb
  replace B := bb B hb
  clear cc4a cc4b cc4c cc4d
  clear hb HC ha hbb hsa hsb
  obtain ⟨cc7a, cc7b, cc7c, cc7d⟩ := XQ.out.cells
  go_wp2_with fail
  refine (zparse_yes a _ (by have := HS.out; have := HSA.out; omega) (by rw [HAL.out]; exact HA.out)).mono ?_
  rintro e w8 ⟨v, rfl, hv, hb⟩
  rw [HAL.out] at hv
  replace hv := hv.mono HSA.out
  obtain ⟨s5, p5, n5, c5, rfl⟩ := hv.opened
  replace XQ := nx XQ hb
  replace B := bb B hb
  clear cc7a cc7b cc7c cc7d
  have HT := hid hv
  clear hb hv
  have hb9 := (Below.refl _ _).alloc (Nat.le_refl w8.heap.size) (.cells #[.bool s5, .slice p5 n5 c5] 38)
  have hx10 := Box.new w8 s5 p5 n5 c5
  have L0 := hid XQ.out.lt
  replace XQ := nx XQ hb9
  replace HT := wl HT hb9
  replace B := bb B hb9
  have X7 := hid hx10
  have hs11 : (w8.alloc (.cells #[.bool s5, .slice p5 n5 c5] 38)).heap.size = w8.heap.size + 1 := by simp
  clear hb9 hx10
  obtain ⟨cc12a, cc12b, cc12c, cc12d⟩ := XQ.out.cells
  obtain ⟨cc13a, cc13b⟩ := X7.out.both
  go_wp2_with fail
  generalize hW : w8.alloc (.cells #[.bool s5, .slice p5 n5 c5] 38) = W14 at *
  clear hW
  have HBL := hid (HBL.out (by first | rfl | trivial))
  refine (zparse_no b _ (by have := HS.out; have := HSB.out; omega) (by rw [HBL.out]; exact HB.out)).mono ?_
  rintro e w15 ⟨rfl, hb⟩
  replace XQ := nx XQ hb
  replace X7 := bx X7 hb
  replace HT := wl HT hb
  replace B := bb B hb
  clear cc12a cc12b cc12c cc12d cc13a cc13b
  clear hb 
  have hb16 := (Below.refl _ _).alloc (Nat.le_refl w15.heap.size) (.cells #[.bool false, .slice none 0 0] 38)
  have hx17 := Box.new w15 false none 0 0
  have L1 := hid X7.out.lt
  replace XQ := nx XQ hb16
  replace X7 := bx X7 hb16
  replace HT := wl HT hb16
  replace B := bb B hb16
  have X9 := hid hx17
  have hs18 : (w15.alloc (.cells #[.bool false, .slice none 0 0] 38)).heap.size = w15.heap.size + 1 := by simp
  clear hb16 hx17
  obtain ⟨cc19a, cc19b, cc19c, cc19d⟩ := XQ.out.cells
  obtain ⟨cc20a, cc20b⟩ := X7.out.both
  obtain ⟨cc21a, cc21b⟩ := X9.out.both
  obtain ⟨⟨cc22a, cc22b⟩, ⟨cc22c, cc22d⟩, ⟨cc22e, cc22f⟩, cc22g, cc22h⟩ := XQ.out.stores
  obtain ⟨r23a, r23b, r23c⟩ := XQ.out.last B.out (by have := L0.out; have := L1.out; omega) false false none none 0 0 0 0
  replace X7 := hid ((((X7.out.other (g2 := w.heap.size) (by have := L0.out; have := L1.out; omega) 0 (.bool false)).other (g2 := w.heap.size) (by have := L0.out; have := L1.out; omega) 1 (.slice none 0 0)).other (g2 := w.heap.size) (by have := L0.out; have := L1.out; omega) 2 (.bool false)).other (g2 := w.heap.size) (by have := L0.out; have := L1.out; omega) 3 (.slice none 0 0))
  replace X9 := hid ((((X9.out.other (g2 := w.heap.size) (by have := L0.out; have := L1.out; omega) 0 (.bool false)).other (g2 := w.heap.size) (by have := L0.out; have := L1.out; omega) 1 (.slice none 0 0)).other (g2 := w.heap.size) (by have := L0.out; have := L1.out; omega) 2 (.bool false)).other (g2 := w.heap.size) (by have := L0.out; have := L1.out; omega) 3 (.slice none 0 0))
  replace HT := hid (r23c HT.out)
  replace XQ := hid r23a
  replace B := hid r23b
  clear r23a r23b r23c
  go_wp2_with fail
  refine bodyPost_ret (res_num_tmp rfl rfl rfl XQ.out) rfl ?_
  exact ⟨rfl, B.out⟩

set_option maxHeartbeats 2000000 in
theorem qparseD (s : ByteArray) (w : World) (hs : s.size ≤ 68719476736) (hsl : hasSl s.data.toList = true) (hA : isWhl (cutB s.data.toList) = true) (hB : isWhl (cutA s.data.toList) = true) (hD : ¬ 1 < whlOf (cutA s.data.toList)) :
    Calls Try.prog 32 #[.string s] w fun e w' => e = .returned (.tuple #[.agg #[.bool false, .slice none 0 0, .bool false, .slice none 0 0], errno 1]) ∧ Below w.heap.size w w' := by
  have HSL := hid hsl
  have HA := hid hA
  have HB := hid hB
  have HD := hid hD
  have HS := hid hs
  have B := hid (Below.refl w.heap.size w)
  have hb1 := (Below.refl _ _).alloc (Nat.le_refl w.heap.size) (.cells #[.bool false, .slice none 0 0, .bool false, .slice none 0 0] 40)
  have hx2 := Nbx.new w false false (.slice none 0 0) (.slice none 0 0)
  replace B := bb B hb1
  have XQ := hid hx2
  have hs3 : (w.alloc (.cells #[.bool false, .slice none 0 0, .bool false, .slice none 0 0] 40)).heap.size = w.heap.size + 1 := by simp
  clear hb1 hx2
  clear hs3 hs hsl hA hB hD
  go_enter Try.func32, Try.ntmps32
  obtain ⟨cc4a, cc4b, cc4c, cc4d⟩ := XQ.out.cells
  go_wp2_with fail
  generalize hW : w.alloc (.cells #[.bool false, .slice none 0 0, .bool false, .slice none 0 0] 40) = W5 at *
  clear hW
  have HC := cut_slash s W5 (by have := HS.out; unfold maxLen; omega)
  rw [HSL.out] at HC
  refine (HC).mono ?_
  rintro e w6 ⟨a, b, rfl, ha, hbb, hsa, hsb, hb⟩
  have HAL := hid ha
  have HBL := hid hbb
  have HSA := hid hsa
  have HSB := hid hsb
  replace XQ := nx XQ hb
  replace B := bb B hb
  clear cc4a cc4b cc4c cc4d
  clear hb HC ha hbb hsa hsb
  obtain ⟨cc7a, cc7b, cc7c, cc7d⟩ := XQ.out.cells
  go_wp2_with fail
  refine (zparse_yes a _ (by have := HS.out; have := HSA.out; omega) (by rw [HAL.out]; exact HA.out)).mono ?_
  rintro e w8 ⟨v, rfl, hv, hb⟩
  rw [HAL.out] at hv
  replace hv := hv.mono HSA.out
  obtain ⟨s5, p5, n5, c5, rfl⟩ := hv.opened
  replace XQ := nx XQ hb
  replace B := bb B hb
  clear cc7a cc7b cc7c cc7d
  have HT := hid hv
  clear hb hv
  have hb9 := (Below.refl _ _).alloc (Nat.le_refl w8.heap.size) (.cells #[.bool s5, .slice p5 n5 c5] 38)
  have hx10 := Box.new w8 s5 p5 n5 c5
  have L0 := hid XQ.out.lt
  replace XQ := nx XQ hb9
  replace HT := wl HT hb9
  replace B := bb B hb9
  have X7 := hid hx10
  have hs11 : (w8.alloc (.cells #[.bool s5, .slice p5 n5 c5] 38)).heap.size = w8.heap.size + 1 := by simp
  clear hb9 hx10
  obtain ⟨cc12a, cc12b, cc12c, cc12d⟩ := XQ.out.cells
  obtain ⟨cc13a, cc13b⟩ := X7.out.both
  go_wp2_with fail
  generalize hW : w8.alloc (.cells #[.bool s5, .slice p5 n5 c5] 38) = W14 at *
  clear hW
  have HBL := hid (HBL.out (by first | rfl | trivial))
  refine (zparse_yes b _ (by have := HS.out; have := HSB.out; omega) (by rw [HBL.out]; exact HB.out)).mono ?_
  rintro e w15 ⟨v, rfl, hv, hb⟩
  rw [HBL.out] at hv
  replace hv := hv.mono HSB.out
  obtain ⟨s6, p6, n6, c6, rfl⟩ := hv.opened
  replace XQ := nx XQ hb
  replace X7 := bx X7 hb
  replace HT := wl HT hb
  replace B := bb B hb
  clear cc12a cc12b cc12c cc12d cc13a cc13b
  have HU := hid hv
  clear hb hv
  have hb16 := (Below.refl _ _).alloc (Nat.le_refl w15.heap.size) (.cells #[.bool s6, .slice p6 n6 c6] 38)
  have hx17 := Box.new w15 s6 p6 n6 c6
  have L1 := hid X7.out.lt
  replace XQ := nx XQ hb16
  replace X7 := bx X7 hb16
  replace HT := wl HT hb16
  replace HU := wl HU hb16
  replace B := bb B hb16
  have X9 := hid hx17
  have hs18 : (w15.alloc (.cells #[.bool s6, .slice p6 n6 c6] 38)).heap.size = w15.heap.size + 1 := by simp
  clear hb16 hx17
  obtain ⟨cc19a, cc19b, cc19c, cc19d⟩ := XQ.out.cells
  obtain ⟨cc20a, cc20b⟩ := X7.out.both
  obtain ⟨cc21a, cc21b⟩ := X9.out.both
  go_wp2_with fail
  generalize hW : w15.alloc (.cells #[.bool s6, .slice p6 n6 c6] 38) = W22 at *
  clear hW
  have HM := more_whl HU.out (by have := HS.out; omega)
  rw [decide_eq_false (by have h := HD.out; omega)] at HM
  refine (HM).mono ?_
  rintro e w23 ⟨rfl, hb⟩
  replace XQ := nx XQ hb
  replace X7 := bx X7 hb
  replace X9 := bx X9 hb
  replace HT := wl HT hb
  replace HU := wl HU hb
  replace B := bb B hb
  clear cc19a cc19b cc19c cc19d cc20a cc20b cc21a cc21b
  clear hb HM
  obtain ⟨cc24a, cc24b, cc24c, cc24d⟩ := XQ.out.cells
  obtain ⟨cc25a, cc25b⟩ := X7.out.both
  obtain ⟨cc26a, cc26b⟩ := X9.out.both
  obtain ⟨⟨cc27a, cc27b⟩, ⟨cc27c, cc27d⟩, ⟨cc27e, cc27f⟩, cc27g, cc27h⟩ := XQ.out.stores
  obtain ⟨r28a, r28b, r28c⟩ := XQ.out.last B.out (by have := L0.out; have := L1.out; omega) false false none none 0 0 0 0
  replace X7 := hid ((((X7.out.other (g2 := w.heap.size) (by have := L0.out; have := L1.out; omega) 0 (.bool false)).other (g2 := w.heap.size) (by have := L0.out; have := L1.out; omega) 1 (.slice none 0 0)).other (g2 := w.heap.size) (by have := L0.out; have := L1.out; omega) 2 (.bool false)).other (g2 := w.heap.size) (by have := L0.out; have := L1.out; omega) 3 (.slice none 0 0))
  replace X9 := hid ((((X9.out.other (g2 := w.heap.size) (by have := L0.out; have := L1.out; omega) 0 (.bool false)).other (g2 := w.heap.size) (by have := L0.out; have := L1.out; omega) 1 (.slice none 0 0)).other (g2 := w.heap.size) (by have := L0.out; have := L1.out; omega) 2 (.bool false)).other (g2 := w.heap.size) (by have := L0.out; have := L1.out; omega) 3 (.slice none 0 0))
  replace HT := hid (r28c HT.out)
  replace HU := hid (r28c HU.out)
  replace XQ := hid r28a
  replace B := hid r28b
  clear r28a r28b r28c
  go_wp2_with fail
  refine bodyPost_ret (res_num_tmp rfl rfl rfl XQ.out) rfl ?_
  exact ⟨rfl, B.out⟩

set_option maxHeartbeats 2000000 in
theorem qparseE (s : ByteArray) (w : World) (hs : s.size ≤ 68719476736) (hsl : hasSl s.data.toList = true) (hA : isWhl (cutB s.data.toList) = true) (hB : isWhl (cutA s.data.toList) = true) (hD : 1 < whlOf (cutA s.data.toList)) (hG : ¬ Int.gcd (whlOf (cutB s.data.toList)) (whlOf (cutA s.data.toList)) = 1) :
    Calls Try.prog 32 #[.string s] w fun e w' => e = .returned (.tuple #[.agg #[.bool false, .slice none 0 0, .bool false, .slice none 0 0], errno 1]) ∧ Below w.heap.size w w' := by
  have HSL := hid hsl
  have HA := hid hA
  have HB := hid hB
  have HD := hid hD
  have HG := hid hG
  have HS := hid hs
  have B := hid (Below.refl w.heap.size w)
  have hb1 := (Below.refl _ _).alloc (Nat.le_refl w.heap.size) (.cells #[.bool false, .slice none 0 0, .bool false, .slice none 0 0] 40)
  have hx2 := Nbx.new w false false (.slice none 0 0) (.slice none 0 0)
  replace B := bb B hb1
  have XQ := hid hx2
  have hs3 : (w.alloc (.cells #[.bool false, .slice none 0 0, .bool false, .slice none 0 0] 40)).heap.size = w.heap.size + 1 := by simp
  clear hb1 hx2
  clear hs3 hs hsl hA hB hD hG
  go_enter Try.func32, Try.ntmps32
  obtain ⟨cc4a, cc4b, cc4c, cc4d⟩ := XQ.out.cells
  go_wp2_with fail
  generalize hW : w.alloc (.cells #[.bool false, .slice none 0 0, .bool false, .slice none 0 0] 40) = W5 at *
  clear hW
  have HC := cut_slash s W5 (by have := HS.out; unfold maxLen; omega)
  rw [HSL.out] at HC
  refine (HC).mono ?_
  rintro e w6 ⟨a, b, rfl, ha, hbb, hsa, hsb, hb⟩
  have HAL := hid ha
  have HBL := hid hbb
  have HSA := hid hsa
  have HSB := hid hsb
  replace XQ := nx XQ hb
  replace B := bb B hb
  clear cc4a cc4b cc4c cc4d
  clear hb HC ha hbb hsa hsb
  obtain ⟨cc7a, cc7b, cc7c, cc7d⟩ := XQ.out.cells
  go_wp2_with fail
  refine (zparse_yes a _ (by have := HS.out; have := HSA.out; omega) (by rw [HAL.out]; exact HA.out)).mono ?_
  rintro e w8 ⟨v, rfl, hv, hb⟩
  rw [HAL.out] at hv
  replace hv := hv.mono HSA.out
  obtain ⟨s5, p5, n5, c5, rfl⟩ := hv.opened
  replace XQ := nx XQ hb
  replace B := bb B hb
  clear cc7a cc7b cc7c cc7d
  have HT := hid hv
  clear hb hv
  have hb9 := (Below.refl _ _).alloc (Nat.le_refl w8.heap.size) (.cells #[.bool s5, .slice p5 n5 c5] 38)
  have hx10 := Box.new w8 s5 p5 n5 c5
  have L0 := hid XQ.out.lt
  replace XQ := nx XQ hb9
  replace HT := wl HT hb9
  replace B := bb B hb9
  have X7 := hid hx10
  have hs11 : (w8.alloc (.cells #[.bool s5, .slice p5 n5 c5] 38)).heap.size = w8.heap.size + 1 := by simp
  clear hb9 hx10
  obtain ⟨cc12a, cc12b, cc12c, cc12d⟩ := XQ.out.cells
  obtain ⟨cc13a, cc13b⟩ := X7.out.both
  go_wp2_with fail
  generalize hW : w8.alloc (.cells #[.bool s5, .slice p5 n5 c5] 38) = W14 at *
  clear hW
  have HBL := hid (HBL.out (by first | rfl | trivial))
  refine (zparse_yes b _ (by have := HS.out; have := HSB.out; omega) (by rw [HBL.out]; exact HB.out)).mono ?_
  rintro e w15 ⟨v, rfl, hv, hb⟩
  rw [HBL.out] at hv
  replace hv := hv.mono HSB.out
  obtain ⟨s6, p6, n6, c6, rfl⟩ := hv.opened
  replace XQ := nx XQ hb
  replace X7 := bx X7 hb
  replace HT := wl HT hb
  replace B := bb B hb
  clear cc12a cc12b cc12c cc12d cc13a cc13b
  have HU := hid hv
  clear hb hv
  have hb16 := (Below.refl _ _).alloc (Nat.le_refl w15.heap.size) (.cells #[.bool s6, .slice p6 n6 c6] 38)
  have hx17 := Box.new w15 s6 p6 n6 c6
  have L1 := hid X7.out.lt
  replace XQ := nx XQ hb16
  replace X7 := bx X7 hb16
  replace HT := wl HT hb16
  replace HU := wl HU hb16
  replace B := bb B hb16
  have X9 := hid hx17
  have hs18 : (w15.alloc (.cells #[.bool s6, .slice p6 n6 c6] 38)).heap.size = w15.heap.size + 1 := by simp
  clear hb16 hx17
  obtain ⟨cc19a, cc19b, cc19c, cc19d⟩ := XQ.out.cells
  obtain ⟨cc20a, cc20b⟩ := X7.out.both
  obtain ⟨cc21a, cc21b⟩ := X9.out.both
  go_wp2_with fail
  generalize hW : w15.alloc (.cells #[.bool s6, .slice p6 n6 c6] 38) = W22 at *
  clear hW
  have HM := more_whl HU.out (by have := HS.out; omega)
  rw [decide_eq_true (by have h := HD.out; omega)] at HM
  refine (HM).mono ?_
  rintro e w23 ⟨rfl, hb⟩
  replace XQ := nx XQ hb
  replace X7 := bx X7 hb
  replace X9 := bx X9 hb
  replace HT := wl HT hb
  replace HU := wl HU hb
  replace B := bb B hb
  clear cc19a cc19b cc19c cc19d cc20a cc20b cc21a cc21b
  clear hb HM
  obtain ⟨cc24a, cc24b, cc24c, cc24d⟩ := XQ.out.cells
  obtain ⟨cc25a, cc25b⟩ := X7.out.both
  obtain ⟨cc26a, cc26b⟩ := X9.out.both
  go_wp2_with fail
  refine (zgcd_whl HT.out HU.out (by have := HS.out; omega)).mono ?_
  rintro e w27 ⟨v, rfl, hv, hb⟩
  obtain ⟨s7, p7, n7, c7, rfl⟩ := hv.opened
  replace XQ := nx XQ hb
  replace X7 := bx X7 hb
  replace X9 := bx X9 hb
  replace HT := wl HT hb
  replace HU := wl HU hb
  replace B := bb B hb
  clear cc24a cc24b cc24c cc24d cc25a cc25b cc26a cc26b
  have HV := hid hv
  clear hb hv
  obtain ⟨cc28a, cc28b, cc28c, cc28d⟩ := XQ.out.cells
  obtain ⟨cc29a, cc29b⟩ := X7.out.both
  obtain ⟨cc30a, cc30b⟩ := X9.out.both
  go_wp2_with fail
  have HM := more_whl HV.out (by have := HS.out; omega)
  rw [decide_eq_true (by have h1 := HG.out; have h2 := HD.out; have h3 := Int.gcd_pos_of_ne_zero_right (whlOf (cutB s.data.toList)) (show whlOf (cutA s.data.toList) ≠ 0 by omega); omega)] at HM
  refine (HM).mono ?_
  rintro e w31 ⟨rfl, hb⟩
  replace XQ := nx XQ hb
  replace X7 := bx X7 hb
  replace X9 := bx X9 hb
  replace HT := wl HT hb
  replace HU := wl HU hb
  replace HV := wl HV hb
  replace B := bb B hb
  clear cc28a cc28b cc28c cc28d cc29a cc29b cc30a cc30b
  clear hb HM
  obtain ⟨cc32a, cc32b, cc32c, cc32d⟩ := XQ.out.cells
  obtain ⟨cc33a, cc33b⟩ := X7.out.both
  obtain ⟨cc34a, cc34b⟩ := X9.out.both
  obtain ⟨⟨cc35a, cc35b⟩, ⟨cc35c, cc35d⟩, ⟨cc35e, cc35f⟩, cc35g, cc35h⟩ := XQ.out.stores
  obtain ⟨r36a, r36b, r36c⟩ := XQ.out.last B.out (by have := L0.out; have := L1.out; omega) false false none none 0 0 0 0
  replace X7 := hid ((((X7.out.other (g2 := w.heap.size) (by have := L0.out; have := L1.out; omega) 0 (.bool false)).other (g2 := w.heap.size) (by have := L0.out; have := L1.out; omega) 1 (.slice none 0 0)).other (g2 := w.heap.size) (by have := L0.out; have := L1.out; omega) 2 (.bool false)).other (g2 := w.heap.size) (by have := L0.out; have := L1.out; omega) 3 (.slice none 0 0))
  replace X9 := hid ((((X9.out.other (g2 := w.heap.size) (by have := L0.out; have := L1.out; omega) 0 (.bool false)).other (g2 := w.heap.size) (by have := L0.out; have := L1.out; omega) 1 (.slice none 0 0)).other (g2 := w.heap.size) (by have := L0.out; have := L1.out; omega) 2 (.bool false)).other (g2 := w.heap.size) (by have := L0.out; have := L1.out; omega) 3 (.slice none 0 0))
  replace HT := hid (r36c HT.out)
  replace HU := hid (r36c HU.out)
  replace HV := hid (r36c HV.out)
  replace XQ := hid r36a
  replace B := hid r36b
  clear r36a r36b r36c
  go_wp2_with fail
  refine bodyPost_ret (res_num_tmp rfl rfl rfl XQ.out) rfl ?_
  exact ⟨rfl, B.out⟩

set_option maxHeartbeats 2000000 in
theorem qparseF (s : ByteArray) (w : World) (hs : s.size ≤ 68719476736) (hsl : hasSl s.data.toList = true) (hA : isWhl (cutB s.data.toList) = true) (hB : isWhl (cutA s.data.toList) = true) (hD : 1 < whlOf (cutA s.data.toList)) (hG : Int.gcd (whlOf (cutB s.data.toList)) (whlOf (cutA s.data.toList)) = 1) :
    Calls Try.prog 32 #[.string s] w fun e w' => ∃ v, e = .returned (.tuple #[v, .nilIface]) ∧ Rtl w' v (ratOf s.data.toList) s.size ∧ Below w.heap.size w w' := by
  have HSL := hid hsl
  have HA := hid hA
  have HB := hid hB
  have HD := hid hD
  have HG := hid hG
  have HS := hid hs
  have B := hid (Below.refl w.heap.size w)
  have hb1 := (Below.refl _ _).alloc (Nat.le_refl w.heap.size) (.cells #[.bool false, .slice none 0 0, .bool false, .slice none 0 0] 40)
  have hx2 := Nbx.new w false false (.slice none 0 0) (.slice none 0 0)
  replace B := bb B hb1
  have XQ := hid hx2
  have hs3 : (w.alloc (.cells #[.bool false, .slice none 0 0, .bool false, .slice none 0 0] 40)).heap.size = w.heap.size + 1 := by simp
  clear hb1 hx2
  clear hs3 hs hsl hA hB hD hG
  go_enter Try.func32, Try.ntmps32
  obtain ⟨cc4a, cc4b, cc4c, cc4d⟩ := XQ.out.cells
  go_wp2_with fail
  generalize hW : w.alloc (.cells #[.bool false, .slice none 0 0, .bool false, .slice none 0 0] 40) = W5 at *
  clear hW
  have HC := cut_slash s W5 (by have := HS.out; unfold maxLen; omega)
  rw [HSL.out] at HC
  refine (HC).mono ?_
  rintro e w6 ⟨a, b, rfl, ha, hbb, hsa, hsb, hb⟩
  have HAL := hid ha
  have HBL := hid hbb
  have HSA := hid hsa
  have HSB := hid hsb
  replace XQ := nx XQ hb
  replace B := bb B hb
  clear cc4a cc4b cc4c cc4d
  clear hb HC ha hbb hsa hsb
  obtain ⟨cc7a, cc7b, cc7c, cc7d⟩ := XQ.out.cells
  go_wp2_with fail
  refine (zparse_yes a _ (by have := HS.out; have := HSA.out; omega) (by rw [HAL.out]; exact HA.out)).mono ?_
  rintro e w8 ⟨v, rfl, hv, hb⟩
  rw [HAL.out] at hv
  replace hv := hv.mono HSA.out
  obtain ⟨s5, p5, n5, c5, rfl⟩ := hv.opened
  replace XQ := nx XQ hb
  replace B := bb B hb
  clear cc7a cc7b cc7c cc7d
  have HT := hid hv
  clear hb hv
  have hb9 := (Below.refl _ _).alloc (Nat.le_refl w8.heap.size) (.cells #[.bool s5, .slice p5 n5 c5] 38)
  have hx10 := Box.new w8 s5 p5 n5 c5
  have L0 := hid XQ.out.lt
  replace XQ := nx XQ hb9
  replace HT := wl HT hb9
  replace B := bb B hb9
  have X7 := hid hx10
  have hs11 : (w8.alloc (.cells #[.bool s5, .slice p5 n5 c5] 38)).heap.size = w8.heap.size + 1 := by simp
  clear hb9 hx10
  obtain ⟨cc12a, cc12b, cc12c, cc12d⟩ := XQ.out.cells
  obtain ⟨cc13a, cc13b⟩ := X7.out.both
  go_wp2_with fail
  generalize hW : w8.alloc (.cells #[.bool s5, .slice p5 n5 c5] 38) = W14 at *
  clear hW
  have HBL := hid (HBL.out (by first | rfl | trivial))
  refine (zparse_yes b _ (by have := HS.out; have := HSB.out; omega) (by rw [HBL.out]; exact HB.out)).mono ?_
  rintro e w15 ⟨v, rfl, hv, hb⟩
  rw [HBL.out] at hv
  replace hv := hv.mono HSB.out
  obtain ⟨s6, p6, n6, c6, rfl⟩ := hv.opened
  replace XQ := nx XQ hb
  replace X7 := bx X7 hb
  replace HT := wl HT hb
  replace B := bb B hb
  clear cc12a cc12b cc12c cc12d cc13a cc13b
  have HU := hid hv
  clear hb hv
  have hb16 := (Below.refl _ _).alloc (Nat.le_refl w15.heap.size) (.cells #[.bool s6, .slice p6 n6 c6] 38)
  have hx17 := Box.new w15 s6 p6 n6 c6
  have L1 := hid X7.out.lt
  replace XQ := nx XQ hb16
  replace X7 := bx X7 hb16
  replace HT := wl HT hb16
  replace HU := wl HU hb16
  replace B := bb B hb16
  have X9 := hid hx17
  have hs18 : (w15.alloc (.cells #[.bool s6, .slice p6 n6 c6] 38)).heap.size = w15.heap.size + 1 := by simp
  clear hb16 hx17
  obtain ⟨cc19a, cc19b, cc19c, cc19d⟩ := XQ.out.cells
  obtain ⟨cc20a, cc20b⟩ := X7.out.both
  obtain ⟨cc21a, cc21b⟩ := X9.out.both
  go_wp2_with fail
  generalize hW : w15.alloc (.cells #[.bool s6, .slice p6 n6 c6] 38) = W22 at *
  clear hW
  have HM := more_whl HU.out (by have := HS.out; omega)
  rw [decide_eq_true (by have h := HD.out; omega)] at HM
  refine (HM).mono ?_
  rintro e w23 ⟨rfl, hb⟩
  replace XQ := nx XQ hb
  replace X7 := bx X7 hb
  replace X9 := bx X9 hb
  replace HT := wl HT hb
  replace HU := wl HU hb
  replace B := bb B hb
  clear cc19a cc19b cc19c cc19d cc20a cc20b cc21a cc21b
  clear hb HM
  obtain ⟨cc24a, cc24b, cc24c, cc24d⟩ := XQ.out.cells
  obtain ⟨cc25a, cc25b⟩ := X7.out.both
  obtain ⟨cc26a, cc26b⟩ := X9.out.both
  go_wp2_with fail
  refine (zgcd_whl HT.out HU.out (by have := HS.out; omega)).mono ?_
  rintro e w27 ⟨v, rfl, hv, hb⟩
  obtain ⟨s7, p7, n7, c7, rfl⟩ := hv.opened
  replace XQ := nx XQ hb
  replace X7 := bx X7 hb
  replace X9 := bx X9 hb
  replace HT := wl HT hb
  replace HU := wl HU hb
  replace B := bb B hb
  clear cc24a cc24b cc24c cc24d cc25a cc25b cc26a cc26b
  have HV := hid hv
  clear hb hv
  obtain ⟨cc28a, cc28b, cc28c, cc28d⟩ := XQ.out.cells
  obtain ⟨cc29a, cc29b⟩ := X7.out.both
  obtain ⟨cc30a, cc30b⟩ := X9.out.both
  go_wp2_with fail
  have HM := more_whl HV.out (by have := HS.out; omega)
  rw [decide_eq_false (by have h1 := HG.out; omega)] at HM
  refine (HM).mono ?_
  rintro e w31 ⟨rfl, hb⟩
  replace XQ := nx XQ hb
  replace X7 := bx X7 hb
  replace X9 := bx X9 hb
  replace HT := wl HT hb
  replace HU := wl HU hb
  replace HV := wl HV hb
  replace B := bb B hb
  clear cc28a cc28b cc28c cc28d cc29a cc29b cc30a cc30b
  clear hb HM
  obtain ⟨cc32a, cc32b, cc32c, cc32d⟩ := XQ.out.cells
  obtain ⟨cc33a, cc33b⟩ := X7.out.both
  obtain ⟨cc34a, cc34b⟩ := X9.out.both
  obtain ⟨⟨cc35a, cc35b⟩, ⟨cc35c, cc35d⟩, ⟨cc35e, cc35f⟩, cc35g, cc35h⟩ := XQ.out.stores
  obtain ⟨r36a, r36b, r36c⟩ := XQ.out.last B.out (by have := L0.out; have := L1.out; omega) s5 s6 p5 p6 n5 n6 c5 c6
  replace X7 := hid ((((X7.out.other (g2 := w.heap.size) (by have := L0.out; have := L1.out; omega) 0 (.bool s5)).other (g2 := w.heap.size) (by have := L0.out; have := L1.out; omega) 1 (.slice p5 n5 c5)).other (g2 := w.heap.size) (by have := L0.out; have := L1.out; omega) 2 (.bool s6)).other (g2 := w.heap.size) (by have := L0.out; have := L1.out; omega) 3 (.slice p6 n6 c6))
  replace X9 := hid ((((X9.out.other (g2 := w.heap.size) (by have := L0.out; have := L1.out; omega) 0 (.bool s5)).other (g2 := w.heap.size) (by have := L0.out; have := L1.out; omega) 1 (.slice p5 n5 c5)).other (g2 := w.heap.size) (by have := L0.out; have := L1.out; omega) 2 (.bool s6)).other (g2 := w.heap.size) (by have := L0.out; have := L1.out; omega) 3 (.slice p6 n6 c6))
  replace HT := hid (r36c HT.out)
  replace HU := hid (r36c HU.out)
  replace HV := hid (r36c HV.out)
  replace XQ := hid r36a
  replace B := hid r36b
  clear r36a r36b r36c
  go_wp2_with fail
  refine bodyPost_ret (res_num_tmp rfl rfl rfl XQ.out) rfl ?_
  obtain ⟨e1, e2⟩ := divInt_coprime HD.out HG.out
  refine ⟨_, rfl, ?_, B.out⟩
  rw [ratOf, if_pos HSL.out]
  exact Rtl.mk2 (by rw [e1]; exact HT.out) HU.out (.inl e2.symm)

theorem qparse_yes (s : ByteArray) (w : World) (hs : s.size ≤ 68719476736) (hn : isRat s.data.toList = true) :
    Calls Try.prog 32 #[.string s] w fun e w' => ∃ v, e = .returned (.tuple #[v, .nilIface]) ∧ Rtl w' v (ratOf s.data.toList) s.size ∧ Below w.heap.size w w' := by
  unfold isRat at hn
  cases hsl : hasSl s.data.toList
  · rw [hsl] at hn
    have e : cutB s.data.toList = s.data.toList := by
      rcases index_cut s.data.toList with ⟨_, _, e⟩ | ⟨e, _⟩
      · exact e
      · rw [hsl] at e; exact absurd e (by decide)
    exact qparseB s w hs hsl (by rw [e]; simpa using hn)
  · rw [hsl] at hn
    simp only [if_true, Bool.and_eq_true, decide_eq_true_eq] at hn
    obtain ⟨⟨⟨h1, h2⟩, h3⟩, h4⟩ := hn
    exact qparseF s w hs hsl h1 h2 h3 h4
theorem qparse_no (s : ByteArray) (w : World) (hs : s.size ≤ 68719476736) (hn : isRat s.data.toList = false) :
    Calls Try.prog 32 #[.string s] w fun e w' => e = .returned (.tuple #[.agg #[.bool false, .slice none 0 0, .bool false, .slice none 0 0], errno 1]) ∧ Below w.heap.size w w' := by
  unfold isRat at hn
  cases h1 : isWhl (cutB s.data.toList)
  · exact qparseA s w hs h1
  · cases hsl : hasSl s.data.toList
    · rw [hsl] at hn
      have e : cutB s.data.toList = s.data.toList := by
        rcases index_cut s.data.toList with ⟨_, _, e⟩ | ⟨e, _⟩
        · exact e
        · rw [hsl] at e; exact absurd e (by decide)
      rw [e] at h1
      rw [h1] at hn
      simp at hn
    · rw [hsl] at hn
      cases h2 : isWhl (cutA s.data.toList)
      · exact qparseC s w hs hsl h1 h2
      · by_cases h3 : 1 < whlOf (cutA s.data.toList)
        · by_cases h4 : Int.gcd (whlOf (cutB s.data.toList)) (whlOf (cutA s.data.toList)) = 1
          · simp [h1, h2, h3, h4] at hn
          · exact qparseE s w hs hsl h1 h2 h3 h4
        · exact qparseD s w hs hsl h1 h2 h3

end Go.Proofs.Ytkdeopikojgboaa

/-
  PACKAGE rat: Read, readBoth.
-/
namespace Go.Proofs.Ytkdeopikojgboaa
open Go.RowKit
open Num
set_option linter.unusedVariables false
set_option maxRecDepth 100000
set_option linter.unusedSimpArgs false

set_option maxHeartbeats 1000000 in
theorem qread_long {s : ByteArray} (h : 100 < s.size) (w : World) (hs : s.size ≤ maxLen) :
    Calls Try.prog 17 #[.string s] w fun e w' => e = .returned (.tuple #[.agg #[.bool false, .slice none 0 0, .bool false, .slice none 0 0], errno 4]) ∧ Below w.heap.size w w' := by
  have h' : (100 : Int) < (s.size : Int) := by omega
  unfold maxLen at hs
  have B := hid (Below.refl w.heap.size w)
  have hb1 := (Below.refl _ _).alloc (Nat.le_refl w.heap.size) (.cells #[.bool false, .slice none 0 0, .bool false, .slice none 0 0] 40)
  have hx2 := Nbx.new w false false (.slice none 0 0) (.slice none 0 0)
  replace B := bb B hb1
  have XQ := hid hx2
  have hs3 : (w.alloc (.cells #[.bool false, .slice none 0 0, .bool false, .slice none 0 0] 40)).heap.size = w.heap.size + 1 := by simp
  clear hb1 hx2
  clear hs3 h
  go_enter Try.func17, Try.ntmps17
  go_wp2_with fail
  refine bodyPost_ret (res_num_tmp rfl rfl rfl XQ.out) rfl ?_
  exact ⟨rfl, B.out⟩

set_option maxHeartbeats 1000000 in
theorem qread_form {s : ByteArray} (h : s.size ≤ 100) (hn : isRat s.data.toList = false) (w : World) :
    Calls Try.prog 17 #[.string s] w fun e w' => e = .returned (.tuple #[.agg #[.bool false, .slice none 0 0, .bool false, .slice none 0 0], errno 1]) ∧ Below w.heap.size w w' := by
  have h' : (s.size : Int) ≤ 100 := by omega
  have HN := hid hn
  have HS := hid h
  have B := hid (Below.refl w.heap.size w)
  have hb1 := (Below.refl _ _).alloc (Nat.le_refl w.heap.size) (.cells #[.bool false, .slice none 0 0, .bool false, .slice none 0 0] 40)
  have hx2 := Nbx.new w false false (.slice none 0 0) (.slice none 0 0)
  replace B := bb B hb1
  have XQ := hid hx2
  have hs3 : (w.alloc (.cells #[.bool false, .slice none 0 0, .bool false, .slice none 0 0] 40)).heap.size = w.heap.size + 1 := by simp
  clear hb1 hx2
  clear hs3 h hn
  go_enter Try.func17, Try.ntmps17
  obtain ⟨cc4a, cc4b, cc4c, cc4d⟩ := XQ.out.cells
  go_wp2_with fail
  generalize hW : w.alloc (.cells #[.bool false, .slice none 0 0, .bool false, .slice none 0 0] 40) = W5 at *
  clear hW
  refine (qparse_no s _ (by have := HS.out; omega) HN.out).mono ?_
  rintro e w6 ⟨rfl, hb⟩
  replace XQ := nx XQ hb
  replace B := bb B hb
  clear cc4a cc4b cc4c cc4d
  clear hb 
  obtain ⟨cc7a, cc7b, cc7c, cc7d⟩ := XQ.out.cells
  obtain ⟨⟨cc8a, cc8b⟩, ⟨cc8c, cc8d⟩, ⟨cc8e, cc8f⟩, cc8g, cc8h⟩ := XQ.out.stores
  obtain ⟨r9a, r9b, r9c⟩ := XQ.out.last B.out (by omega) false false none none 0 0 0 0
  replace XQ := hid r9a
  replace B := hid r9b
  clear r9a r9b r9c
  go_wp2_with fail
  refine bodyPost_ret (res_num_tmp rfl rfl rfl XQ.out) rfl ?_
  exact ⟨rfl, B.out⟩

theorem qread_bad {s : ByteArray} {k : Int} (h : BadQ s k) (w : World) (hs : s.size ≤ maxLen) :
    Calls Try.prog 17 #[.string s] w fun e w' => e = .returned (.tuple #[.agg #[.bool false, .slice none 0 0, .bool false, .slice none 0 0], errno k]) ∧ Below w.heap.size w w' := by
  rcases h with ⟨h, rfl⟩ | ⟨h, hn, rfl⟩
  · exact qread_long h w hs
  · exact qread_form h hn w

set_option maxHeartbeats 1000000 in
theorem qread_good {s : ByteArray} (h : GoodQ s) (w : World) :
    Calls Try.prog 17 #[.string s] w fun e w' => ∃ v, e = .returned (.tuple #[v, .nilIface]) ∧ Rtl w' v (qnum s) 100 ∧ Below w.heap.size w w' := by
  obtain ⟨h, hn⟩ := h
  have h' : (s.size : Int) ≤ 100 := by omega
  have HN := hid hn
  have HS := hid h
  have B := hid (Below.refl w.heap.size w)
  have hb1 := (Below.refl _ _).alloc (Nat.le_refl w.heap.size) (.cells #[.bool false, .slice none 0 0, .bool false, .slice none 0 0] 40)
  have hx2 := Nbx.new w false false (.slice none 0 0) (.slice none 0 0)
  replace B := bb B hb1
  have XQ := hid hx2
  have hs3 : (w.alloc (.cells #[.bool false, .slice none 0 0, .bool false, .slice none 0 0] 40)).heap.size = w.heap.size + 1 := by simp
  clear hb1 hx2
  clear hs3 h hn
  go_enter Try.func17, Try.ntmps17
  obtain ⟨cc4a, cc4b, cc4c, cc4d⟩ := XQ.out.cells
  go_wp2_with fail
  generalize hW : w.alloc (.cells #[.bool false, .slice none 0 0, .bool false, .slice none 0 0] 40) = W5 at *
  clear hW
  refine (qparse_yes s _ (by have := HS.out; omega) HN.out).mono ?_
  rintro e w6 ⟨v, rfl, hv, hb⟩
  replace hv := hv.mono HS.out
  obtain ⟨s9a, p9a, n9a, c9a, s9b, p9b, n9b, c9b, rfl⟩ := hv.opened
  obtain ⟨ht9, d9, hu9, hd9⟩ := hv.two
  have HD9 := hid hd9
  replace XQ := nx XQ hb
  replace B := bb B hb
  clear cc4a cc4b cc4c cc4d
  have HT9 := hid ht9
  have HU9 := hid hu9
  clear hb hv ht9 hu9 hd9
  obtain ⟨cc7a, cc7b, cc7c, cc7d⟩ := XQ.out.cells
  obtain ⟨⟨cc8a, cc8b⟩, ⟨cc8c, cc8d⟩, ⟨cc8e, cc8f⟩, cc8g, cc8h⟩ := XQ.out.stores
  obtain ⟨r9a, r9b, r9c⟩ := XQ.out.last B.out (by omega) s9a s9b p9a p9b n9a n9b c9a c9b
  replace HT9 := hid (r9c HT9.out)
  replace HU9 := hid (r9c HU9.out)
  replace XQ := hid r9a
  replace B := hid r9b
  clear r9a r9b r9c
  go_wp2_with fail
  refine bodyPost_ret (res_num_tmp rfl rfl rfl XQ.out) rfl ?_
  exact ⟨_, rfl, Rtl.mk2 HT9.out HU9.out HD9.out, B.out⟩

set_option maxHeartbeats 1000000 in
theorem qboth1 {a b : ByteArray} {k : Int} (h : BadQ a k) (ha : a.size ≤ maxLen) (hb0 : b.size ≤ maxLen) (w : World) :
    Calls Try.prog 19 #[.string a, .string b] w fun e w' => e = .returned (.tuple #[.agg #[.bool false, .slice none 0 0, .bool false, .slice none 0 0], .agg #[.bool false, .slice none 0 0, .bool false, .slice none 0 0], errno k]) ∧ Below w.heap.size w w' := by
  have H1 := hid h
  have B := hid (Below.refl w.heap.size w)
  have hb1 := (Below.refl _ _).alloc (Nat.le_refl w.heap.size) (.cells #[.bool false, .slice none 0 0, .bool false, .slice none 0 0] 40)
  have hx2 := Nbx.new w false false (.slice none 0 0) (.slice none 0 0)
  replace B := bb B hb1
  have R1 := hid hx2
  have hs3 : (w.alloc (.cells #[.bool false, .slice none 0 0, .bool false, .slice none 0 0] 40)).heap.size = w.heap.size + 1 := by simp
  clear hb1 hx2
  have hb4 := (Below.refl _ _).alloc (Nat.le_refl (w.alloc (.cells #[.bool false, .slice none 0 0, .bool false, .slice none 0 0] 40)).heap.size) (.cells #[.bool false, .slice none 0 0, .bool false, .slice none 0 0] 40)
  have hx5 := Nbx.new (w.alloc (.cells #[.bool false, .slice none 0 0, .bool false, .slice none 0 0] 40)) false false (.slice none 0 0) (.slice none 0 0)
  rw [hs3] at hx5
  replace R1 := nx R1 hb4
  replace B := bb B hb4
  have R2 := hid hx5
  have hs6 : ((w.alloc (.cells #[.bool false, .slice none 0 0, .bool false, .slice none 0 0] 40)).alloc (.cells #[.bool false, .slice none 0 0, .bool false, .slice none 0 0] 40)).heap.size = w.heap.size + 1 + 1 := by simp [hs3]
  clear hb4 hx5
  clear hs6 h
  go_enter Try.func19, Try.ntmps19
  obtain ⟨cc7a, cc7b, cc7c, cc7d⟩ := R1.out.cells
  obtain ⟨cc8a, cc8b, cc8c, cc8d⟩ := R2.out.cells
  go_wp2_with fail
  generalize hW : (w.alloc (.cells #[.bool false, .slice none 0 0, .bool false, .slice none 0 0] 40)).alloc (.cells #[.bool false, .slice none 0 0, .bool false, .slice none 0 0] 40) = W9 at *
  clear hW
  refine (qread_bad H1.out _ ha).mono ?_
  rintro e w10 ⟨rfl, hb⟩
  replace R1 := nx R1 hb
  replace R2 := nx R2 hb
  replace B := bb B hb
  clear cc7a cc7b cc7c cc7d cc8a cc8b cc8c cc8d
  clear hb 
  obtain ⟨cc11a, cc11b, cc11c, cc11d⟩ := R1.out.cells
  obtain ⟨cc12a, cc12b, cc12c, cc12d⟩ := R2.out.cells
  obtain ⟨⟨cc13a, cc13b⟩, ⟨cc13c, cc13d⟩, ⟨cc13e, cc13f⟩, cc13g, cc13h⟩ := R1.out.stores
  obtain ⟨r14a, r14b, r14c⟩ := R1.out.last B.out (by omega) false false none none 0 0 0 0
  replace R2 := hid ((((R2.out.other (g2 := w.heap.size) (by omega) 0 (.bool false)).other (g2 := w.heap.size) (by omega) 1 (.slice none 0 0)).other (g2 := w.heap.size) (by omega) 2 (.bool false)).other (g2 := w.heap.size) (by omega) 3 (.slice none 0 0))
  replace R1 := hid r14a
  replace B := hid r14b
  clear r14a r14b r14c
  obtain ⟨cc15a, cc15b, cc15c, cc15d⟩ := R1.out.cells
  obtain ⟨cc16a, cc16b, cc16c, cc16d⟩ := R2.out.cells
  obtain ⟨⟨cc17a, cc17b⟩, ⟨cc17c, cc17d⟩, ⟨cc17e, cc17f⟩, cc17g, cc17h⟩ := R1.out.stores
  obtain ⟨r18a, r18b, r18c⟩ := R1.out.last B.out (by omega) false false none none 0 0 0 0
  replace R2 := hid ((((R2.out.other (g2 := w.heap.size) (by omega) 0 (.bool false)).other (g2 := w.heap.size) (by omega) 1 (.slice none 0 0)).other (g2 := w.heap.size) (by omega) 2 (.bool false)).other (g2 := w.heap.size) (by omega) 3 (.slice none 0 0))
  replace R1 := hid r18a
  replace B := hid r18b
  clear r18a r18b r18c
  obtain ⟨cc19a, cc19b, cc19c, cc19d⟩ := R1.out.cells
  obtain ⟨cc20a, cc20b, cc20c, cc20d⟩ := R2.out.cells
  obtain ⟨⟨cc21a, cc21b⟩, ⟨cc21c, cc21d⟩, ⟨cc21e, cc21f⟩, cc21g, cc21h⟩ := R2.out.stores
  obtain ⟨r22a, r22b, r22c⟩ := R2.out.last B.out (by omega) false false none none 0 0 0 0
  replace R1 := hid ((((R1.out.other (g2 := w.heap.size + 1) (by omega) 0 (.bool false)).other (g2 := w.heap.size + 1) (by omega) 1 (.slice none 0 0)).other (g2 := w.heap.size + 1) (by omega) 2 (.bool false)).other (g2 := w.heap.size + 1) (by omega) 3 (.slice none 0 0))
  replace R2 := hid r22a
  replace B := hid r22b
  clear r22a r22b r22c
  obtain ⟨cc23a, cc23b, cc23c, cc23d⟩ := R1.out.cells
  obtain ⟨cc24a, cc24b, cc24c, cc24d⟩ := R2.out.cells
  go_wp2_with fail
  refine bodyPost_ret (res_nn_tmp rfl rfl rfl rfl R1.out R2.out) rfl ?_
  exact ⟨rfl, B.out⟩

set_option maxHeartbeats 1000000 in
theorem qboth2 {a b : ByteArray} {k : Int} (h1 : GoodQ a) (h2 : BadQ b k) (ha : a.size ≤ maxLen) (hb0 : b.size ≤ maxLen) (w : World) :
    Calls Try.prog 19 #[.string a, .string b] w fun e w' => e = .returned (.tuple #[.agg #[.bool false, .slice none 0 0, .bool false, .slice none 0 0], .agg #[.bool false, .slice none 0 0, .bool false, .slice none 0 0], errno k]) ∧ Below w.heap.size w w' := by
  have H1 := hid h1
  have H2 := hid h2
  have B := hid (Below.refl w.heap.size w)
  have hb1 := (Below.refl _ _).alloc (Nat.le_refl w.heap.size) (.cells #[.bool false, .slice none 0 0, .bool false, .slice none 0 0] 40)
  have hx2 := Nbx.new w false false (.slice none 0 0) (.slice none 0 0)
  replace B := bb B hb1
  have R1 := hid hx2
  have hs3 : (w.alloc (.cells #[.bool false, .slice none 0 0, .bool false, .slice none 0 0] 40)).heap.size = w.heap.size + 1 := by simp
  clear hb1 hx2
  have hb4 := (Below.refl _ _).alloc (Nat.le_refl (w.alloc (.cells #[.bool false, .slice none 0 0, .bool false, .slice none 0 0] 40)).heap.size) (.cells #[.bool false, .slice none 0 0, .bool false, .slice none 0 0] 40)
  have hx5 := Nbx.new (w.alloc (.cells #[.bool false, .slice none 0 0, .bool false, .slice none 0 0] 40)) false false (.slice none 0 0) (.slice none 0 0)
  rw [hs3] at hx5
  replace R1 := nx R1 hb4
  replace B := bb B hb4
  have R2 := hid hx5
  have hs6 : ((w.alloc (.cells #[.bool false, .slice none 0 0, .bool false, .slice none 0 0] 40)).alloc (.cells #[.bool false, .slice none 0 0, .bool false, .slice none 0 0] 40)).heap.size = w.heap.size + 1 + 1 := by simp [hs3]
  clear hb4 hx5
  clear hs6 h1 h2
  go_enter Try.func19, Try.ntmps19
  obtain ⟨cc7a, cc7b, cc7c, cc7d⟩ := R1.out.cells
  obtain ⟨cc8a, cc8b, cc8c, cc8d⟩ := R2.out.cells
  go_wp2_with fail
  generalize hW : (w.alloc (.cells #[.bool false, .slice none 0 0, .bool false, .slice none 0 0] 40)).alloc (.cells #[.bool false, .slice none 0 0, .bool false, .slice none 0 0] 40) = W9 at *
  clear hW
  refine (qread_good H1.out _).mono ?_
  rintro e w10 ⟨v, rfl, hv, hb⟩
  obtain ⟨s5a, p5a, n5a, c5a, s5b, p5b, n5b, c5b, rfl⟩ := hv.opened
  obtain ⟨ht5, d5, hu5, hd5⟩ := hv.two
  have HD5 := hid hd5
  replace R1 := nx R1 hb
  replace R2 := nx R2 hb
  replace B := bb B hb
  clear cc7a cc7b cc7c cc7d cc8a cc8b cc8c cc8d
  have HT5 := hid ht5
  have HU5 := hid hu5
  clear hb hv ht5 hu5 hd5
  obtain ⟨cc11a, cc11b, cc11c, cc11d⟩ := R1.out.cells
  obtain ⟨cc12a, cc12b, cc12c, cc12d⟩ := R2.out.cells
  obtain ⟨⟨cc13a, cc13b⟩, ⟨cc13c, cc13d⟩, ⟨cc13e, cc13f⟩, cc13g, cc13h⟩ := R1.out.stores
  obtain ⟨r14a, r14b, r14c⟩ := R1.out.last B.out (by omega) s5a s5b p5a p5b n5a n5b c5a c5b
  replace R2 := hid ((((R2.out.other (g2 := w.heap.size) (by omega) 0 (.bool s5a)).other (g2 := w.heap.size) (by omega) 1 (.slice p5a n5a c5a)).other (g2 := w.heap.size) (by omega) 2 (.bool s5b)).other (g2 := w.heap.size) (by omega) 3 (.slice p5b n5b c5b))
  replace HT5 := hid (r14c HT5.out)
  replace HU5 := hid (r14c HU5.out)
  replace R1 := hid r14a
  replace B := hid r14b
  clear r14a r14b r14c
  obtain ⟨cc15a, cc15b, cc15c, cc15d⟩ := R1.out.cells
  obtain ⟨cc16a, cc16b, cc16c, cc16d⟩ := R2.out.cells
  go_wp2_with fail
  generalize hW : (((w10.setCell ⟨w.heap.size, 0, none⟩ (.bool s5a)).setCell ⟨w.heap.size, 1, none⟩ (.slice p5a n5a c5a)).setCell ⟨w.heap.size, 2, none⟩ (.bool s5b)).setCell ⟨w.heap.size, 3, none⟩ (.slice p5b n5b c5b) = W17 at *
  clear hW
  refine (qread_bad H2.out _ hb0).mono ?_
  rintro e w18 ⟨rfl, hb⟩
  replace R1 := nx R1 hb
  replace R2 := nx R2 hb
  replace HT5 := wl HT5 hb
  replace HU5 := wl HU5 hb
  replace B := bb B hb
  clear cc11a cc11b cc11c cc11d cc12a cc12b cc12c cc12d cc13a cc13b cc13c cc13d cc13e cc13f cc13g cc13h cc15a cc15b cc15c cc15d cc16a cc16b cc16c cc16d
  clear hb 
  obtain ⟨cc19a, cc19b, cc19c, cc19d⟩ := R1.out.cells
  obtain ⟨cc20a, cc20b, cc20c, cc20d⟩ := R2.out.cells
  obtain ⟨⟨cc21a, cc21b⟩, ⟨cc21c, cc21d⟩, ⟨cc21e, cc21f⟩, cc21g, cc21h⟩ := R2.out.stores
  obtain ⟨r22a, r22b, r22c⟩ := R2.out.last B.out (by omega) false false none none 0 0 0 0
  replace R1 := hid ((((R1.out.other (g2 := w.heap.size + 1) (by omega) 0 (.bool false)).other (g2 := w.heap.size + 1) (by omega) 1 (.slice none 0 0)).other (g2 := w.heap.size + 1) (by omega) 2 (.bool false)).other (g2 := w.heap.size + 1) (by omega) 3 (.slice none 0 0))
  replace HT5 := hid (r22c HT5.out)
  replace HU5 := hid (r22c HU5.out)
  replace R2 := hid r22a
  replace B := hid r22b
  clear r22a r22b r22c
  obtain ⟨cc23a, cc23b, cc23c, cc23d⟩ := R1.out.cells
  obtain ⟨cc24a, cc24b, cc24c, cc24d⟩ := R2.out.cells
  obtain ⟨⟨cc25a, cc25b⟩, ⟨cc25c, cc25d⟩, ⟨cc25e, cc25f⟩, cc25g, cc25h⟩ := R1.out.stores
  obtain ⟨r26a, r26b, r26c⟩ := R1.out.last B.out (by omega) false false none none 0 0 0 0
  replace R2 := hid ((((R2.out.other (g2 := w.heap.size) (by omega) 0 (.bool false)).other (g2 := w.heap.size) (by omega) 1 (.slice none 0 0)).other (g2 := w.heap.size) (by omega) 2 (.bool false)).other (g2 := w.heap.size) (by omega) 3 (.slice none 0 0))
  replace HT5 := hid (r26c HT5.out)
  replace HU5 := hid (r26c HU5.out)
  replace R1 := hid r26a
  replace B := hid r26b
  clear r26a r26b r26c
  obtain ⟨cc27a, cc27b, cc27c, cc27d⟩ := R1.out.cells
  obtain ⟨cc28a, cc28b, cc28c, cc28d⟩ := R2.out.cells
  obtain ⟨⟨cc29a, cc29b⟩, ⟨cc29c, cc29d⟩, ⟨cc29e, cc29f⟩, cc29g, cc29h⟩ := R2.out.stores
  obtain ⟨r30a, r30b, r30c⟩ := R2.out.last B.out (by omega) false false none none 0 0 0 0
  replace R1 := hid ((((R1.out.other (g2 := w.heap.size + 1) (by omega) 0 (.bool false)).other (g2 := w.heap.size + 1) (by omega) 1 (.slice none 0 0)).other (g2 := w.heap.size + 1) (by omega) 2 (.bool false)).other (g2 := w.heap.size + 1) (by omega) 3 (.slice none 0 0))
  replace HT5 := hid (r30c HT5.out)
  replace HU5 := hid (r30c HU5.out)
  replace R2 := hid r30a
  replace B := hid r30b
  clear r30a r30b r30c
  obtain ⟨cc31a, cc31b, cc31c, cc31d⟩ := R1.out.cells
  obtain ⟨cc32a, cc32b, cc32c, cc32d⟩ := R2.out.cells
  go_wp2_with fail
  refine bodyPost_ret (res_nn_tmp rfl rfl rfl rfl R1.out R2.out) rfl ?_
  exact ⟨rfl, B.out⟩

set_option maxHeartbeats 1000000 in
theorem qboth3 {a b : ByteArray} {k : Int} (h1 : GoodQ a) (h2 : GoodQ b) (ha : a.size ≤ maxLen) (hb0 : b.size ≤ maxLen) (w : World) :
    Calls Try.prog 19 #[.string a, .string b] w fun e w' => ∃ v u, e = .returned (.tuple #[v, u, .nilIface]) ∧ Rtl w' v (qnum a) 100 ∧ Rtl w' u (qnum b) 100 ∧ Below w.heap.size w w' := by
  have H1 := hid h1
  have H2 := hid h2
  have B := hid (Below.refl w.heap.size w)
  have hb1 := (Below.refl _ _).alloc (Nat.le_refl w.heap.size) (.cells #[.bool false, .slice none 0 0, .bool false, .slice none 0 0] 40)
  have hx2 := Nbx.new w false false (.slice none 0 0) (.slice none 0 0)
  replace B := bb B hb1
  have R1 := hid hx2
  have hs3 : (w.alloc (.cells #[.bool false, .slice none 0 0, .bool false, .slice none 0 0] 40)).heap.size = w.heap.size + 1 := by simp
  clear hb1 hx2
  have hb4 := (Below.refl _ _).alloc (Nat.le_refl (w.alloc (.cells #[.bool false, .slice none 0 0, .bool false, .slice none 0 0] 40)).heap.size) (.cells #[.bool false, .slice none 0 0, .bool false, .slice none 0 0] 40)
  have hx5 := Nbx.new (w.alloc (.cells #[.bool false, .slice none 0 0, .bool false, .slice none 0 0] 40)) false false (.slice none 0 0) (.slice none 0 0)
  rw [hs3] at hx5
  replace R1 := nx R1 hb4
  replace B := bb B hb4
  have R2 := hid hx5
  have hs6 : ((w.alloc (.cells #[.bool false, .slice none 0 0, .bool false, .slice none 0 0] 40)).alloc (.cells #[.bool false, .slice none 0 0, .bool false, .slice none 0 0] 40)).heap.size = w.heap.size + 1 + 1 := by simp [hs3]
  clear hb4 hx5
  clear hs6 h1 h2
  go_enter Try.func19, Try.ntmps19
  obtain ⟨cc7a, cc7b, cc7c, cc7d⟩ := R1.out.cells
  obtain ⟨cc8a, cc8b, cc8c, cc8d⟩ := R2.out.cells
  go_wp2_with fail
  generalize hW : (w.alloc (.cells #[.bool false, .slice none 0 0, .bool false, .slice none 0 0] 40)).alloc (.cells #[.bool false, .slice none 0 0, .bool false, .slice none 0 0] 40) = W9 at *
  clear hW
  refine (qread_good H1.out _).mono ?_
  rintro e w10 ⟨v, rfl, hv, hb⟩
  obtain ⟨s5a, p5a, n5a, c5a, s5b, p5b, n5b, c5b, rfl⟩ := hv.opened
  obtain ⟨ht5, d5, hu5, hd5⟩ := hv.two
  have HD5 := hid hd5
  replace R1 := nx R1 hb
  replace R2 := nx R2 hb
  replace B := bb B hb
  clear cc7a cc7b cc7c cc7d cc8a cc8b cc8c cc8d
  have HT5 := hid ht5
  have HU5 := hid hu5
  clear hb hv ht5 hu5 hd5
  obtain ⟨cc11a, cc11b, cc11c, cc11d⟩ := R1.out.cells
  obtain ⟨cc12a, cc12b, cc12c, cc12d⟩ := R2.out.cells
  obtain ⟨⟨cc13a, cc13b⟩, ⟨cc13c, cc13d⟩, ⟨cc13e, cc13f⟩, cc13g, cc13h⟩ := R1.out.stores
  obtain ⟨r14a, r14b, r14c⟩ := R1.out.last B.out (by omega) s5a s5b p5a p5b n5a n5b c5a c5b
  replace R2 := hid ((((R2.out.other (g2 := w.heap.size) (by omega) 0 (.bool s5a)).other (g2 := w.heap.size) (by omega) 1 (.slice p5a n5a c5a)).other (g2 := w.heap.size) (by omega) 2 (.bool s5b)).other (g2 := w.heap.size) (by omega) 3 (.slice p5b n5b c5b))
  replace HT5 := hid (r14c HT5.out)
  replace HU5 := hid (r14c HU5.out)
  replace R1 := hid r14a
  replace B := hid r14b
  clear r14a r14b r14c
  obtain ⟨cc15a, cc15b, cc15c, cc15d⟩ := R1.out.cells
  obtain ⟨cc16a, cc16b, cc16c, cc16d⟩ := R2.out.cells
  go_wp2_with fail
  generalize hW : (((w10.setCell ⟨w.heap.size, 0, none⟩ (.bool s5a)).setCell ⟨w.heap.size, 1, none⟩ (.slice p5a n5a c5a)).setCell ⟨w.heap.size, 2, none⟩ (.bool s5b)).setCell ⟨w.heap.size, 3, none⟩ (.slice p5b n5b c5b) = W17 at *
  clear hW
  refine (qread_good H2.out _).mono ?_
  rintro e w18 ⟨v, rfl, hv, hb⟩
  obtain ⟨s6a, p6a, n6a, c6a, s6b, p6b, n6b, c6b, rfl⟩ := hv.opened
  obtain ⟨ht6, d6, hu6, hd6⟩ := hv.two
  have HD6 := hid hd6
  replace R1 := nx R1 hb
  replace R2 := nx R2 hb
  replace HT5 := wl HT5 hb
  replace HU5 := wl HU5 hb
  replace B := bb B hb
  clear cc11a cc11b cc11c cc11d cc12a cc12b cc12c cc12d cc13a cc13b cc13c cc13d cc13e cc13f cc13g cc13h cc15a cc15b cc15c cc15d cc16a cc16b cc16c cc16d
  have HT6 := hid ht6
  have HU6 := hid hu6
  clear hb hv ht6 hu6 hd6
  obtain ⟨cc19a, cc19b, cc19c, cc19d⟩ := R1.out.cells
  obtain ⟨cc20a, cc20b, cc20c, cc20d⟩ := R2.out.cells
  obtain ⟨⟨cc21a, cc21b⟩, ⟨cc21c, cc21d⟩, ⟨cc21e, cc21f⟩, cc21g, cc21h⟩ := R2.out.stores
  obtain ⟨r22a, r22b, r22c⟩ := R2.out.last B.out (by omega) s6a s6b p6a p6b n6a n6b c6a c6b
  replace R1 := hid ((((R1.out.other (g2 := w.heap.size + 1) (by omega) 0 (.bool s6a)).other (g2 := w.heap.size + 1) (by omega) 1 (.slice p6a n6a c6a)).other (g2 := w.heap.size + 1) (by omega) 2 (.bool s6b)).other (g2 := w.heap.size + 1) (by omega) 3 (.slice p6b n6b c6b))
  replace HT5 := hid (r22c HT5.out)
  replace HU5 := hid (r22c HU5.out)
  replace HT6 := hid (r22c HT6.out)
  replace HU6 := hid (r22c HU6.out)
  replace R2 := hid r22a
  replace B := hid r22b
  clear r22a r22b r22c
  obtain ⟨cc23a, cc23b, cc23c, cc23d⟩ := R1.out.cells
  obtain ⟨cc24a, cc24b, cc24c, cc24d⟩ := R2.out.cells
  go_wp2_with fail
  generalize hW : (((w18.setCell ⟨w.heap.size + 1, 0, none⟩ (.bool s6a)).setCell ⟨w.heap.size + 1, 1, none⟩ (.slice p6a n6a c6a)).setCell ⟨w.heap.size + 1, 2, none⟩ (.bool s6b)).setCell ⟨w.heap.size + 1, 3, none⟩ (.slice p6b n6b c6b) = W25 at *
  clear hW
  obtain ⟨cc26a, cc26b, cc26c, cc26d⟩ := R1.out.cells
  obtain ⟨cc27a, cc27b, cc27c, cc27d⟩ := R2.out.cells
  obtain ⟨⟨cc28a, cc28b⟩, ⟨cc28c, cc28d⟩, ⟨cc28e, cc28f⟩, cc28g, cc28h⟩ := R1.out.stores
  obtain ⟨r29a, r29b, r29c⟩ := R1.out.last B.out (by omega) s5a s5b p5a p5b n5a n5b c5a c5b
  replace R2 := hid ((((R2.out.other (g2 := w.heap.size) (by omega) 0 (.bool s5a)).other (g2 := w.heap.size) (by omega) 1 (.slice p5a n5a c5a)).other (g2 := w.heap.size) (by omega) 2 (.bool s5b)).other (g2 := w.heap.size) (by omega) 3 (.slice p5b n5b c5b))
  replace HT5 := hid (r29c HT5.out)
  replace HU5 := hid (r29c HU5.out)
  replace HT6 := hid (r29c HT6.out)
  replace HU6 := hid (r29c HU6.out)
  replace R1 := hid r29a
  replace B := hid r29b
  clear r29a r29b r29c
  obtain ⟨cc30a, cc30b, cc30c, cc30d⟩ := R1.out.cells
  obtain ⟨cc31a, cc31b, cc31c, cc31d⟩ := R2.out.cells
  obtain ⟨⟨cc32a, cc32b⟩, ⟨cc32c, cc32d⟩, ⟨cc32e, cc32f⟩, cc32g, cc32h⟩ := R2.out.stores
  obtain ⟨r33a, r33b, r33c⟩ := R2.out.last B.out (by omega) s6a s6b p6a p6b n6a n6b c6a c6b
  replace R1 := hid ((((R1.out.other (g2 := w.heap.size + 1) (by omega) 0 (.bool s6a)).other (g2 := w.heap.size + 1) (by omega) 1 (.slice p6a n6a c6a)).other (g2 := w.heap.size + 1) (by omega) 2 (.bool s6b)).other (g2 := w.heap.size + 1) (by omega) 3 (.slice p6b n6b c6b))
  replace HT5 := hid (r33c HT5.out)
  replace HU5 := hid (r33c HU5.out)
  replace HT6 := hid (r33c HT6.out)
  replace HU6 := hid (r33c HU6.out)
  replace R2 := hid r33a
  replace B := hid r33b
  clear r33a r33b r33c
  obtain ⟨cc34a, cc34b, cc34c, cc34d⟩ := R1.out.cells
  obtain ⟨cc35a, cc35b, cc35c, cc35d⟩ := R2.out.cells
  go_region_held3 (fun w' => w'.cell? ⟨w.heap.size, 0, none⟩ = some (.bool s5a) ∧ w'.cell? ⟨w.heap.size, 1, none⟩ = some (.slice p5a n5a c5a) ∧ w'.cell? ⟨w.heap.size, 2, none⟩ = some (.bool s5b) ∧ w'.cell? ⟨w.heap.size, 3, none⟩ = some (.slice p5b n5b c5b) ∧ w'.cell? ⟨w.heap.size + 1, 0, none⟩ = some (.bool s6a) ∧ w'.cell? ⟨w.heap.size + 1, 1, none⟩ = some (.slice p6a n6a c6a) ∧ w'.cell? ⟨w.heap.size + 1, 2, none⟩ = some (.bool s6b) ∧ w'.cell? ⟨w.heap.size + 1, 3, none⟩ = some (.slice p6b n6b c6b)) (go_keep) (first | fail)
  replace R1 := hid R1.out.dr
  replace R2 := hid R2.out.dr
  replace HT5 := hid HT5.out.drew
  replace HU5 := hid HU5.out.drew
  replace HT6 := hid HT6.out.drew
  replace HU6 := hid HU6.out.drew
  replace B := hid (Below.drew B.out)
  go_wp2_with fail
  refine bodyPost_ret (res_nn_tmp rfl rfl rfl rfl R1.out R2.out) rfl ?_
  exact ⟨_, _, rfl, Rtl.mk2 HT5.out HU5.out HD5.out, Rtl.mk2 HT6.out HU6.out HD6.out, B.out⟩

theorem qboth_bad {a b : ByteArray} {k : Int} (h : WrongQ a b k) (ha : a.size ≤ maxLen) (hb : b.size ≤ maxLen) (w : World) :
    Calls Try.prog 19 #[.string a, .string b] w fun e w' => e = .returned (.tuple #[.agg #[.bool false, .slice none 0 0, .bool false, .slice none 0 0], .agg #[.bool false, .slice none 0 0, .bool false, .slice none 0 0], errno k]) ∧ Below w.heap.size w w' := by
  rcases h with h | ⟨h1, h2⟩
  · exact qboth1 h ha hb w
  · exact qboth2 h1 h2 ha hb w
theorem qboth_good {a b : ByteArray} (h1 : GoodQ a) (h2 : GoodQ b) (w : World) :
    Calls Try.prog 19 #[.string a, .string b] w fun e w' => ∃ v u, e = .returned (.tuple #[v, u, .nilIface]) ∧ Rtl w' v (qnum a) 100 ∧ Rtl w' u (qnum b) 100 ∧ Below w.heap.size w w' :=
  qboth3 (k := 0) h1 h2 (by have := h1.1; unfold maxLen; omega) (by have := h2.1; unfold maxLen; omega) w

end Go.Proofs.Ytkdeopikojgboaa

/-
  PACKAGE rat: ITS FUNCTIONS OF TEXTS.
-/
namespace Go.Proofs.Ytkdeopikojgboaa
open Go.RowKit
open Num
set_option linter.unusedVariables false
set_option maxRecDepth 100000
set_option linter.unusedSimpArgs false

set_option maxHeartbeats 1000000 in
theorem qadd_bad {a b : ByteArray} {k : Int} (h : WrongQ a b k) (ha : a.size ≤ maxLen) (hb0 : b.size ≤ maxLen) (w : World) :
    Calls Try.prog 8 #[.string a, .string b] w fun e w' => e = .returned (.tuple #[.string ⟨#[]⟩, errno k]) ∧ Below w.heap.size w w' := by
  have HP := hid (qboth_bad h ha hb0 w)
  have B := hid (Below.refl w.heap.size w)
  clear  h
  go_enter Try.func8, Try.ntmps8
  go_wp2_with fail
  refine (HP.out).mono ?_
  rintro e w1 ⟨rfl, hb⟩
  replace B := bb B hb
  clear hb HP
  have hb2 := (Below.refl _ _).alloc (Nat.le_refl w1.heap.size) (.cells #[.bool false, .slice none 0 0, .bool false, .slice none 0 0] 40)
  have hx3 := Nbx.new w1 false false (.slice none 0 0) (.slice none 0 0)
  replace B := bb B hb2
  have X6 := hid hx3
  have hs4 : (w1.alloc (.cells #[.bool false, .slice none 0 0, .bool false, .slice none 0 0] 40)).heap.size = w1.heap.size + 1 := by simp
  clear hb2 hx3
  have hb5 := (Below.refl _ _).alloc (Nat.le_refl (w1.alloc (.cells #[.bool false, .slice none 0 0, .bool false, .slice none 0 0] 40)).heap.size) (.cells #[.bool false, .slice none 0 0, .bool false, .slice none 0 0] 40)
  have hx6 := Nbx.new (w1.alloc (.cells #[.bool false, .slice none 0 0, .bool false, .slice none 0 0] 40)) false false (.slice none 0 0) (.slice none 0 0)
  rw [hs4] at hx6
  replace X6 := nx X6 hb5
  replace B := bb B hb5
  have X7 := hid hx6
  have hs7 : ((w1.alloc (.cells #[.bool false, .slice none 0 0, .bool false, .slice none 0 0] 40)).alloc (.cells #[.bool false, .slice none 0 0, .bool false, .slice none 0 0] 40)).heap.size = w1.heap.size + 1 + 1 := by simp [hs4]
  clear hb5 hx6
  obtain ⟨cc8a, cc8b, cc8c, cc8d⟩ := X6.out.cells
  obtain ⟨cc9a, cc9b, cc9c, cc9d⟩ := X7.out.cells
  go_wp2_with fail
  go_ret2
  exact ⟨rfl, B.out⟩

set_option maxHeartbeats 1000000 in
theorem qmul_bad {a b : ByteArray} {k : Int} (h : WrongQ a b k) (ha : a.size ≤ maxLen) (hb0 : b.size ≤ maxLen) (w : World) :
    Calls Try.prog 9 #[.string a, .string b] w fun e w' => e = .returned (.tuple #[.string ⟨#[]⟩, errno k]) ∧ Below w.heap.size w w' := by
  have HP := hid (qboth_bad h ha hb0 w)
  have B := hid (Below.refl w.heap.size w)
  clear  h
  go_enter Try.func9, Try.ntmps9
  go_wp2_with fail
  refine (HP.out).mono ?_
  rintro e w1 ⟨rfl, hb⟩
  replace B := bb B hb
  clear hb HP
  have hb2 := (Below.refl _ _).alloc (Nat.le_refl w1.heap.size) (.cells #[.bool false, .slice none 0 0, .bool false, .slice none 0 0] 40)
  have hx3 := Nbx.new w1 false false (.slice none 0 0) (.slice none 0 0)
  replace B := bb B hb2
  have X6 := hid hx3
  have hs4 : (w1.alloc (.cells #[.bool false, .slice none 0 0, .bool false, .slice none 0 0] 40)).heap.size = w1.heap.size + 1 := by simp
  clear hb2 hx3
  have hb5 := (Below.refl _ _).alloc (Nat.le_refl (w1.alloc (.cells #[.bool false, .slice none 0 0, .bool false, .slice none 0 0] 40)).heap.size) (.cells #[.bool false, .slice none 0 0, .bool false, .slice none 0 0] 40)
  have hx6 := Nbx.new (w1.alloc (.cells #[.bool false, .slice none 0 0, .bool false, .slice none 0 0] 40)) false false (.slice none 0 0) (.slice none 0 0)
  rw [hs4] at hx6
  replace X6 := nx X6 hb5
  replace B := bb B hb5
  have X7 := hid hx6
  have hs7 : ((w1.alloc (.cells #[.bool false, .slice none 0 0, .bool false, .slice none 0 0] 40)).alloc (.cells #[.bool false, .slice none 0 0, .bool false, .slice none 0 0] 40)).heap.size = w1.heap.size + 1 + 1 := by simp [hs4]
  clear hb5 hx6
  obtain ⟨cc8a, cc8b, cc8c, cc8d⟩ := X6.out.cells
  obtain ⟨cc9a, cc9b, cc9c, cc9d⟩ := X7.out.cells
  go_wp2_with fail
  go_ret2
  exact ⟨rfl, B.out⟩

set_option maxHeartbeats 1000000 in
theorem qdiv_bad {a b : ByteArray} {k : Int} (h : WrongQ a b k) (ha : a.size ≤ maxLen) (hb0 : b.size ≤ maxLen) (w : World) :
    Calls Try.prog 14 #[.string a, .string b] w fun e w' => e = .returned (.tuple #[.string ⟨#[]⟩, errno k]) ∧ Below w.heap.size w w' := by
  have HP := hid (qboth_bad h ha hb0 w)
  have B := hid (Below.refl w.heap.size w)
  clear  h
  go_enter Try.func14, Try.ntmps14
  go_wp2_with fail
  refine (HP.out).mono ?_
  rintro e w1 ⟨rfl, hb⟩
  replace B := bb B hb
  clear hb HP
  have hb2 := (Below.refl _ _).alloc (Nat.le_refl w1.heap.size) (.cells #[.bool false, .slice none 0 0, .bool false, .slice none 0 0] 40)
  have hx3 := Nbx.new w1 false false (.slice none 0 0) (.slice none 0 0)
  replace B := bb B hb2
  have X6 := hid hx3
  have hs4 : (w1.alloc (.cells #[.bool false, .slice none 0 0, .bool false, .slice none 0 0] 40)).heap.size = w1.heap.size + 1 := by simp
  clear hb2 hx3
  have hb5 := (Below.refl _ _).alloc (Nat.le_refl (w1.alloc (.cells #[.bool false, .slice none 0 0, .bool false, .slice none 0 0] 40)).heap.size) (.cells #[.bool false, .slice none 0 0, .bool false, .slice none 0 0] 40)
  have hx6 := Nbx.new (w1.alloc (.cells #[.bool false, .slice none 0 0, .bool false, .slice none 0 0] 40)) false false (.slice none 0 0) (.slice none 0 0)
  rw [hs4] at hx6
  replace X6 := nx X6 hb5
  replace B := bb B hb5
  have X7 := hid hx6
  have hs7 : ((w1.alloc (.cells #[.bool false, .slice none 0 0, .bool false, .slice none 0 0] 40)).alloc (.cells #[.bool false, .slice none 0 0, .bool false, .slice none 0 0] 40)).heap.size = w1.heap.size + 1 + 1 := by simp [hs4]
  clear hb5 hx6
  obtain ⟨cc8a, cc8b, cc8c, cc8d⟩ := X6.out.cells
  obtain ⟨cc9a, cc9b, cc9c, cc9d⟩ := X7.out.cells
  go_wp2_with fail
  go_ret2
  exact ⟨rfl, B.out⟩

set_option maxHeartbeats 1000000 in
theorem qadd_good {a b : ByteArray} (h1 : GoodQ a) (h2 : GoodQ b) (w : World) :
    Calls Try.prog 8 #[.string a, .string b] w fun e w' => e = .returned (.tuple #[.string (qtxt (qnum a + qnum b)), .nilIface]) ∧ Below w.heap.size w w' := by
  have HP := hid (qboth_good h1 h2 w)
  have B := hid (Below.refl w.heap.size w)
  clear  h1 h2
  go_enter Try.func8, Try.ntmps8
  go_wp2_with fail
  refine (HP.out).mono ?_
  rintro e w1 ⟨v, u, rfl, hv, hu, hb⟩
  obtain ⟨s5a, p5a, n5a, c5a, s5b, p5b, n5b, c5b, rfl⟩ := hv.opened
  obtain ⟨ht5, d5, hu5, hd5⟩ := hv.two
  have HD5 := hid hd5
  obtain ⟨s6a, p6a, n6a, c6a, s6b, p6b, n6b, c6b, rfl⟩ := hu.opened
  obtain ⟨ht6, d6, hu6, hd6⟩ := hu.two
  have HD6 := hid hd6
  replace B := bb B hb
  have HT5 := hid ht5
  have HU5 := hid hu5
  have HT6 := hid ht6
  have HU6 := hid hu6
  clear hb hv hu ht5 hu5 hd5 ht6 hu6 hd6 HP
  have hb2 := (Below.refl _ _).alloc (Nat.le_refl w1.heap.size) (.cells #[.bool s5a, .slice p5a n5a c5a, .bool s5b, .slice p5b n5b c5b] 40)
  have hx3 := Nbx.new w1 s5a s5b (.slice p5a n5a c5a) (.slice p5b n5b c5b)
  replace HT5 := wl HT5 hb2
  replace HU5 := wl HU5 hb2
  replace HT6 := wl HT6 hb2
  replace HU6 := wl HU6 hb2
  replace B := bb B hb2
  have X6 := hid hx3
  have hs4 : (w1.alloc (.cells #[.bool s5a, .slice p5a n5a c5a, .bool s5b, .slice p5b n5b c5b] 40)).heap.size = w1.heap.size + 1 := by simp
  clear hb2 hx3
  have hb5 := (Below.refl _ _).alloc (Nat.le_refl (w1.alloc (.cells #[.bool s5a, .slice p5a n5a c5a, .bool s5b, .slice p5b n5b c5b] 40)).heap.size) (.cells #[.bool s6a, .slice p6a n6a c6a, .bool s6b, .slice p6b n6b c6b] 40)
  have hx6 := Nbx.new (w1.alloc (.cells #[.bool s5a, .slice p5a n5a c5a, .bool s5b, .slice p5b n5b c5b] 40)) s6a s6b (.slice p6a n6a c6a) (.slice p6b n6b c6b)
  rw [hs4] at hx6
  replace X6 := nx X6 hb5
  replace HT5 := wl HT5 hb5
  replace HU5 := wl HU5 hb5
  replace HT6 := wl HT6 hb5
  replace HU6 := wl HU6 hb5
  replace B := bb B hb5
  have X7 := hid hx6
  have hs7 : ((w1.alloc (.cells #[.bool s5a, .slice p5a n5a c5a, .bool s5b, .slice p5b n5b c5b] 40)).alloc (.cells #[.bool s6a, .slice p6a n6a c6a, .bool s6b, .slice p6b n6b c6b] 40)).heap.size = w1.heap.size + 1 + 1 := by simp [hs4]
  clear hb5 hx6
  obtain ⟨cc8a, cc8b, cc8c, cc8d⟩ := X6.out.cells
  obtain ⟨cc9a, cc9b, cc9c, cc9d⟩ := X7.out.cells
  go_wp2_with fail
  generalize hW : (w1.alloc (.cells #[.bool s5a, .slice p5a n5a c5a, .bool s5b, .slice p5b n5b c5b] 40)).alloc (.cells #[.bool s6a, .slice p6a n6a c6a, .bool s6b, .slice p6b n6b c6b] 40) = W10 at *
  clear hW
  refine (addq_rtl (Rtl.mk2 HT5.out HU5.out HD5.out) (Rtl.mk2 HT6.out HU6.out HD6.out) (by omega) (by omega)).mono ?_
  rintro e w11 ⟨v, rfl, hv, hb⟩
  obtain ⟨s9a, p9a, n9a, c9a, s9b, p9b, n9b, c9b, rfl⟩ := hv.opened
  obtain ⟨ht9, d9, hu9, hd9⟩ := hv.two
  have HD9 := hid hd9
  replace B := bb B hb
  clear cc8a cc8b cc8c cc8d cc9a cc9b cc9c cc9d
  have HT9 := hid ht9
  have HU9 := hid hu9
  clear hb hv ht9 hu9 hd9
  go_wp2_with fail
  refine (qstring (Rtl.mk2 HT9.out HU9.out HD9.out) (by omega)).mono ?_
  rintro e w12 ⟨rfl, hb⟩
  replace B := bb B hb
  clear hb 
  go_wp2_with fail
  go_ret2
  exact ⟨rfl, B.out⟩

set_option maxHeartbeats 1000000 in
theorem qmul_good {a b : ByteArray} (h1 : GoodQ a) (h2 : GoodQ b) (w : World) :
    Calls Try.prog 9 #[.string a, .string b] w fun e w' => e = .returned (.tuple #[.string (qtxt (qnum a * qnum b)), .nilIface]) ∧ Below w.heap.size w w' := by
  have HP := hid (qboth_good h1 h2 w)
  have B := hid (Below.refl w.heap.size w)
  clear  h1 h2
  go_enter Try.func9, Try.ntmps9
  go_wp2_with fail
  refine (HP.out).mono ?_
  rintro e w1 ⟨v, u, rfl, hv, hu, hb⟩
  obtain ⟨s5a, p5a, n5a, c5a, s5b, p5b, n5b, c5b, rfl⟩ := hv.opened
  obtain ⟨ht5, d5, hu5, hd5⟩ := hv.two
  have HD5 := hid hd5
  obtain ⟨s6a, p6a, n6a, c6a, s6b, p6b, n6b, c6b, rfl⟩ := hu.opened
  obtain ⟨ht6, d6, hu6, hd6⟩ := hu.two
  have HD6 := hid hd6
  replace B := bb B hb
  have HT5 := hid ht5
  have HU5 := hid hu5
  have HT6 := hid ht6
  have HU6 := hid hu6
  clear hb hv hu ht5 hu5 hd5 ht6 hu6 hd6 HP
  have hb2 := (Below.refl _ _).alloc (Nat.le_refl w1.heap.size) (.cells #[.bool s5a, .slice p5a n5a c5a, .bool s5b, .slice p5b n5b c5b] 40)
  have hx3 := Nbx.new w1 s5a s5b (.slice p5a n5a c5a) (.slice p5b n5b c5b)
  replace HT5 := wl HT5 hb2
  replace HU5 := wl HU5 hb2
  replace HT6 := wl HT6 hb2
  replace HU6 := wl HU6 hb2
  replace B := bb B hb2
  have X6 := hid hx3
  have hs4 : (w1.alloc (.cells #[.bool s5a, .slice p5a n5a c5a, .bool s5b, .slice p5b n5b c5b] 40)).heap.size = w1.heap.size + 1 := by simp
  clear hb2 hx3
  have hb5 := (Below.refl _ _).alloc (Nat.le_refl (w1.alloc (.cells #[.bool s5a, .slice p5a n5a c5a, .bool s5b, .slice p5b n5b c5b] 40)).heap.size) (.cells #[.bool s6a, .slice p6a n6a c6a, .bool s6b, .slice p6b n6b c6b] 40)
  have hx6 := Nbx.new (w1.alloc (.cells #[.bool s5a, .slice p5a n5a c5a, .bool s5b, .slice p5b n5b c5b] 40)) s6a s6b (.slice p6a n6a c6a) (.slice p6b n6b c6b)
  rw [hs4] at hx6
  replace X6 := nx X6 hb5
  replace HT5 := wl HT5 hb5
  replace HU5 := wl HU5 hb5
  replace HT6 := wl HT6 hb5
  replace HU6 := wl HU6 hb5
  replace B := bb B hb5
  have X7 := hid hx6
  have hs7 : ((w1.alloc (.cells #[.bool s5a, .slice p5a n5a c5a, .bool s5b, .slice p5b n5b c5b] 40)).alloc (.cells #[.bool s6a, .slice p6a n6a c6a, .bool s6b, .slice p6b n6b c6b] 40)).heap.size = w1.heap.size + 1 + 1 := by simp [hs4]
  clear hb5 hx6
  obtain ⟨cc8a, cc8b, cc8c, cc8d⟩ := X6.out.cells
  obtain ⟨cc9a, cc9b, cc9c, cc9d⟩ := X7.out.cells
  go_wp2_with fail
  generalize hW : (w1.alloc (.cells #[.bool s5a, .slice p5a n5a c5a, .bool s5b, .slice p5b n5b c5b] 40)).alloc (.cells #[.bool s6a, .slice p6a n6a c6a, .bool s6b, .slice p6b n6b c6b] 40) = W10 at *
  clear hW
  refine (mulq_rtl (Rtl.mk2 HT5.out HU5.out HD5.out) (Rtl.mk2 HT6.out HU6.out HD6.out) (by omega) (by omega)).mono ?_
  rintro e w11 ⟨v, rfl, hv, hb⟩
  obtain ⟨s9a, p9a, n9a, c9a, s9b, p9b, n9b, c9b, rfl⟩ := hv.opened
  obtain ⟨ht9, d9, hu9, hd9⟩ := hv.two
  have HD9 := hid hd9
  replace B := bb B hb
  clear cc8a cc8b cc8c cc8d cc9a cc9b cc9c cc9d
  have HT9 := hid ht9
  have HU9 := hid hu9
  clear hb hv ht9 hu9 hd9
  go_wp2_with fail
  refine (qstring (Rtl.mk2 HT9.out HU9.out HD9.out) (by omega)).mono ?_
  rintro e w12 ⟨rfl, hb⟩
  replace B := bb B hb
  clear hb 
  go_wp2_with fail
  go_ret2
  exact ⟨rfl, B.out⟩

set_option maxHeartbeats 1000000 in
theorem qdiv_zero {a b : ByteArray} (h1 : GoodQ a) (h2 : GoodQ b) (h0 : qnum b = 0) (w : World) :
    Calls Try.prog 14 #[.string a, .string b] w fun e w' => e = .returned (.tuple #[.string ⟨#[]⟩, errno 5]) ∧ Below w.heap.size w w' := by
  have HP := hid (qboth_good h1 h2 w)
  have H0 := hid h0
  have B := hid (Below.refl w.heap.size w)
  clear  h1 h2 h0
  go_enter Try.func14, Try.ntmps14
  go_wp2_with fail
  refine (HP.out).mono ?_
  rintro e w1 ⟨v, u, rfl, hv, hu, hb⟩
  obtain ⟨s5a, p5a, n5a, c5a, s5b, p5b, n5b, c5b, rfl⟩ := hv.opened
  obtain ⟨ht5, d5, hu5, hd5⟩ := hv.two
  have HD5 := hid hd5
  obtain ⟨s6a, p6a, n6a, c6a, s6b, p6b, n6b, c6b, rfl⟩ := hu.opened
  obtain ⟨ht6, d6, hu6, hd6⟩ := hu.two
  have HD6 := hid hd6
  replace B := bb B hb
  have HT5 := hid ht5
  have HU5 := hid hu5
  have HT6 := hid ht6
  have HU6 := hid hu6
  clear hb hv hu ht5 hu5 hd5 ht6 hu6 hd6 HP
  have hb2 := (Below.refl _ _).alloc (Nat.le_refl w1.heap.size) (.cells #[.bool s5a, .slice p5a n5a c5a, .bool s5b, .slice p5b n5b c5b] 40)
  have hx3 := Nbx.new w1 s5a s5b (.slice p5a n5a c5a) (.slice p5b n5b c5b)
  replace HT5 := wl HT5 hb2
  replace HU5 := wl HU5 hb2
  replace HT6 := wl HT6 hb2
  replace HU6 := wl HU6 hb2
  replace B := bb B hb2
  have X6 := hid hx3
  have hs4 : (w1.alloc (.cells #[.bool s5a, .slice p5a n5a c5a, .bool s5b, .slice p5b n5b c5b] 40)).heap.size = w1.heap.size + 1 := by simp
  clear hb2 hx3
  have hb5 := (Below.refl _ _).alloc (Nat.le_refl (w1.alloc (.cells #[.bool s5a, .slice p5a n5a c5a, .bool s5b, .slice p5b n5b c5b] 40)).heap.size) (.cells #[.bool s6a, .slice p6a n6a c6a, .bool s6b, .slice p6b n6b c6b] 40)
  have hx6 := Nbx.new (w1.alloc (.cells #[.bool s5a, .slice p5a n5a c5a, .bool s5b, .slice p5b n5b c5b] 40)) s6a s6b (.slice p6a n6a c6a) (.slice p6b n6b c6b)
  rw [hs4] at hx6
  replace X6 := nx X6 hb5
  replace HT5 := wl HT5 hb5
  replace HU5 := wl HU5 hb5
  replace HT6 := wl HT6 hb5
  replace HU6 := wl HU6 hb5
  replace B := bb B hb5
  have X7 := hid hx6
  have hs7 : ((w1.alloc (.cells #[.bool s5a, .slice p5a n5a c5a, .bool s5b, .slice p5b n5b c5b] 40)).alloc (.cells #[.bool s6a, .slice p6a n6a c6a, .bool s6b, .slice p6b n6b c6b] 40)).heap.size = w1.heap.size + 1 + 1 := by simp [hs4]
  clear hb5 hx6
  obtain ⟨cc8a, cc8b, cc8c, cc8d⟩ := X6.out.cells
  obtain ⟨cc9a, cc9b, cc9c, cc9d⟩ := X7.out.cells
  go_wp2_with fail
  generalize hW : (w1.alloc (.cells #[.bool s5a, .slice p5a n5a c5a, .bool s5b, .slice p5b n5b c5b] 40)).alloc (.cells #[.bool s6a, .slice p6a n6a c6a, .bool s6b, .slice p6b n6b c6b] 40) = W10 at *
  clear hW
  refine (divq_zero (Rtl.mk2 HT5.out HU5.out HD5.out) (Rtl.mk2 HT6.out HU6.out HD6.out) H0.out (by omega) (by omega)).mono ?_
  rintro e w11 ⟨rfl, hb⟩
  replace B := bb B hb
  clear cc8a cc8b cc8c cc8d cc9a cc9b cc9c cc9d
  clear hb 
  have hb12 := (Below.refl _ _).alloc (Nat.le_refl w11.heap.size) (.cells #[.bool false, .slice none 0 0, .bool false, .slice none 0 0] 40)
  have hx13 := Nbx.new w11 false false (.slice none 0 0) (.slice none 0 0)
  replace B := bb B hb12
  have X9 := hid hx13
  have hs14 : (w11.alloc (.cells #[.bool false, .slice none 0 0, .bool false, .slice none 0 0] 40)).heap.size = w11.heap.size + 1 := by simp
  clear hb12 hx13
  obtain ⟨cc15a, cc15b, cc15c, cc15d⟩ := X9.out.cells
  go_wp2_with fail
  go_ret2
  exact ⟨rfl, B.out⟩

set_option maxHeartbeats 1000000 in
theorem qdiv_good {a b : ByteArray} (h1 : GoodQ a) (h2 : GoodQ b) (h0 : qnum b ≠ 0) (w : World) :
    Calls Try.prog 14 #[.string a, .string b] w fun e w' => e = .returned (.tuple #[.string (qtxt (qnum a / qnum b)), .nilIface]) ∧ Below w.heap.size w w' := by
  have HP := hid (qboth_good h1 h2 w)
  have H0 := hid h0
  have B := hid (Below.refl w.heap.size w)
  clear  h1 h2 h0
  go_enter Try.func14, Try.ntmps14
  go_wp2_with fail
  refine (HP.out).mono ?_
  rintro e w1 ⟨v, u, rfl, hv, hu, hb⟩
  obtain ⟨s5a, p5a, n5a, c5a, s5b, p5b, n5b, c5b, rfl⟩ := hv.opened
  obtain ⟨ht5, d5, hu5, hd5⟩ := hv.two
  have HD5 := hid hd5
  obtain ⟨s6a, p6a, n6a, c6a, s6b, p6b, n6b, c6b, rfl⟩ := hu.opened
  obtain ⟨ht6, d6, hu6, hd6⟩ := hu.two
  have HD6 := hid hd6
  replace B := bb B hb
  have HT5 := hid ht5
  have HU5 := hid hu5
  have HT6 := hid ht6
  have HU6 := hid hu6
  clear hb hv hu ht5 hu5 hd5 ht6 hu6 hd6 HP
  have hb2 := (Below.refl _ _).alloc (Nat.le_refl w1.heap.size) (.cells #[.bool s5a, .slice p5a n5a c5a, .bool s5b, .slice p5b n5b c5b] 40)
  have hx3 := Nbx.new w1 s5a s5b (.slice p5a n5a c5a) (.slice p5b n5b c5b)
  replace HT5 := wl HT5 hb2
  replace HU5 := wl HU5 hb2
  replace HT6 := wl HT6 hb2
  replace HU6 := wl HU6 hb2
  replace B := bb B hb2
  have X6 := hid hx3
  have hs4 : (w1.alloc (.cells #[.bool s5a, .slice p5a n5a c5a, .bool s5b, .slice p5b n5b c5b] 40)).heap.size = w1.heap.size + 1 := by simp
  clear hb2 hx3
  have hb5 := (Below.refl _ _).alloc (Nat.le_refl (w1.alloc (.cells #[.bool s5a, .slice p5a n5a c5a, .bool s5b, .slice p5b n5b c5b] 40)).heap.size) (.cells #[.bool s6a, .slice p6a n6a c6a, .bool s6b, .slice p6b n6b c6b] 40)
  have hx6 := Nbx.new (w1.alloc (.cells #[.bool s5a, .slice p5a n5a c5a, .bool s5b, .slice p5b n5b c5b] 40)) s6a s6b (.slice p6a n6a c6a) (.slice p6b n6b c6b)
  rw [hs4] at hx6
  replace X6 := nx X6 hb5
  replace HT5 := wl HT5 hb5
  replace HU5 := wl HU5 hb5
  replace HT6 := wl HT6 hb5
  replace HU6 := wl HU6 hb5
  replace B := bb B hb5
  have X7 := hid hx6
  have hs7 : ((w1.alloc (.cells #[.bool s5a, .slice p5a n5a c5a, .bool s5b, .slice p5b n5b c5b] 40)).alloc (.cells #[.bool s6a, .slice p6a n6a c6a, .bool s6b, .slice p6b n6b c6b] 40)).heap.size = w1.heap.size + 1 + 1 := by simp [hs4]
  clear hb5 hx6
  obtain ⟨cc8a, cc8b, cc8c, cc8d⟩ := X6.out.cells
  obtain ⟨cc9a, cc9b, cc9c, cc9d⟩ := X7.out.cells
  go_wp2_with fail
  generalize hW : (w1.alloc (.cells #[.bool s5a, .slice p5a n5a c5a, .bool s5b, .slice p5b n5b c5b] 40)).alloc (.cells #[.bool s6a, .slice p6a n6a c6a, .bool s6b, .slice p6b n6b c6b] 40) = W10 at *
  clear hW
  refine (divq_some (Rtl.mk2 HT5.out HU5.out HD5.out) (Rtl.mk2 HT6.out HU6.out HD6.out) H0.out (by omega) (by omega)).mono ?_
  rintro e w11 ⟨v, rfl, hv, hb⟩
  obtain ⟨s9a, p9a, n9a, c9a, s9b, p9b, n9b, c9b, rfl⟩ := hv.opened
  obtain ⟨ht9, d9, hu9, hd9⟩ := hv.two
  have HD9 := hid hd9
  replace B := bb B hb
  clear cc8a cc8b cc8c cc8d cc9a cc9b cc9c cc9d
  have HT9 := hid ht9
  have HU9 := hid hu9
  clear hb hv ht9 hu9 hd9
  have hb12 := (Below.refl _ _).alloc (Nat.le_refl w11.heap.size) (.cells #[.bool s9a, .slice p9a n9a c9a, .bool s9b, .slice p9b n9b c9b] 40)
  have hx13 := Nbx.new w11 s9a s9b (.slice p9a n9a c9a) (.slice p9b n9b c9b)
  replace HT9 := wl HT9 hb12
  replace HU9 := wl HU9 hb12
  replace B := bb B hb12
  have X9 := hid hx13
  have hs14 : (w11.alloc (.cells #[.bool s9a, .slice p9a n9a c9a, .bool s9b, .slice p9b n9b c9b] 40)).heap.size = w11.heap.size + 1 := by simp
  clear hb12 hx13
  obtain ⟨cc15a, cc15b, cc15c, cc15d⟩ := X9.out.cells
  go_wp2_with fail
  generalize hW : w11.alloc (.cells #[.bool s9a, .slice p9a n9a c9a, .bool s9b, .slice p9b n9b c9b] 40) = W16 at *
  clear hW
  refine (qstring (Rtl.mk2 HT9.out HU9.out HD9.out) (by omega)).mono ?_
  rintro e w17 ⟨rfl, hb⟩
  replace B := bb B hb
  clear cc15a cc15b cc15c cc15d
  clear hb 
  go_wp2_with fail
  go_ret2
  exact ⟨rfl, B.out⟩

end Go.Proofs.Ytkdeopikojgboaa

/-
  PACKAGE rat: TEXTS OF FRACTIONS; EACH FUNCTION AT WHATEVER TEXTS.
-/
namespace Go.Proofs.Ytkdeopikojgboaa
open Go.RowKit
open Num
set_option linter.unusedVariables false
set_option maxRecDepth 100000
set_option linter.unusedSimpArgs false

theorem ba_ext {a b : ByteArray} (h : a.data.toList = b.data.toList) : a = b := by
  obtain ⟨⟨l⟩⟩ := a
  obtain ⟨⟨m⟩⟩ := b
  simp only at h
  rw [h]
theorem app_list (a b : ByteArray) : (a ++ b).data.toList = a.data.toList ++ b.data.toList := by
  rw [ByteArray.data_append, Array.toList_append]
theorem no_slash {l : List UInt8} (h : ∀ c ∈ l, c ≠ 47) : hasSl l = false ∧ cutB l = l := by
  induction l with
  | nil => exact ⟨rfl, rfl⟩
  | cons b l ih =>
    have h1 : (b != 47) = true := by simpa using h b (List.mem_cons_self ..)
    obtain ⟨i1, i2⟩ := ih fun c hc => h c (List.mem_cons_of_mem _ hc)
    exact ⟨by rw [← i1]; simp [hasSl, List.dropWhile_cons, h1], by rw [cutB, List.takeWhile_cons, if_pos h1]; exact congrArg _ i2⟩
theorem at_slash {l m : List UInt8} (h : ∀ c ∈ l, c ≠ 47) : hasSl (l ++ 47 :: m) = true ∧ cutB (l ++ 47 :: m) = l ∧ cutA (l ++ 47 :: m) = m := by
  have h' : ∀ c ∈ l, (c != 47) = true := fun c hc => by simpa using h c hc
  refine ⟨?_, ?_, ?_⟩
  · rw [hasSl, List.dropWhile_append_of_pos h']; simp
  · rw [cutB, List.takeWhile_append_of_pos h']; simp
  · rw [cutA, List.dropWhile_append_of_pos h']; simp
theorem slash_split {l : List UInt8} (h : hasSl l = true) : l = cutB l ++ 47 :: cutA l := by
  induction l with
  | nil => exact absurd h (by decide)
  | cons b l ih =>
    by_cases hb : b = 47
    · subst hb
      simp [cutB, cutA]
    · have h1 : (b != 47) = true := by simpa using hb
      have e1 : hasSl (b :: l) = hasSl l := by simp [hasSl, List.dropWhile_cons, h1]
      have e2 : cutB (b :: l) = b :: cutB l := by simp [cutB, List.takeWhile_cons, h1]
      have e3 : cutA (b :: l) = cutA l := by simp [cutA, List.dropWhile_cons, h1]
      rw [e1] at h
      rw [e2, e3, List.cons_append, ← ih h]
theorem dig_ne {c : UInt8} (h : isDig c = true) : c ≠ 47 := by
  intro e; subst e; exact absurd h (by decide)
theorem ztxt_ne (z : Int) : ∀ c ∈ (ztxt z).data.toList, c ≠ 47 := by
  have hd : ∀ n, ∀ c ∈ dtext n, c ≠ 47 := fun n c hc => dig_ne (List.all_eq_true.1 (dtext_all n) c hc)
  rw [ztxt_list]
  split
  · intro c hc
    rcases List.mem_cons.1 hc with rfl | hc
    · decide
    · exact hd _ c hc
  · exact hd _
theorem whlOf_ztxt (z : Int) : whlOf (ztxt z).data.toList = z := znum_ztxt z
theorem ztxt_whlOf {l : List UInt8} (h : isWhl l = true) : (ztxt (whlOf l)).data.toList = l := by
  have := ztxt_znum (s := ⟨l.toArray⟩) (by simpa using h)
  have e : znum ⟨l.toArray⟩ = whlOf l := by simp [znum]
  rw [e] at this
  rw [this]
theorem qtxt_one {q : Rat} (h : q.den = 1) : qtxt q = ztxt q.num := by rw [qtxt, if_pos h]
theorem qtxt_two {q : Rat} (h : q.den ≠ 1) : (qtxt q).data.toList = (ztxt q.num).data.toList ++ 47 :: (ztxt q.den).data.toList := by
  rw [qtxt, if_neg h, app_list, app_list]
  simp
theorem rat_of_one {q : Rat} (h : q.den = 1) : (q.num : Rat) = q := by
  apply Rat.ext
  · rw [Rat.num_intCast]
  · rw [Rat.den_intCast, h]
theorem isRat_qtxt (q : Rat) : isRat (qtxt q).data.toList = true := by
  by_cases h : q.den = 1
  · rw [qtxt_one h, isRat, if_neg (by rw [(no_slash (ztxt_ne _)).1]; decide)]
    exact isWhl_ztxt _
  · have hd := q.den_pos
    obtain ⟨e1, e2, e3⟩ := at_slash (m := (ztxt (q.den : Int)).data.toList) (ztxt_ne q.num)
    rw [qtxt_two h, isRat, if_pos e1, e2, e3, isWhl_ztxt, isWhl_ztxt, whlOf_ztxt, whlOf_ztxt]
    have hr : Int.gcd q.num q.den = 1 := q.reduced
    rw [decide_eq_true (by omega), decide_eq_true hr]
    rfl
theorem qnum_qtxt (q : Rat) : qnum (qtxt q) = q := by
  unfold qnum
  by_cases h : q.den = 1
  · rw [qtxt_one h, ratOf, if_neg (by rw [(no_slash (ztxt_ne _)).1]; decide), whlOf_ztxt]
    exact rat_of_one h
  · obtain ⟨e1, e2, e3⟩ := at_slash (m := (ztxt (q.den : Int)).data.toList) (ztxt_ne q.num)
    rw [qtxt_two h, ratOf, if_pos e1, e2, e3, whlOf_ztxt, whlOf_ztxt, Rat.num_divInt_den]
theorem qtxt_inj {p q : Rat} (h : qtxt p = qtxt q) : p = q := by
  have := congrArg qnum h
  rwa [qnum_qtxt, qnum_qtxt] at this
theorem qtxt_qnum {s : ByteArray} (h : isRat s.data.toList = true) : qtxt (qnum s) = s := by
  apply ba_ext
  unfold qnum
  cases hs : hasSl s.data.toList
  · rw [isRat, hs] at h
    rw [ratOf, hs, if_neg (by decide), qtxt_one (Rat.den_intCast _), Rat.num_intCast]
    exact ztxt_whlOf (by simpa using h)
  · rw [isRat, hs] at h
    simp only [if_true, Bool.and_eq_true, decide_eq_true_eq] at h
    obtain ⟨⟨⟨h1, h2⟩, h3⟩, h4⟩ := h
    obtain ⟨e1, e2⟩ := divInt_coprime h3 h4
    rw [ratOf, hs, if_pos rfl, qtxt_two (by omega), e1, e2, ztxt_whlOf h1, ztxt_whlOf h2]
    exact (slash_split hs).symm
theorem qtxt_good {s : ByteArray} (h : GoodQ s) : qtxt (qnum s) = s := qtxt_qnum h.2
theorem qtxt_zero : qtxt 0 = ⟨#[48]⟩ := by rw [qtxt_one rfl]; exact ztxt_zero
theorem qtxt_int (z : Int) : qtxt (z : Rat) = ztxt z := by rw [qtxt_one (Rat.den_intCast _), Rat.num_intCast]

theorem whl_lt {l : List UInt8} (h : isWhl l = true) : (whlOf l).natAbs < 10 ^ l.length := by
  cases hb : (l.head? == some 45)
  · have h3 : isNat l = true := by rw [isWhl, hb] at h; simpa using h
    have h4 : whlOf l = (dval l : Int) := by rw [whlOf, hb]; rfl
    rw [h4]
    simpa using dval_lt' h3
  · have h3 : isNat l.tail = true := by rw [isWhl, hb] at h; simp at h; exact h.1
    have h4 : whlOf l = -(dval l.tail : Int) := by rw [whlOf, hb]; rfl
    rw [h4]
    exact Nat.lt_of_lt_of_le (by simpa using dval_lt' h3) (Nat.pow_le_pow_right (by omega) (by simp))
theorem qnum_lt {s : ByteArray} (h : GoodQ s) : (qnum s).num.natAbs < 10 ^ 100 ∧ (qnum s).den < 10 ^ 100 := by
  obtain ⟨hl, h⟩ := h
  have hsz : s.data.toList.length = s.size := rfl
  have h1 : (1 : Nat) < 10 ^ 100 := by decide +kernel
  have up : ∀ {l : List UInt8}, isWhl l = true → l.length ≤ 100 → (whlOf l).natAbs < 10 ^ 100 := fun hw hl => Nat.lt_of_lt_of_le (whl_lt hw) (Nat.pow_le_pow_right (by omega) hl)
  unfold qnum
  cases hs : hasSl s.data.toList
  · rw [isRat, hs] at h
    rw [ratOf, hs, if_neg (by decide), Rat.num_intCast, Rat.den_intCast]
    exact ⟨up (by simpa using h) (by omega), h1⟩
  · rw [isRat, hs] at h
    simp only [if_true, Bool.and_eq_true, decide_eq_true_eq] at h
    obtain ⟨⟨⟨h1', h2⟩, h3⟩, h4⟩ := h
    obtain ⟨e1, e2⟩ := divInt_coprime h3 h4
    have hlen := congrArg List.length (slash_split hs)
    rw [List.length_append, List.length_cons] at hlen
    rw [ratOf, hs, if_pos rfl, e1]
    refine ⟨up h1' (by omega), ?_⟩
    have := up h2 (by omega)
    omega
theorem divInt_le (z y : Int) : (Rat.divInt z y).num.natAbs ≤ z.natAbs ∧ (Rat.divInt z y).den ≤ max y.natAbs 1 := by
  by_cases h : y = 0
  · subst h; rw [Rat.divInt_zero]; simp
  · obtain ⟨e1, e2⟩ := divInt_parts z y h
    refine ⟨by rw [e1]; exact natAbs_ediv_le _ _, ?_⟩
    have h1 := natAbs_ediv_le y (if y < 0 then -(Int.gcd z y : Int) else (Int.gcd z y : Int))
    rw [← e2] at h1
    have : ((Rat.divInt z y).den : Int).natAbs = (Rat.divInt z y).den := by simp
    omega
theorem size_qtxt {q : Rat} (k : Nat) (hk : 0 < k) (hn : q.num.natAbs < 10 ^ k) (hd : q.den < 10 ^ k) : (qtxt q).size ≤ 2 * k + 3 := by
  have h1 := size_ztxt_le hn hk
  have h2 := size_ztxt_le (z := (q.den : Int)) (k := k) (by simpa using hd) hk
  unfold qtxt
  split
  · omega
  · rw [ByteArray.size_append, ByteArray.size_append]
    have : (⟨#[47]⟩ : ByteArray).size = 1 := rfl
    omega
theorem big_sum : (10 : Nat) ^ 100 * 10 ^ 100 + 10 ^ 100 * 10 ^ 100 < 10 ^ 300 := by decide +kernel
theorem big_mul : (10 : Nat) ^ 100 * 10 ^ 100 < 10 ^ 300 := by decide +kernel
theorem size_divInt {z y : Int} (hz : z.natAbs < 10 ^ 300) (hy : y.natAbs < 10 ^ 300) : (qtxt (Rat.divInt z y)).size ≤ maxLen := by
  have h1 : (1 : Nat) < 10 ^ 300 := by decide +kernel
  obtain ⟨a, b⟩ := divInt_le z y
  have h2 : max y.natAbs 1 < 10 ^ 300 := by omega
  have := size_qtxt (q := Rat.divInt z y) 300 (by omega) (by omega) (by omega)
  unfold maxLen; omega
theorem lt_mul_big {a b : Nat} (ha : a < 10 ^ 100) (hb : b < 10 ^ 100) : a * b < 10 ^ 100 * 10 ^ 100 := Nat.mul_lt_mul'' ha hb
theorem size_add {a b : ByteArray} (ha : GoodQ a) (hb : GoodQ b) : (qtxt (qnum a + qnum b)).size ≤ maxLen := by
  obtain ⟨a1, a2⟩ := qnum_lt ha
  obtain ⟨b1, b2⟩ := qnum_lt hb
  rw [add_parts]
  have c1 := lt_mul_big a1 b2
  have c2 := lt_mul_big b1 a2
  have c3 := lt_mul_big a2 b2
  have e1 := big_sum
  have e2 := big_mul
  refine size_divInt ?_ ?_
  · have t := Int.natAbs_add_le ((qnum a).num * (qnum b).den) ((qnum b).num * (qnum a).den)
    simp only [Int.natAbs_mul, Int.natAbs_natCast] at t
    omega
  · rw [Int.natAbs_mul, Int.natAbs_natCast, Int.natAbs_natCast]; omega
theorem size_mul {a b : ByteArray} (ha : GoodQ a) (hb : GoodQ b) : (qtxt (qnum a * qnum b)).size ≤ maxLen := by
  obtain ⟨a1, a2⟩ := qnum_lt ha
  obtain ⟨b1, b2⟩ := qnum_lt hb
  rw [mul_parts]
  have c1 := lt_mul_big a1 b1
  have c3 := lt_mul_big a2 b2
  have e2 := big_mul
  refine size_divInt ?_ ?_
  · rw [Int.natAbs_mul]; omega
  · rw [Int.natAbs_mul, Int.natAbs_natCast, Int.natAbs_natCast]; omega
theorem size_div {a b : ByteArray} (ha : GoodQ a) (hb : GoodQ b) : (qtxt (qnum a / qnum b)).size ≤ maxLen := by
  obtain ⟨a1, a2⟩ := qnum_lt ha
  obtain ⟨b1, b2⟩ := qnum_lt hb
  rw [div_parts]
  have c1 := lt_mul_big a1 b2
  have c3 := lt_mul_big a2 b1
  have e2 := big_mul
  refine size_divInt ?_ ?_
  · rw [Int.natAbs_mul, Int.natAbs_natCast]; omega
  · rw [Int.natAbs_mul, Int.natAbs_natCast]; omega

theorem BadQ.ne {s : ByteArray} {k : Int} (h : BadQ s k) : k ≠ 0 := by
  rcases h with ⟨_, rfl⟩ | ⟨_, _, rfl⟩ <;> decide
theorem WrongQ.ne {a b : ByteArray} {k : Int} (h : WrongQ a b k) : k ≠ 0 := by
  rcases h with h | ⟨_, h⟩ <;> exact h.ne
theorem BadQ.not {s : ByteArray} {k : Int} (h : BadQ s k) : ¬ GoodQ s := by
  rintro ⟨h1, h2⟩
  rcases h with ⟨h, _⟩ | ⟨_, h, _⟩
  · omega
  · rw [h] at h2; cases h2
theorem WrongQ.not {a b : ByteArray} {k : Int} (h : WrongQ a b k) : ¬ (GoodQ a ∧ GoodQ b) := by
  rintro ⟨h1, h2⟩
  rcases h with h | ⟨_, h⟩
  · exact h.not h1
  · exact h.not h2

/-- What a function of two fractions tells: the text of f, or nothing and an error. -/
def QTells (f : Rat → Rat → Rat) (a b s : ByteArray) (k : Int) : Prop :=
  (k = 0 ∧ GoodQ a ∧ GoodQ b ∧ s = qtxt (f (qnum a) (qnum b))) ∨ (k ≠ 0 ∧ WrongQ a b k ∧ s = ⟨#[]⟩)
theorem QTells.yes {f : Rat → Rat → Rat} {a b s : ByteArray} {k : Int} (h : QTells f a b s k) (hk : k = 0) : GoodQ a ∧ GoodQ b ∧ s = qtxt (f (qnum a) (qnum b)) := by
  rcases h with ⟨_, h⟩ | ⟨h, _⟩
  · exact h
  · exact absurd hk h
theorem QTells.zero {f : Rat → Rat → Rat} {a b s : ByteArray} {k : Int} (h : QTells f a b s k) (ha : GoodQ a) (hb : GoodQ b) : k = 0 := by
  rcases h with ⟨h, _⟩ | ⟨_, h, _⟩
  · exact h
  · exact absurd ⟨ha, hb⟩ h.not
theorem QTells.no {f : Rat → Rat → Rat} {a b s : ByteArray} {k : Int} (h : QTells f a b s k) (hn : ¬ (GoodQ a ∧ GoodQ b)) : k ≠ 0 ∧ s = ⟨#[]⟩ := by
  rcases h with ⟨_, h1, h2, _⟩ | ⟨h, _, h2⟩
  · exact absurd ⟨h1, h2⟩ hn
  · exact ⟨h, h2⟩
/-- What a division tells. -/
def QDivs (a b s : ByteArray) (k : Int) : Prop :=
  (k = 0 ∧ GoodQ a ∧ GoodQ b ∧ qnum b ≠ 0 ∧ s = qtxt (qnum a / qnum b)) ∨
  (k ≠ 0 ∧ s = ⟨#[]⟩ ∧ (WrongQ a b k ∨ (GoodQ a ∧ GoodQ b ∧ qnum b = 0 ∧ k = 5)))
theorem QDivs.yes {a b s : ByteArray} {k : Int} (h : QDivs a b s k) (hk : k = 0) : GoodQ a ∧ GoodQ b ∧ qnum b ≠ 0 ∧ s = qtxt (qnum a / qnum b) := by
  rcases h with ⟨_, h⟩ | ⟨h, _⟩
  · exact h
  · exact absurd hk h
theorem QDivs.zero {a b s : ByteArray} {k : Int} (h : QDivs a b s k) (ha : GoodQ a) (hb : GoodQ b) (h0 : qnum b ≠ 0) : k = 0 := by
  rcases h with ⟨h, _⟩ | ⟨_, _, h | ⟨_, _, h, _⟩⟩
  · exact h
  · exact absurd ⟨ha, hb⟩ h.not
  · exact absurd h h0
theorem QDivs.no {a b s : ByteArray} {k : Int} (h : QDivs a b s k) (hk : k ≠ 0) : s = ⟨#[]⟩ ∧ (GoodQ a → GoodQ b → qnum b = 0) := by
  rcases h with ⟨h, _⟩ | ⟨_, hs, h | ⟨_, _, h, _⟩⟩
  · exact absurd h hk
  · exact ⟨hs, fun h1 h2 => absurd ⟨h1, h2⟩ h.not⟩
  · exact ⟨hs, fun _ _ => h⟩
/-- What a comparison tells. -/
def QLess (a b : ByteArray) (t : Bool) (k : Int) : Prop :=
  (k = 0 ∧ GoodQ a ∧ GoodQ b ∧ t = decide (qnum a < qnum b)) ∨ (k ≠ 0 ∧ WrongQ a b k ∧ t = false)
theorem QLess.yes {a b : ByteArray} {t : Bool} {k : Int} (h : QLess a b t k) (hk : k = 0) : GoodQ a ∧ GoodQ b ∧ t = decide (qnum a < qnum b) := by
  rcases h with ⟨_, h⟩ | ⟨h, _⟩
  · exact h
  · exact absurd hk h
theorem QLess.zero {a b : ByteArray} {t : Bool} {k : Int} (h : QLess a b t k) (ha : GoodQ a) (hb : GoodQ b) : k = 0 := by
  rcases h with ⟨h, _⟩ | ⟨_, h, _⟩
  · exact h
  · exact absurd ⟨ha, hb⟩ h.not
theorem QLess.no {a b : ByteArray} {t : Bool} {k : Int} (h : QLess a b t k) (hn : ¬ (GoodQ a ∧ GoodQ b)) : k ≠ 0 ∧ t = false := by
  rcases h with ⟨_, h1, h2, _⟩ | ⟨h, _, h2⟩
  · exact absurd ⟨h1, h2⟩ hn
  · exact ⟨h, h2⟩
/-- What Floor tells. -/
def QFloors (a s : ByteArray) (k : Int) : Prop := (k = 0 ∧ GoodQ a ∧ s = ztxt (qnum a).floor) ∨ (k ≠ 0 ∧ BadQ a k ∧ s = ⟨#[]⟩)
/-- What Make tells. -/
def QMakes (a b s : ByteArray) (k : Int) : Prop :=
  (k = 0 ∧ GoodZ a ∧ GoodZ b ∧ znum b ≠ 0 ∧ s = qtxt (Rat.divInt (znum a) (znum b))) ∨
  (k ≠ 0 ∧ s = ⟨#[]⟩ ∧ (WrongZ a b k ∨ (GoodZ a ∧ GoodZ b ∧ znum b = 0 ∧ k = 5)))
theorem QMakes.yes {a b s : ByteArray} {k : Int} (h : QMakes a b s k) (hk : k = 0) : GoodZ a ∧ GoodZ b ∧ znum b ≠ 0 ∧ s = qtxt (Rat.divInt (znum a) (znum b)) := by
  rcases h with ⟨_, h⟩ | ⟨h, _⟩
  · exact h
  · exact absurd hk h
theorem QMakes.no {a b s : ByteArray} {k : Int} (h : QMakes a b s k) (hk : k ≠ 0) : s = ⟨#[]⟩ := by
  rcases h with ⟨h, _⟩ | ⟨_, h, _⟩
  · exact absurd h hk
  · exact h

theorem qadd_any (a b : ByteArray) (ha : a.size ≤ maxLen) (hb : b.size ≤ maxLen) (w : World) :
    Calls Try.prog 8 #[.string a, .string b] w fun e w' => ∃ (s : ByteArray) (k : Int), e = .returned (.tuple #[.string s, errv k]) ∧ QTells (· + ·) a b s k ∧ s.size ≤ maxLen ∧ Below w.heap.size w w' := by
  rcases rightQ_or_wrong a b with ⟨h1, h2⟩ | ⟨k, h⟩
  · refine (qadd_good h1 h2 w).mono ?_
    rintro e w' ⟨rfl, hb⟩
    exact ⟨_, 0, rfl, .inl ⟨rfl, h1, h2, rfl⟩, size_add h1 h2, hb⟩
  · refine (qadd_bad h ha hb w).mono ?_
    rintro e w' ⟨rfl, hb⟩
    exact ⟨_, k, by rw [errv_some h.ne], .inr ⟨h.ne, h, rfl⟩, Nat.zero_le _, hb⟩
theorem qmul_any (a b : ByteArray) (ha : a.size ≤ maxLen) (hb : b.size ≤ maxLen) (w : World) :
    Calls Try.prog 9 #[.string a, .string b] w fun e w' => ∃ (s : ByteArray) (k : Int), e = .returned (.tuple #[.string s, errv k]) ∧ QTells (· * ·) a b s k ∧ s.size ≤ maxLen ∧ Below w.heap.size w w' := by
  rcases rightQ_or_wrong a b with ⟨h1, h2⟩ | ⟨k, h⟩
  · refine (qmul_good h1 h2 w).mono ?_
    rintro e w' ⟨rfl, hb⟩
    exact ⟨_, 0, rfl, .inl ⟨rfl, h1, h2, rfl⟩, size_mul h1 h2, hb⟩
  · refine (qmul_bad h ha hb w).mono ?_
    rintro e w' ⟨rfl, hb⟩
    exact ⟨_, k, by rw [errv_some h.ne], .inr ⟨h.ne, h, rfl⟩, Nat.zero_le _, hb⟩
theorem qdiv_any (a b : ByteArray) (ha : a.size ≤ maxLen) (hb : b.size ≤ maxLen) (w : World) :
    Calls Try.prog 14 #[.string a, .string b] w fun e w' => ∃ (s : ByteArray) (k : Int), e = .returned (.tuple #[.string s, errv k]) ∧ QDivs a b s k ∧ s.size ≤ maxLen ∧ Below w.heap.size w w' := by
  rcases rightQ_or_wrong a b with ⟨h1, h2⟩ | ⟨k, h⟩
  · by_cases h0 : qnum b = 0
    · refine (qdiv_zero h1 h2 h0 w).mono ?_
      rintro e w' ⟨rfl, hb⟩
      exact ⟨_, 5, rfl, .inr ⟨by decide, rfl, .inr ⟨h1, h2, h0, rfl⟩⟩, Nat.zero_le _, hb⟩
    · refine (qdiv_good h1 h2 h0 w).mono ?_
      rintro e w' ⟨rfl, hb⟩
      exact ⟨_, 0, rfl, .inl ⟨rfl, h1, h2, h0, rfl⟩, size_div h1 h2, hb⟩
  · refine (qdiv_bad h ha hb w).mono ?_
    rintro e w' ⟨rfl, hb⟩
    exact ⟨_, k, by rw [errv_some h.ne], .inr ⟨h.ne, rfl, .inl h⟩, Nat.zero_le _, hb⟩
theorem floor_lt {a : ByteArray} (h : GoodQ a) : (qnum a).floor.natAbs < 10 ^ 100 := by
  rw [Rat.floor_def]
  exact Nat.lt_of_le_of_lt (natAbs_ediv_le _ _) (qnum_lt h).1
end Go.Proofs.Ytkdeopikojgboaa

/-
  PACKAGE ival: an interval in memory.
-/
namespace Go.Proofs.Ytkdeopikojgboaa
open Go.RowKit
open Num
set_option linter.unusedVariables false
set_option maxRecDepth 100000
set_option linter.unusedSimpArgs false

/-- A block of eight cells: an interval. -/
def Ibx (w : World) (g : Nat) (s1 : Bool) (p1 : Option Addr) (n1 c1 : Nat) (s2 : Bool) (p2 : Option Addr) (n2 c2 : Nat) (s3 : Bool) (p3 : Option Addr) (n3 c3 : Nat) (s4 : Bool) (p4 : Option Addr) (n4 c4 : Nat) : Prop := w.heap[g]? = some (.cells #[.bool s1, .slice p1 n1 c1, .bool s2, .slice p2 n2 c2, .bool s3, .slice p3 n3 c3, .bool s4, .slice p4 n4 c4] 42 (0, 0))
theorem Ibx.lt {w : World} {g : Nat} {s1 : Bool} {p1 : Option Addr} {n1 c1 : Nat} {s2 : Bool} {p2 : Option Addr} {n2 c2 : Nat} {s3 : Bool} {p3 : Option Addr} {n3 c3 : Nat} {s4 : Bool} {p4 : Option Addr} {n4 c4 : Nat} (h : Ibx w g s1 p1 n1 c1 s2 p2 n2 c2 s3 p3 n3 c3 s4 p4 n4 c4) : g < w.heap.size := lt_of_block h
theorem Ibx.cells {w : World} {g : Nat} {s1 : Bool} {p1 : Option Addr} {n1 c1 : Nat} {s2 : Bool} {p2 : Option Addr} {n2 c2 : Nat} {s3 : Bool} {p3 : Option Addr} {n3 c3 : Nat} {s4 : Bool} {p4 : Option Addr} {n4 c4 : Nat} (h : Ibx w g s1 p1 n1 c1 s2 p2 n2 c2 s3 p3 n3 c3 s4 p4 n4 c4) : w.cell? ⟨g, 0, none⟩ = some (.bool s1) ∧ w.cell? ⟨g, 1, none⟩ = some (.slice p1 n1 c1) ∧ w.cell? ⟨g, 2, none⟩ = some (.bool s2) ∧ w.cell? ⟨g, 3, none⟩ = some (.slice p2 n2 c2) ∧ w.cell? ⟨g, 4, none⟩ = some (.bool s3) ∧ w.cell? ⟨g, 5, none⟩ = some (.slice p3 n3 c3) ∧ w.cell? ⟨g, 6, none⟩ = some (.bool s4) ∧ w.cell? ⟨g, 7, none⟩ = some (.slice p4 n4 c4) := by
  have hh : w.heap[g]? = some (.cells #[.bool s1, .slice p1 n1 c1, .bool s2, .slice p2 n2 c2, .bool s3, .slice p3 n3 c3, .bool s4, .slice p4 n4 c4] 42 (0, 0)) := h
  refine ⟨?_, ?_, ?_, ?_, ?_, ?_, ?_, ?_⟩ <;> simp [World.cell?, hh]
theorem Ibx.free {w : World} {g : Nat} {s1 : Bool} {p1 : Option Addr} {n1 c1 : Nat} {s2 : Bool} {p2 : Option Addr} {n2 c2 : Nat} {s3 : Bool} {p3 : Option Addr} {n3 c3 : Nat} {s4 : Bool} {p4 : Option Addr} {n4 c4 : Nat} (h : Ibx w g s1 p1 n1 c1 s2 p2 n2 c2 s3 p3 n3 c3 s4 p4 n4 c4) (i : Nat) : w.frozen? ⟨g, i, none⟩ = false := by
  have hh : w.heap[g]? = some (.cells #[.bool s1, .slice p1 n1 c1, .bool s2, .slice p2 n2 c2, .bool s3, .slice p3 n3 c3, .bool s4, .slice p4 n4 c4] 42 (0, 0)) := h
  simp [World.frozen?, hh]
theorem Ibx.below {w w' : World} {g K : Nat} {s1 : Bool} {p1 : Option Addr} {n1 c1 : Nat} {s2 : Bool} {p2 : Option Addr} {n2 c2 : Nat} {s3 : Bool} {p3 : Option Addr} {n3 c3 : Nat} {s4 : Bool} {p4 : Option Addr} {n4 c4 : Nat} (h : Ibx w g s1 p1 n1 c1 s2 p2 n2 c2 s3 p3 n3 c3 s4 p4 n4 c4) (hb : Below K w w') (hK : g < K) : Ibx w' g s1 p1 n1 c1 s2 p2 n2 c2 s3 p3 n3 c3 s4 p4 n4 c4 := (hb.block g hK).trans h
theorem Ibx.dr {w : World} {g : Nat} {s1 : Bool} {p1 : Option Addr} {n1 c1 : Nat} {s2 : Bool} {p2 : Option Addr} {n2 c2 : Nat} {s3 : Bool} {p3 : Option Addr} {n3 c3 : Nat} {s4 : Bool} {p4 : Option Addr} {n4 c4 : Nat} (h : Ibx w g s1 p1 n1 c1 s2 p2 n2 c2 s3 p3 n3 c3 s4 p4 n4 c4) : Ibx w.drew g s1 p1 n1 c1 s2 p2 n2 c2 s3 p3 n3 c3 s4 p4 n4 c4 := h
theorem Ibx.new (w : World) (s1 : Bool) (p1 : Option Addr) (n1 c1 : Nat) (s2 : Bool) (p2 : Option Addr) (n2 c2 : Nat) (s3 : Bool) (p3 : Option Addr) (n3 c3 : Nat) (s4 : Bool) (p4 : Option Addr) (n4 c4 : Nat) : Ibx (w.alloc (.cells #[.bool s1, .slice p1 n1 c1, .bool s2, .slice p2 n2 c2, .bool s3, .slice p3 n3 c3, .bool s4, .slice p4 n4 c4] 42)) w.heap.size s1 p1 n1 c1 s2 p2 n2 c2 s3 p3 n3 c3 s4 p4 n4 c4 := by
  show (w.heap.push _)[w.heap.size]? = _
  simp
theorem Ibx.other {w : World} {g g2 : Nat} {s1 : Bool} {p1 : Option Addr} {n1 c1 : Nat} {s2 : Bool} {p2 : Option Addr} {n2 c2 : Nat} {s3 : Bool} {p3 : Option Addr} {n3 c3 : Nat} {s4 : Bool} {p4 : Option Addr} {n4 c4 : Nat} (h : Ibx w g s1 p1 n1 c1 s2 p2 n2 c2 s3 p3 n3 c3 s4 p4 n4 c4) (hne : g ≠ g2) (i : Nat) (v : Value) : Ibx (w.setCell ⟨g2, i, none⟩ v) g s1 p1 n1 c1 s2 p2 n2 c2 s3 p3 n3 c3 s4 p4 n4 c4 := by
  show (w.setCell ⟨g2, i, none⟩ v).heap[g]? = _
  rw [Below.heap_setCell _ _ _ _ (by exact hne)]; exact h
theorem Ibx.set0 {w : World} {g : Nat} {s1 : Bool} {p1 : Option Addr} {n1 c1 : Nat} {s2 : Bool} {p2 : Option Addr} {n2 c2 : Nat} {s3 : Bool} {p3 : Option Addr} {n3 c3 : Nat} {s4 : Bool} {p4 : Option Addr} {n4 c4 : Nat} (h : Ibx w g s1 p1 n1 c1 s2 p2 n2 c2 s3 p3 n3 c3 s4 p4 n4 c4) (x : Bool) : Ibx (w.setCell ⟨g, 0, none⟩ (.bool x)) g x p1 n1 c1 s2 p2 n2 c2 s3 p3 n3 c3 s4 p4 n4 c4 := by
  have hh : w.heap[g]? = some (.cells #[.bool s1, .slice p1 n1 c1, .bool s2, .slice p2 n2 c2, .bool s3, .slice p3 n3 c3, .bool s4, .slice p4 n4 c4] 42 (0, 0)) := h
  show (w.setCell ⟨g, 0, none⟩ (.bool x)).heap[g]? = _
  simp only [World.setCell, Array.getElem?_modify, hh]
  simp
theorem Ibx.set1 {w : World} {g : Nat} {s1 : Bool} {p1 : Option Addr} {n1 c1 : Nat} {s2 : Bool} {p2 : Option Addr} {n2 c2 : Nat} {s3 : Bool} {p3 : Option Addr} {n3 c3 : Nat} {s4 : Bool} {p4 : Option Addr} {n4 c4 : Nat} (h : Ibx w g s1 p1 n1 c1 s2 p2 n2 c2 s3 p3 n3 c3 s4 p4 n4 c4) (q : Option Addr) (m d : Nat) : Ibx (w.setCell ⟨g, 1, none⟩ (.slice q m d)) g s1 q m d s2 p2 n2 c2 s3 p3 n3 c3 s4 p4 n4 c4 := by
  have hh : w.heap[g]? = some (.cells #[.bool s1, .slice p1 n1 c1, .bool s2, .slice p2 n2 c2, .bool s3, .slice p3 n3 c3, .bool s4, .slice p4 n4 c4] 42 (0, 0)) := h
  show (w.setCell ⟨g, 1, none⟩ (.slice q m d)).heap[g]? = _
  simp only [World.setCell, Array.getElem?_modify, hh]
  simp
theorem Ibx.set2 {w : World} {g : Nat} {s1 : Bool} {p1 : Option Addr} {n1 c1 : Nat} {s2 : Bool} {p2 : Option Addr} {n2 c2 : Nat} {s3 : Bool} {p3 : Option Addr} {n3 c3 : Nat} {s4 : Bool} {p4 : Option Addr} {n4 c4 : Nat} (h : Ibx w g s1 p1 n1 c1 s2 p2 n2 c2 s3 p3 n3 c3 s4 p4 n4 c4) (x : Bool) : Ibx (w.setCell ⟨g, 2, none⟩ (.bool x)) g s1 p1 n1 c1 x p2 n2 c2 s3 p3 n3 c3 s4 p4 n4 c4 := by
  have hh : w.heap[g]? = some (.cells #[.bool s1, .slice p1 n1 c1, .bool s2, .slice p2 n2 c2, .bool s3, .slice p3 n3 c3, .bool s4, .slice p4 n4 c4] 42 (0, 0)) := h
  show (w.setCell ⟨g, 2, none⟩ (.bool x)).heap[g]? = _
  simp only [World.setCell, Array.getElem?_modify, hh]
  simp
theorem Ibx.set3 {w : World} {g : Nat} {s1 : Bool} {p1 : Option Addr} {n1 c1 : Nat} {s2 : Bool} {p2 : Option Addr} {n2 c2 : Nat} {s3 : Bool} {p3 : Option Addr} {n3 c3 : Nat} {s4 : Bool} {p4 : Option Addr} {n4 c4 : Nat} (h : Ibx w g s1 p1 n1 c1 s2 p2 n2 c2 s3 p3 n3 c3 s4 p4 n4 c4) (q : Option Addr) (m d : Nat) : Ibx (w.setCell ⟨g, 3, none⟩ (.slice q m d)) g s1 p1 n1 c1 s2 q m d s3 p3 n3 c3 s4 p4 n4 c4 := by
  have hh : w.heap[g]? = some (.cells #[.bool s1, .slice p1 n1 c1, .bool s2, .slice p2 n2 c2, .bool s3, .slice p3 n3 c3, .bool s4, .slice p4 n4 c4] 42 (0, 0)) := h
  show (w.setCell ⟨g, 3, none⟩ (.slice q m d)).heap[g]? = _
  simp only [World.setCell, Array.getElem?_modify, hh]
  simp
theorem Ibx.set4 {w : World} {g : Nat} {s1 : Bool} {p1 : Option Addr} {n1 c1 : Nat} {s2 : Bool} {p2 : Option Addr} {n2 c2 : Nat} {s3 : Bool} {p3 : Option Addr} {n3 c3 : Nat} {s4 : Bool} {p4 : Option Addr} {n4 c4 : Nat} (h : Ibx w g s1 p1 n1 c1 s2 p2 n2 c2 s3 p3 n3 c3 s4 p4 n4 c4) (x : Bool) : Ibx (w.setCell ⟨g, 4, none⟩ (.bool x)) g s1 p1 n1 c1 s2 p2 n2 c2 x p3 n3 c3 s4 p4 n4 c4 := by
  have hh : w.heap[g]? = some (.cells #[.bool s1, .slice p1 n1 c1, .bool s2, .slice p2 n2 c2, .bool s3, .slice p3 n3 c3, .bool s4, .slice p4 n4 c4] 42 (0, 0)) := h
  show (w.setCell ⟨g, 4, none⟩ (.bool x)).heap[g]? = _
  simp only [World.setCell, Array.getElem?_modify, hh]
  simp
theorem Ibx.set5 {w : World} {g : Nat} {s1 : Bool} {p1 : Option Addr} {n1 c1 : Nat} {s2 : Bool} {p2 : Option Addr} {n2 c2 : Nat} {s3 : Bool} {p3 : Option Addr} {n3 c3 : Nat} {s4 : Bool} {p4 : Option Addr} {n4 c4 : Nat} (h : Ibx w g s1 p1 n1 c1 s2 p2 n2 c2 s3 p3 n3 c3 s4 p4 n4 c4) (q : Option Addr) (m d : Nat) : Ibx (w.setCell ⟨g, 5, none⟩ (.slice q m d)) g s1 p1 n1 c1 s2 p2 n2 c2 s3 q m d s4 p4 n4 c4 := by
  have hh : w.heap[g]? = some (.cells #[.bool s1, .slice p1 n1 c1, .bool s2, .slice p2 n2 c2, .bool s3, .slice p3 n3 c3, .bool s4, .slice p4 n4 c4] 42 (0, 0)) := h
  show (w.setCell ⟨g, 5, none⟩ (.slice q m d)).heap[g]? = _
  simp only [World.setCell, Array.getElem?_modify, hh]
  simp
theorem Ibx.set6 {w : World} {g : Nat} {s1 : Bool} {p1 : Option Addr} {n1 c1 : Nat} {s2 : Bool} {p2 : Option Addr} {n2 c2 : Nat} {s3 : Bool} {p3 : Option Addr} {n3 c3 : Nat} {s4 : Bool} {p4 : Option Addr} {n4 c4 : Nat} (h : Ibx w g s1 p1 n1 c1 s2 p2 n2 c2 s3 p3 n3 c3 s4 p4 n4 c4) (x : Bool) : Ibx (w.setCell ⟨g, 6, none⟩ (.bool x)) g s1 p1 n1 c1 s2 p2 n2 c2 s3 p3 n3 c3 x p4 n4 c4 := by
  have hh : w.heap[g]? = some (.cells #[.bool s1, .slice p1 n1 c1, .bool s2, .slice p2 n2 c2, .bool s3, .slice p3 n3 c3, .bool s4, .slice p4 n4 c4] 42 (0, 0)) := h
  show (w.setCell ⟨g, 6, none⟩ (.bool x)).heap[g]? = _
  simp only [World.setCell, Array.getElem?_modify, hh]
  simp
theorem Ibx.set7 {w : World} {g : Nat} {s1 : Bool} {p1 : Option Addr} {n1 c1 : Nat} {s2 : Bool} {p2 : Option Addr} {n2 c2 : Nat} {s3 : Bool} {p3 : Option Addr} {n3 c3 : Nat} {s4 : Bool} {p4 : Option Addr} {n4 c4 : Nat} (h : Ibx w g s1 p1 n1 c1 s2 p2 n2 c2 s3 p3 n3 c3 s4 p4 n4 c4) (q : Option Addr) (m d : Nat) : Ibx (w.setCell ⟨g, 7, none⟩ (.slice q m d)) g s1 p1 n1 c1 s2 p2 n2 c2 s3 p3 n3 c3 s4 q m d := by
  have hh : w.heap[g]? = some (.cells #[.bool s1, .slice p1 n1 c1, .bool s2, .slice p2 n2 c2, .bool s3, .slice p3 n3 c3, .bool s4, .slice p4 n4 c4] 42 (0, 0)) := h
  show (w.setCell ⟨g, 7, none⟩ (.slice q m d)).heap[g]? = _
  simp only [World.setCell, Array.getElem?_modify, hh]
  simp
theorem Ibx.stores {w : World} {g : Nat} {s1 : Bool} {p1 : Option Addr} {n1 c1 : Nat} {s2 : Bool} {p2 : Option Addr} {n2 c2 : Nat} {s3 : Bool} {p3 : Option Addr} {n3 c3 : Nat} {s4 : Bool} {p4 : Option Addr} {n4 c4 : Nat} (h : Ibx w g s1 p1 n1 c1 s2 p2 n2 c2 s3 p3 n3 c3 s4 p4 n4 c4) :
    ((w.cell? ⟨g, 0, none⟩ = some (.bool s1)) ∧ (w.frozen? ⟨g, 0, none⟩ = false)) ∧
    ((∀ x0, (w.setCell ⟨g, 0, none⟩ (.bool x0)).cell? ⟨g, 1, none⟩ = some (.slice p1 n1 c1)) ∧ (∀ x0, (w.setCell ⟨g, 0, none⟩ (.bool x0)).frozen? ⟨g, 1, none⟩ = false)) ∧
    ((∀ x0 x1 y1 z1, ((w.setCell ⟨g, 0, none⟩ (.bool x0)).setCell ⟨g, 1, none⟩ (.slice x1 y1 z1)).cell? ⟨g, 2, none⟩ = some (.bool s2)) ∧ (∀ x0 x1 y1 z1, ((w.setCell ⟨g, 0, none⟩ (.bool x0)).setCell ⟨g, 1, none⟩ (.slice x1 y1 z1)).frozen? ⟨g, 2, none⟩ = false)) ∧
    ((∀ x0 x1 y1 z1 x2, (((w.setCell ⟨g, 0, none⟩ (.bool x0)).setCell ⟨g, 1, none⟩ (.slice x1 y1 z1)).setCell ⟨g, 2, none⟩ (.bool x2)).cell? ⟨g, 3, none⟩ = some (.slice p2 n2 c2)) ∧ (∀ x0 x1 y1 z1 x2, (((w.setCell ⟨g, 0, none⟩ (.bool x0)).setCell ⟨g, 1, none⟩ (.slice x1 y1 z1)).setCell ⟨g, 2, none⟩ (.bool x2)).frozen? ⟨g, 3, none⟩ = false)) ∧
    ((∀ x0 x1 y1 z1 x2 x3 y3 z3, ((((w.setCell ⟨g, 0, none⟩ (.bool x0)).setCell ⟨g, 1, none⟩ (.slice x1 y1 z1)).setCell ⟨g, 2, none⟩ (.bool x2)).setCell ⟨g, 3, none⟩ (.slice x3 y3 z3)).cell? ⟨g, 4, none⟩ = some (.bool s3)) ∧ (∀ x0 x1 y1 z1 x2 x3 y3 z3, ((((w.setCell ⟨g, 0, none⟩ (.bool x0)).setCell ⟨g, 1, none⟩ (.slice x1 y1 z1)).setCell ⟨g, 2, none⟩ (.bool x2)).setCell ⟨g, 3, none⟩ (.slice x3 y3 z3)).frozen? ⟨g, 4, none⟩ = false)) ∧
    ((∀ x0 x1 y1 z1 x2 x3 y3 z3 x4, (((((w.setCell ⟨g, 0, none⟩ (.bool x0)).setCell ⟨g, 1, none⟩ (.slice x1 y1 z1)).setCell ⟨g, 2, none⟩ (.bool x2)).setCell ⟨g, 3, none⟩ (.slice x3 y3 z3)).setCell ⟨g, 4, none⟩ (.bool x4)).cell? ⟨g, 5, none⟩ = some (.slice p3 n3 c3)) ∧ (∀ x0 x1 y1 z1 x2 x3 y3 z3 x4, (((((w.setCell ⟨g, 0, none⟩ (.bool x0)).setCell ⟨g, 1, none⟩ (.slice x1 y1 z1)).setCell ⟨g, 2, none⟩ (.bool x2)).setCell ⟨g, 3, none⟩ (.slice x3 y3 z3)).setCell ⟨g, 4, none⟩ (.bool x4)).frozen? ⟨g, 5, none⟩ = false)) ∧
    ((∀ x0 x1 y1 z1 x2 x3 y3 z3 x4 x5 y5 z5, ((((((w.setCell ⟨g, 0, none⟩ (.bool x0)).setCell ⟨g, 1, none⟩ (.slice x1 y1 z1)).setCell ⟨g, 2, none⟩ (.bool x2)).setCell ⟨g, 3, none⟩ (.slice x3 y3 z3)).setCell ⟨g, 4, none⟩ (.bool x4)).setCell ⟨g, 5, none⟩ (.slice x5 y5 z5)).cell? ⟨g, 6, none⟩ = some (.bool s4)) ∧ (∀ x0 x1 y1 z1 x2 x3 y3 z3 x4 x5 y5 z5, ((((((w.setCell ⟨g, 0, none⟩ (.bool x0)).setCell ⟨g, 1, none⟩ (.slice x1 y1 z1)).setCell ⟨g, 2, none⟩ (.bool x2)).setCell ⟨g, 3, none⟩ (.slice x3 y3 z3)).setCell ⟨g, 4, none⟩ (.bool x4)).setCell ⟨g, 5, none⟩ (.slice x5 y5 z5)).frozen? ⟨g, 6, none⟩ = false)) ∧
    (∀ x0 x1 y1 z1 x2 x3 y3 z3 x4 x5 y5 z5 x6, (((((((w.setCell ⟨g, 0, none⟩ (.bool x0)).setCell ⟨g, 1, none⟩ (.slice x1 y1 z1)).setCell ⟨g, 2, none⟩ (.bool x2)).setCell ⟨g, 3, none⟩ (.slice x3 y3 z3)).setCell ⟨g, 4, none⟩ (.bool x4)).setCell ⟨g, 5, none⟩ (.slice x5 y5 z5)).setCell ⟨g, 6, none⟩ (.bool x6)).cell? ⟨g, 7, none⟩ = some (.slice p4 n4 c4)) ∧
    (∀ x0 x1 y1 z1 x2 x3 y3 z3 x4 x5 y5 z5 x6, (((((((w.setCell ⟨g, 0, none⟩ (.bool x0)).setCell ⟨g, 1, none⟩ (.slice x1 y1 z1)).setCell ⟨g, 2, none⟩ (.bool x2)).setCell ⟨g, 3, none⟩ (.slice x3 y3 z3)).setCell ⟨g, 4, none⟩ (.bool x4)).setCell ⟨g, 5, none⟩ (.slice x5 y5 z5)).setCell ⟨g, 6, none⟩ (.bool x6)).frozen? ⟨g, 7, none⟩ = false) :=
  ⟨⟨h.cells.1, h.free 0⟩,
    ⟨fun x0 => (h.set0 x0).cells.2.1, fun x0 => (h.set0 x0).free 1⟩,
    ⟨fun x0 x1 y1 z1 => ((h.set0 x0).set1 x1 y1 z1).cells.2.2.1, fun x0 x1 y1 z1 => ((h.set0 x0).set1 x1 y1 z1).free 2⟩,
    ⟨fun x0 x1 y1 z1 x2 => (((h.set0 x0).set1 x1 y1 z1).set2 x2).cells.2.2.2.1, fun x0 x1 y1 z1 x2 => (((h.set0 x0).set1 x1 y1 z1).set2 x2).free 3⟩,
    ⟨fun x0 x1 y1 z1 x2 x3 y3 z3 => ((((h.set0 x0).set1 x1 y1 z1).set2 x2).set3 x3 y3 z3).cells.2.2.2.2.1, fun x0 x1 y1 z1 x2 x3 y3 z3 => ((((h.set0 x0).set1 x1 y1 z1).set2 x2).set3 x3 y3 z3).free 4⟩,
    ⟨fun x0 x1 y1 z1 x2 x3 y3 z3 x4 => (((((h.set0 x0).set1 x1 y1 z1).set2 x2).set3 x3 y3 z3).set4 x4).cells.2.2.2.2.2.1, fun x0 x1 y1 z1 x2 x3 y3 z3 x4 => (((((h.set0 x0).set1 x1 y1 z1).set2 x2).set3 x3 y3 z3).set4 x4).free 5⟩,
    ⟨fun x0 x1 y1 z1 x2 x3 y3 z3 x4 x5 y5 z5 => ((((((h.set0 x0).set1 x1 y1 z1).set2 x2).set3 x3 y3 z3).set4 x4).set5 x5 y5 z5).cells.2.2.2.2.2.2.1, fun x0 x1 y1 z1 x2 x3 y3 z3 x4 x5 y5 z5 => ((((((h.set0 x0).set1 x1 y1 z1).set2 x2).set3 x3 y3 z3).set4 x4).set5 x5 y5 z5).free 6⟩,
    fun x0 x1 y1 z1 x2 x3 y3 z3 x4 x5 y5 z5 x6 => (((((((h.set0 x0).set1 x1 y1 z1).set2 x2).set3 x3 y3 z3).set4 x4).set5 x5 y5 z5).set6 x6).cells.2.2.2.2.2.2.2,
    fun x0 x1 y1 z1 x2 x3 y3 z3 x4 x5 y5 z5 x6 => (((((((h.set0 x0).set1 x1 y1 z1).set2 x2).set3 x3 y3 z3).set4 x4).set5 x5 y5 z5).set6 x6).free 7⟩
theorem Lim.ibx {w : World} {v : Value} {xs : List Nat} {g : Nat} {s1 : Bool} {p1 : Option Addr} {n1 c1 : Nat} {s2 : Bool} {p2 : Option Addr} {n2 c2 : Nat} {s3 : Bool} {p3 : Option Addr} {n3 c3 : Nat} {s4 : Bool} {p4 : Option Addr} {n4 c4 : Nat} (h : Lim w v xs) (hx : Ibx w g s1 p1 n1 c1 s2 p2 n2 c2 s3 p3 n3 c3 s4 p4 n4 c4) (i : Nat) (u : Value) : Lim (w.setCell ⟨g, i, none⟩ u) v xs := by
  have hg : w.heap[g]? = some (.cells #[.bool s1, .slice p1 n1 c1, .bool s2, .slice p2 n2 c2, .bool s3, .slice p3 n3 c3, .bool s4, .slice p4 n4 c4] 42 (0, 0)) := hx
  obtain ⟨h1, q, d, h2, h3, h4, h5⟩ := h
  refine ⟨h1, q, d, h2, h3, h4, ?_⟩
  rcases h5 with h5 | ⟨b, off, h6, h7, h8⟩
  · exact .inl h5
  · refine .inr ⟨b, off, h6, by simpa [World.setCell] using h7, fun i hi => ?_⟩
    have h9 := h8 i hi
    by_cases hb : b = g
    · subst hb
      simp only [World.cell?, hg] at h9
      have hh : ∀ k : Nat, (#[Value.bool s1, Value.slice p1 n1 c1, Value.bool s2, Value.slice p2 n2 c2, Value.bool s3, Value.slice p3 n3 c3, Value.bool s4, Value.slice p4 n4 c4] : Array Value)[k]? ≠ some (.int .u32 (dg xs i)) := by
        intro k
        rcases k with _ | _ | _ | _ | _ | _ | _ | _ | k <;> simp
      exact absurd h9 (hh _)
    · rw [← h9]
      exact World.cell?_of_block (Below.heap_setCell _ _ _ _ (by exact hb))
theorem Whl.ibx {w : World} {v : Value} {z : Int} {k g : Nat} {s1 : Bool} {p1 : Option Addr} {n1 c1 : Nat} {s2 : Bool} {p2 : Option Addr} {n2 c2 : Nat} {s3 : Bool} {p3 : Option Addr} {n3 c3 : Nat} {s4 : Bool} {p4 : Option Addr} {n4 c4 : Nat} (h : Whl w v z k) (hx : Ibx w g s1 p1 n1 c1 s2 p2 n2 c2 s3 p3 n3 c3 s4 p4 n4 c4) (i : Nat) (u : Value) : Whl (w.setCell ⟨g, i, none⟩ u) v z k := by
  obtain ⟨s', sv', xs, h1, h2, h3⟩ := h
  exact ⟨s', sv', xs, h1, h2.ibx hx i u, h3⟩
theorem Ibx.last {w0 w : World} {g K : Nat} {s1 : Bool} {p1 : Option Addr} {n1 c1 : Nat} {s2 : Bool} {p2 : Option Addr} {n2 c2 : Nat} {s3 : Bool} {p3 : Option Addr} {n3 c3 : Nat} {s4 : Bool} {p4 : Option Addr} {n4 c4 : Nat} (h : Ibx w g s1 p1 n1 c1 s2 p2 n2 c2 s3 p3 n3 c3 s4 p4 n4 c4) (hb : Below K w0 w) (hg : K ≤ g) (a1 : Bool) (q1 : Option Addr) (m1 d1 : Nat) (a2 : Bool) (q2 : Option Addr) (m2 d2 : Nat) (a3 : Bool) (q3 : Option Addr) (m3 d3 : Nat) (a4 : Bool) (q4 : Option Addr) (m4 d4 : Nat) :
    Ibx ((((((((w.setCell ⟨g, 0, none⟩ (.bool a1)).setCell ⟨g, 1, none⟩ (.slice q1 m1 d1)).setCell ⟨g, 2, none⟩ (.bool a2)).setCell ⟨g, 3, none⟩ (.slice q2 m2 d2)).setCell ⟨g, 4, none⟩ (.bool a3)).setCell ⟨g, 5, none⟩ (.slice q3 m3 d3)).setCell ⟨g, 6, none⟩ (.bool a4)).setCell ⟨g, 7, none⟩ (.slice q4 m4 d4)) g a1 q1 m1 d1 a2 q2 m2 d2 a3 q3 m3 d3 a4 q4 m4 d4 ∧ Below K w0 ((((((((w.setCell ⟨g, 0, none⟩ (.bool a1)).setCell ⟨g, 1, none⟩ (.slice q1 m1 d1)).setCell ⟨g, 2, none⟩ (.bool a2)).setCell ⟨g, 3, none⟩ (.slice q2 m2 d2)).setCell ⟨g, 4, none⟩ (.bool a3)).setCell ⟨g, 5, none⟩ (.slice q3 m3 d3)).setCell ⟨g, 6, none⟩ (.bool a4)).setCell ⟨g, 7, none⟩ (.slice q4 m4 d4)) ∧
    (∀ {v z k}, Whl w v z k → Whl ((((((((w.setCell ⟨g, 0, none⟩ (.bool a1)).setCell ⟨g, 1, none⟩ (.slice q1 m1 d1)).setCell ⟨g, 2, none⟩ (.bool a2)).setCell ⟨g, 3, none⟩ (.slice q2 m2 d2)).setCell ⟨g, 4, none⟩ (.bool a3)).setCell ⟨g, 5, none⟩ (.slice q3 m3 d3)).setCell ⟨g, 6, none⟩ (.bool a4)).setCell ⟨g, 7, none⟩ (.slice q4 m4 d4)) v z k) := by
  have h1 := h.set0 a1
  have h2 := h1.set1 q1 m1 d1
  have h3 := h2.set2 a2
  have h4 := h3.set3 q2 m2 d2
  have h5 := h4.set4 a3
  have h6 := h5.set5 q3 m3 d3
  have h7 := h6.set6 a4
  have h8 := h7.set7 q4 m4 d4
  refine ⟨h8, ((((((((hb.setCell (p := ⟨g, 0, none⟩) hg _).setCell (p := ⟨g, 1, none⟩) hg _).setCell (p := ⟨g, 2, none⟩) hg _).setCell (p := ⟨g, 3, none⟩) hg _).setCell (p := ⟨g, 4, none⟩) hg _).setCell (p := ⟨g, 5, none⟩) hg _).setCell (p := ⟨g, 6, none⟩) hg _).setCell (p := ⟨g, 7, none⟩) hg _), fun hv => ?_⟩
  exact (((((((hv.ibx h 0 _).ibx h1 1 _).ibx h2 2 _).ibx h3 3 _).ibx h4 4 _).ibx h5 5 _).ibx h6 6 _).ibx h7 7 _
theorem load_ivl {w : World} {g : Nat} {s1 : Bool} {p1 : Option Addr} {n1 c1 : Nat} {s2 : Bool} {p2 : Option Addr} {n2 c2 : Nat} {s3 : Bool} {p3 : Option Addr} {n3 c3 : Nat} {s4 : Bool} {p4 : Option Addr} {n4 c4 : Nat} (h : Ibx w g s1 p1 n1 c1 s2 p2 n2 c2 s3 p3 n3 c3 s4 p4 n4 c4) : (loadVar 42 ⟨g, 0, none⟩).run Try.prog w = .ok (.agg #[.bool s1, .slice p1 n1 c1, .bool s2, .slice p2 n2 c2, .bool s3, .slice p3 n3 c3, .bool s4, .slice p4 n4 c4]) w := by
  obtain ⟨h0, h1, h2, h3, h4, h5, h6, h7⟩ := h.cells
  simp [go_sem, h0, h1, h2, h3, h4, h5, h6, h7]
theorem res_ivl {fn : Func} {tmps : Array Value} {w : World} {t : Tmp} {g : Nat} {s1 : Bool} {p1 : Option Addr} {n1 c1 : Nat} {s2 : Bool} {p2 : Option Addr} {n2 c2 : Nat} {s3 : Bool} {p3 : Option Addr} {n3 c3 : Nat} {s4 : Bool} {p4 : Option Addr} {n4 c4 : Nat} (hf : fn.results = #[.cell t 42]) (ht : tmps.getD t undef = .pointer (some ⟨g, 0, none⟩)) (h2 : Ibx w g s1 p1 n1 c1 s2 p2 n2 c2 s3 p3 n3 c3 s4 p4 n4 c4) :
    (results fn tmps).run Try.prog w = .ok (.agg #[.bool s1, .slice p1 n1 c1, .bool s2, .slice p2 n2 c2, .bool s3, .slice p3 n3 c3, .bool s4, .slice p4 n4 c4]) w := by
  have h1 := at_addr (P := Try.prog) (w := w) ht
  have h3 := load_ivl h2
  simp only [Array.getD_eq_getD_getElem?] at h1
  simp [results, hf, Sem.run_bind, h1, h3]
theorem res_ivl_tmp {fn : Func} {tmps : Array Value} {w : World} {t : Tmp} {g : Nat} {s1 : Bool} {p1 : Option Addr} {n1 c1 : Nat} {s2 : Bool} {p2 : Option Addr} {n2 c2 : Nat} {s3 : Bool} {p3 : Option Addr} {n3 c3 : Nat} {s4 : Bool} {p4 : Option Addr} {n4 c4 : Nat} {t' : Tmp} {u : Value} (hf : fn.results = #[.cell t 42, .tmp t']) (ht : tmps.getD t undef = .pointer (some ⟨g, 0, none⟩)) (hu : tmps.getD t' undef = u) (h2 : Ibx w g s1 p1 n1 c1 s2 p2 n2 c2 s3 p3 n3 c3 s4 p4 n4 c4) :
    (results fn tmps).run Try.prog w = .ok (.tuple #[.agg #[.bool s1, .slice p1 n1 c1, .bool s2, .slice p2 n2 c2, .bool s3, .slice p3 n3 c3, .bool s4, .slice p4 n4 c4], u]) w := by
  have h1 := at_addr (P := Try.prog) (w := w) ht
  have h3 := load_ivl h2
  simp only [Array.getD_eq_getD_getElem?] at h1 hu
  simp [results, hf, Sem.run_bind, h1, h3, hu]
theorem res_ii_tmp {fn : Func} {tmps : Array Value} {w : World} {t : Tmp} {g : Nat} {s1 : Bool} {p1 : Option Addr} {n1 c1 : Nat} {s2 : Bool} {p2 : Option Addr} {n2 c2 : Nat} {s3 : Bool} {p3 : Option Addr} {n3 c3 : Nat} {s4 : Bool} {p4 : Option Addr} {n4 c4 : Nat} {t' t'' : Tmp} {g' : Nat} {s1' : Bool} {p1' : Option Addr} {n1' c1' : Nat} {s2' : Bool} {p2' : Option Addr} {n2' c2' : Nat} {s3' : Bool} {p3' : Option Addr} {n3' c3' : Nat} {s4' : Bool} {p4' : Option Addr} {n4' c4' : Nat} {u : Value} (hf : fn.results = #[.cell t 42, .cell t' 42, .tmp t'']) (ht : tmps.getD t undef = .pointer (some ⟨g, 0, none⟩)) (ht' : tmps.getD t' undef = .pointer (some ⟨g', 0, none⟩)) (hu : tmps.getD t'' undef = u) (h2 : Ibx w g s1 p1 n1 c1 s2 p2 n2 c2 s3 p3 n3 c3 s4 p4 n4 c4) (h2' : Ibx w g' s1' p1' n1' c1' s2' p2' n2' c2' s3' p3' n3' c3' s4' p4' n4' c4') :
    (results fn tmps).run Try.prog w = .ok (.tuple #[.agg #[.bool s1, .slice p1 n1 c1, .bool s2, .slice p2 n2 c2, .bool s3, .slice p3 n3 c3, .bool s4, .slice p4 n4 c4], .agg #[.bool s1', .slice p1' n1' c1', .bool s2', .slice p2' n2' c2', .bool s3', .slice p3' n3' c3', .bool s4', .slice p4' n4' c4'], u]) w := by
  have h1 := at_addr (P := Try.prog) (w := w) ht
  have h1' := at_addr (P := Try.prog) (w := w) ht'
  have h3 := load_ivl h2
  have h3' := load_ivl h2'
  simp only [Array.getD_eq_getD_getElem?] at h1 h1' hu
  simp [results, hf, Sem.run_bind, h1, h3, h1', h3', hu]
theorem ix {w w' : World} {g : Nat} {s1 : Bool} {p1 : Option Addr} {n1 c1 : Nat} {s2 : Bool} {p2 : Option Addr} {n2 c2 : Nat} {s3 : Bool} {p3 : Option Addr} {n3 c3 : Nat} {s4 : Bool} {p4 : Option Addr} {n4 c4 : Nat} (h : Hid (Ibx w g s1 p1 n1 c1 s2 p2 n2 c2 s3 p3 n3 c3 s4 p4 n4 c4)) (hb : Below w.heap.size w w') : Hid (Ibx w' g s1 p1 n1 c1 s2 p2 n2 c2 s3 p3 n3 c3 s4 p4 n4 c4) := hid (h.out.below hb h.out.lt)
/-- A value reads as an interval from p to q, its ends' parts of k limbs or fewer. -/
def Ivl (w : World) (v : Value) (p q : Rat) (k : Nat) : Prop := ∃ (s1 : Bool) (p1 : Option Addr) (n1 c1 : Nat) (s2 : Bool) (p2 : Option Addr) (n2 c2 : Nat) (s3 : Bool) (p3 : Option Addr) (n3 c3 : Nat) (s4 : Bool) (p4 : Option Addr) (n4 c4 : Nat), v = .agg #[.bool s1, .slice p1 n1 c1, .bool s2, .slice p2 n2 c2, .bool s3, .slice p3 n3 c3, .bool s4, .slice p4 n4 c4] ∧ Rtl w (.agg #[.bool s1, .slice p1 n1 c1, .bool s2, .slice p2 n2 c2]) p k ∧ Rtl w (.agg #[.bool s3, .slice p3 n3 c3, .bool s4, .slice p4 n4 c4]) q k
theorem Ivl.opened {w : World} {v : Value} {p q : Rat} {k : Nat} (h : Ivl w v p q k) : ∃ (s1 : Bool) (p1 : Option Addr) (n1 c1 : Nat) (s2 : Bool) (p2 : Option Addr) (n2 c2 : Nat) (s3 : Bool) (p3 : Option Addr) (n3 c3 : Nat) (s4 : Bool) (p4 : Option Addr) (n4 c4 : Nat), v = .agg #[.bool s1, .slice p1 n1 c1, .bool s2, .slice p2 n2 c2, .bool s3, .slice p3 n3 c3, .bool s4, .slice p4 n4 c4] := by
  obtain ⟨s1, p1, n1, c1, s2, p2, n2, c2, s3, p3, n3, c3, s4, p4, n4, c4, h1, _⟩ := h
  exact ⟨s1, p1, n1, c1, s2, p2, n2, c2, s3, p3, n3, c3, s4, p4, n4, c4, h1⟩
theorem Ivl.two {w : World} {p q : Rat} {k : Nat} {s1 : Bool} {p1 : Option Addr} {n1 c1 : Nat} {s2 : Bool} {p2 : Option Addr} {n2 c2 : Nat} {s3 : Bool} {p3 : Option Addr} {n3 c3 : Nat} {s4 : Bool} {p4 : Option Addr} {n4 c4 : Nat} (h : Ivl w (.agg #[.bool s1, .slice p1 n1 c1, .bool s2, .slice p2 n2 c2, .bool s3, .slice p3 n3 c3, .bool s4, .slice p4 n4 c4]) p q k) : Rtl w (.agg #[.bool s1, .slice p1 n1 c1, .bool s2, .slice p2 n2 c2]) p k ∧ Rtl w (.agg #[.bool s3, .slice p3 n3 c3, .bool s4, .slice p4 n4 c4]) q k := by
  obtain ⟨s1', p1', n1', c1', s2', p2', n2', c2', s3', p3', n3', c3', s4', p4', n4', c4', h1, h2, h3⟩ := h
  simp only [Value.agg.injEq, Array.mk.injEq, List.cons.injEq, Value.bool.injEq, Value.slice.injEq, and_true] at h1
  obtain ⟨rfl, ⟨rfl, rfl, rfl⟩, rfl, ⟨rfl, rfl, rfl⟩, rfl, ⟨rfl, rfl, rfl⟩, rfl, rfl, rfl, rfl⟩ := h1
  exact ⟨h2, h3⟩
theorem Ivl.mk2 {w : World} {p q : Rat} {k : Nat} {s1 : Bool} {p1 : Option Addr} {n1 c1 : Nat} {s2 : Bool} {p2 : Option Addr} {n2 c2 : Nat} {s3 : Bool} {p3 : Option Addr} {n3 c3 : Nat} {s4 : Bool} {p4 : Option Addr} {n4 c4 : Nat} (h1 : Rtl w (.agg #[.bool s1, .slice p1 n1 c1, .bool s2, .slice p2 n2 c2]) p k) (h2 : Rtl w (.agg #[.bool s3, .slice p3 n3 c3, .bool s4, .slice p4 n4 c4]) q k) : Ivl w (.agg #[.bool s1, .slice p1 n1 c1, .bool s2, .slice p2 n2 c2, .bool s3, .slice p3 n3 c3, .bool s4, .slice p4 n4 c4]) p q k := ⟨_, _, _, _, _, _, _, _, _, _, _, _, _, _, _, _, rfl, h1, h2⟩
theorem Ivl.on {w w' : World} {v : Value} {p q : Rat} {k : Nat} (h : Ivl w v p q k) (hb : Below w.heap.size w w') : Ivl w' v p q k := by
  obtain ⟨s1, p1, n1, c1, s2, p2, n2, c2, s3, p3, n3, c3, s4, p4, n4, c4, h1, h2, h3⟩ := h
  exact ⟨s1, p1, n1, c1, s2, p2, n2, c2, s3, p3, n3, c3, s4, p4, n4, c4, h1, h2.on hb, h3.on hb⟩
theorem Ivl.mono {w : World} {v : Value} {p q : Rat} {k m : Nat} (h : Ivl w v p q k) (hk : k ≤ m) : Ivl w v p q m := by
  obtain ⟨s1, p1, n1, c1, s2, p2, n2, c2, s3, p3, n3, c3, s4, p4, n4, c4, h1, h2, h3⟩ := h
  exact ⟨s1, p1, n1, c1, s2, p2, n2, c2, s3, p3, n3, c3, s4, p4, n4, c4, h1, h2.mono hk, h3.mono hk⟩

end Go.Proofs.Ytkdeopikojgboaa

/-
  ROWS OF NUMBERS, their least and their greatest.
-/
namespace Go.Proofs.Ytkdeopikojgboaa
open Go.RowKit
open Num
set_option linter.unusedVariables false
set_option maxRecDepth 100000
set_option linter.unusedSimpArgs false

/-- A Number's four cells. -/
abbrev Nr := Zr × Zr
def ncs (r : Nr) : List Value := zcs r.1 ++ zcs r.2
def nag (r : Nr) : Value := .agg #[.bool r.1.1, .slice r.1.2.1 r.1.2.2.1 r.1.2.2.2, .bool r.2.1, .slice r.2.2.1 r.2.2.2.1 r.2.2.2.2]
def nrat (vs : List Nr) (i : Nat) : Nr := vs[i]?.getD ((false, none, 0, 0), (false, none, 0, 0))
def fln (vs : List Nr) : Array Value := (vs.map ncs).flatten.toArray
theorem ncs_len (vs : List Nr) : ∀ r ∈ vs.map ncs, r.length = 4 := by
  intro r hr
  obtain ⟨x, _, rfl⟩ := List.mem_map.1 hr
  rfl
theorem fln_get (vs : List Nr) (i : Nat) (h : i < vs.length) : (fln vs)[i * 4]? = some (.bool (nrat vs i).1.1) ∧ (fln vs)[i * 4 + 1]? = some (.slice (nrat vs i).1.2.1 (nrat vs i).1.2.2.1 (nrat vs i).1.2.2.2) ∧ (fln vs)[i * 4 + 2]? = some (.bool (nrat vs i).2.1) ∧ (fln vs)[i * 4 + 3]? = some (.slice (nrat vs i).2.2.1 (nrat vs i).2.2.2.1 (nrat vs i).2.2.2.2) := by
  have h0 := flat_get 4 (vs.map ncs) (ncs_len vs) i 0 (by simpa using h) (by omega)
  have h1 := flat_get 4 (vs.map ncs) (ncs_len vs) i 1 (by simpa using h) (by omega)
  have h2 := flat_get 4 (vs.map ncs) (ncs_len vs) i 2 (by simpa using h) (by omega)
  have h3 := flat_get 4 (vs.map ncs) (ncs_len vs) i 3 (by simpa using h) (by omega)
  simp only [Nat.add_zero] at h0
  refine ⟨?_, ?_, ?_, ?_⟩
  · rw [fln, List.getElem?_toArray, h0]; simp [nrat, h, ncs, zcs]
  · rw [fln, List.getElem?_toArray, h1]; simp [nrat, h, ncs, zcs]
  · rw [fln, List.getElem?_toArray, h2]; simp [nrat, h, ncs, zcs]
  · rw [fln, List.getElem?_toArray, h3]; simp [nrat, h, ncs, zcs]
/-- Block b holds m Numbers, that read as these. -/
def Nrw (w : World) (b m : Nat) (qf : Nat → Rat) (k : Nat) : Prop := ∃ (vs : List Nr) (T : TypeId) (fr : Nat × Nat), w.heap[b]? = some (.cells (fln vs) T fr) ∧ vs.length = m ∧ ∀ i, i < m → Rtl w (nag (nrat vs i)) (qf i) k
theorem Nrw.lt {w : World} {b m : Nat} {qf : Nat → Rat} {k : Nat} (h : Nrw w b m qf k) : b < w.heap.size := by
  obtain ⟨vs, T, fr, h1, _⟩ := h
  exact (Array.getElem?_eq_some_iff.1 h1).1
theorem Nrw.on {w w' : World} {b m : Nat} {qf : Nat → Rat} {k : Nat} (h : Nrw w b m qf k) (hb : Below w.heap.size w w') : Nrw w' b m qf k := by
  have hl := h.lt
  obtain ⟨vs, T, fr, h1, h2, h3⟩ := h
  exact ⟨vs, T, fr, (hb.block b hl).trans h1, h2, fun i hi => (h3 i hi).on hb⟩
theorem Nrw.moved {w w' : World} {b m : Nat} {qf : Nat → Rat} {k : Nat} (h : Nrw w b m qf k) (he : w'.heap[b]? = w.heap[b]?) (hm : ∀ v z k, Whl w v z k → Whl w' v z k) : Nrw w' b m qf k := by
  obtain ⟨vs, T, fr, h1, h2, h3⟩ := h
  exact ⟨vs, T, fr, he.trans h1, h2, fun i hi => (h3 i hi).moved hm⟩
theorem Nrw.mono {w : World} {b m : Nat} {qf : Nat → Rat} {k l : Nat} (h : Nrw w b m qf k) (hk : k ≤ l) : Nrw w b m qf l := by
  obtain ⟨vs, T, fr, h1, h2, h3⟩ := h
  exact ⟨vs, T, fr, h1, h2, fun i hi => (h3 i hi).mono hk⟩
theorem Nrw.at {w : World} {b m : Nat} {qf : Nat → Rat} {k : Nat} (h : Nrw w b m qf k) {i : Nat} (hi : i < m) : ∃ (s1 : Bool) (p1 : Option Addr) (n1 c1 : Nat) (s2 : Bool) (p2 : Option Addr) (n2 c2 : Nat),
    w.cell? ⟨b, i * 4, none⟩ = some (.bool s1) ∧ w.cell? ⟨b, i * 4 + 1, none⟩ = some (.slice p1 n1 c1) ∧ w.cell? ⟨b, i * 4 + 2, none⟩ = some (.bool s2) ∧ w.cell? ⟨b, i * 4 + 3, none⟩ = some (.slice p2 n2 c2) ∧ Rtl w (.agg #[.bool s1, .slice p1 n1 c1, .bool s2, .slice p2 n2 c2]) (qf i) k := by
  obtain ⟨vs, T, fr, h1, h2, h3⟩ := h
  obtain ⟨g0, g1, g2, g3⟩ := fln_get vs i (by omega)
  refine ⟨_, _, _, _, _, _, _, _, ?_, ?_, ?_, ?_, h3 i hi⟩ <;> simp [World.cell?, h1, g0, g1, g2, g3]
theorem heap4 {w : World} {b g : Nat} (hne : b ≠ g) (x0 x1 x2 x3 : Value) : ((((w.setCell ⟨g, 0, none⟩ x0).setCell ⟨g, 1, none⟩ x1).setCell ⟨g, 2, none⟩ x2).setCell ⟨g, 3, none⟩ x3).heap[b]? = w.heap[b]? := by
  rw [Below.heap_setCell _ _ _ _ (by exact hne), Below.heap_setCell _ _ _ _ (by exact hne), Below.heap_setCell _ _ _ _ (by exact hne), Below.heap_setCell _ _ _ _ (by exact hne)]
/-- Two, and four, in a new block. -/
def sel2 (a b : Rat) : Nat → Rat | 0 => a | _ => b
def sel4 (a b c d : Rat) : Nat → Rat | 0 => a | 1 => b | 2 => c | _ => d
/-- Least and greatest, one after the other. -/
def lofN (f : Nat → Rat) : Nat → Rat | 0 => f 0 | n + 1 => mn (lofN f n) (f (n + 1))
def hifN (f : Nat → Rat) : Nat → Rat | 0 => f 0 | n + 1 => mx (hifN f n) (f (n + 1))
theorem lof_step (f : Nat → Rat) {t : Nat} (h : 1 ≤ t) : lofN f t = mn (lofN f (t - 1)) (f t) := by
  obtain ⟨j, rfl⟩ : ∃ j, t = j + 1 := ⟨t - 1, by omega⟩
  rfl
theorem hif_step (f : Nat → Rat) {t : Nat} (h : 1 ≤ t) : hifN f t = mx (hifN f (t - 1)) (f t) := by
  obtain ⟨j, rfl⟩ : ∃ j, t = j + 1 := ⟨t - 1, by omega⟩
  rfl
theorem lof2 (a b : Rat) : lofN (sel2 a b) 1 = mn a b := rfl
theorem hif2 (a b : Rat) : hifN (sel2 a b) 1 = mx a b := rfl
theorem lof4 (a b c d : Rat) : lofN (sel4 a b c d) 3 = lo4 a b c d := rfl
theorem hif4 (a b c d : Rat) : hifN (sel4 a b c d) 3 = hi4 a b c d := rfl

theorem row_new2 {w : World} {k : Nat} {a b : Rat} {s0a : Bool} {p0a : Option Addr} {n0a c0a : Nat} {s0b : Bool} {p0b : Option Addr} {n0b c0b : Nat} {s1a : Bool} {p1a : Option Addr} {n1a c1a : Nat} {s1b : Bool} {p1b : Option Addr} {n1b c1b : Nat} (h0 : Rtl w (.agg #[.bool s0a, .slice p0a n0a c0a, .bool s0b, .slice p0b n0b c0b]) a k) (h1 : Rtl w (.agg #[.bool s1a, .slice p1a n1a c1a, .bool s1b, .slice p1b n1b c1b]) b k) : Nrw (w.alloc (.cells #[.bool s0a, .slice p0a n0a c0a, .bool s0b, .slice p0b n0b c0b, .bool s1a, .slice p1a n1a c1a, .bool s1b, .slice p1b n1b c1b] 40)) w.heap.size 2 (sel2 a b) k := by
  have hb := (Below.refl w.heap.size w).alloc (Nat.le_refl _) (.cells #[.bool s0a, .slice p0a n0a c0a, .bool s0b, .slice p0b n0b c0b, .bool s1a, .slice p1a n1a c1a, .bool s1b, .slice p1b n1b c1b] 40)
  refine ⟨[((s0a, p0a, n0a, c0a), (s0b, p0b, n0b, c0b)), ((s1a, p1a, n1a, c1a), (s1b, p1b, n1b, c1b))], 40, (0, 0), ?_, rfl, fun i hi => ?_⟩
  · show (w.heap.push _)[w.heap.size]? = _
    simp [fln, ncs, zcs]
  · rcases i with _ | _ | i
    · exact h0.on hb
    · exact h1.on hb
    · omega

theorem row_new4 {w : World} {k : Nat} {a b c d : Rat} {s0a : Bool} {p0a : Option Addr} {n0a c0a : Nat} {s0b : Bool} {p0b : Option Addr} {n0b c0b : Nat} {s1a : Bool} {p1a : Option Addr} {n1a c1a : Nat} {s1b : Bool} {p1b : Option Addr} {n1b c1b : Nat} {s2a : Bool} {p2a : Option Addr} {n2a c2a : Nat} {s2b : Bool} {p2b : Option Addr} {n2b c2b : Nat} {s3a : Bool} {p3a : Option Addr} {n3a c3a : Nat} {s3b : Bool} {p3b : Option Addr} {n3b c3b : Nat} (h0 : Rtl w (.agg #[.bool s0a, .slice p0a n0a c0a, .bool s0b, .slice p0b n0b c0b]) a k) (h1 : Rtl w (.agg #[.bool s1a, .slice p1a n1a c1a, .bool s1b, .slice p1b n1b c1b]) b k) (h2 : Rtl w (.agg #[.bool s2a, .slice p2a n2a c2a, .bool s2b, .slice p2b n2b c2b]) c k) (h3 : Rtl w (.agg #[.bool s3a, .slice p3a n3a c3a, .bool s3b, .slice p3b n3b c3b]) d k) : Nrw (w.alloc (.cells #[.bool s0a, .slice p0a n0a c0a, .bool s0b, .slice p0b n0b c0b, .bool s1a, .slice p1a n1a c1a, .bool s1b, .slice p1b n1b c1b, .bool s2a, .slice p2a n2a c2a, .bool s2b, .slice p2b n2b c2b, .bool s3a, .slice p3a n3a c3a, .bool s3b, .slice p3b n3b c3b] 40)) w.heap.size 4 (sel4 a b c d) k := by
  have hb := (Below.refl w.heap.size w).alloc (Nat.le_refl _) (.cells #[.bool s0a, .slice p0a n0a c0a, .bool s0b, .slice p0b n0b c0b, .bool s1a, .slice p1a n1a c1a, .bool s1b, .slice p1b n1b c1b, .bool s2a, .slice p2a n2a c2a, .bool s2b, .slice p2b n2b c2b, .bool s3a, .slice p3a n3a c3a, .bool s3b, .slice p3b n3b c3b] 40)
  refine ⟨[((s0a, p0a, n0a, c0a), (s0b, p0b, n0b, c0b)), ((s1a, p1a, n1a, c1a), (s1b, p1b, n1b, c1b)), ((s2a, p2a, n2a, c2a), (s2b, p2b, n2b, c2b)), ((s3a, p3a, n3a, c3a), (s3b, p3b, n3b, c3b))], 40, (0, 0), ?_, rfl, fun i hi => ?_⟩
  · show (w.heap.push _)[w.heap.size]? = _
    simp [fln, ncs, zcs]
  · rcases i with _ | _ | _ | _ | i
    · exact h0.on hb
    · exact h1.on hb
    · exact h2.on hb
    · exact h3.on hb
    · omega

end Go.Proofs.Ytkdeopikojgboaa

/-
  PACKAGE ival: texts.
-/
namespace Go.Proofs.Ytkdeopikojgboaa
open Go.RowKit
open Num
set_option linter.unusedVariables false
set_option maxRecDepth 100000
set_option linter.unusedSimpArgs false

set_option maxHeartbeats 4000000 in
theorem texts_ivl {w : World} {v : Value} {p q : Rat} {k : Nat} (h : Ivl w v p q k) (hk : k ≤ 4294967296) :
    Calls Try.prog 29 #[v] w fun e w' => e = .returned (.agg #[.string (qtxt p), .string (qtxt q)]) ∧ Below w.heap.size w w' := by
  have HK := hid hk
  obtain ⟨s1a, p1a, n1a, c1a, s1b, p1b, n1b, c1b, s1c, p1c, n1c, c1c, s1d, p1d, n1d, c1d, rfl⟩ := h.opened
  obtain ⟨hl1, hh1⟩ := h.two
  obtain ⟨ht1l, d1l, hu1l, hd1l⟩ := hl1.two
  have HD1l := hid hd1l
  obtain ⟨ht1h, d1h, hu1h, hd1h⟩ := hh1.two
  have HD1h := hid hd1h
  have B := hid (Below.refl w.heap.size w)
  have HT1l := hid ht1l
  have HU1l := hid hu1l
  have HT1h := hid ht1h
  have HU1h := hid hu1h
  have hb1 := (Below.refl _ _).alloc (Nat.le_refl w.heap.size) (.cells #[.bool s1a, .slice p1a n1a c1a, .bool s1b, .slice p1b n1b c1b, .bool s1c, .slice p1c n1c c1c, .bool s1d, .slice p1d n1d c1d] 42)
  have hx2 := Ibx.new w s1a p1a n1a c1a s1b p1b n1b c1b s1c p1c n1c c1c s1d p1d n1d c1d
  replace HT1l := wl HT1l hb1
  replace HU1l := wl HU1l hb1
  replace HT1h := wl HT1h hb1
  replace HU1h := wl HU1h hb1
  replace B := bb B hb1
  have X1 := hid hx2
  have hs3 : (w.alloc (.cells #[.bool s1a, .slice p1a n1a c1a, .bool s1b, .slice p1b n1b c1b, .bool s1c, .slice p1c n1c c1c, .bool s1d, .slice p1d n1d c1d] 42)).heap.size = w.heap.size + 1 := by simp
  clear hb1 hx2
  have hb4 := (Below.refl _ _).alloc (Nat.le_refl (w.alloc (.cells #[.bool s1a, .slice p1a n1a c1a, .bool s1b, .slice p1b n1b c1b, .bool s1c, .slice p1c n1c c1c, .bool s1d, .slice p1d n1d c1d] 42)).heap.size) (.cells #[.string ⟨#[]⟩, .string ⟨#[]⟩] 23)
  have hx5 := Vbx.new (w.alloc (.cells #[.bool s1a, .slice p1a n1a c1a, .bool s1b, .slice p1b n1b c1b, .bool s1c, .slice p1c n1c c1c, .bool s1d, .slice p1d n1d c1d] 42)) ⟨#[]⟩ ⟨#[]⟩
  rw [hs3] at hx5
  replace X1 := ix X1 hb4
  replace HT1l := wl HT1l hb4
  replace HU1l := wl HU1l hb4
  replace HT1h := wl HT1h hb4
  replace HU1h := wl HU1h hb4
  replace B := bb B hb4
  have XV := hid hx5
  have hs6 : ((w.alloc (.cells #[.bool s1a, .slice p1a n1a c1a, .bool s1b, .slice p1b n1b c1b, .bool s1c, .slice p1c n1c c1c, .bool s1d, .slice p1d n1d c1d] 42)).alloc (.cells #[.string ⟨#[]⟩, .string ⟨#[]⟩] 23)).heap.size = w.heap.size + 1 + 1 := by simp [hs3]
  clear hb4 hx5
  clear hs6 hk h hl1 hh1 ht1l hu1l hd1l ht1h hu1h hd1h
  go_enter Try.func29, Try.ntmps29
  obtain ⟨cc7a, cc7b, cc7c, cc7d, cc7e, cc7f, cc7g, cc7h⟩ := X1.out.cells
  obtain ⟨cc8a, cc8b⟩ := XV.out.both
  go_wp2_with fail
  generalize hW : (w.alloc (.cells #[.bool s1a, .slice p1a n1a c1a, .bool s1b, .slice p1b n1b c1b, .bool s1c, .slice p1c n1c c1c, .bool s1d, .slice p1d n1d c1d] 42)).alloc (.cells #[.string ⟨#[]⟩, .string ⟨#[]⟩] 23) = W9 at *
  clear hW
  obtain ⟨cc10a, cc10b, cc10c, cc10d, cc10e, cc10f, cc10g, cc10h⟩ := X1.out.cells
  replace X1 := hid X1.out.dr
  replace XV := hid XV.out.dr
  replace HT1l := hid HT1l.out.drew
  replace HU1l := hid HU1l.out.drew
  replace HT1h := hid HT1h.out.drew
  replace HU1h := hid HU1h.out.drew
  replace B := hid (Below.drew B.out)
  obtain ⟨cc11a, cc11b, cc11c, cc11d, cc11e, cc11f, cc11g, cc11h⟩ := X1.out.cells
  go_region_held3 (fun w' => w'.cell? ⟨w.heap.size, 0, none⟩ = some (.bool s1a) ∧ w'.cell? ⟨w.heap.size, 1, none⟩ = some (.slice p1a n1a c1a) ∧ w'.cell? ⟨w.heap.size, 2, none⟩ = some (.bool s1b) ∧ w'.cell? ⟨w.heap.size, 3, none⟩ = some (.slice p1b n1b c1b) ∧ w'.cell? ⟨w.heap.size, 4, none⟩ = some (.bool s1c) ∧ w'.cell? ⟨w.heap.size, 5, none⟩ = some (.slice p1c n1c c1c) ∧ w'.cell? ⟨w.heap.size, 6, none⟩ = some (.bool s1d) ∧ w'.cell? ⟨w.heap.size, 7, none⟩ = some (.slice p1d n1d c1d)) (go_keep) (first
    | (have hm := mk12_0; clear hm; go_at_call 21; refine (qstring (Rtl.mk2 HT1h.out HU1h.out HD1h.out) HK.out).mono ?_; rintro e w15 ⟨rfl, hb⟩; replace X1 := ix X1 hb; replace XV := vx XV hb; replace HT1l := wl HT1l hb; replace HU1l := wl HU1l hb; replace HT1h := wl HT1h hb; replace HU1h := wl HU1h hb; replace B := bb B hb; clear cc14a cc14b cc14c cc14d cc14e cc14f cc14g cc14h; clear hb ; obtain ⟨cc16a, cc16b, cc16c, cc16d, cc16e, cc16f, cc16g, cc16h⟩ := X1.out.cells; obtain ⟨cc17a, cc17b, cc17c, cc17d⟩ := XV.out.stores; obtain ⟨r18a, r18b, r18c⟩ := XV.out.last B.out (by omega) (qtxt p) (qtxt q); replace X1 := hid ((X1.out.other (g2 := w.heap.size + 1) (by omega) 0 (.string (qtxt p))).other (g2 := w.heap.size + 1) (by omega) 1 (.string (qtxt q))); replace HT1l := hid (r18c HT1l.out); replace HU1l := hid (r18c HU1l.out); replace HT1h := hid (r18c HT1h.out); replace HU1h := hid (r18c HU1h.out); replace XV := hid r18a; replace B := hid r18b; clear r18a r18b r18c; obtain ⟨cc19a, cc19b, cc19c, cc19d, cc19e, cc19f, cc19g, cc19h⟩ := X1.out.cells; have mk12_1 := hid True.intro)
    | (go_at_call 21; refine (qstring (Rtl.mk2 HT1l.out HU1l.out HD1l.out) HK.out).mono ?_; rintro e w13 ⟨rfl, hb⟩; replace X1 := ix X1 hb; replace XV := vx XV hb; replace HT1l := wl HT1l hb; replace HU1l := wl HU1l hb; replace HT1h := wl HT1h hb; replace HU1h := wl HU1h hb; replace B := bb B hb; clear cc7a cc7b cc7c cc7d cc7e cc7f cc7g cc7h cc8a cc8b cc10a cc10b cc10c cc10d cc10e cc10f cc10g cc10h cc11a cc11b cc11c cc11d cc11e cc11f cc11g cc11h; clear hb ; obtain ⟨cc14a, cc14b, cc14c, cc14d, cc14e, cc14f, cc14g, cc14h⟩ := X1.out.cells; have mk12_0 := hid True.intro))
  go_wp2_with fail
  refine bodyPost_ret (res_ival rfl rfl XV.out) rfl ?_
  exact ⟨rfl, B.out⟩

end Go.Proofs.Ytkdeopikojgboaa

/-
  PACKAGE cf: readQuotients.
-/
namespace Go.Proofs.Ytkdeopikojgboaa
open Go.RowKit
open Num
set_option linter.unusedVariables false
set_option maxRecDepth 100000
set_option linter.unusedSimpArgs false

/-- All may be handed in. -/
def AllZ (ss : List ByteArray) : Prop := ∀ i, i < ss.length → GoodZ (tx ss i)
/-- What a list of numbers is told. -/
def ReadQ (w : World) (ss : List ByteArray) (e : Ending) (w' : World) : Prop :=
  ((∃ k i, i < ss.length ∧ (∀ j, j < i → GoodZ (tx ss j)) ∧ BadZ (tx ss i) k ∧ e = .returned (.tuple #[.slice none 0 0, errno k])) ∨
   (AllZ ss ∧ ss.length = 0 ∧ e = .returned (.tuple #[.slice none 0 0, errno 3])) ∨
   (AllZ ss ∧ 30 < ss.length ∧ e = .returned (.tuple #[.slice none 0 0, errno 4])) ∨
   (AllZ ss ∧ 1 ≤ ss.length ∧ ss.length ≤ 30 ∧ (∃ i, 1 ≤ i ∧ i < ss.length ∧ znum (tx ss i) ≤ 0) ∧ e = .returned (.tuple #[.slice none 0 0, errno 2])) ∨
   (AllZ ss ∧ 1 ≤ ss.length ∧ ss.length ≤ 30 ∧ (∀ i, 1 ≤ i → i < ss.length → 1 ≤ znum (tx ss i)) ∧
     ∃ b vs, e = .returned (.tuple #[.slice (some ⟨b, 0, none⟩) ss.length ss.length, .nilIface]) ∧ w.heap.size ≤ b ∧ Zrow w' b vs ∧ vs.length = ss.length ∧ ∀ i, i < ss.length → Whl w' (zag (zat vs i)) (znum (tx ss i)) 100)) ∧
  Below w.heap.size w w'

end Go.Proofs.Ytkdeopikojgboaa
