import Derived.Test.YtjeeepcnaaadmaaGreatDoorBunProofDecTells16
import Derived.Test.YtjeeepcnaaadmaaGreatDoorBunProofDecTells15
import Derived.Deep.RegionHeld3
import Derived.Test.YtjeeepcnaaadmaaGreatDoorBunProofDecTells1
import Derived.Test.YtjeeepcnaaadmaaGreatDoorBunProofDecTells14
/-
  PACKAGE rat: Parse.
-/
namespace Go.Proofs.YtjeeepcnaaadmaaGreatDoor
open Go.RowKit
open Num
set_option linter.unusedVariables false
set_option maxRecDepth 100000
set_option linter.unusedSimpArgs false

/-- A fraction that may be handed in. -/
def GoodQ (s : ByteArray) : Prop := s.size ≤ 100 ∧ isRat s.data.toList = true
/-- What is wrong with a text. -/
def BadQ (s : ByteArray) (k : Int) : Prop := (100 < s.size ∧ k = 4) ∨ (s.size ≤ 100 ∧ isRat s.data.toList = false ∧ k = 1)
theorem goodQ_or_bad (s : ByteArray) : GoodQ s ∨ ∃ k, BadQ s k := by
  by_cases h : s.size ≤ 100
  · cases hn : isRat s.data.toList with
    | true => exact .inl ⟨h, hn⟩
    | false => exact .inr ⟨1, .inr ⟨h, hn, rfl⟩⟩
  · exact .inr ⟨4, .inl ⟨by omega, rfl⟩⟩
/-- The fraction of a text. -/
def qnum (s : ByteArray) : Rat := ratOf s.data.toList
/-- The error of two texts. -/
def WrongQ (a b : ByteArray) (k : Int) : Prop := BadQ a k ∨ (GoodQ a ∧ BadQ b k)
theorem rightQ_or_wrong (a b : ByteArray) : (GoodQ a ∧ GoodQ b) ∨ ∃ k, WrongQ a b k := by
  rcases goodQ_or_bad a with ha | ⟨k, ha⟩
  · rcases goodQ_or_bad b with hb | ⟨k, hb⟩
    · exact .inl ⟨ha, hb⟩
    · exact .inr ⟨k, .inr ⟨ha, hb⟩⟩
  · exact .inr ⟨k, .inl ha⟩
theorem divInt_coprime {n d : Int} (hd : 1 < d) (hg : Int.gcd n d = 1) : (Rat.divInt n d).num = n ∧ ((Rat.divInt n d).den : Int) = d := by
  have h := divInt_parts n d (by omega)
  rw [if_neg (by omega), hg] at h
  simpa using h
theorem res_nn_tmp {fn : Func} {t t' t'' : Tmp} {tmps : Array Value} {w : World} {g g' : Nat} {s s' a a' : Bool} {sv sv' av av' u : Value} (hf : fn.results = #[.cell t 83, .cell t' 83, .tmp t'']) (ht : tmps.getD t undef = .pointer (some ⟨g, 0, none⟩)) (ht' : tmps.getD t' undef = .pointer (some ⟨g', 0, none⟩)) (hu : tmps.getD t'' undef = u) (h2 : Nbx w g s sv s' sv') (h2' : Nbx w g' a av a' av') :
    (results fn tmps).run Tryz.prog w = .ok (.tuple #[.agg #[.bool s, sv, .bool s', sv'], .agg #[.bool a, av, .bool a', av'], u]) w := by
  have h1 := at_addr (P := Tryz.prog) (w := w) ht
  have h1' := at_addr (P := Tryz.prog) (w := w) ht'
  have h3 := load_num h2
  have h3' := load_num h2'
  simp only [Array.getD_eq_getD_getElem?] at h1 h1' hu
  simp [results, hf, Sem.run_bind, h1, h3, h1', h3', hu]

set_option maxHeartbeats 2000000 in
theorem qparseA (s : ByteArray) (w : World) (hs : s.size ≤ 68719476736) (hA : isWhl (cutB s.data.toList) = false) :
    Calls Tryz.prog 86 #[.string s] w fun e w' => e = .returned (.tuple #[.agg #[.bool false, .slice none 0 0, .bool false, .slice none 0 0], errno 1]) ∧ Below w.heap.size w w' := by
  have HA := hid hA
  have HS := hid hs
  have B := hid (Below.refl w.heap.size w)
  have hb1 := (Below.refl _ _).alloc (Nat.le_refl w.heap.size) (.cells #[.bool false, .slice none 0 0, .bool false, .slice none 0 0] 83)
  have hx2 := Nbx.new w false false (.slice none 0 0) (.slice none 0 0)
  replace B := bb B hb1
  have XQ := hid hx2
  have hs3 : (w.alloc (.cells #[.bool false, .slice none 0 0, .bool false, .slice none 0 0] 83)).heap.size = w.heap.size + 1 := by simp
  clear hb1 hx2
  clear hs3 hs hA
  go_enter Tryz.func86, Tryz.ntmps86
  obtain ⟨cc4a, cc4b, cc4c, cc4d⟩ := XQ.out.cells
  go_wp2_with fail
  generalize hW : w.alloc (.cells #[.bool false, .slice none 0 0, .bool false, .slice none 0 0] 83) = W5 at *
  clear hW
  have HC := cut_slash s W5 (by have := HS.out; unfold maxLen; omega)
  refine (HC).mono ?_
  rintro e w6 ⟨a, b, rfl, ha, hbb, hsa, hsb, hb⟩
  have HAL := hid ha
  have HBL := hid hbb
  have HSA := hid hsa
  have HSB := hid hsb
  replace XQ := nx XQ hb
  replace B := bb B hb
  clear cc4a cc4b cc4c cc4d
  clear hb HC ha hbb hsa hsb
  obtain ⟨cc7a, cc7b, cc7c, cc7d⟩ := XQ.out.cells
  generalize hasSl s.data.toList = sl at *
  go_wp2_with fail
  refine (zparse_no a _ (by have := HS.out; have := HSA.out; omega) (by rw [HAL.out]; exact HA.out)).mono ?_
  rintro e w8 ⟨rfl, hb⟩
  replace XQ := nx XQ hb
  replace B := bb B hb
  clear cc7a cc7b cc7c cc7d
  clear hb 
  have hb9 := (Below.refl _ _).alloc (Nat.le_refl w8.heap.size) (.cells #[.bool false, .slice none 0 0] 81)
  have hx10 := Box.new w8 false none 0 0
  have L0 := hid XQ.out.lt
  replace XQ := nx XQ hb9
  replace B := bb B hb9
  have X7 := hid hx10
  have hs11 : (w8.alloc (.cells #[.bool false, .slice none 0 0] 81)).heap.size = w8.heap.size + 1 := by simp
  clear hb9 hx10
  obtain ⟨cc12a, cc12b, cc12c, cc12d⟩ := XQ.out.cells
  obtain ⟨cc13a, cc13b⟩ := X7.out.both
  obtain ⟨⟨cc14a, cc14b⟩, ⟨cc14c, cc14d⟩, ⟨cc14e, cc14f⟩, cc14g, cc14h⟩ := XQ.out.stores
  obtain ⟨r15a, r15b, r15c⟩ := XQ.out.last B.out (by have := L0.out; omega) false false none none 0 0 0 0
  replace X7 := hid ((((X7.out.other (g2 := w.heap.size) (by have := L0.out; omega) 0 (.bool false)).other (g2 := w.heap.size) (by have := L0.out; omega) 1 (.slice none 0 0)).other (g2 := w.heap.size) (by have := L0.out; omega) 2 (.bool false)).other (g2 := w.heap.size) (by have := L0.out; omega) 3 (.slice none 0 0))
  replace XQ := hid r15a
  replace B := hid r15b
  clear r15a r15b r15c
  go_wp2_with fail
  refine bodyPost_ret (res_num_tmp rfl rfl rfl XQ.out) rfl ?_
  exact ⟨rfl, B.out⟩

set_option maxHeartbeats 2000000 in
theorem qparseB (s : ByteArray) (w : World) (hs : s.size ≤ 68719476736) (hsl : hasSl s.data.toList = false) (hA : isWhl (cutB s.data.toList) = true) :
    Calls Tryz.prog 86 #[.string s] w fun e w' => ∃ v, e = .returned (.tuple #[v, .nilIface]) ∧ Rtl w' v (ratOf s.data.toList) s.size ∧ Below w.heap.size w w' := by
  have HSL := hid hsl
  have HA := hid hA
  have HS := hid hs
  have B := hid (Below.refl w.heap.size w)
  have hb1 := (Below.refl _ _).alloc (Nat.le_refl w.heap.size) (.cells #[.bool false, .slice none 0 0, .bool false, .slice none 0 0] 83)
  have hx2 := Nbx.new w false false (.slice none 0 0) (.slice none 0 0)
  replace B := bb B hb1
  have XQ := hid hx2
  have hs3 : (w.alloc (.cells #[.bool false, .slice none 0 0, .bool false, .slice none 0 0] 83)).heap.size = w.heap.size + 1 := by simp
  clear hb1 hx2
  clear hs3 hs hsl hA
  go_enter Tryz.func86, Tryz.ntmps86
  obtain ⟨cc4a, cc4b, cc4c, cc4d⟩ := XQ.out.cells
  go_wp2_with fail
  generalize hW : w.alloc (.cells #[.bool false, .slice none 0 0, .bool false, .slice none 0 0] 83) = W5 at *
  clear hW
  have HC := cut_slash s W5 (by have := HS.out; unfold maxLen; omega)
  rw [HSL.out] at HC
  refine (HC).mono ?_
  rintro e w6 ⟨a, b, rfl, ha, hbb, hsa, hsb, hb⟩
  have HAL := hid ha
  have HBL := hid hbb
  have HSA := hid hsa
  have HSB := hid hsb
  replace XQ := nx XQ hb
  replace B := bb B hb
  clear cc4a cc4b cc4c cc4d
  clear hb HC ha hbb hsa hsb
  obtain ⟨cc7a, cc7b, cc7c, cc7d⟩ := XQ.out.cells
  go_wp2_with fail
  refine (zparse_yes a _ (by have := HS.out; have := HSA.out; omega) (by rw [HAL.out]; exact HA.out)).mono ?_
  rintro e w8 ⟨v, rfl, hv, hb⟩
  rw [HAL.out] at hv
  replace hv := hv.mono HSA.out
  obtain ⟨s5, p5, n5, c5, rfl⟩ := hv.opened
  replace XQ := nx XQ hb
  replace B := bb B hb
  clear cc7a cc7b cc7c cc7d
  have HT := hid hv
  clear hb hv
  have hb9 := (Below.refl _ _).alloc (Nat.le_refl w8.heap.size) (.cells #[.bool s5, .slice p5 n5 c5] 81)
  have hx10 := Box.new w8 s5 p5 n5 c5
  have L0 := hid XQ.out.lt
  replace XQ := nx XQ hb9
  replace HT := wl HT hb9
  replace B := bb B hb9
  have X7 := hid hx10
  have hs11 : (w8.alloc (.cells #[.bool s5, .slice p5 n5 c5] 81)).heap.size = w8.heap.size + 1 := by simp
  clear hb9 hx10
  obtain ⟨cc12a, cc12b, cc12c, cc12d⟩ := XQ.out.cells
  obtain ⟨cc13a, cc13b⟩ := X7.out.both
  obtain ⟨⟨cc14a, cc14b⟩, ⟨cc14c, cc14d⟩, ⟨cc14e, cc14f⟩, cc14g, cc14h⟩ := XQ.out.stores
  obtain ⟨r15a, r15b, r15c⟩ := XQ.out.last B.out (by have := L0.out; omega) s5 false p5 none n5 0 c5 0
  replace X7 := hid ((((X7.out.other (g2 := w.heap.size) (by have := L0.out; omega) 0 (.bool s5)).other (g2 := w.heap.size) (by have := L0.out; omega) 1 (.slice p5 n5 c5)).other (g2 := w.heap.size) (by have := L0.out; omega) 2 (.bool false)).other (g2 := w.heap.size) (by have := L0.out; omega) 3 (.slice none 0 0))
  replace HT := hid (r15c HT.out)
  replace XQ := hid r15a
  replace B := hid r15b
  clear r15a r15b r15c
  go_wp2_with fail
  refine bodyPost_ret (res_num_tmp rfl rfl rfl XQ.out) rfl ?_
  refine ⟨_, rfl, Rtl.mk2 (d := 0) ?_ (Whl.nil _ _) (.inr ⟨rfl, ?_⟩), B.out⟩
  · rw [ratOf, if_neg (by rw [HSL.out]; decide), Rat.num_intCast]
    have h := HT.out
    have e : cutB s.data.toList = s.data.toList := by rcases index_cut s.data.toList with ⟨_, _, e⟩ | ⟨e, _⟩; exact e; rw [HSL.out] at e; exact absurd e (by decide)
    rw [e] at h; exact h
  · rw [ratOf, if_neg (by rw [HSL.out]; decide), Rat.den_intCast]

set_option maxHeartbeats 2000000 in
theorem qparseC (s : ByteArray) (w : World) (hs : s.size ≤ 68719476736) (hsl : hasSl s.data.toList = true) (hA : isWhl (cutB s.data.toList) = true) (hB : isWhl (cutA s.data.toList) = false) :
    Calls Tryz.prog 86 #[.string s] w fun e w' => e = .returned (.tuple #[.agg #[.bool false, .slice none 0 0, .bool false, .slice none 0 0], errno 1]) ∧ Below w.heap.size w w' := by
  have HSL := hid hsl
  have HA := hid hA
  have HB := hid hB
  have HS := hid hs
  have B := hid (Below.refl w.heap.size w)
  have hb1 := (Below.refl _ _).alloc (Nat.le_refl w.heap.size) (.cells #[.bool false, .slice none 0 0, .bool false, .slice none 0 0] 83)
  have hx2 := Nbx.new w false false (.slice none 0 0) (.slice none 0 0)
  replace B := bb B hb1
  have XQ := hid hx2
  have hs3 : (w.alloc (.cells #[.bool false, .slice none 0 0, .bool false, .slice none 0 0] 83)).heap.size = w.heap.size + 1 := by simp
  clear hb1 hx2
  clear hs3 hs hsl hA hB
  go_enter Tryz.func86, Tryz.ntmps86
  obtain ⟨cc4a, cc4b, cc4c, cc4d⟩ := XQ.out.cells
  go_wp2_with fail
  generalize hW : w.alloc (.cells #[.bool false, .slice none 0 0, .bool false, .slice none 0 0] 83) = W5 at *
  clear hW
  have HC := cut_slash s W5 (by have := HS.out; unfold maxLen; omega)
  rw [HSL.out] at HC
  refine (HC).mono ?_
  rintro e w6 ⟨a, b, rfl, ha, hbb, hsa, hsb, hb⟩
  have HAL := hid ha
  have HBL := hid hbb
  have HSA := hid hsa
  have HSB := hid hsb
  replace XQ := nx XQ hb
  replace B := bb B hb
  clear cc4a cc4b cc4c cc4d
  clear hb HC ha hbb hsa hsb
  obtain ⟨cc7a, cc7b, cc7c, cc7d⟩ := XQ.out.cells
  go_wp2_with fail
  refine (zparse_yes a _ (by have := HS.out; have := HSA.out; omega) (by rw [HAL.out]; exact HA.out)).mono ?_
  rintro e w8 ⟨v, rfl, hv, hb⟩
  rw [HAL.out] at hv
  replace hv := hv.mono HSA.out
  obtain ⟨s5, p5, n5, c5, rfl⟩ := hv.opened
  replace XQ := nx XQ hb
  replace B := bb B hb
  clear cc7a cc7b cc7c cc7d
  have HT := hid hv
  clear hb hv
  have hb9 := (Below.refl _ _).alloc (Nat.le_refl w8.heap.size) (.cells #[.bool s5, .slice p5 n5 c5] 81)
  have hx10 := Box.new w8 s5 p5 n5 c5
  have L0 := hid XQ.out.lt
  replace XQ := nx XQ hb9
  replace HT := wl HT hb9
  replace B := bb B hb9
  have X7 := hid hx10
  have hs11 : (w8.alloc (.cells #[.bool s5, .slice p5 n5 c5] 81)).heap.size = w8.heap.size + 1 := by simp
  clear hb9 hx10
  obtain ⟨cc12a, cc12b, cc12c, cc12d⟩ := XQ.out.cells
  obtain ⟨cc13a, cc13b⟩ := X7.out.both
  go_wp2_with fail
  generalize hW : w8.alloc (.cells #[.bool s5, .slice p5 n5 c5] 81) = W14 at *
  clear hW
  have HBL := hid (HBL.out (by first | rfl | trivial))
  refine (zparse_no b _ (by have := HS.out; have := HSB.out; omega) (by rw [HBL.out]; exact HB.out)).mono ?_
  rintro e w15 ⟨rfl, hb⟩
  replace XQ := nx XQ hb
  replace X7 := bx X7 hb
  replace HT := wl HT hb
  replace B := bb B hb
  clear cc12a cc12b cc12c cc12d cc13a cc13b
  clear hb 
  have hb16 := (Below.refl _ _).alloc (Nat.le_refl w15.heap.size) (.cells #[.bool false, .slice none 0 0] 81)
  have hx17 := Box.new w15 false none 0 0
  have L1 := hid X7.out.lt
  replace XQ := nx XQ hb16
  replace X7 := bx X7 hb16
  replace HT := wl HT hb16
  replace B := bb B hb16
  have X9 := hid hx17
  have hs18 : (w15.alloc (.cells #[.bool false, .slice none 0 0] 81)).heap.size = w15.heap.size + 1 := by simp
  clear hb16 hx17
  obtain ⟨cc19a, cc19b, cc19c, cc19d⟩ := XQ.out.cells
  obtain ⟨cc20a, cc20b⟩ := X7.out.both
  obtain ⟨cc21a, cc21b⟩ := X9.out.both
  obtain ⟨⟨cc22a, cc22b⟩, ⟨cc22c, cc22d⟩, ⟨cc22e, cc22f⟩, cc22g, cc22h⟩ := XQ.out.stores
  obtain ⟨r23a, r23b, r23c⟩ := XQ.out.last B.out (by have := L0.out; have := L1.out; omega) false false none none 0 0 0 0
  replace X7 := hid ((((X7.out.other (g2 := w.heap.size) (by have := L0.out; have := L1.out; omega) 0 (.bool false)).other (g2 := w.heap.size) (by have := L0.out; have := L1.out; omega) 1 (.slice none 0 0)).other (g2 := w.heap.size) (by have := L0.out; have := L1.out; omega) 2 (.bool false)).other (g2 := w.heap.size) (by have := L0.out; have := L1.out; omega) 3 (.slice none 0 0))
  replace X9 := hid ((((X9.out.other (g2 := w.heap.size) (by have := L0.out; have := L1.out; omega) 0 (.bool false)).other (g2 := w.heap.size) (by have := L0.out; have := L1.out; omega) 1 (.slice none 0 0)).other (g2 := w.heap.size) (by have := L0.out; have := L1.out; omega) 2 (.bool false)).other (g2 := w.heap.size) (by have := L0.out; have := L1.out; omega) 3 (.slice none 0 0))
  replace HT := hid (r23c HT.out)
  replace XQ := hid r23a
  replace B := hid r23b
  clear r23a r23b r23c
  go_wp2_with fail
  refine bodyPost_ret (res_num_tmp rfl rfl rfl XQ.out) rfl ?_
  exact ⟨rfl, B.out⟩

set_option maxHeartbeats 2000000 in
theorem qparseD (s : ByteArray) (w : World) (hs : s.size ≤ 68719476736) (hsl : hasSl s.data.toList = true) (hA : isWhl (cutB s.data.toList) = true) (hB : isWhl (cutA s.data.toList) = true) (hD : ¬ 1 < whlOf (cutA s.data.toList)) :
    Calls Tryz.prog 86 #[.string s] w fun e w' => e = .returned (.tuple #[.agg #[.bool false, .slice none 0 0, .bool false, .slice none 0 0], errno 1]) ∧ Below w.heap.size w w' := by
  have HSL := hid hsl
  have HA := hid hA
  have HB := hid hB
  have HD := hid hD
  have HS := hid hs
  have B := hid (Below.refl w.heap.size w)
  have hb1 := (Below.refl _ _).alloc (Nat.le_refl w.heap.size) (.cells #[.bool false, .slice none 0 0, .bool false, .slice none 0 0] 83)
  have hx2 := Nbx.new w false false (.slice none 0 0) (.slice none 0 0)
  replace B := bb B hb1
  have XQ := hid hx2
  have hs3 : (w.alloc (.cells #[.bool false, .slice none 0 0, .bool false, .slice none 0 0] 83)).heap.size = w.heap.size + 1 := by simp
  clear hb1 hx2
  clear hs3 hs hsl hA hB hD
  go_enter Tryz.func86, Tryz.ntmps86
  obtain ⟨cc4a, cc4b, cc4c, cc4d⟩ := XQ.out.cells
  go_wp2_with fail
  generalize hW : w.alloc (.cells #[.bool false, .slice none 0 0, .bool false, .slice none 0 0] 83) = W5 at *
  clear hW
  have HC := cut_slash s W5 (by have := HS.out; unfold maxLen; omega)
  rw [HSL.out] at HC
  refine (HC).mono ?_
  rintro e w6 ⟨a, b, rfl, ha, hbb, hsa, hsb, hb⟩
  have HAL := hid ha
  have HBL := hid hbb
  have HSA := hid hsa
  have HSB := hid hsb
  replace XQ := nx XQ hb
  replace B := bb B hb
  clear cc4a cc4b cc4c cc4d
  clear hb HC ha hbb hsa hsb
  obtain ⟨cc7a, cc7b, cc7c, cc7d⟩ := XQ.out.cells
  go_wp2_with fail
  refine (zparse_yes a _ (by have := HS.out; have := HSA.out; omega) (by rw [HAL.out]; exact HA.out)).mono ?_
  rintro e w8 ⟨v, rfl, hv, hb⟩
  rw [HAL.out] at hv
  replace hv := hv.mono HSA.out
  obtain ⟨s5, p5, n5, c5, rfl⟩ := hv.opened
  replace XQ := nx XQ hb
  replace B := bb B hb
  clear cc7a cc7b cc7c cc7d
  have HT := hid hv
  clear hb hv
  have hb9 := (Below.refl _ _).alloc (Nat.le_refl w8.heap.size) (.cells #[.bool s5, .slice p5 n5 c5] 81)
  have hx10 := Box.new w8 s5 p5 n5 c5
  have L0 := hid XQ.out.lt
  replace XQ := nx XQ hb9
  replace HT := wl HT hb9
  replace B := bb B hb9
  have X7 := hid hx10
  have hs11 : (w8.alloc (.cells #[.bool s5, .slice p5 n5 c5] 81)).heap.size = w8.heap.size + 1 := by simp
  clear hb9 hx10
  obtain ⟨cc12a, cc12b, cc12c, cc12d⟩ := XQ.out.cells
  obtain ⟨cc13a, cc13b⟩ := X7.out.both
  go_wp2_with fail
  generalize hW : w8.alloc (.cells #[.bool s5, .slice p5 n5 c5] 81) = W14 at *
  clear hW
  have HBL := hid (HBL.out (by first | rfl | trivial))
  refine (zparse_yes b _ (by have := HS.out; have := HSB.out; omega) (by rw [HBL.out]; exact HB.out)).mono ?_
  rintro e w15 ⟨v, rfl, hv, hb⟩
  rw [HBL.out] at hv
  replace hv := hv.mono HSB.out
  obtain ⟨s6, p6, n6, c6, rfl⟩ := hv.opened
  replace XQ := nx XQ hb
  replace X7 := bx X7 hb
  replace HT := wl HT hb
  replace B := bb B hb
  clear cc12a cc12b cc12c cc12d cc13a cc13b
  have HU := hid hv
  clear hb hv
  have hb16 := (Below.refl _ _).alloc (Nat.le_refl w15.heap.size) (.cells #[.bool s6, .slice p6 n6 c6] 81)
  have hx17 := Box.new w15 s6 p6 n6 c6
  have L1 := hid X7.out.lt
  replace XQ := nx XQ hb16
  replace X7 := bx X7 hb16
  replace HT := wl HT hb16
  replace HU := wl HU hb16
  replace B := bb B hb16
  have X9 := hid hx17
  have hs18 : (w15.alloc (.cells #[.bool s6, .slice p6 n6 c6] 81)).heap.size = w15.heap.size + 1 := by simp
  clear hb16 hx17
  obtain ⟨cc19a, cc19b, cc19c, cc19d⟩ := XQ.out.cells
  obtain ⟨cc20a, cc20b⟩ := X7.out.both
  obtain ⟨cc21a, cc21b⟩ := X9.out.both
  go_wp2_with fail
  generalize hW : w15.alloc (.cells #[.bool s6, .slice p6 n6 c6] 81) = W22 at *
  clear hW
  have HM := more_whl HU.out (by have := HS.out; omega)
  rw [decide_eq_false (by have h := HD.out; omega)] at HM
  refine (HM).mono ?_
  rintro e w23 ⟨rfl, hb⟩
  replace XQ := nx XQ hb
  replace X7 := bx X7 hb
  replace X9 := bx X9 hb
  replace HT := wl HT hb
  replace HU := wl HU hb
  replace B := bb B hb
  clear cc19a cc19b cc19c cc19d cc20a cc20b cc21a cc21b
  clear hb HM
  obtain ⟨cc24a, cc24b, cc24c, cc24d⟩ := XQ.out.cells
  obtain ⟨cc25a, cc25b⟩ := X7.out.both
  obtain ⟨cc26a, cc26b⟩ := X9.out.both
  obtain ⟨⟨cc27a, cc27b⟩, ⟨cc27c, cc27d⟩, ⟨cc27e, cc27f⟩, cc27g, cc27h⟩ := XQ.out.stores
  obtain ⟨r28a, r28b, r28c⟩ := XQ.out.last B.out (by have := L0.out; have := L1.out; omega) false false none none 0 0 0 0
  replace X7 := hid ((((X7.out.other (g2 := w.heap.size) (by have := L0.out; have := L1.out; omega) 0 (.bool false)).other (g2 := w.heap.size) (by have := L0.out; have := L1.out; omega) 1 (.slice none 0 0)).other (g2 := w.heap.size) (by have := L0.out; have := L1.out; omega) 2 (.bool false)).other (g2 := w.heap.size) (by have := L0.out; have := L1.out; omega) 3 (.slice none 0 0))
  replace X9 := hid ((((X9.out.other (g2 := w.heap.size) (by have := L0.out; have := L1.out; omega) 0 (.bool false)).other (g2 := w.heap.size) (by have := L0.out; have := L1.out; omega) 1 (.slice none 0 0)).other (g2 := w.heap.size) (by have := L0.out; have := L1.out; omega) 2 (.bool false)).other (g2 := w.heap.size) (by have := L0.out; have := L1.out; omega) 3 (.slice none 0 0))
  replace HT := hid (r28c HT.out)
  replace HU := hid (r28c HU.out)
  replace XQ := hid r28a
  replace B := hid r28b
  clear r28a r28b r28c
  go_wp2_with fail
  refine bodyPost_ret (res_num_tmp rfl rfl rfl XQ.out) rfl ?_
  exact ⟨rfl, B.out⟩

set_option maxHeartbeats 2000000 in
theorem qparseE (s : ByteArray) (w : World) (hs : s.size ≤ 68719476736) (hsl : hasSl s.data.toList = true) (hA : isWhl (cutB s.data.toList) = true) (hB : isWhl (cutA s.data.toList) = true) (hD : 1 < whlOf (cutA s.data.toList)) (hG : ¬ Int.gcd (whlOf (cutB s.data.toList)) (whlOf (cutA s.data.toList)) = 1) :
    Calls Tryz.prog 86 #[.string s] w fun e w' => e = .returned (.tuple #[.agg #[.bool false, .slice none 0 0, .bool false, .slice none 0 0], errno 1]) ∧ Below w.heap.size w w' := by
  have HSL := hid hsl
  have HA := hid hA
  have HB := hid hB
  have HD := hid hD
  have HG := hid hG
  have HS := hid hs
  have B := hid (Below.refl w.heap.size w)
  have hb1 := (Below.refl _ _).alloc (Nat.le_refl w.heap.size) (.cells #[.bool false, .slice none 0 0, .bool false, .slice none 0 0] 83)
  have hx2 := Nbx.new w false false (.slice none 0 0) (.slice none 0 0)
  replace B := bb B hb1
  have XQ := hid hx2
  have hs3 : (w.alloc (.cells #[.bool false, .slice none 0 0, .bool false, .slice none 0 0] 83)).heap.size = w.heap.size + 1 := by simp
  clear hb1 hx2
  clear hs3 hs hsl hA hB hD hG
  go_enter Tryz.func86, Tryz.ntmps86
  obtain ⟨cc4a, cc4b, cc4c, cc4d⟩ := XQ.out.cells
  go_wp2_with fail
  generalize hW : w.alloc (.cells #[.bool false, .slice none 0 0, .bool false, .slice none 0 0] 83) = W5 at *
  clear hW
  have HC := cut_slash s W5 (by have := HS.out; unfold maxLen; omega)
  rw [HSL.out] at HC
  refine (HC).mono ?_
  rintro e w6 ⟨a, b, rfl, ha, hbb, hsa, hsb, hb⟩
  have HAL := hid ha
  have HBL := hid hbb
  have HSA := hid hsa
  have HSB := hid hsb
  replace XQ := nx XQ hb
  replace B := bb B hb
  clear cc4a cc4b cc4c cc4d
  clear hb HC ha hbb hsa hsb
  obtain ⟨cc7a, cc7b, cc7c, cc7d⟩ := XQ.out.cells
  go_wp2_with fail
  refine (zparse_yes a _ (by have := HS.out; have := HSA.out; omega) (by rw [HAL.out]; exact HA.out)).mono ?_
  rintro e w8 ⟨v, rfl, hv, hb⟩
  rw [HAL.out] at hv
  replace hv := hv.mono HSA.out
  obtain ⟨s5, p5, n5, c5, rfl⟩ := hv.opened
  replace XQ := nx XQ hb
  replace B := bb B hb
  clear cc7a cc7b cc7c cc7d
  have HT := hid hv
  clear hb hv
  have hb9 := (Below.refl _ _).alloc (Nat.le_refl w8.heap.size) (.cells #[.bool s5, .slice p5 n5 c5] 81)
  have hx10 := Box.new w8 s5 p5 n5 c5
  have L0 := hid XQ.out.lt
  replace XQ := nx XQ hb9
  replace HT := wl HT hb9
  replace B := bb B hb9
  have X7 := hid hx10
  have hs11 : (w8.alloc (.cells #[.bool s5, .slice p5 n5 c5] 81)).heap.size = w8.heap.size + 1 := by simp
  clear hb9 hx10
  obtain ⟨cc12a, cc12b, cc12c, cc12d⟩ := XQ.out.cells
  obtain ⟨cc13a, cc13b⟩ := X7.out.both
  go_wp2_with fail
  generalize hW : w8.alloc (.cells #[.bool s5, .slice p5 n5 c5] 81) = W14 at *
  clear hW
  have HBL := hid (HBL.out (by first | rfl | trivial))
  refine (zparse_yes b _ (by have := HS.out; have := HSB.out; omega) (by rw [HBL.out]; exact HB.out)).mono ?_
  rintro e w15 ⟨v, rfl, hv, hb⟩
  rw [HBL.out] at hv
  replace hv := hv.mono HSB.out
  obtain ⟨s6, p6, n6, c6, rfl⟩ := hv.opened
  replace XQ := nx XQ hb
  replace X7 := bx X7 hb
  replace HT := wl HT hb
  replace B := bb B hb
  clear cc12a cc12b cc12c cc12d cc13a cc13b
  have HU := hid hv
  clear hb hv
  have hb16 := (Below.refl _ _).alloc (Nat.le_refl w15.heap.size) (.cells #[.bool s6, .slice p6 n6 c6] 81)
  have hx17 := Box.new w15 s6 p6 n6 c6
  have L1 := hid X7.out.lt
  replace XQ := nx XQ hb16
  replace X7 := bx X7 hb16
  replace HT := wl HT hb16
  replace HU := wl HU hb16
  replace B := bb B hb16
  have X9 := hid hx17
  have hs18 : (w15.alloc (.cells #[.bool s6, .slice p6 n6 c6] 81)).heap.size = w15.heap.size + 1 := by simp
  clear hb16 hx17
  obtain ⟨cc19a, cc19b, cc19c, cc19d⟩ := XQ.out.cells
  obtain ⟨cc20a, cc20b⟩ := X7.out.both
  obtain ⟨cc21a, cc21b⟩ := X9.out.both
  go_wp2_with fail
  generalize hW : w15.alloc (.cells #[.bool s6, .slice p6 n6 c6] 81) = W22 at *
  clear hW
  have HM := more_whl HU.out (by have := HS.out; omega)
  rw [decide_eq_true (by have h := HD.out; omega)] at HM
  refine (HM).mono ?_
  rintro e w23 ⟨rfl, hb⟩
  replace XQ := nx XQ hb
  replace X7 := bx X7 hb
  replace X9 := bx X9 hb
  replace HT := wl HT hb
  replace HU := wl HU hb
  replace B := bb B hb
  clear cc19a cc19b cc19c cc19d cc20a cc20b cc21a cc21b
  clear hb HM
  obtain ⟨cc24a, cc24b, cc24c, cc24d⟩ := XQ.out.cells
  obtain ⟨cc25a, cc25b⟩ := X7.out.both
  obtain ⟨cc26a, cc26b⟩ := X9.out.both
  go_wp2_with fail
  refine (zgcd_whl HT.out HU.out (by have := HS.out; omega)).mono ?_
  rintro e w27 ⟨v, rfl, hv, hb⟩
  obtain ⟨s7, p7, n7, c7, rfl⟩ := hv.opened
  replace XQ := nx XQ hb
  replace X7 := bx X7 hb
  replace X9 := bx X9 hb
  replace HT := wl HT hb
  replace HU := wl HU hb
  replace B := bb B hb
  clear cc24a cc24b cc24c cc24d cc25a cc25b cc26a cc26b
  have HV := hid hv
  clear hb hv
  obtain ⟨cc28a, cc28b, cc28c, cc28d⟩ := XQ.out.cells
  obtain ⟨cc29a, cc29b⟩ := X7.out.both
  obtain ⟨cc30a, cc30b⟩ := X9.out.both
  go_wp2_with fail
  have HM := more_whl HV.out (by have := HS.out; omega)
  rw [decide_eq_true (by have h1 := HG.out; have h2 := HD.out; have h3 := Int.gcd_pos_of_ne_zero_right (whlOf (cutB s.data.toList)) (show whlOf (cutA s.data.toList) ≠ 0 by omega); omega)] at HM
  refine (HM).mono ?_
  rintro e w31 ⟨rfl, hb⟩
  replace XQ := nx XQ hb
  replace X7 := bx X7 hb
  replace X9 := bx X9 hb
  replace HT := wl HT hb
  replace HU := wl HU hb
  replace HV := wl HV hb
  replace B := bb B hb
  clear cc28a cc28b cc28c cc28d cc29a cc29b cc30a cc30b
  clear hb HM
  obtain ⟨cc32a, cc32b, cc32c, cc32d⟩ := XQ.out.cells
  obtain ⟨cc33a, cc33b⟩ := X7.out.both
  obtain ⟨cc34a, cc34b⟩ := X9.out.both
  obtain ⟨⟨cc35a, cc35b⟩, ⟨cc35c, cc35d⟩, ⟨cc35e, cc35f⟩, cc35g, cc35h⟩ := XQ.out.stores
  obtain ⟨r36a, r36b, r36c⟩ := XQ.out.last B.out (by have := L0.out; have := L1.out; omega) false false none none 0 0 0 0
  replace X7 := hid ((((X7.out.other (g2 := w.heap.size) (by have := L0.out; have := L1.out; omega) 0 (.bool false)).other (g2 := w.heap.size) (by have := L0.out; have := L1.out; omega) 1 (.slice none 0 0)).other (g2 := w.heap.size) (by have := L0.out; have := L1.out; omega) 2 (.bool false)).other (g2 := w.heap.size) (by have := L0.out; have := L1.out; omega) 3 (.slice none 0 0))
  replace X9 := hid ((((X9.out.other (g2 := w.heap.size) (by have := L0.out; have := L1.out; omega) 0 (.bool false)).other (g2 := w.heap.size) (by have := L0.out; have := L1.out; omega) 1 (.slice none 0 0)).other (g2 := w.heap.size) (by have := L0.out; have := L1.out; omega) 2 (.bool false)).other (g2 := w.heap.size) (by have := L0.out; have := L1.out; omega) 3 (.slice none 0 0))
  replace HT := hid (r36c HT.out)
  replace HU := hid (r36c HU.out)
  replace HV := hid (r36c HV.out)
  replace XQ := hid r36a
  replace B := hid r36b
  clear r36a r36b r36c
  go_wp2_with fail
  refine bodyPost_ret (res_num_tmp rfl rfl rfl XQ.out) rfl ?_
  exact ⟨rfl, B.out⟩

set_option maxHeartbeats 2000000 in
theorem qparseF (s : ByteArray) (w : World) (hs : s.size ≤ 68719476736) (hsl : hasSl s.data.toList = true) (hA : isWhl (cutB s.data.toList) = true) (hB : isWhl (cutA s.data.toList) = true) (hD : 1 < whlOf (cutA s.data.toList)) (hG : Int.gcd (whlOf (cutB s.data.toList)) (whlOf (cutA s.data.toList)) = 1) :
    Calls Tryz.prog 86 #[.string s] w fun e w' => ∃ v, e = .returned (.tuple #[v, .nilIface]) ∧ Rtl w' v (ratOf s.data.toList) s.size ∧ Below w.heap.size w w' := by
  have HSL := hid hsl
  have HA := hid hA
  have HB := hid hB
  have HD := hid hD
  have HG := hid hG
  have HS := hid hs
  have B := hid (Below.refl w.heap.size w)
  have hb1 := (Below.refl _ _).alloc (Nat.le_refl w.heap.size) (.cells #[.bool false, .slice none 0 0, .bool false, .slice none 0 0] 83)
  have hx2 := Nbx.new w false false (.slice none 0 0) (.slice none 0 0)
  replace B := bb B hb1
  have XQ := hid hx2
  have hs3 : (w.alloc (.cells #[.bool false, .slice none 0 0, .bool false, .slice none 0 0] 83)).heap.size = w.heap.size + 1 := by simp
  clear hb1 hx2
  clear hs3 hs hsl hA hB hD hG
  go_enter Tryz.func86, Tryz.ntmps86
  obtain ⟨cc4a, cc4b, cc4c, cc4d⟩ := XQ.out.cells
  go_wp2_with fail
  generalize hW : w.alloc (.cells #[.bool false, .slice none 0 0, .bool false, .slice none 0 0] 83) = W5 at *
  clear hW
  have HC := cut_slash s W5 (by have := HS.out; unfold maxLen; omega)
  rw [HSL.out] at HC
  refine (HC).mono ?_
  rintro e w6 ⟨a, b, rfl, ha, hbb, hsa, hsb, hb⟩
  have HAL := hid ha
  have HBL := hid hbb
  have HSA := hid hsa
  have HSB := hid hsb
  replace XQ := nx XQ hb
  replace B := bb B hb
  clear cc4a cc4b cc4c cc4d
  clear hb HC ha hbb hsa hsb
  obtain ⟨cc7a, cc7b, cc7c, cc7d⟩ := XQ.out.cells
  go_wp2_with fail
  refine (zparse_yes a _ (by have := HS.out; have := HSA.out; omega) (by rw [HAL.out]; exact HA.out)).mono ?_
  rintro e w8 ⟨v, rfl, hv, hb⟩
  rw [HAL.out] at hv
  replace hv := hv.mono HSA.out
  obtain ⟨s5, p5, n5, c5, rfl⟩ := hv.opened
  replace XQ := nx XQ hb
  replace B := bb B hb
  clear cc7a cc7b cc7c cc7d
  have HT := hid hv
  clear hb hv
  have hb9 := (Below.refl _ _).alloc (Nat.le_refl w8.heap.size) (.cells #[.bool s5, .slice p5 n5 c5] 81)
  have hx10 := Box.new w8 s5 p5 n5 c5
  have L0 := hid XQ.out.lt
  replace XQ := nx XQ hb9
  replace HT := wl HT hb9
  replace B := bb B hb9
  have X7 := hid hx10
  have hs11 : (w8.alloc (.cells #[.bool s5, .slice p5 n5 c5] 81)).heap.size = w8.heap.size + 1 := by simp
  clear hb9 hx10
  obtain ⟨cc12a, cc12b, cc12c, cc12d⟩ := XQ.out.cells
  obtain ⟨cc13a, cc13b⟩ := X7.out.both
  go_wp2_with fail
  generalize hW : w8.alloc (.cells #[.bool s5, .slice p5 n5 c5] 81) = W14 at *
  clear hW
  have HBL := hid (HBL.out (by first | rfl | trivial))
  refine (zparse_yes b _ (by have := HS.out; have := HSB.out; omega) (by rw [HBL.out]; exact HB.out)).mono ?_
  rintro e w15 ⟨v, rfl, hv, hb⟩
  rw [HBL.out] at hv
  replace hv := hv.mono HSB.out
  obtain ⟨s6, p6, n6, c6, rfl⟩ := hv.opened
  replace XQ := nx XQ hb
  replace X7 := bx X7 hb
  replace HT := wl HT hb
  replace B := bb B hb
  clear cc12a cc12b cc12c cc12d cc13a cc13b
  have HU := hid hv
  clear hb hv
  have hb16 := (Below.refl _ _).alloc (Nat.le_refl w15.heap.size) (.cells #[.bool s6, .slice p6 n6 c6] 81)
  have hx17 := Box.new w15 s6 p6 n6 c6
  have L1 := hid X7.out.lt
  replace XQ := nx XQ hb16
  replace X7 := bx X7 hb16
  replace HT := wl HT hb16
  replace HU := wl HU hb16
  replace B := bb B hb16
  have X9 := hid hx17
  have hs18 : (w15.alloc (.cells #[.bool s6, .slice p6 n6 c6] 81)).heap.size = w15.heap.size + 1 := by simp
  clear hb16 hx17
  obtain ⟨cc19a, cc19b, cc19c, cc19d⟩ := XQ.out.cells
  obtain ⟨cc20a, cc20b⟩ := X7.out.both
  obtain ⟨cc21a, cc21b⟩ := X9.out.both
  go_wp2_with fail
  generalize hW : w15.alloc (.cells #[.bool s6, .slice p6 n6 c6] 81) = W22 at *
  clear hW
  have HM := more_whl HU.out (by have := HS.out; omega)
  rw [decide_eq_true (by have h := HD.out; omega)] at HM
  refine (HM).mono ?_
  rintro e w23 ⟨rfl, hb⟩
  replace XQ := nx XQ hb
  replace X7 := bx X7 hb
  replace X9 := bx X9 hb
  replace HT := wl HT hb
  replace HU := wl HU hb
  replace B := bb B hb
  clear cc19a cc19b cc19c cc19d cc20a cc20b cc21a cc21b
  clear hb HM
  obtain ⟨cc24a, cc24b, cc24c, cc24d⟩ := XQ.out.cells
  obtain ⟨cc25a, cc25b⟩ := X7.out.both
  obtain ⟨cc26a, cc26b⟩ := X9.out.both
  go_wp2_with fail
  refine (zgcd_whl HT.out HU.out (by have := HS.out; omega)).mono ?_
  rintro e w27 ⟨v, rfl, hv, hb⟩
  obtain ⟨s7, p7, n7, c7, rfl⟩ := hv.opened
  replace XQ := nx XQ hb
  replace X7 := bx X7 hb
  replace X9 := bx X9 hb
  replace HT := wl HT hb
  replace HU := wl HU hb
  replace B := bb B hb
  clear cc24a cc24b cc24c cc24d cc25a cc25b cc26a cc26b
  have HV := hid hv
  clear hb hv
  obtain ⟨cc28a, cc28b, cc28c, cc28d⟩ := XQ.out.cells
  obtain ⟨cc29a, cc29b⟩ := X7.out.both
  obtain ⟨cc30a, cc30b⟩ := X9.out.both
  go_wp2_with fail
  have HM := more_whl HV.out (by have := HS.out; omega)
  rw [decide_eq_false (by have h1 := HG.out; omega)] at HM
  refine (HM).mono ?_
  rintro e w31 ⟨rfl, hb⟩
  replace XQ := nx XQ hb
  replace X7 := bx X7 hb
  replace X9 := bx X9 hb
  replace HT := wl HT hb
  replace HU := wl HU hb
  replace HV := wl HV hb
  replace B := bb B hb
  clear cc28a cc28b cc28c cc28d cc29a cc29b cc30a cc30b
  clear hb HM
  obtain ⟨cc32a, cc32b, cc32c, cc32d⟩ := XQ.out.cells
  obtain ⟨cc33a, cc33b⟩ := X7.out.both
  obtain ⟨cc34a, cc34b⟩ := X9.out.both
  obtain ⟨⟨cc35a, cc35b⟩, ⟨cc35c, cc35d⟩, ⟨cc35e, cc35f⟩, cc35g, cc35h⟩ := XQ.out.stores
  obtain ⟨r36a, r36b, r36c⟩ := XQ.out.last B.out (by have := L0.out; have := L1.out; omega) s5 s6 p5 p6 n5 n6 c5 c6
  replace X7 := hid ((((X7.out.other (g2 := w.heap.size) (by have := L0.out; have := L1.out; omega) 0 (.bool s5)).other (g2 := w.heap.size) (by have := L0.out; have := L1.out; omega) 1 (.slice p5 n5 c5)).other (g2 := w.heap.size) (by have := L0.out; have := L1.out; omega) 2 (.bool s6)).other (g2 := w.heap.size) (by have := L0.out; have := L1.out; omega) 3 (.slice p6 n6 c6))
  replace X9 := hid ((((X9.out.other (g2 := w.heap.size) (by have := L0.out; have := L1.out; omega) 0 (.bool s5)).other (g2 := w.heap.size) (by have := L0.out; have := L1.out; omega) 1 (.slice p5 n5 c5)).other (g2 := w.heap.size) (by have := L0.out; have := L1.out; omega) 2 (.bool s6)).other (g2 := w.heap.size) (by have := L0.out; have := L1.out; omega) 3 (.slice p6 n6 c6))
  replace HT := hid (r36c HT.out)
  replace HU := hid (r36c HU.out)
  replace HV := hid (r36c HV.out)
  replace XQ := hid r36a
  replace B := hid r36b
  clear r36a r36b r36c
  go_wp2_with fail
  refine bodyPost_ret (res_num_tmp rfl rfl rfl XQ.out) rfl ?_
  obtain ⟨e1, e2⟩ := divInt_coprime HD.out HG.out
  refine ⟨_, rfl, ?_, B.out⟩
  rw [ratOf, if_pos HSL.out]
  exact Rtl.mk2 (by rw [e1]; exact HT.out) HU.out (.inl e2.symm)

theorem qparse_yes (s : ByteArray) (w : World) (hs : s.size ≤ 68719476736) (hn : isRat s.data.toList = true) :
    Calls Tryz.prog 86 #[.string s] w fun e w' => ∃ v, e = .returned (.tuple #[v, .nilIface]) ∧ Rtl w' v (ratOf s.data.toList) s.size ∧ Below w.heap.size w w' := by
  unfold isRat at hn
  cases hsl : hasSl s.data.toList
  · rw [hsl] at hn
    have e : cutB s.data.toList = s.data.toList := by
      rcases index_cut s.data.toList with ⟨_, _, e⟩ | ⟨e, _⟩
      · exact e
      · rw [hsl] at e; exact absurd e (by decide)
    exact qparseB s w hs hsl (by rw [e]; simpa using hn)
  · rw [hsl] at hn
    simp only [if_true, Bool.and_eq_true, decide_eq_true_eq] at hn
    obtain ⟨⟨⟨h1, h2⟩, h3⟩, h4⟩ := hn
    exact qparseF s w hs hsl h1 h2 h3 h4
theorem qparse_no (s : ByteArray) (w : World) (hs : s.size ≤ 68719476736) (hn : isRat s.data.toList = false) :
    Calls Tryz.prog 86 #[.string s] w fun e w' => e = .returned (.tuple #[.agg #[.bool false, .slice none 0 0, .bool false, .slice none 0 0], errno 1]) ∧ Below w.heap.size w w' := by
  unfold isRat at hn
  cases h1 : isWhl (cutB s.data.toList)
  · exact qparseA s w hs h1
  · cases hsl : hasSl s.data.toList
    · rw [hsl] at hn
      have e : cutB s.data.toList = s.data.toList := by
        rcases index_cut s.data.toList with ⟨_, _, e⟩ | ⟨e, _⟩
        · exact e
        · rw [hsl] at e; exact absurd e (by decide)
      rw [e] at h1
      rw [h1] at hn
      simp at hn
    · rw [hsl] at hn
      cases h2 : isWhl (cutA s.data.toList)
      · exact qparseC s w hs hsl h1 h2
      · by_cases h3 : 1 < whlOf (cutA s.data.toList)
        · by_cases h4 : Int.gcd (whlOf (cutB s.data.toList)) (whlOf (cutA s.data.toList)) = 1
          · simp [h1, h2, h3, h4] at hn
          · exact qparseE s w hs hsl h1 h2 h3 h4
        · exact qparseD s w hs hsl h1 h2 h3

end Go.Proofs.YtjeeepcnaaadmaaGreatDoor

/-
  PACKAGE rat: Read, readBoth.
-/
namespace Go.Proofs.YtjeeepcnaaadmaaGreatDoor
open Go.RowKit
open Num
set_option linter.unusedVariables false
set_option maxRecDepth 100000
set_option linter.unusedSimpArgs false

set_option maxHeartbeats 1000000 in
theorem qread_long {s : ByteArray} (h : 100 < s.size) (w : World) (hs : s.size ≤ maxLen) :
    Calls Tryz.prog 47 #[.string s] w fun e w' => e = .returned (.tuple #[.agg #[.bool false, .slice none 0 0, .bool false, .slice none 0 0], errno 4]) ∧ Below w.heap.size w w' := by
  have h' : (100 : Int) < (s.size : Int) := by omega
  unfold maxLen at hs
  have B := hid (Below.refl w.heap.size w)
  have hb1 := (Below.refl _ _).alloc (Nat.le_refl w.heap.size) (.cells #[.bool false, .slice none 0 0, .bool false, .slice none 0 0] 83)
  have hx2 := Nbx.new w false false (.slice none 0 0) (.slice none 0 0)
  replace B := bb B hb1
  have XQ := hid hx2
  have hs3 : (w.alloc (.cells #[.bool false, .slice none 0 0, .bool false, .slice none 0 0] 83)).heap.size = w.heap.size + 1 := by simp
  clear hb1 hx2
  clear hs3 h
  go_enter Tryz.func47, Tryz.ntmps47
  go_wp2_with fail
  refine bodyPost_ret (res_num_tmp rfl rfl rfl XQ.out) rfl ?_
  exact ⟨rfl, B.out⟩

set_option maxHeartbeats 1000000 in
theorem qread_form {s : ByteArray} (h : s.size ≤ 100) (hn : isRat s.data.toList = false) (w : World) :
    Calls Tryz.prog 47 #[.string s] w fun e w' => e = .returned (.tuple #[.agg #[.bool false, .slice none 0 0, .bool false, .slice none 0 0], errno 1]) ∧ Below w.heap.size w w' := by
  have h' : (s.size : Int) ≤ 100 := by omega
  have HN := hid hn
  have HS := hid h
  have B := hid (Below.refl w.heap.size w)
  have hb1 := (Below.refl _ _).alloc (Nat.le_refl w.heap.size) (.cells #[.bool false, .slice none 0 0, .bool false, .slice none 0 0] 83)
  have hx2 := Nbx.new w false false (.slice none 0 0) (.slice none 0 0)
  replace B := bb B hb1
  have XQ := hid hx2
  have hs3 : (w.alloc (.cells #[.bool false, .slice none 0 0, .bool false, .slice none 0 0] 83)).heap.size = w.heap.size + 1 := by simp
  clear hb1 hx2
  clear hs3 h hn
  go_enter Tryz.func47, Tryz.ntmps47
  obtain ⟨cc4a, cc4b, cc4c, cc4d⟩ := XQ.out.cells
  go_wp2_with fail
  generalize hW : w.alloc (.cells #[.bool false, .slice none 0 0, .bool false, .slice none 0 0] 83) = W5 at *
  clear hW
  refine (qparse_no s _ (by have := HS.out; omega) HN.out).mono ?_
  rintro e w6 ⟨rfl, hb⟩
  replace XQ := nx XQ hb
  replace B := bb B hb
  clear cc4a cc4b cc4c cc4d
  clear hb 
  obtain ⟨cc7a, cc7b, cc7c, cc7d⟩ := XQ.out.cells
  obtain ⟨⟨cc8a, cc8b⟩, ⟨cc8c, cc8d⟩, ⟨cc8e, cc8f⟩, cc8g, cc8h⟩ := XQ.out.stores
  obtain ⟨r9a, r9b, r9c⟩ := XQ.out.last B.out (by omega) false false none none 0 0 0 0
  replace XQ := hid r9a
  replace B := hid r9b
  clear r9a r9b r9c
  go_wp2_with fail
  refine bodyPost_ret (res_num_tmp rfl rfl rfl XQ.out) rfl ?_
  exact ⟨rfl, B.out⟩

theorem qread_bad {s : ByteArray} {k : Int} (h : BadQ s k) (w : World) (hs : s.size ≤ maxLen) :
    Calls Tryz.prog 47 #[.string s] w fun e w' => e = .returned (.tuple #[.agg #[.bool false, .slice none 0 0, .bool false, .slice none 0 0], errno k]) ∧ Below w.heap.size w w' := by
  rcases h with ⟨h, rfl⟩ | ⟨h, hn, rfl⟩
  · exact qread_long h w hs
  · exact qread_form h hn w

set_option maxHeartbeats 1000000 in
theorem qread_good {s : ByteArray} (h : GoodQ s) (w : World) :
    Calls Tryz.prog 47 #[.string s] w fun e w' => ∃ v, e = .returned (.tuple #[v, .nilIface]) ∧ Rtl w' v (qnum s) 100 ∧ Below w.heap.size w w' := by
  obtain ⟨h, hn⟩ := h
  have h' : (s.size : Int) ≤ 100 := by omega
  have HN := hid hn
  have HS := hid h
  have B := hid (Below.refl w.heap.size w)
  have hb1 := (Below.refl _ _).alloc (Nat.le_refl w.heap.size) (.cells #[.bool false, .slice none 0 0, .bool false, .slice none 0 0] 83)
  have hx2 := Nbx.new w false false (.slice none 0 0) (.slice none 0 0)
  replace B := bb B hb1
  have XQ := hid hx2
  have hs3 : (w.alloc (.cells #[.bool false, .slice none 0 0, .bool false, .slice none 0 0] 83)).heap.size = w.heap.size + 1 := by simp
  clear hb1 hx2
  clear hs3 h hn
  go_enter Tryz.func47, Tryz.ntmps47
  obtain ⟨cc4a, cc4b, cc4c, cc4d⟩ := XQ.out.cells
  go_wp2_with fail
  generalize hW : w.alloc (.cells #[.bool false, .slice none 0 0, .bool false, .slice none 0 0] 83) = W5 at *
  clear hW
  refine (qparse_yes s _ (by have := HS.out; omega) HN.out).mono ?_
  rintro e w6 ⟨v, rfl, hv, hb⟩
  replace hv := hv.mono HS.out
  obtain ⟨s9a, p9a, n9a, c9a, s9b, p9b, n9b, c9b, rfl⟩ := hv.opened
  obtain ⟨ht9, d9, hu9, hd9⟩ := hv.two
  have HD9 := hid hd9
  replace XQ := nx XQ hb
  replace B := bb B hb
  clear cc4a cc4b cc4c cc4d
  have HT9 := hid ht9
  have HU9 := hid hu9
  clear hb hv ht9 hu9 hd9
  obtain ⟨cc7a, cc7b, cc7c, cc7d⟩ := XQ.out.cells
  obtain ⟨⟨cc8a, cc8b⟩, ⟨cc8c, cc8d⟩, ⟨cc8e, cc8f⟩, cc8g, cc8h⟩ := XQ.out.stores
  obtain ⟨r9a, r9b, r9c⟩ := XQ.out.last B.out (by omega) s9a s9b p9a p9b n9a n9b c9a c9b
  replace HT9 := hid (r9c HT9.out)
  replace HU9 := hid (r9c HU9.out)
  replace XQ := hid r9a
  replace B := hid r9b
  clear r9a r9b r9c
  go_wp2_with fail
  refine bodyPost_ret (res_num_tmp rfl rfl rfl XQ.out) rfl ?_
  exact ⟨_, rfl, Rtl.mk2 HT9.out HU9.out HD9.out, B.out⟩

set_option maxHeartbeats 1000000 in
theorem qboth1 {a b : ByteArray} {k : Int} (h : BadQ a k) (ha : a.size ≤ maxLen) (hb0 : b.size ≤ maxLen) (w : World) :
    Calls Tryz.prog 57 #[.string a, .string b] w fun e w' => e = .returned (.tuple #[.agg #[.bool false, .slice none 0 0, .bool false, .slice none 0 0], .agg #[.bool false, .slice none 0 0, .bool false, .slice none 0 0], errno k]) ∧ Below w.heap.size w w' := by
  have H1 := hid h
  have B := hid (Below.refl w.heap.size w)
  have hb1 := (Below.refl _ _).alloc (Nat.le_refl w.heap.size) (.cells #[.bool false, .slice none 0 0, .bool false, .slice none 0 0] 83)
  have hx2 := Nbx.new w false false (.slice none 0 0) (.slice none 0 0)
  replace B := bb B hb1
  have R1 := hid hx2
  have hs3 : (w.alloc (.cells #[.bool false, .slice none 0 0, .bool false, .slice none 0 0] 83)).heap.size = w.heap.size + 1 := by simp
  clear hb1 hx2
  have hb4 := (Below.refl _ _).alloc (Nat.le_refl (w.alloc (.cells #[.bool false, .slice none 0 0, .bool false, .slice none 0 0] 83)).heap.size) (.cells #[.bool false, .slice none 0 0, .bool false, .slice none 0 0] 83)
  have hx5 := Nbx.new (w.alloc (.cells #[.bool false, .slice none 0 0, .bool false, .slice none 0 0] 83)) false false (.slice none 0 0) (.slice none 0 0)
  rw [hs3] at hx5
  replace R1 := nx R1 hb4
  replace B := bb B hb4
  have R2 := hid hx5
  have hs6 : ((w.alloc (.cells #[.bool false, .slice none 0 0, .bool false, .slice none 0 0] 83)).alloc (.cells #[.bool false, .slice none 0 0, .bool false, .slice none 0 0] 83)).heap.size = w.heap.size + 1 + 1 := by simp [hs3]
  clear hb4 hx5
  clear hs6 h
  go_enter Tryz.func57, Tryz.ntmps57
  obtain ⟨cc7a, cc7b, cc7c, cc7d⟩ := R1.out.cells
  obtain ⟨cc8a, cc8b, cc8c, cc8d⟩ := R2.out.cells
  go_wp2_with fail
  generalize hW : (w.alloc (.cells #[.bool false, .slice none 0 0, .bool false, .slice none 0 0] 83)).alloc (.cells #[.bool false, .slice none 0 0, .bool false, .slice none 0 0] 83) = W9 at *
  clear hW
  refine (qread_bad H1.out _ ha).mono ?_
  rintro e w10 ⟨rfl, hb⟩
  replace R1 := nx R1 hb
  replace R2 := nx R2 hb
  replace B := bb B hb
  clear cc7a cc7b cc7c cc7d cc8a cc8b cc8c cc8d
  clear hb 
  obtain ⟨cc11a, cc11b, cc11c, cc11d⟩ := R1.out.cells
  obtain ⟨cc12a, cc12b, cc12c, cc12d⟩ := R2.out.cells
  obtain ⟨⟨cc13a, cc13b⟩, ⟨cc13c, cc13d⟩, ⟨cc13e, cc13f⟩, cc13g, cc13h⟩ := R1.out.stores
  obtain ⟨r14a, r14b, r14c⟩ := R1.out.last B.out (by omega) false false none none 0 0 0 0
  replace R2 := hid ((((R2.out.other (g2 := w.heap.size) (by omega) 0 (.bool false)).other (g2 := w.heap.size) (by omega) 1 (.slice none 0 0)).other (g2 := w.heap.size) (by omega) 2 (.bool false)).other (g2 := w.heap.size) (by omega) 3 (.slice none 0 0))
  replace R1 := hid r14a
  replace B := hid r14b
  clear r14a r14b r14c
  obtain ⟨cc15a, cc15b, cc15c, cc15d⟩ := R1.out.cells
  obtain ⟨cc16a, cc16b, cc16c, cc16d⟩ := R2.out.cells
  obtain ⟨⟨cc17a, cc17b⟩, ⟨cc17c, cc17d⟩, ⟨cc17e, cc17f⟩, cc17g, cc17h⟩ := R1.out.stores
  obtain ⟨r18a, r18b, r18c⟩ := R1.out.last B.out (by omega) false false none none 0 0 0 0
  replace R2 := hid ((((R2.out.other (g2 := w.heap.size) (by omega) 0 (.bool false)).other (g2 := w.heap.size) (by omega) 1 (.slice none 0 0)).other (g2 := w.heap.size) (by omega) 2 (.bool false)).other (g2 := w.heap.size) (by omega) 3 (.slice none 0 0))
  replace R1 := hid r18a
  replace B := hid r18b
  clear r18a r18b r18c
  obtain ⟨cc19a, cc19b, cc19c, cc19d⟩ := R1.out.cells
  obtain ⟨cc20a, cc20b, cc20c, cc20d⟩ := R2.out.cells
  obtain ⟨⟨cc21a, cc21b⟩, ⟨cc21c, cc21d⟩, ⟨cc21e, cc21f⟩, cc21g, cc21h⟩ := R2.out.stores
  obtain ⟨r22a, r22b, r22c⟩ := R2.out.last B.out (by omega) false false none none 0 0 0 0
  replace R1 := hid ((((R1.out.other (g2 := w.heap.size + 1) (by omega) 0 (.bool false)).other (g2 := w.heap.size + 1) (by omega) 1 (.slice none 0 0)).other (g2 := w.heap.size + 1) (by omega) 2 (.bool false)).other (g2 := w.heap.size + 1) (by omega) 3 (.slice none 0 0))
  replace R2 := hid r22a
  replace B := hid r22b
  clear r22a r22b r22c
  obtain ⟨cc23a, cc23b, cc23c, cc23d⟩ := R1.out.cells
  obtain ⟨cc24a, cc24b, cc24c, cc24d⟩ := R2.out.cells
  go_wp2_with fail
  refine bodyPost_ret (res_nn_tmp rfl rfl rfl rfl R1.out R2.out) rfl ?_
  exact ⟨rfl, B.out⟩

set_option maxHeartbeats 1000000 in
theorem qboth2 {a b : ByteArray} {k : Int} (h1 : GoodQ a) (h2 : BadQ b k) (ha : a.size ≤ maxLen) (hb0 : b.size ≤ maxLen) (w : World) :
    Calls Tryz.prog 57 #[.string a, .string b] w fun e w' => e = .returned (.tuple #[.agg #[.bool false, .slice none 0 0, .bool false, .slice none 0 0], .agg #[.bool false, .slice none 0 0, .bool false, .slice none 0 0], errno k]) ∧ Below w.heap.size w w' := by
  have H1 := hid h1
  have H2 := hid h2
  have B := hid (Below.refl w.heap.size w)
  have hb1 := (Below.refl _ _).alloc (Nat.le_refl w.heap.size) (.cells #[.bool false, .slice none 0 0, .bool false, .slice none 0 0] 83)
  have hx2 := Nbx.new w false false (.slice none 0 0) (.slice none 0 0)
  replace B := bb B hb1
  have R1 := hid hx2
  have hs3 : (w.alloc (.cells #[.bool false, .slice none 0 0, .bool false, .slice none 0 0] 83)).heap.size = w.heap.size + 1 := by simp
  clear hb1 hx2
  have hb4 := (Below.refl _ _).alloc (Nat.le_refl (w.alloc (.cells #[.bool false, .slice none 0 0, .bool false, .slice none 0 0] 83)).heap.size) (.cells #[.bool false, .slice none 0 0, .bool false, .slice none 0 0] 83)
  have hx5 := Nbx.new (w.alloc (.cells #[.bool false, .slice none 0 0, .bool false, .slice none 0 0] 83)) false false (.slice none 0 0) (.slice none 0 0)
  rw [hs3] at hx5
  replace R1 := nx R1 hb4
  replace B := bb B hb4
  have R2 := hid hx5
  have hs6 : ((w.alloc (.cells #[.bool false, .slice none 0 0, .bool false, .slice none 0 0] 83)).alloc (.cells #[.bool false, .slice none 0 0, .bool false, .slice none 0 0] 83)).heap.size = w.heap.size + 1 + 1 := by simp [hs3]
  clear hb4 hx5
  clear hs6 h1 h2
  go_enter Tryz.func57, Tryz.ntmps57
  obtain ⟨cc7a, cc7b, cc7c, cc7d⟩ := R1.out.cells
  obtain ⟨cc8a, cc8b, cc8c, cc8d⟩ := R2.out.cells
  go_wp2_with fail
  generalize hW : (w.alloc (.cells #[.bool false, .slice none 0 0, .bool false, .slice none 0 0] 83)).alloc (.cells #[.bool false, .slice none 0 0, .bool false, .slice none 0 0] 83) = W9 at *
  clear hW
  refine (qread_good H1.out _).mono ?_
  rintro e w10 ⟨v, rfl, hv, hb⟩
  obtain ⟨s5a, p5a, n5a, c5a, s5b, p5b, n5b, c5b, rfl⟩ := hv.opened
  obtain ⟨ht5, d5, hu5, hd5⟩ := hv.two
  have HD5 := hid hd5
  replace R1 := nx R1 hb
  replace R2 := nx R2 hb
  replace B := bb B hb
  clear cc7a cc7b cc7c cc7d cc8a cc8b cc8c cc8d
  have HT5 := hid ht5
  have HU5 := hid hu5
  clear hb hv ht5 hu5 hd5
  obtain ⟨cc11a, cc11b, cc11c, cc11d⟩ := R1.out.cells
  obtain ⟨cc12a, cc12b, cc12c, cc12d⟩ := R2.out.cells
  obtain ⟨⟨cc13a, cc13b⟩, ⟨cc13c, cc13d⟩, ⟨cc13e, cc13f⟩, cc13g, cc13h⟩ := R1.out.stores
  obtain ⟨r14a, r14b, r14c⟩ := R1.out.last B.out (by omega) s5a s5b p5a p5b n5a n5b c5a c5b
  replace R2 := hid ((((R2.out.other (g2 := w.heap.size) (by omega) 0 (.bool s5a)).other (g2 := w.heap.size) (by omega) 1 (.slice p5a n5a c5a)).other (g2 := w.heap.size) (by omega) 2 (.bool s5b)).other (g2 := w.heap.size) (by omega) 3 (.slice p5b n5b c5b))
  replace HT5 := hid (r14c HT5.out)
  replace HU5 := hid (r14c HU5.out)
  replace R1 := hid r14a
  replace B := hid r14b
  clear r14a r14b r14c
  obtain ⟨cc15a, cc15b, cc15c, cc15d⟩ := R1.out.cells
  obtain ⟨cc16a, cc16b, cc16c, cc16d⟩ := R2.out.cells
  go_wp2_with fail
  generalize hW : (((w10.setCell ⟨w.heap.size, 0, none⟩ (.bool s5a)).setCell ⟨w.heap.size, 1, none⟩ (.slice p5a n5a c5a)).setCell ⟨w.heap.size, 2, none⟩ (.bool s5b)).setCell ⟨w.heap.size, 3, none⟩ (.slice p5b n5b c5b) = W17 at *
  clear hW
  refine (qread_bad H2.out _ hb0).mono ?_
  rintro e w18 ⟨rfl, hb⟩
  replace R1 := nx R1 hb
  replace R2 := nx R2 hb
  replace HT5 := wl HT5 hb
  replace HU5 := wl HU5 hb
  replace B := bb B hb
  clear cc11a cc11b cc11c cc11d cc12a cc12b cc12c cc12d cc13a cc13b cc13c cc13d cc13e cc13f cc13g cc13h cc15a cc15b cc15c cc15d cc16a cc16b cc16c cc16d
  clear hb 
  obtain ⟨cc19a, cc19b, cc19c, cc19d⟩ := R1.out.cells
  obtain ⟨cc20a, cc20b, cc20c, cc20d⟩ := R2.out.cells
  obtain ⟨⟨cc21a, cc21b⟩, ⟨cc21c, cc21d⟩, ⟨cc21e, cc21f⟩, cc21g, cc21h⟩ := R2.out.stores
  obtain ⟨r22a, r22b, r22c⟩ := R2.out.last B.out (by omega) false false none none 0 0 0 0
  replace R1 := hid ((((R1.out.other (g2 := w.heap.size + 1) (by omega) 0 (.bool false)).other (g2 := w.heap.size + 1) (by omega) 1 (.slice none 0 0)).other (g2 := w.heap.size + 1) (by omega) 2 (.bool false)).other (g2 := w.heap.size + 1) (by omega) 3 (.slice none 0 0))
  replace HT5 := hid (r22c HT5.out)
  replace HU5 := hid (r22c HU5.out)
  replace R2 := hid r22a
  replace B := hid r22b
  clear r22a r22b r22c
  obtain ⟨cc23a, cc23b, cc23c, cc23d⟩ := R1.out.cells
  obtain ⟨cc24a, cc24b, cc24c, cc24d⟩ := R2.out.cells
  obtain ⟨⟨cc25a, cc25b⟩, ⟨cc25c, cc25d⟩, ⟨cc25e, cc25f⟩, cc25g, cc25h⟩ := R1.out.stores
  obtain ⟨r26a, r26b, r26c⟩ := R1.out.last B.out (by omega) false false none none 0 0 0 0
  replace R2 := hid ((((R2.out.other (g2 := w.heap.size) (by omega) 0 (.bool false)).other (g2 := w.heap.size) (by omega) 1 (.slice none 0 0)).other (g2 := w.heap.size) (by omega) 2 (.bool false)).other (g2 := w.heap.size) (by omega) 3 (.slice none 0 0))
  replace HT5 := hid (r26c HT5.out)
  replace HU5 := hid (r26c HU5.out)
  replace R1 := hid r26a
  replace B := hid r26b
  clear r26a r26b r26c
  obtain ⟨cc27a, cc27b, cc27c, cc27d⟩ := R1.out.cells
  obtain ⟨cc28a, cc28b, cc28c, cc28d⟩ := R2.out.cells
  obtain ⟨⟨cc29a, cc29b⟩, ⟨cc29c, cc29d⟩, ⟨cc29e, cc29f⟩, cc29g, cc29h⟩ := R2.out.stores
  obtain ⟨r30a, r30b, r30c⟩ := R2.out.last B.out (by omega) false false none none 0 0 0 0
  replace R1 := hid ((((R1.out.other (g2 := w.heap.size + 1) (by omega) 0 (.bool false)).other (g2 := w.heap.size + 1) (by omega) 1 (.slice none 0 0)).other (g2 := w.heap.size + 1) (by omega) 2 (.bool false)).other (g2 := w.heap.size + 1) (by omega) 3 (.slice none 0 0))
  replace HT5 := hid (r30c HT5.out)
  replace HU5 := hid (r30c HU5.out)
  replace R2 := hid r30a
  replace B := hid r30b
  clear r30a r30b r30c
  obtain ⟨cc31a, cc31b, cc31c, cc31d⟩ := R1.out.cells
  obtain ⟨cc32a, cc32b, cc32c, cc32d⟩ := R2.out.cells
  go_wp2_with fail
  refine bodyPost_ret (res_nn_tmp rfl rfl rfl rfl R1.out R2.out) rfl ?_
  exact ⟨rfl, B.out⟩

set_option maxHeartbeats 1000000 in
theorem qboth3 {a b : ByteArray} {k : Int} (h1 : GoodQ a) (h2 : GoodQ b) (ha : a.size ≤ maxLen) (hb0 : b.size ≤ maxLen) (w : World) :
    Calls Tryz.prog 57 #[.string a, .string b] w fun e w' => ∃ v u, e = .returned (.tuple #[v, u, .nilIface]) ∧ Rtl w' v (qnum a) 100 ∧ Rtl w' u (qnum b) 100 ∧ Below w.heap.size w w' := by
  have H1 := hid h1
  have H2 := hid h2
  have B := hid (Below.refl w.heap.size w)
  have hb1 := (Below.refl _ _).alloc (Nat.le_refl w.heap.size) (.cells #[.bool false, .slice none 0 0, .bool false, .slice none 0 0] 83)
  have hx2 := Nbx.new w false false (.slice none 0 0) (.slice none 0 0)
  replace B := bb B hb1
  have R1 := hid hx2
  have hs3 : (w.alloc (.cells #[.bool false, .slice none 0 0, .bool false, .slice none 0 0] 83)).heap.size = w.heap.size + 1 := by simp
  clear hb1 hx2
  have hb4 := (Below.refl _ _).alloc (Nat.le_refl (w.alloc (.cells #[.bool false, .slice none 0 0, .bool false, .slice none 0 0] 83)).heap.size) (.cells #[.bool false, .slice none 0 0, .bool false, .slice none 0 0] 83)
  have hx5 := Nbx.new (w.alloc (.cells #[.bool false, .slice none 0 0, .bool false, .slice none 0 0] 83)) false false (.slice none 0 0) (.slice none 0 0)
  rw [hs3] at hx5
  replace R1 := nx R1 hb4
  replace B := bb B hb4
  have R2 := hid hx5
  have hs6 : ((w.alloc (.cells #[.bool false, .slice none 0 0, .bool false, .slice none 0 0] 83)).alloc (.cells #[.bool false, .slice none 0 0, .bool false, .slice none 0 0] 83)).heap.size = w.heap.size + 1 + 1 := by simp [hs3]
  clear hb4 hx5
  clear hs6 h1 h2
  go_enter Tryz.func57, Tryz.ntmps57
  obtain ⟨cc7a, cc7b, cc7c, cc7d⟩ := R1.out.cells
  obtain ⟨cc8a, cc8b, cc8c, cc8d⟩ := R2.out.cells
  go_wp2_with fail
  generalize hW : (w.alloc (.cells #[.bool false, .slice none 0 0, .bool false, .slice none 0 0] 83)).alloc (.cells #[.bool false, .slice none 0 0, .bool false, .slice none 0 0] 83) = W9 at *
  clear hW
  refine (qread_good H1.out _).mono ?_
  rintro e w10 ⟨v, rfl, hv, hb⟩
  obtain ⟨s5a, p5a, n5a, c5a, s5b, p5b, n5b, c5b, rfl⟩ := hv.opened
  obtain ⟨ht5, d5, hu5, hd5⟩ := hv.two
  have HD5 := hid hd5
  replace R1 := nx R1 hb
  replace R2 := nx R2 hb
  replace B := bb B hb
  clear cc7a cc7b cc7c cc7d cc8a cc8b cc8c cc8d
  have HT5 := hid ht5
  have HU5 := hid hu5
  clear hb hv ht5 hu5 hd5
  obtain ⟨cc11a, cc11b, cc11c, cc11d⟩ := R1.out.cells
  obtain ⟨cc12a, cc12b, cc12c, cc12d⟩ := R2.out.cells
  obtain ⟨⟨cc13a, cc13b⟩, ⟨cc13c, cc13d⟩, ⟨cc13e, cc13f⟩, cc13g, cc13h⟩ := R1.out.stores
  obtain ⟨r14a, r14b, r14c⟩ := R1.out.last B.out (by omega) s5a s5b p5a p5b n5a n5b c5a c5b
  replace R2 := hid ((((R2.out.other (g2 := w.heap.size) (by omega) 0 (.bool s5a)).other (g2 := w.heap.size) (by omega) 1 (.slice p5a n5a c5a)).other (g2 := w.heap.size) (by omega) 2 (.bool s5b)).other (g2 := w.heap.size) (by omega) 3 (.slice p5b n5b c5b))
  replace HT5 := hid (r14c HT5.out)
  replace HU5 := hid (r14c HU5.out)
  replace R1 := hid r14a
  replace B := hid r14b
  clear r14a r14b r14c
  obtain ⟨cc15a, cc15b, cc15c, cc15d⟩ := R1.out.cells
  obtain ⟨cc16a, cc16b, cc16c, cc16d⟩ := R2.out.cells
  go_wp2_with fail
  generalize hW : (((w10.setCell ⟨w.heap.size, 0, none⟩ (.bool s5a)).setCell ⟨w.heap.size, 1, none⟩ (.slice p5a n5a c5a)).setCell ⟨w.heap.size, 2, none⟩ (.bool s5b)).setCell ⟨w.heap.size, 3, none⟩ (.slice p5b n5b c5b) = W17 at *
  clear hW
  refine (qread_good H2.out _).mono ?_
  rintro e w18 ⟨v, rfl, hv, hb⟩
  obtain ⟨s6a, p6a, n6a, c6a, s6b, p6b, n6b, c6b, rfl⟩ := hv.opened
  obtain ⟨ht6, d6, hu6, hd6⟩ := hv.two
  have HD6 := hid hd6
  replace R1 := nx R1 hb
  replace R2 := nx R2 hb
  replace HT5 := wl HT5 hb
  replace HU5 := wl HU5 hb
  replace B := bb B hb
  clear cc11a cc11b cc11c cc11d cc12a cc12b cc12c cc12d cc13a cc13b cc13c cc13d cc13e cc13f cc13g cc13h cc15a cc15b cc15c cc15d cc16a cc16b cc16c cc16d
  have HT6 := hid ht6
  have HU6 := hid hu6
  clear hb hv ht6 hu6 hd6
  obtain ⟨cc19a, cc19b, cc19c, cc19d⟩ := R1.out.cells
  obtain ⟨cc20a, cc20b, cc20c, cc20d⟩ := R2.out.cells
  obtain ⟨⟨cc21a, cc21b⟩, ⟨cc21c, cc21d⟩, ⟨cc21e, cc21f⟩, cc21g, cc21h⟩ := R2.out.stores
  obtain ⟨r22a, r22b, r22c⟩ := R2.out.last B.out (by omega) s6a s6b p6a p6b n6a n6b c6a c6b
  replace R1 := hid ((((R1.out.other (g2 := w.heap.size + 1) (by omega) 0 (.bool s6a)).other (g2 := w.heap.size + 1) (by omega) 1 (.slice p6a n6a c6a)).other (g2 := w.heap.size + 1) (by omega) 2 (.bool s6b)).other (g2 := w.heap.size + 1) (by omega) 3 (.slice p6b n6b c6b))
  replace HT5 := hid (r22c HT5.out)
  replace HU5 := hid (r22c HU5.out)
  replace HT6 := hid (r22c HT6.out)
  replace HU6 := hid (r22c HU6.out)
  replace R2 := hid r22a
  replace B := hid r22b
  clear r22a r22b r22c
  obtain ⟨cc23a, cc23b, cc23c, cc23d⟩ := R1.out.cells
  obtain ⟨cc24a, cc24b, cc24c, cc24d⟩ := R2.out.cells
  go_wp2_with fail
  generalize hW : (((w18.setCell ⟨w.heap.size + 1, 0, none⟩ (.bool s6a)).setCell ⟨w.heap.size + 1, 1, none⟩ (.slice p6a n6a c6a)).setCell ⟨w.heap.size + 1, 2, none⟩ (.bool s6b)).setCell ⟨w.heap.size + 1, 3, none⟩ (.slice p6b n6b c6b) = W25 at *
  clear hW
  obtain ⟨cc26a, cc26b, cc26c, cc26d⟩ := R1.out.cells
  obtain ⟨cc27a, cc27b, cc27c, cc27d⟩ := R2.out.cells
  obtain ⟨⟨cc28a, cc28b⟩, ⟨cc28c, cc28d⟩, ⟨cc28e, cc28f⟩, cc28g, cc28h⟩ := R1.out.stores
  obtain ⟨r29a, r29b, r29c⟩ := R1.out.last B.out (by omega) s5a s5b p5a p5b n5a n5b c5a c5b
  replace R2 := hid ((((R2.out.other (g2 := w.heap.size) (by omega) 0 (.bool s5a)).other (g2 := w.heap.size) (by omega) 1 (.slice p5a n5a c5a)).other (g2 := w.heap.size) (by omega) 2 (.bool s5b)).other (g2 := w.heap.size) (by omega) 3 (.slice p5b n5b c5b))
  replace HT5 := hid (r29c HT5.out)
  replace HU5 := hid (r29c HU5.out)
  replace HT6 := hid (r29c HT6.out)
  replace HU6 := hid (r29c HU6.out)
  replace R1 := hid r29a
  replace B := hid r29b
  clear r29a r29b r29c
  obtain ⟨cc30a, cc30b, cc30c, cc30d⟩ := R1.out.cells
  obtain ⟨cc31a, cc31b, cc31c, cc31d⟩ := R2.out.cells
  obtain ⟨⟨cc32a, cc32b⟩, ⟨cc32c, cc32d⟩, ⟨cc32e, cc32f⟩, cc32g, cc32h⟩ := R2.out.stores
  obtain ⟨r33a, r33b, r33c⟩ := R2.out.last B.out (by omega) s6a s6b p6a p6b n6a n6b c6a c6b
  replace R1 := hid ((((R1.out.other (g2 := w.heap.size + 1) (by omega) 0 (.bool s6a)).other (g2 := w.heap.size + 1) (by omega) 1 (.slice p6a n6a c6a)).other (g2 := w.heap.size + 1) (by omega) 2 (.bool s6b)).other (g2 := w.heap.size + 1) (by omega) 3 (.slice p6b n6b c6b))
  replace HT5 := hid (r33c HT5.out)
  replace HU5 := hid (r33c HU5.out)
  replace HT6 := hid (r33c HT6.out)
  replace HU6 := hid (r33c HU6.out)
  replace R2 := hid r33a
  replace B := hid r33b
  clear r33a r33b r33c
  obtain ⟨cc34a, cc34b, cc34c, cc34d⟩ := R1.out.cells
  obtain ⟨cc35a, cc35b, cc35c, cc35d⟩ := R2.out.cells
  go_region_held3 (fun w' => w'.cell? ⟨w.heap.size, 0, none⟩ = some (.bool s5a) ∧ w'.cell? ⟨w.heap.size, 1, none⟩ = some (.slice p5a n5a c5a) ∧ w'.cell? ⟨w.heap.size, 2, none⟩ = some (.bool s5b) ∧ w'.cell? ⟨w.heap.size, 3, none⟩ = some (.slice p5b n5b c5b) ∧ w'.cell? ⟨w.heap.size + 1, 0, none⟩ = some (.bool s6a) ∧ w'.cell? ⟨w.heap.size + 1, 1, none⟩ = some (.slice p6a n6a c6a) ∧ w'.cell? ⟨w.heap.size + 1, 2, none⟩ = some (.bool s6b) ∧ w'.cell? ⟨w.heap.size + 1, 3, none⟩ = some (.slice p6b n6b c6b)) (go_keep) (first | fail)
  replace R1 := hid R1.out.dr
  replace R2 := hid R2.out.dr
  replace HT5 := hid HT5.out.drew
  replace HU5 := hid HU5.out.drew
  replace HT6 := hid HT6.out.drew
  replace HU6 := hid HU6.out.drew
  replace B := hid (Below.drew B.out)
  go_wp2_with fail
  refine bodyPost_ret (res_nn_tmp rfl rfl rfl rfl R1.out R2.out) rfl ?_
  exact ⟨_, _, rfl, Rtl.mk2 HT5.out HU5.out HD5.out, Rtl.mk2 HT6.out HU6.out HD6.out, B.out⟩

theorem qboth_bad {a b : ByteArray} {k : Int} (h : WrongQ a b k) (ha : a.size ≤ maxLen) (hb : b.size ≤ maxLen) (w : World) :
    Calls Tryz.prog 57 #[.string a, .string b] w fun e w' => e = .returned (.tuple #[.agg #[.bool false, .slice none 0 0, .bool false, .slice none 0 0], .agg #[.bool false, .slice none 0 0, .bool false, .slice none 0 0], errno k]) ∧ Below w.heap.size w w' := by
  rcases h with h | ⟨h1, h2⟩
  · exact qboth1 h ha hb w
  · exact qboth2 h1 h2 ha hb w
theorem qboth_good {a b : ByteArray} (h1 : GoodQ a) (h2 : GoodQ b) (w : World) :
    Calls Tryz.prog 57 #[.string a, .string b] w fun e w' => ∃ v u, e = .returned (.tuple #[v, u, .nilIface]) ∧ Rtl w' v (qnum a) 100 ∧ Rtl w' u (qnum b) 100 ∧ Below w.heap.size w w' :=
  qboth3 (k := 0) h1 h2 (by have := h1.1; unfold maxLen; omega) (by have := h2.1; unfold maxLen; omega) w

end Go.Proofs.YtjeeepcnaaadmaaGreatDoor

/-
  PACKAGE rat: ITS FUNCTIONS OF TEXTS.
-/
namespace Go.Proofs.YtjeeepcnaaadmaaGreatDoor
open Go.RowKit
open Num
set_option linter.unusedVariables false
set_option maxRecDepth 100000
set_option linter.unusedSimpArgs false

set_option maxHeartbeats 1000000 in
theorem qadd_bad {a b : ByteArray} {k : Int} (h : WrongQ a b k) (ha : a.size ≤ maxLen) (hb0 : b.size ≤ maxLen) (w : World) :
    Calls Tryz.prog 23 #[.string a, .string b] w fun e w' => e = .returned (.tuple #[.string ⟨#[]⟩, errno k]) ∧ Below w.heap.size w w' := by
  have HP := hid (qboth_bad h ha hb0 w)
  have B := hid (Below.refl w.heap.size w)
  clear  h
  go_enter Tryz.func23, Tryz.ntmps23
  go_wp2_with fail
  refine (HP.out).mono ?_
  rintro e w1 ⟨rfl, hb⟩
  replace B := bb B hb
  clear hb HP
  have hb2 := (Below.refl _ _).alloc (Nat.le_refl w1.heap.size) (.cells #[.bool false, .slice none 0 0, .bool false, .slice none 0 0] 83)
  have hx3 := Nbx.new w1 false false (.slice none 0 0) (.slice none 0 0)
  replace B := bb B hb2
  have X6 := hid hx3
  have hs4 : (w1.alloc (.cells #[.bool false, .slice none 0 0, .bool false, .slice none 0 0] 83)).heap.size = w1.heap.size + 1 := by simp
  clear hb2 hx3
  have hb5 := (Below.refl _ _).alloc (Nat.le_refl (w1.alloc (.cells #[.bool false, .slice none 0 0, .bool false, .slice none 0 0] 83)).heap.size) (.cells #[.bool false, .slice none 0 0, .bool false, .slice none 0 0] 83)
  have hx6 := Nbx.new (w1.alloc (.cells #[.bool false, .slice none 0 0, .bool false, .slice none 0 0] 83)) false false (.slice none 0 0) (.slice none 0 0)
  rw [hs4] at hx6
  replace X6 := nx X6 hb5
  replace B := bb B hb5
  have X7 := hid hx6
  have hs7 : ((w1.alloc (.cells #[.bool false, .slice none 0 0, .bool false, .slice none 0 0] 83)).alloc (.cells #[.bool false, .slice none 0 0, .bool false, .slice none 0 0] 83)).heap.size = w1.heap.size + 1 + 1 := by simp [hs4]
  clear hb5 hx6
  obtain ⟨cc8a, cc8b, cc8c, cc8d⟩ := X6.out.cells
  obtain ⟨cc9a, cc9b, cc9c, cc9d⟩ := X7.out.cells
  go_wp2_with fail
  go_ret2
  exact ⟨rfl, B.out⟩

set_option maxHeartbeats 1000000 in
theorem qmul_bad {a b : ByteArray} {k : Int} (h : WrongQ a b k) (ha : a.size ≤ maxLen) (hb0 : b.size ≤ maxLen) (w : World) :
    Calls Tryz.prog 24 #[.string a, .string b] w fun e w' => e = .returned (.tuple #[.string ⟨#[]⟩, errno k]) ∧ Below w.heap.size w w' := by
  have HP := hid (qboth_bad h ha hb0 w)
  have B := hid (Below.refl w.heap.size w)
  clear  h
  go_enter Tryz.func24, Tryz.ntmps24
  go_wp2_with fail
  refine (HP.out).mono ?_
  rintro e w1 ⟨rfl, hb⟩
  replace B := bb B hb
  clear hb HP
  have hb2 := (Below.refl _ _).alloc (Nat.le_refl w1.heap.size) (.cells #[.bool false, .slice none 0 0, .bool false, .slice none 0 0] 83)
  have hx3 := Nbx.new w1 false false (.slice none 0 0) (.slice none 0 0)
  replace B := bb B hb2
  have X6 := hid hx3
  have hs4 : (w1.alloc (.cells #[.bool false, .slice none 0 0, .bool false, .slice none 0 0] 83)).heap.size = w1.heap.size + 1 := by simp
  clear hb2 hx3
  have hb5 := (Below.refl _ _).alloc (Nat.le_refl (w1.alloc (.cells #[.bool false, .slice none 0 0, .bool false, .slice none 0 0] 83)).heap.size) (.cells #[.bool false, .slice none 0 0, .bool false, .slice none 0 0] 83)
  have hx6 := Nbx.new (w1.alloc (.cells #[.bool false, .slice none 0 0, .bool false, .slice none 0 0] 83)) false false (.slice none 0 0) (.slice none 0 0)
  rw [hs4] at hx6
  replace X6 := nx X6 hb5
  replace B := bb B hb5
  have X7 := hid hx6
  have hs7 : ((w1.alloc (.cells #[.bool false, .slice none 0 0, .bool false, .slice none 0 0] 83)).alloc (.cells #[.bool false, .slice none 0 0, .bool false, .slice none 0 0] 83)).heap.size = w1.heap.size + 1 + 1 := by simp [hs4]
  clear hb5 hx6
  obtain ⟨cc8a, cc8b, cc8c, cc8d⟩ := X6.out.cells
  obtain ⟨cc9a, cc9b, cc9c, cc9d⟩ := X7.out.cells
  go_wp2_with fail
  go_ret2
  exact ⟨rfl, B.out⟩

set_option maxHeartbeats 1000000 in
theorem qdiv_bad {a b : ByteArray} {k : Int} (h : WrongQ a b k) (ha : a.size ≤ maxLen) (hb0 : b.size ≤ maxLen) (w : World) :
    Calls Tryz.prog 25 #[.string a, .string b] w fun e w' => e = .returned (.tuple #[.string ⟨#[]⟩, errno k]) ∧ Below w.heap.size w w' := by
  have HP := hid (qboth_bad h ha hb0 w)
  have B := hid (Below.refl w.heap.size w)
  clear  h
  go_enter Tryz.func25, Tryz.ntmps25
  go_wp2_with fail
  refine (HP.out).mono ?_
  rintro e w1 ⟨rfl, hb⟩
  replace B := bb B hb
  clear hb HP
  have hb2 := (Below.refl _ _).alloc (Nat.le_refl w1.heap.size) (.cells #[.bool false, .slice none 0 0, .bool false, .slice none 0 0] 83)
  have hx3 := Nbx.new w1 false false (.slice none 0 0) (.slice none 0 0)
  replace B := bb B hb2
  have X6 := hid hx3
  have hs4 : (w1.alloc (.cells #[.bool false, .slice none 0 0, .bool false, .slice none 0 0] 83)).heap.size = w1.heap.size + 1 := by simp
  clear hb2 hx3
  have hb5 := (Below.refl _ _).alloc (Nat.le_refl (w1.alloc (.cells #[.bool false, .slice none 0 0, .bool false, .slice none 0 0] 83)).heap.size) (.cells #[.bool false, .slice none 0 0, .bool false, .slice none 0 0] 83)
  have hx6 := Nbx.new (w1.alloc (.cells #[.bool false, .slice none 0 0, .bool false, .slice none 0 0] 83)) false false (.slice none 0 0) (.slice none 0 0)
  rw [hs4] at hx6
  replace X6 := nx X6 hb5
  replace B := bb B hb5
  have X7 := hid hx6
  have hs7 : ((w1.alloc (.cells #[.bool false, .slice none 0 0, .bool false, .slice none 0 0] 83)).alloc (.cells #[.bool false, .slice none 0 0, .bool false, .slice none 0 0] 83)).heap.size = w1.heap.size + 1 + 1 := by simp [hs4]
  clear hb5 hx6
  obtain ⟨cc8a, cc8b, cc8c, cc8d⟩ := X6.out.cells
  obtain ⟨cc9a, cc9b, cc9c, cc9d⟩ := X7.out.cells
  go_wp2_with fail
  go_ret2
  exact ⟨rfl, B.out⟩

set_option maxHeartbeats 1000000 in
theorem qless_bad {a b : ByteArray} {k : Int} (h : WrongQ a b k) (ha : a.size ≤ maxLen) (hb0 : b.size ≤ maxLen) (w : World) :
    Calls Tryz.prog 26 #[.string a, .string b] w fun e w' => e = .returned (.tuple #[.bool false, errno k]) ∧ Below w.heap.size w w' := by
  have HP := hid (qboth_bad h ha hb0 w)
  have B := hid (Below.refl w.heap.size w)
  clear  h
  go_enter Tryz.func26, Tryz.ntmps26
  go_wp2_with fail
  refine (HP.out).mono ?_
  rintro e w1 ⟨rfl, hb⟩
  replace B := bb B hb
  clear hb HP
  have hb2 := (Below.refl _ _).alloc (Nat.le_refl w1.heap.size) (.cells #[.bool false, .slice none 0 0, .bool false, .slice none 0 0] 83)
  have hx3 := Nbx.new w1 false false (.slice none 0 0) (.slice none 0 0)
  replace B := bb B hb2
  have X6 := hid hx3
  have hs4 : (w1.alloc (.cells #[.bool false, .slice none 0 0, .bool false, .slice none 0 0] 83)).heap.size = w1.heap.size + 1 := by simp
  clear hb2 hx3
  have hb5 := (Below.refl _ _).alloc (Nat.le_refl (w1.alloc (.cells #[.bool false, .slice none 0 0, .bool false, .slice none 0 0] 83)).heap.size) (.cells #[.bool false, .slice none 0 0, .bool false, .slice none 0 0] 83)
  have hx6 := Nbx.new (w1.alloc (.cells #[.bool false, .slice none 0 0, .bool false, .slice none 0 0] 83)) false false (.slice none 0 0) (.slice none 0 0)
  rw [hs4] at hx6
  replace X6 := nx X6 hb5
  replace B := bb B hb5
  have X7 := hid hx6
  have hs7 : ((w1.alloc (.cells #[.bool false, .slice none 0 0, .bool false, .slice none 0 0] 83)).alloc (.cells #[.bool false, .slice none 0 0, .bool false, .slice none 0 0] 83)).heap.size = w1.heap.size + 1 + 1 := by simp [hs4]
  clear hb5 hx6
  obtain ⟨cc8a, cc8b, cc8c, cc8d⟩ := X6.out.cells
  obtain ⟨cc9a, cc9b, cc9c, cc9d⟩ := X7.out.cells
  go_wp2_with fail
  go_ret2
  exact ⟨rfl, B.out⟩

set_option maxHeartbeats 1000000 in
theorem qadd_good {a b : ByteArray} (h1 : GoodQ a) (h2 : GoodQ b) (w : World) :
    Calls Tryz.prog 23 #[.string a, .string b] w fun e w' => e = .returned (.tuple #[.string (qtxt (qnum a + qnum b)), .nilIface]) ∧ Below w.heap.size w w' := by
  have HP := hid (qboth_good h1 h2 w)
  have B := hid (Below.refl w.heap.size w)
  clear  h1 h2
  go_enter Tryz.func23, Tryz.ntmps23
  go_wp2_with fail
  refine (HP.out).mono ?_
  rintro e w1 ⟨v, u, rfl, hv, hu, hb⟩
  obtain ⟨s5a, p5a, n5a, c5a, s5b, p5b, n5b, c5b, rfl⟩ := hv.opened
  obtain ⟨ht5, d5, hu5, hd5⟩ := hv.two
  have HD5 := hid hd5
  obtain ⟨s6a, p6a, n6a, c6a, s6b, p6b, n6b, c6b, rfl⟩ := hu.opened
  obtain ⟨ht6, d6, hu6, hd6⟩ := hu.two
  have HD6 := hid hd6
  replace B := bb B hb
  have HT5 := hid ht5
  have HU5 := hid hu5
  have HT6 := hid ht6
  have HU6 := hid hu6
  clear hb hv hu ht5 hu5 hd5 ht6 hu6 hd6 HP
  have hb2 := (Below.refl _ _).alloc (Nat.le_refl w1.heap.size) (.cells #[.bool s5a, .slice p5a n5a c5a, .bool s5b, .slice p5b n5b c5b] 83)
  have hx3 := Nbx.new w1 s5a s5b (.slice p5a n5a c5a) (.slice p5b n5b c5b)
  replace HT5 := wl HT5 hb2
  replace HU5 := wl HU5 hb2
  replace HT6 := wl HT6 hb2
  replace HU6 := wl HU6 hb2
  replace B := bb B hb2
  have X6 := hid hx3
  have hs4 : (w1.alloc (.cells #[.bool s5a, .slice p5a n5a c5a, .bool s5b, .slice p5b n5b c5b] 83)).heap.size = w1.heap.size + 1 := by simp
  clear hb2 hx3
  have hb5 := (Below.refl _ _).alloc (Nat.le_refl (w1.alloc (.cells #[.bool s5a, .slice p5a n5a c5a, .bool s5b, .slice p5b n5b c5b] 83)).heap.size) (.cells #[.bool s6a, .slice p6a n6a c6a, .bool s6b, .slice p6b n6b c6b] 83)
  have hx6 := Nbx.new (w1.alloc (.cells #[.bool s5a, .slice p5a n5a c5a, .bool s5b, .slice p5b n5b c5b] 83)) s6a s6b (.slice p6a n6a c6a) (.slice p6b n6b c6b)
  rw [hs4] at hx6
  replace X6 := nx X6 hb5
  replace HT5 := wl HT5 hb5
  replace HU5 := wl HU5 hb5
  replace HT6 := wl HT6 hb5
  replace HU6 := wl HU6 hb5
  replace B := bb B hb5
  have X7 := hid hx6
  have hs7 : ((w1.alloc (.cells #[.bool s5a, .slice p5a n5a c5a, .bool s5b, .slice p5b n5b c5b] 83)).alloc (.cells #[.bool s6a, .slice p6a n6a c6a, .bool s6b, .slice p6b n6b c6b] 83)).heap.size = w1.heap.size + 1 + 1 := by simp [hs4]
  clear hb5 hx6
  obtain ⟨cc8a, cc8b, cc8c, cc8d⟩ := X6.out.cells
  obtain ⟨cc9a, cc9b, cc9c, cc9d⟩ := X7.out.cells
  go_wp2_with fail
  generalize hW : (w1.alloc (.cells #[.bool s5a, .slice p5a n5a c5a, .bool s5b, .slice p5b n5b c5b] 83)).alloc (.cells #[.bool s6a, .slice p6a n6a c6a, .bool s6b, .slice p6b n6b c6b] 83) = W10 at *
  clear hW
  refine (addq_rtl (Rtl.mk2 HT5.out HU5.out HD5.out) (Rtl.mk2 HT6.out HU6.out HD6.out) (by omega) (by omega)).mono ?_
  rintro e w11 ⟨v, rfl, hv, hb⟩
  obtain ⟨s9a, p9a, n9a, c9a, s9b, p9b, n9b, c9b, rfl⟩ := hv.opened
  obtain ⟨ht9, d9, hu9, hd9⟩ := hv.two
  have HD9 := hid hd9
  replace B := bb B hb
  clear cc8a cc8b cc8c cc8d cc9a cc9b cc9c cc9d
  have HT9 := hid ht9
  have HU9 := hid hu9
  clear hb hv ht9 hu9 hd9
  go_wp2_with fail
  refine (qstring (Rtl.mk2 HT9.out HU9.out HD9.out) (by omega)).mono ?_
  rintro e w12 ⟨rfl, hb⟩
  replace B := bb B hb
  clear hb 
  go_wp2_with fail
  go_ret2
  exact ⟨rfl, B.out⟩

set_option maxHeartbeats 1000000 in
theorem qmul_good {a b : ByteArray} (h1 : GoodQ a) (h2 : GoodQ b) (w : World) :
    Calls Tryz.prog 24 #[.string a, .string b] w fun e w' => e = .returned (.tuple #[.string (qtxt (qnum a * qnum b)), .nilIface]) ∧ Below w.heap.size w w' := by
  have HP := hid (qboth_good h1 h2 w)
  have B := hid (Below.refl w.heap.size w)
  clear  h1 h2
  go_enter Tryz.func24, Tryz.ntmps24
  go_wp2_with fail
  refine (HP.out).mono ?_
  rintro e w1 ⟨v, u, rfl, hv, hu, hb⟩
  obtain ⟨s5a, p5a, n5a, c5a, s5b, p5b, n5b, c5b, rfl⟩ := hv.opened
  obtain ⟨ht5, d5, hu5, hd5⟩ := hv.two
  have HD5 := hid hd5
  obtain ⟨s6a, p6a, n6a, c6a, s6b, p6b, n6b, c6b, rfl⟩ := hu.opened
  obtain ⟨ht6, d6, hu6, hd6⟩ := hu.two
  have HD6 := hid hd6
  replace B := bb B hb
  have HT5 := hid ht5
  have HU5 := hid hu5
  have HT6 := hid ht6
  have HU6 := hid hu6
  clear hb hv hu ht5 hu5 hd5 ht6 hu6 hd6 HP
  have hb2 := (Below.refl _ _).alloc (Nat.le_refl w1.heap.size) (.cells #[.bool s5a, .slice p5a n5a c5a, .bool s5b, .slice p5b n5b c5b] 83)
  have hx3 := Nbx.new w1 s5a s5b (.slice p5a n5a c5a) (.slice p5b n5b c5b)
  replace HT5 := wl HT5 hb2
  replace HU5 := wl HU5 hb2
  replace HT6 := wl HT6 hb2
  replace HU6 := wl HU6 hb2
  replace B := bb B hb2
  have X6 := hid hx3
  have hs4 : (w1.alloc (.cells #[.bool s5a, .slice p5a n5a c5a, .bool s5b, .slice p5b n5b c5b] 83)).heap.size = w1.heap.size + 1 := by simp
  clear hb2 hx3
  have hb5 := (Below.refl _ _).alloc (Nat.le_refl (w1.alloc (.cells #[.bool s5a, .slice p5a n5a c5a, .bool s5b, .slice p5b n5b c5b] 83)).heap.size) (.cells #[.bool s6a, .slice p6a n6a c6a, .bool s6b, .slice p6b n6b c6b] 83)
  have hx6 := Nbx.new (w1.alloc (.cells #[.bool s5a, .slice p5a n5a c5a, .bool s5b, .slice p5b n5b c5b] 83)) s6a s6b (.slice p6a n6a c6a) (.slice p6b n6b c6b)
  rw [hs4] at hx6
  replace X6 := nx X6 hb5
  replace HT5 := wl HT5 hb5
  replace HU5 := wl HU5 hb5
  replace HT6 := wl HT6 hb5
  replace HU6 := wl HU6 hb5
  replace B := bb B hb5
  have X7 := hid hx6
  have hs7 : ((w1.alloc (.cells #[.bool s5a, .slice p5a n5a c5a, .bool s5b, .slice p5b n5b c5b] 83)).alloc (.cells #[.bool s6a, .slice p6a n6a c6a, .bool s6b, .slice p6b n6b c6b] 83)).heap.size = w1.heap.size + 1 + 1 := by simp [hs4]
  clear hb5 hx6
  obtain ⟨cc8a, cc8b, cc8c, cc8d⟩ := X6.out.cells
  obtain ⟨cc9a, cc9b, cc9c, cc9d⟩ := X7.out.cells
  go_wp2_with fail
  generalize hW : (w1.alloc (.cells #[.bool s5a, .slice p5a n5a c5a, .bool s5b, .slice p5b n5b c5b] 83)).alloc (.cells #[.bool s6a, .slice p6a n6a c6a, .bool s6b, .slice p6b n6b c6b] 83) = W10 at *
  clear hW
  refine (mulq_rtl (Rtl.mk2 HT5.out HU5.out HD5.out) (Rtl.mk2 HT6.out HU6.out HD6.out) (by omega) (by omega)).mono ?_
  rintro e w11 ⟨v, rfl, hv, hb⟩
  obtain ⟨s9a, p9a, n9a, c9a, s9b, p9b, n9b, c9b, rfl⟩ := hv.opened
  obtain ⟨ht9, d9, hu9, hd9⟩ := hv.two
  have HD9 := hid hd9
  replace B := bb B hb
  clear cc8a cc8b cc8c cc8d cc9a cc9b cc9c cc9d
  have HT9 := hid ht9
  have HU9 := hid hu9
  clear hb hv ht9 hu9 hd9
  go_wp2_with fail
  refine (qstring (Rtl.mk2 HT9.out HU9.out HD9.out) (by omega)).mono ?_
  rintro e w12 ⟨rfl, hb⟩
  replace B := bb B hb
  clear hb 
  go_wp2_with fail
  go_ret2
  exact ⟨rfl, B.out⟩

set_option maxHeartbeats 1000000 in
theorem qless_good {a b : ByteArray} (h1 : GoodQ a) (h2 : GoodQ b) (w : World) :
    Calls Tryz.prog 26 #[.string a, .string b] w fun e w' => e = .returned (.tuple #[.bool (decide (qnum a < qnum b)), .nilIface]) ∧ Below w.heap.size w w' := by
  have HP := hid (qboth_good h1 h2 w)
  have B := hid (Below.refl w.heap.size w)
  clear  h1 h2
  go_enter Tryz.func26, Tryz.ntmps26
  go_wp2_with fail
  refine (HP.out).mono ?_
  rintro e w1 ⟨v, u, rfl, hv, hu, hb⟩
  obtain ⟨s5a, p5a, n5a, c5a, s5b, p5b, n5b, c5b, rfl⟩ := hv.opened
  obtain ⟨ht5, d5, hu5, hd5⟩ := hv.two
  have HD5 := hid hd5
  obtain ⟨s6a, p6a, n6a, c6a, s6b, p6b, n6b, c6b, rfl⟩ := hu.opened
  obtain ⟨ht6, d6, hu6, hd6⟩ := hu.two
  have HD6 := hid hd6
  replace B := bb B hb
  have HT5 := hid ht5
  have HU5 := hid hu5
  have HT6 := hid ht6
  have HU6 := hid hu6
  clear hb hv hu ht5 hu5 hd5 ht6 hu6 hd6 HP
  have hb2 := (Below.refl _ _).alloc (Nat.le_refl w1.heap.size) (.cells #[.bool s5a, .slice p5a n5a c5a, .bool s5b, .slice p5b n5b c5b] 83)
  have hx3 := Nbx.new w1 s5a s5b (.slice p5a n5a c5a) (.slice p5b n5b c5b)
  replace HT5 := wl HT5 hb2
  replace HU5 := wl HU5 hb2
  replace HT6 := wl HT6 hb2
  replace HU6 := wl HU6 hb2
  replace B := bb B hb2
  have X6 := hid hx3
  have hs4 : (w1.alloc (.cells #[.bool s5a, .slice p5a n5a c5a, .bool s5b, .slice p5b n5b c5b] 83)).heap.size = w1.heap.size + 1 := by simp
  clear hb2 hx3
  have hb5 := (Below.refl _ _).alloc (Nat.le_refl (w1.alloc (.cells #[.bool s5a, .slice p5a n5a c5a, .bool s5b, .slice p5b n5b c5b] 83)).heap.size) (.cells #[.bool s6a, .slice p6a n6a c6a, .bool s6b, .slice p6b n6b c6b] 83)
  have hx6 := Nbx.new (w1.alloc (.cells #[.bool s5a, .slice p5a n5a c5a, .bool s5b, .slice p5b n5b c5b] 83)) s6a s6b (.slice p6a n6a c6a) (.slice p6b n6b c6b)
  rw [hs4] at hx6
  replace X6 := nx X6 hb5
  replace HT5 := wl HT5 hb5
  replace HU5 := wl HU5 hb5
  replace HT6 := wl HT6 hb5
  replace HU6 := wl HU6 hb5
  replace B := bb B hb5
  have X7 := hid hx6
  have hs7 : ((w1.alloc (.cells #[.bool s5a, .slice p5a n5a c5a, .bool s5b, .slice p5b n5b c5b] 83)).alloc (.cells #[.bool s6a, .slice p6a n6a c6a, .bool s6b, .slice p6b n6b c6b] 83)).heap.size = w1.heap.size + 1 + 1 := by simp [hs4]
  clear hb5 hx6
  obtain ⟨cc8a, cc8b, cc8c, cc8d⟩ := X6.out.cells
  obtain ⟨cc9a, cc9b, cc9c, cc9d⟩ := X7.out.cells
  go_wp2_with fail
  generalize hW : (w1.alloc (.cells #[.bool s5a, .slice p5a n5a c5a, .bool s5b, .slice p5b n5b c5b] 83)).alloc (.cells #[.bool s6a, .slice p6a n6a c6a, .bool s6b, .slice p6b n6b c6b] 83) = W10 at *
  clear hW
  refine (lessq_rtl (Rtl.mk2 HT5.out HU5.out HD5.out) (Rtl.mk2 HT6.out HU6.out HD6.out) (by omega) (by omega)).mono ?_
  rintro e w11 ⟨rfl, hb⟩
  replace B := bb B hb
  clear cc8a cc8b cc8c cc8d cc9a cc9b cc9c cc9d
  clear hb 
  go_wp2_with fail
  go_ret2
  exact ⟨rfl, B.out⟩

set_option maxHeartbeats 1000000 in
theorem qdiv_zero {a b : ByteArray} (h1 : GoodQ a) (h2 : GoodQ b) (h0 : qnum b = 0) (w : World) :
    Calls Tryz.prog 25 #[.string a, .string b] w fun e w' => e = .returned (.tuple #[.string ⟨#[]⟩, errno 5]) ∧ Below w.heap.size w w' := by
  have HP := hid (qboth_good h1 h2 w)
  have H0 := hid h0
  have B := hid (Below.refl w.heap.size w)
  clear  h1 h2 h0
  go_enter Tryz.func25, Tryz.ntmps25
  go_wp2_with fail
  refine (HP.out).mono ?_
  rintro e w1 ⟨v, u, rfl, hv, hu, hb⟩
  obtain ⟨s5a, p5a, n5a, c5a, s5b, p5b, n5b, c5b, rfl⟩ := hv.opened
  obtain ⟨ht5, d5, hu5, hd5⟩ := hv.two
  have HD5 := hid hd5
  obtain ⟨s6a, p6a, n6a, c6a, s6b, p6b, n6b, c6b, rfl⟩ := hu.opened
  obtain ⟨ht6, d6, hu6, hd6⟩ := hu.two
  have HD6 := hid hd6
  replace B := bb B hb
  have HT5 := hid ht5
  have HU5 := hid hu5
  have HT6 := hid ht6
  have HU6 := hid hu6
  clear hb hv hu ht5 hu5 hd5 ht6 hu6 hd6 HP
  have hb2 := (Below.refl _ _).alloc (Nat.le_refl w1.heap.size) (.cells #[.bool s5a, .slice p5a n5a c5a, .bool s5b, .slice p5b n5b c5b] 83)
  have hx3 := Nbx.new w1 s5a s5b (.slice p5a n5a c5a) (.slice p5b n5b c5b)
  replace HT5 := wl HT5 hb2
  replace HU5 := wl HU5 hb2
  replace HT6 := wl HT6 hb2
  replace HU6 := wl HU6 hb2
  replace B := bb B hb2
  have X6 := hid hx3
  have hs4 : (w1.alloc (.cells #[.bool s5a, .slice p5a n5a c5a, .bool s5b, .slice p5b n5b c5b] 83)).heap.size = w1.heap.size + 1 := by simp
  clear hb2 hx3
  have hb5 := (Below.refl _ _).alloc (Nat.le_refl (w1.alloc (.cells #[.bool s5a, .slice p5a n5a c5a, .bool s5b, .slice p5b n5b c5b] 83)).heap.size) (.cells #[.bool s6a, .slice p6a n6a c6a, .bool s6b, .slice p6b n6b c6b] 83)
  have hx6 := Nbx.new (w1.alloc (.cells #[.bool s5a, .slice p5a n5a c5a, .bool s5b, .slice p5b n5b c5b] 83)) s6a s6b (.slice p6a n6a c6a) (.slice p6b n6b c6b)
  rw [hs4] at hx6
  replace X6 := nx X6 hb5
  replace HT5 := wl HT5 hb5
  replace HU5 := wl HU5 hb5
  replace HT6 := wl HT6 hb5
  replace HU6 := wl HU6 hb5
  replace B := bb B hb5
  have X7 := hid hx6
  have hs7 : ((w1.alloc (.cells #[.bool s5a, .slice p5a n5a c5a, .bool s5b, .slice p5b n5b c5b] 83)).alloc (.cells #[.bool s6a, .slice p6a n6a c6a, .bool s6b, .slice p6b n6b c6b] 83)).heap.size = w1.heap.size + 1 + 1 := by simp [hs4]
  clear hb5 hx6
  obtain ⟨cc8a, cc8b, cc8c, cc8d⟩ := X6.out.cells
  obtain ⟨cc9a, cc9b, cc9c, cc9d⟩ := X7.out.cells
  go_wp2_with fail
  generalize hW : (w1.alloc (.cells #[.bool s5a, .slice p5a n5a c5a, .bool s5b, .slice p5b n5b c5b] 83)).alloc (.cells #[.bool s6a, .slice p6a n6a c6a, .bool s6b, .slice p6b n6b c6b] 83) = W10 at *
  clear hW
  refine (divq_zero (Rtl.mk2 HT5.out HU5.out HD5.out) (Rtl.mk2 HT6.out HU6.out HD6.out) H0.out (by omega) (by omega)).mono ?_
  rintro e w11 ⟨rfl, hb⟩
  replace B := bb B hb
  clear cc8a cc8b cc8c cc8d cc9a cc9b cc9c cc9d
  clear hb 
  have hb12 := (Below.refl _ _).alloc (Nat.le_refl w11.heap.size) (.cells #[.bool false, .slice none 0 0, .bool false, .slice none 0 0] 83)
  have hx13 := Nbx.new w11 false false (.slice none 0 0) (.slice none 0 0)
  replace B := bb B hb12
  have X9 := hid hx13
  have hs14 : (w11.alloc (.cells #[.bool false, .slice none 0 0, .bool false, .slice none 0 0] 83)).heap.size = w11.heap.size + 1 := by simp
  clear hb12 hx13
  obtain ⟨cc15a, cc15b, cc15c, cc15d⟩ := X9.out.cells
  go_wp2_with fail
  go_ret2
  exact ⟨rfl, B.out⟩

set_option maxHeartbeats 1000000 in
theorem qdiv_good {a b : ByteArray} (h1 : GoodQ a) (h2 : GoodQ b) (h0 : qnum b ≠ 0) (w : World) :
    Calls Tryz.prog 25 #[.string a, .string b] w fun e w' => e = .returned (.tuple #[.string (qtxt (qnum a / qnum b)), .nilIface]) ∧ Below w.heap.size w w' := by
  have HP := hid (qboth_good h1 h2 w)
  have H0 := hid h0
  have B := hid (Below.refl w.heap.size w)
  clear  h1 h2 h0
  go_enter Tryz.func25, Tryz.ntmps25
  go_wp2_with fail
  refine (HP.out).mono ?_
  rintro e w1 ⟨v, u, rfl, hv, hu, hb⟩
  obtain ⟨s5a, p5a, n5a, c5a, s5b, p5b, n5b, c5b, rfl⟩ := hv.opened
  obtain ⟨ht5, d5, hu5, hd5⟩ := hv.two
  have HD5 := hid hd5
  obtain ⟨s6a, p6a, n6a, c6a, s6b, p6b, n6b, c6b, rfl⟩ := hu.opened
  obtain ⟨ht6, d6, hu6, hd6⟩ := hu.two
  have HD6 := hid hd6
  replace B := bb B hb
  have HT5 := hid ht5
  have HU5 := hid hu5
  have HT6 := hid ht6
  have HU6 := hid hu6
  clear hb hv hu ht5 hu5 hd5 ht6 hu6 hd6 HP
  have hb2 := (Below.refl _ _).alloc (Nat.le_refl w1.heap.size) (.cells #[.bool s5a, .slice p5a n5a c5a, .bool s5b, .slice p5b n5b c5b] 83)
  have hx3 := Nbx.new w1 s5a s5b (.slice p5a n5a c5a) (.slice p5b n5b c5b)
  replace HT5 := wl HT5 hb2
  replace HU5 := wl HU5 hb2
  replace HT6 := wl HT6 hb2
  replace HU6 := wl HU6 hb2
  replace B := bb B hb2
  have X6 := hid hx3
  have hs4 : (w1.alloc (.cells #[.bool s5a, .slice p5a n5a c5a, .bool s5b, .slice p5b n5b c5b] 83)).heap.size = w1.heap.size + 1 := by simp
  clear hb2 hx3
  have hb5 := (Below.refl _ _).alloc (Nat.le_refl (w1.alloc (.cells #[.bool s5a, .slice p5a n5a c5a, .bool s5b, .slice p5b n5b c5b] 83)).heap.size) (.cells #[.bool s6a, .slice p6a n6a c6a, .bool s6b, .slice p6b n6b c6b] 83)
  have hx6 := Nbx.new (w1.alloc (.cells #[.bool s5a, .slice p5a n5a c5a, .bool s5b, .slice p5b n5b c5b] 83)) s6a s6b (.slice p6a n6a c6a) (.slice p6b n6b c6b)
  rw [hs4] at hx6
  replace X6 := nx X6 hb5
  replace HT5 := wl HT5 hb5
  replace HU5 := wl HU5 hb5
  replace HT6 := wl HT6 hb5
  replace HU6 := wl HU6 hb5
  replace B := bb B hb5
  have X7 := hid hx6
  have hs7 : ((w1.alloc (.cells #[.bool s5a, .slice p5a n5a c5a, .bool s5b, .slice p5b n5b c5b] 83)).alloc (.cells #[.bool s6a, .slice p6a n6a c6a, .bool s6b, .slice p6b n6b c6b] 83)).heap.size = w1.heap.size + 1 + 1 := by simp [hs4]
  clear hb5 hx6
  obtain ⟨cc8a, cc8b, cc8c, cc8d⟩ := X6.out.cells
  obtain ⟨cc9a, cc9b, cc9c, cc9d⟩ := X7.out.cells
  go_wp2_with fail
  generalize hW : (w1.alloc (.cells #[.bool s5a, .slice p5a n5a c5a, .bool s5b, .slice p5b n5b c5b] 83)).alloc (.cells #[.bool s6a, .slice p6a n6a c6a, .bool s6b, .slice p6b n6b c6b] 83) = W10 at *
  clear hW
  refine (divq_some (Rtl.mk2 HT5.out HU5.out HD5.out) (Rtl.mk2 HT6.out HU6.out HD6.out) H0.out (by omega) (by omega)).mono ?_
  rintro e w11 ⟨v, rfl, hv, hb⟩
  obtain ⟨s9a, p9a, n9a, c9a, s9b, p9b, n9b, c9b, rfl⟩ := hv.opened
  obtain ⟨ht9, d9, hu9, hd9⟩ := hv.two
  have HD9 := hid hd9
  replace B := bb B hb
  clear cc8a cc8b cc8c cc8d cc9a cc9b cc9c cc9d
  have HT9 := hid ht9
  have HU9 := hid hu9
  clear hb hv ht9 hu9 hd9
  have hb12 := (Below.refl _ _).alloc (Nat.le_refl w11.heap.size) (.cells #[.bool s9a, .slice p9a n9a c9a, .bool s9b, .slice p9b n9b c9b] 83)
  have hx13 := Nbx.new w11 s9a s9b (.slice p9a n9a c9a) (.slice p9b n9b c9b)
  replace HT9 := wl HT9 hb12
  replace HU9 := wl HU9 hb12
  replace B := bb B hb12
  have X9 := hid hx13
  have hs14 : (w11.alloc (.cells #[.bool s9a, .slice p9a n9a c9a, .bool s9b, .slice p9b n9b c9b] 83)).heap.size = w11.heap.size + 1 := by simp
  clear hb12 hx13
  obtain ⟨cc15a, cc15b, cc15c, cc15d⟩ := X9.out.cells
  go_wp2_with fail
  generalize hW : w11.alloc (.cells #[.bool s9a, .slice p9a n9a c9a, .bool s9b, .slice p9b n9b c9b] 83) = W16 at *
  clear hW
  refine (qstring (Rtl.mk2 HT9.out HU9.out HD9.out) (by omega)).mono ?_
  rintro e w17 ⟨rfl, hb⟩
  replace B := bb B hb
  clear cc15a cc15b cc15c cc15d
  clear hb 
  go_wp2_with fail
  go_ret2
  exact ⟨rfl, B.out⟩

set_option maxHeartbeats 1000000 in
theorem qfloor_bad {a : ByteArray} {k : Int} (h : BadQ a k) (ha : a.size ≤ maxLen) (w : World) :
    Calls Tryz.prog 12 #[.string a] w fun e w' => e = .returned (.tuple #[.string ⟨#[]⟩, errno k]) ∧ Below w.heap.size w w' := by
  have HP := hid (qread_bad h w ha)
  have B := hid (Below.refl w.heap.size w)
  clear  h
  go_enter Tryz.func12, Tryz.ntmps12
  go_wp2_with fail
  refine (HP.out).mono ?_
  rintro e w1 ⟨rfl, hb⟩
  replace B := bb B hb
  clear hb HP
  have hb2 := (Below.refl _ _).alloc (Nat.le_refl w1.heap.size) (.cells #[.bool false, .slice none 0 0, .bool false, .slice none 0 0] 83)
  have hx3 := Nbx.new w1 false false (.slice none 0 0) (.slice none 0 0)
  replace B := bb B hb2
  have X4 := hid hx3
  have hs4 : (w1.alloc (.cells #[.bool false, .slice none 0 0, .bool false, .slice none 0 0] 83)).heap.size = w1.heap.size + 1 := by simp
  clear hb2 hx3
  obtain ⟨cc5a, cc5b, cc5c, cc5d⟩ := X4.out.cells
  go_wp2_with fail
  go_ret2
  exact ⟨rfl, B.out⟩

set_option maxHeartbeats 1000000 in
theorem qfloor_good {a : ByteArray} (h : GoodQ a) (w : World) :
    Calls Tryz.prog 12 #[.string a] w fun e w' => e = .returned (.tuple #[.string (ztxt (qnum a).floor), .nilIface]) ∧ Below w.heap.size w w' := by
  have HP := hid (qread_good h w)
  have B := hid (Below.refl w.heap.size w)
  clear  h
  go_enter Tryz.func12, Tryz.ntmps12
  go_wp2_with fail
  refine (HP.out).mono ?_
  rintro e w1 ⟨v, rfl, hv, hb⟩
  obtain ⟨s5a, p5a, n5a, c5a, s5b, p5b, n5b, c5b, rfl⟩ := hv.opened
  obtain ⟨ht5, d5, hu5, hd5⟩ := hv.two
  have HD5 := hid hd5
  replace B := bb B hb
  have HT5 := hid ht5
  have HU5 := hid hu5
  clear hb hv ht5 hu5 hd5 HP
  have hb2 := (Below.refl _ _).alloc (Nat.le_refl w1.heap.size) (.cells #[.bool s5a, .slice p5a n5a c5a, .bool s5b, .slice p5b n5b c5b] 83)
  have hx3 := Nbx.new w1 s5a s5b (.slice p5a n5a c5a) (.slice p5b n5b c5b)
  replace HT5 := wl HT5 hb2
  replace HU5 := wl HU5 hb2
  replace B := bb B hb2
  have X4 := hid hx3
  have hs4 : (w1.alloc (.cells #[.bool s5a, .slice p5a n5a c5a, .bool s5b, .slice p5b n5b c5b] 83)).heap.size = w1.heap.size + 1 := by simp
  clear hb2 hx3
  obtain ⟨cc5a, cc5b, cc5c, cc5d⟩ := X4.out.cells
  go_wp2_with fail
  generalize hW : w1.alloc (.cells #[.bool s5a, .slice p5a n5a c5a, .bool s5b, .slice p5b n5b c5b] 83) = W6 at *
  clear hW
  refine (floorq_rtl (Rtl.mk2 HT5.out HU5.out HD5.out) (by omega) (by omega)).mono ?_
  rintro e w7 ⟨v, rfl, hv, hb⟩
  obtain ⟨s9, p9, n9, c9, rfl⟩ := hv.opened
  replace B := bb B hb
  clear cc5a cc5b cc5c cc5d
  have HF := hid hv
  clear hb hv
  go_wp2_with fail
  refine (string_whl HF.out (by omega)).mono ?_
  rintro e w8 ⟨rfl, hb⟩
  replace B := bb B hb
  clear hb 
  go_wp2_with fail
  go_ret2
  exact ⟨rfl, B.out⟩

set_option maxHeartbeats 1000000 in
theorem qcheck_bad {a : ByteArray} {k : Int} (h : BadQ a k) (ha : a.size ≤ maxLen) (w : World) :
    Calls Tryz.prog 9 #[.string a] w fun e w' => e = .returned (errno k) ∧ Below w.heap.size w w' := by
  have HP := hid (qread_bad h w ha)
  have B := hid (Below.refl w.heap.size w)
  clear  h
  go_enter Tryz.func9, Tryz.ntmps9
  go_wp2_with fail
  refine (HP.out).mono ?_
  rintro e w1 ⟨rfl, hb⟩
  replace B := bb B hb
  clear hb HP
  have hb2 := (Below.refl _ _).alloc (Nat.le_refl w1.heap.size) (.cells #[.bool false, .slice none 0 0, .bool false, .slice none 0 0] 83)
  have hx3 := Nbx.new w1 false false (.slice none 0 0) (.slice none 0 0)
  replace B := bb B hb2
  have X4 := hid hx3
  have hs4 : (w1.alloc (.cells #[.bool false, .slice none 0 0, .bool false, .slice none 0 0] 83)).heap.size = w1.heap.size + 1 := by simp
  clear hb2 hx3
  go_wp2_with fail
  go_ret
  exact ⟨rfl, B.out⟩

set_option maxHeartbeats 1000000 in
theorem qcheck_good {a : ByteArray} (h : GoodQ a) (w : World) :
    Calls Tryz.prog 9 #[.string a] w fun e w' => e = .returned .nilIface ∧ Below w.heap.size w w' := by
  have HP := hid (qread_good h w)
  have B := hid (Below.refl w.heap.size w)
  clear  h
  go_enter Tryz.func9, Tryz.ntmps9
  go_wp2_with fail
  refine (HP.out).mono ?_
  rintro e w1 ⟨v, rfl, hv, hb⟩
  obtain ⟨s5a, p5a, n5a, c5a, s5b, p5b, n5b, c5b, rfl⟩ := hv.opened
  obtain ⟨ht5, d5, hu5, hd5⟩ := hv.two
  have HD5 := hid hd5
  replace B := bb B hb
  have HT5 := hid ht5
  have HU5 := hid hu5
  clear hb hv ht5 hu5 hd5 HP
  have hb2 := (Below.refl _ _).alloc (Nat.le_refl w1.heap.size) (.cells #[.bool s5a, .slice p5a n5a c5a, .bool s5b, .slice p5b n5b c5b] 83)
  have hx3 := Nbx.new w1 s5a s5b (.slice p5a n5a c5a) (.slice p5b n5b c5b)
  replace B := bb B hb2
  have X4 := hid hx3
  have hs4 : (w1.alloc (.cells #[.bool s5a, .slice p5a n5a c5a, .bool s5b, .slice p5b n5b c5b] 83)).heap.size = w1.heap.size + 1 := by simp
  clear hb2 hx3
  go_wp2_with fail
  go_ret
  exact ⟨rfl, B.out⟩

set_option maxHeartbeats 1000000 in
theorem qmake_bad1 {a b : ByteArray} {k : Int} (h : BadZ a k) (ha : a.size ≤ maxLen) (w : World) :
    Calls Tryz.prog 27 #[.string a, .string b] w fun e w' => e = .returned (.tuple #[.string ⟨#[]⟩, errno k]) ∧ Below w.heap.size w w' := by
  have H1 := hid h
  have B := hid (Below.refl w.heap.size w)
  clear  h
  go_enter Tryz.func27, Tryz.ntmps27
  go_wp2_with fail
  refine (zread_bad H1.out _ ha).mono ?_
  rintro e w1 ⟨rfl, hb⟩
  replace B := bb B hb
  clear hb 
  have hb2 := (Below.refl _ _).alloc (Nat.le_refl w1.heap.size) (.cells #[.bool false, .slice none 0 0] 81)
  have hx3 := Box.new w1 false none 0 0
  replace B := bb B hb2
  have X6 := hid hx3
  have hs4 : (w1.alloc (.cells #[.bool false, .slice none 0 0] 81)).heap.size = w1.heap.size + 1 := by simp
  clear hb2 hx3
  obtain ⟨cc5a, cc5b⟩ := X6.out.both
  go_wp2_with fail
  go_ret2
  exact ⟨rfl, B.out⟩

set_option maxHeartbeats 1000000 in
theorem qmake_bad2 {a b : ByteArray} {k : Int} (h1 : GoodZ a) (h2 : BadZ b k) (hb0 : b.size ≤ maxLen) (w : World) :
    Calls Tryz.prog 27 #[.string a, .string b] w fun e w' => e = .returned (.tuple #[.string ⟨#[]⟩, errno k]) ∧ Below w.heap.size w w' := by
  have H1 := hid h1
  have H2 := hid h2
  have B := hid (Below.refl w.heap.size w)
  clear  h1 h2
  go_enter Tryz.func27, Tryz.ntmps27
  go_wp2_with fail
  refine (zread_good H1.out _).mono ?_
  rintro e w1 ⟨v, rfl, hv, hb⟩
  obtain ⟨s5, p5, n5, c5, rfl⟩ := hv.opened
  replace B := bb B hb
  have HT := hid hv
  clear hb hv
  have hb2 := (Below.refl _ _).alloc (Nat.le_refl w1.heap.size) (.cells #[.bool s5, .slice p5 n5 c5] 81)
  have hx3 := Box.new w1 s5 p5 n5 c5
  replace B := bb B hb2
  have X6 := hid hx3
  have hs4 : (w1.alloc (.cells #[.bool s5, .slice p5 n5 c5] 81)).heap.size = w1.heap.size + 1 := by simp
  clear hb2 hx3
  obtain ⟨cc5a, cc5b⟩ := X6.out.both
  go_wp2_with fail
  generalize hW : w1.alloc (.cells #[.bool s5, .slice p5 n5 c5] 81) = W6 at *
  clear hW
  refine (zread_bad H2.out _ hb0).mono ?_
  rintro e w7 ⟨rfl, hb⟩
  replace X6 := bx X6 hb
  replace B := bb B hb
  clear cc5a cc5b
  clear hb 
  have hb8 := (Below.refl _ _).alloc (Nat.le_refl w7.heap.size) (.cells #[.bool false, .slice none 0 0] 81)
  have hx9 := Box.new w7 false none 0 0
  have L0 := hid X6.out.lt
  replace X6 := bx X6 hb8
  replace B := bb B hb8
  have X8 := hid hx9
  have hs10 : (w7.alloc (.cells #[.bool false, .slice none 0 0] 81)).heap.size = w7.heap.size + 1 := by simp
  clear hb8 hx9
  obtain ⟨cc11a, cc11b⟩ := X6.out.both
  obtain ⟨cc12a, cc12b⟩ := X8.out.both
  go_wp2_with fail
  go_ret2
  exact ⟨rfl, B.out⟩

set_option maxHeartbeats 1000000 in
theorem qmake_zero {a b : ByteArray} (h1 : GoodZ a) (h2 : GoodZ b) (h0 : znum b = 0) (w : World) :
    Calls Tryz.prog 27 #[.string a, .string b] w fun e w' => e = .returned (.tuple #[.string ⟨#[]⟩, errno 5]) ∧ Below w.heap.size w w' := by
  have H1 := hid h1
  have H2 := hid h2
  have H0 := hid h0
  have B := hid (Below.refl w.heap.size w)
  clear  h1 h2 h0
  go_enter Tryz.func27, Tryz.ntmps27
  go_wp2_with fail
  refine (zread_good H1.out _).mono ?_
  rintro e w1 ⟨v, rfl, hv, hb⟩
  obtain ⟨s5, p5, n5, c5, rfl⟩ := hv.opened
  replace B := bb B hb
  have HT := hid hv
  clear hb hv
  have hb2 := (Below.refl _ _).alloc (Nat.le_refl w1.heap.size) (.cells #[.bool s5, .slice p5 n5 c5] 81)
  have hx3 := Box.new w1 s5 p5 n5 c5
  replace HT := wl HT hb2
  replace B := bb B hb2
  have X6 := hid hx3
  have hs4 : (w1.alloc (.cells #[.bool s5, .slice p5 n5 c5] 81)).heap.size = w1.heap.size + 1 := by simp
  clear hb2 hx3
  obtain ⟨cc5a, cc5b⟩ := X6.out.both
  go_wp2_with fail
  generalize hW : w1.alloc (.cells #[.bool s5, .slice p5 n5 c5] 81) = W6 at *
  clear hW
  refine (zread_good H2.out _).mono ?_
  rintro e w7 ⟨v, rfl, hv, hb⟩
  obtain ⟨s6, p6, n6, c6, rfl⟩ := hv.opened
  replace X6 := bx X6 hb
  replace HT := wl HT hb
  replace B := bb B hb
  clear cc5a cc5b
  have HU := hid hv
  clear hb hv
  have hb8 := (Below.refl _ _).alloc (Nat.le_refl w7.heap.size) (.cells #[.bool s6, .slice p6 n6 c6] 81)
  have hx9 := Box.new w7 s6 p6 n6 c6
  have L0 := hid X6.out.lt
  replace X6 := bx X6 hb8
  replace HT := wl HT hb8
  replace HU := wl HU hb8
  replace B := bb B hb8
  have X8 := hid hx9
  have hs10 : (w7.alloc (.cells #[.bool s6, .slice p6 n6 c6] 81)).heap.size = w7.heap.size + 1 := by simp
  clear hb8 hx9
  obtain ⟨cc11a, cc11b⟩ := X6.out.both
  obtain ⟨cc12a, cc12b⟩ := X8.out.both
  go_wp2_with fail
  generalize hW : w7.alloc (.cells #[.bool s6, .slice p6 n6 c6] 81) = W13 at *
  clear hW
  refine (quot_zero HT.out HU.out H0.out (by omega)).mono ?_
  rintro e w14 ⟨rfl, hb⟩
  replace B := bb B hb
  clear cc11a cc11b cc12a cc12b
  clear hb 
  have hb15 := (Below.refl _ _).alloc (Nat.le_refl w14.heap.size) (.cells #[.bool false, .slice none 0 0, .bool false, .slice none 0 0] 83)
  have hx16 := Nbx.new w14 false false (.slice none 0 0) (.slice none 0 0)
  replace B := bb B hb15
  have X9 := hid hx16
  have hs17 : (w14.alloc (.cells #[.bool false, .slice none 0 0, .bool false, .slice none 0 0] 83)).heap.size = w14.heap.size + 1 := by simp
  clear hb15 hx16
  obtain ⟨cc18a, cc18b, cc18c, cc18d⟩ := X9.out.cells
  go_wp2_with fail
  go_ret2
  exact ⟨rfl, B.out⟩

set_option maxHeartbeats 1000000 in
theorem qmake_good {a b : ByteArray} (h1 : GoodZ a) (h2 : GoodZ b) (h0 : znum b ≠ 0) (w : World) :
    Calls Tryz.prog 27 #[.string a, .string b] w fun e w' => e = .returned (.tuple #[.string (qtxt (Rat.divInt (znum a) (znum b))), .nilIface]) ∧ Below w.heap.size w w' := by
  have H1 := hid h1
  have H2 := hid h2
  have H0 := hid h0
  have B := hid (Below.refl w.heap.size w)
  clear  h1 h2 h0
  go_enter Tryz.func27, Tryz.ntmps27
  go_wp2_with fail
  refine (zread_good H1.out _).mono ?_
  rintro e w1 ⟨v, rfl, hv, hb⟩
  obtain ⟨s5, p5, n5, c5, rfl⟩ := hv.opened
  replace B := bb B hb
  have HT := hid hv
  clear hb hv
  have hb2 := (Below.refl _ _).alloc (Nat.le_refl w1.heap.size) (.cells #[.bool s5, .slice p5 n5 c5] 81)
  have hx3 := Box.new w1 s5 p5 n5 c5
  replace HT := wl HT hb2
  replace B := bb B hb2
  have X6 := hid hx3
  have hs4 : (w1.alloc (.cells #[.bool s5, .slice p5 n5 c5] 81)).heap.size = w1.heap.size + 1 := by simp
  clear hb2 hx3
  obtain ⟨cc5a, cc5b⟩ := X6.out.both
  go_wp2_with fail
  generalize hW : w1.alloc (.cells #[.bool s5, .slice p5 n5 c5] 81) = W6 at *
  clear hW
  refine (zread_good H2.out _).mono ?_
  rintro e w7 ⟨v, rfl, hv, hb⟩
  obtain ⟨s6, p6, n6, c6, rfl⟩ := hv.opened
  replace X6 := bx X6 hb
  replace HT := wl HT hb
  replace B := bb B hb
  clear cc5a cc5b
  have HU := hid hv
  clear hb hv
  have hb8 := (Below.refl _ _).alloc (Nat.le_refl w7.heap.size) (.cells #[.bool s6, .slice p6 n6 c6] 81)
  have hx9 := Box.new w7 s6 p6 n6 c6
  have L0 := hid X6.out.lt
  replace X6 := bx X6 hb8
  replace HT := wl HT hb8
  replace HU := wl HU hb8
  replace B := bb B hb8
  have X8 := hid hx9
  have hs10 : (w7.alloc (.cells #[.bool s6, .slice p6 n6 c6] 81)).heap.size = w7.heap.size + 1 := by simp
  clear hb8 hx9
  obtain ⟨cc11a, cc11b⟩ := X6.out.both
  obtain ⟨cc12a, cc12b⟩ := X8.out.both
  go_wp2_with fail
  generalize hW : w7.alloc (.cells #[.bool s6, .slice p6 n6 c6] 81) = W13 at *
  clear hW
  refine (quot_some HT.out HU.out H0.out (by omega)).mono ?_
  rintro e w14 ⟨v, rfl, hv, hb⟩
  obtain ⟨s9a, p9a, n9a, c9a, s9b, p9b, n9b, c9b, rfl⟩ := hv.opened
  obtain ⟨ht9, d9, hu9, hd9⟩ := hv.two
  have HD9 := hid hd9
  replace B := bb B hb
  clear cc11a cc11b cc12a cc12b
  have HT9 := hid ht9
  have HU9 := hid hu9
  clear hb hv ht9 hu9 hd9
  have hb15 := (Below.refl _ _).alloc (Nat.le_refl w14.heap.size) (.cells #[.bool s9a, .slice p9a n9a c9a, .bool s9b, .slice p9b n9b c9b] 83)
  have hx16 := Nbx.new w14 s9a s9b (.slice p9a n9a c9a) (.slice p9b n9b c9b)
  replace HT9 := wl HT9 hb15
  replace HU9 := wl HU9 hb15
  replace B := bb B hb15
  have X9 := hid hx16
  have hs17 : (w14.alloc (.cells #[.bool s9a, .slice p9a n9a c9a, .bool s9b, .slice p9b n9b c9b] 83)).heap.size = w14.heap.size + 1 := by simp
  clear hb15 hx16
  obtain ⟨cc18a, cc18b, cc18c, cc18d⟩ := X9.out.cells
  go_wp2_with fail
  generalize hW : w14.alloc (.cells #[.bool s9a, .slice p9a n9a c9a, .bool s9b, .slice p9b n9b c9b] 83) = W19 at *
  clear hW
  refine (qstring (Rtl.mk2 HT9.out HU9.out HD9.out) (by omega)).mono ?_
  rintro e w20 ⟨rfl, hb⟩
  replace B := bb B hb
  clear cc18a cc18b cc18c cc18d
  clear hb 
  go_wp2_with fail
  go_ret2
  exact ⟨rfl, B.out⟩

theorem qmake_bad {a b : ByteArray} {k : Int} (h : WrongZ a b k) (ha : a.size ≤ maxLen) (hb : b.size ≤ maxLen) (w : World) :
    Calls Tryz.prog 27 #[.string a, .string b] w fun e w' => e = .returned (.tuple #[.string ⟨#[]⟩, errno k]) ∧ Below w.heap.size w w' := by
  rcases h with h | ⟨h1, h2⟩
  · exact qmake_bad1 h ha w
  · exact qmake_bad2 h1 h2 hb w

end Go.Proofs.YtjeeepcnaaadmaaGreatDoor

/-
  PACKAGE rat: TEXTS OF FRACTIONS; EACH FUNCTION AT WHATEVER TEXTS.
-/
namespace Go.Proofs.YtjeeepcnaaadmaaGreatDoor
open Go.RowKit
open Num
set_option linter.unusedVariables false
set_option maxRecDepth 100000
set_option linter.unusedSimpArgs false

theorem ba_ext {a b : ByteArray} (h : a.data.toList = b.data.toList) : a = b := by
  obtain ⟨⟨l⟩⟩ := a
  obtain ⟨⟨m⟩⟩ := b
  simp only at h
  rw [h]
theorem app_list (a b : ByteArray) : (a ++ b).data.toList = a.data.toList ++ b.data.toList := by
  rw [ByteArray.data_append, Array.toList_append]
theorem no_slash {l : List UInt8} (h : ∀ c ∈ l, c ≠ 47) : hasSl l = false ∧ cutB l = l := by
  induction l with
  | nil => exact ⟨rfl, rfl⟩
  | cons b l ih =>
    have h1 : (b != 47) = true := by simpa using h b (List.mem_cons_self ..)
    obtain ⟨i1, i2⟩ := ih fun c hc => h c (List.mem_cons_of_mem _ hc)
    exact ⟨by rw [← i1]; simp [hasSl, List.dropWhile_cons, h1], by rw [cutB, List.takeWhile_cons, if_pos h1]; exact congrArg _ i2⟩
theorem at_slash {l m : List UInt8} (h : ∀ c ∈ l, c ≠ 47) : hasSl (l ++ 47 :: m) = true ∧ cutB (l ++ 47 :: m) = l ∧ cutA (l ++ 47 :: m) = m := by
  have h' : ∀ c ∈ l, (c != 47) = true := fun c hc => by simpa using h c hc
  refine ⟨?_, ?_, ?_⟩
  · rw [hasSl, List.dropWhile_append_of_pos h']; simp
  · rw [cutB, List.takeWhile_append_of_pos h']; simp
  · rw [cutA, List.dropWhile_append_of_pos h']; simp
theorem slash_split {l : List UInt8} (h : hasSl l = true) : l = cutB l ++ 47 :: cutA l := by
  induction l with
  | nil => exact absurd h (by decide)
  | cons b l ih =>
    by_cases hb : b = 47
    · subst hb
      simp [cutB, cutA]
    · have h1 : (b != 47) = true := by simpa using hb
      have e1 : hasSl (b :: l) = hasSl l := by simp [hasSl, List.dropWhile_cons, h1]
      have e2 : cutB (b :: l) = b :: cutB l := by simp [cutB, List.takeWhile_cons, h1]
      have e3 : cutA (b :: l) = cutA l := by simp [cutA, List.dropWhile_cons, h1]
      rw [e1] at h
      rw [e2, e3, List.cons_append, ← ih h]
theorem dig_ne {c : UInt8} (h : isDig c = true) : c ≠ 47 := by
  intro e; subst e; exact absurd h (by decide)
theorem ztxt_ne (z : Int) : ∀ c ∈ (ztxt z).data.toList, c ≠ 47 := by
  have hd : ∀ n, ∀ c ∈ dtext n, c ≠ 47 := fun n c hc => dig_ne (List.all_eq_true.1 (dtext_all n) c hc)
  rw [ztxt_list]
  split
  · intro c hc
    rcases List.mem_cons.1 hc with rfl | hc
    · decide
    · exact hd _ c hc
  · exact hd _
theorem whlOf_ztxt (z : Int) : whlOf (ztxt z).data.toList = z := znum_ztxt z
theorem ztxt_whlOf {l : List UInt8} (h : isWhl l = true) : (ztxt (whlOf l)).data.toList = l := by
  have := ztxt_znum (s := ⟨l.toArray⟩) (by simpa using h)
  have e : znum ⟨l.toArray⟩ = whlOf l := by simp [znum]
  rw [e] at this
  rw [this]
theorem qtxt_one {q : Rat} (h : q.den = 1) : qtxt q = ztxt q.num := by rw [qtxt, if_pos h]
theorem qtxt_two {q : Rat} (h : q.den ≠ 1) : (qtxt q).data.toList = (ztxt q.num).data.toList ++ 47 :: (ztxt q.den).data.toList := by
  rw [qtxt, if_neg h, app_list, app_list]
  simp
theorem rat_of_one {q : Rat} (h : q.den = 1) : (q.num : Rat) = q := by
  apply Rat.ext
  · rw [Rat.num_intCast]
  · rw [Rat.den_intCast, h]
theorem isRat_qtxt (q : Rat) : isRat (qtxt q).data.toList = true := by
  by_cases h : q.den = 1
  · rw [qtxt_one h, isRat, if_neg (by rw [(no_slash (ztxt_ne _)).1]; decide)]
    exact isWhl_ztxt _
  · have hd := q.den_pos
    obtain ⟨e1, e2, e3⟩ := at_slash (m := (ztxt (q.den : Int)).data.toList) (ztxt_ne q.num)
    rw [qtxt_two h, isRat, if_pos e1, e2, e3, isWhl_ztxt, isWhl_ztxt, whlOf_ztxt, whlOf_ztxt]
    have hr : Int.gcd q.num q.den = 1 := q.reduced
    rw [decide_eq_true (by omega), decide_eq_true hr]
    rfl
theorem qnum_qtxt (q : Rat) : qnum (qtxt q) = q := by
  unfold qnum
  by_cases h : q.den = 1
  · rw [qtxt_one h, ratOf, if_neg (by rw [(no_slash (ztxt_ne _)).1]; decide), whlOf_ztxt]
    exact rat_of_one h
  · obtain ⟨e1, e2, e3⟩ := at_slash (m := (ztxt (q.den : Int)).data.toList) (ztxt_ne q.num)
    rw [qtxt_two h, ratOf, if_pos e1, e2, e3, whlOf_ztxt, whlOf_ztxt, Rat.num_divInt_den]
theorem qtxt_inj {p q : Rat} (h : qtxt p = qtxt q) : p = q := by
  have := congrArg qnum h
  rwa [qnum_qtxt, qnum_qtxt] at this
theorem qtxt_qnum {s : ByteArray} (h : isRat s.data.toList = true) : qtxt (qnum s) = s := by
  apply ba_ext
  unfold qnum
  cases hs : hasSl s.data.toList
  · rw [isRat, hs] at h
    rw [ratOf, hs, if_neg (by decide), qtxt_one (Rat.den_intCast _), Rat.num_intCast]
    exact ztxt_whlOf (by simpa using h)
  · rw [isRat, hs] at h
    simp only [if_true, Bool.and_eq_true, decide_eq_true_eq] at h
    obtain ⟨⟨⟨h1, h2⟩, h3⟩, h4⟩ := h
    obtain ⟨e1, e2⟩ := divInt_coprime h3 h4
    rw [ratOf, hs, if_pos rfl, qtxt_two (by omega), e1, e2, ztxt_whlOf h1, ztxt_whlOf h2]
    exact (slash_split hs).symm
theorem qtxt_good {s : ByteArray} (h : GoodQ s) : qtxt (qnum s) = s := qtxt_qnum h.2
theorem qtxt_zero : qtxt 0 = ⟨#[48]⟩ := by rw [qtxt_one rfl]; exact ztxt_zero
theorem qtxt_int (z : Int) : qtxt (z : Rat) = ztxt z := by rw [qtxt_one (Rat.den_intCast _), Rat.num_intCast]

theorem whl_lt {l : List UInt8} (h : isWhl l = true) : (whlOf l).natAbs < 10 ^ l.length := by
  cases hb : (l.head? == some 45)
  · have h3 : isNat l = true := by rw [isWhl, hb] at h; simpa using h
    have h4 : whlOf l = (dval l : Int) := by rw [whlOf, hb]; rfl
    rw [h4]
    simpa using dval_lt' h3
  · have h3 : isNat l.tail = true := by rw [isWhl, hb] at h; simp at h; exact h.1
    have h4 : whlOf l = -(dval l.tail : Int) := by rw [whlOf, hb]; rfl
    rw [h4]
    exact Nat.lt_of_lt_of_le (by simpa using dval_lt' h3) (Nat.pow_le_pow_right (by omega) (by simp))
theorem qnum_lt {s : ByteArray} (h : GoodQ s) : (qnum s).num.natAbs < 10 ^ 100 ∧ (qnum s).den < 10 ^ 100 := by
  obtain ⟨hl, h⟩ := h
  have hsz : s.data.toList.length = s.size := rfl
  have h1 : (1 : Nat) < 10 ^ 100 := by decide +kernel
  have up : ∀ {l : List UInt8}, isWhl l = true → l.length ≤ 100 → (whlOf l).natAbs < 10 ^ 100 := fun hw hl => Nat.lt_of_lt_of_le (whl_lt hw) (Nat.pow_le_pow_right (by omega) hl)
  unfold qnum
  cases hs : hasSl s.data.toList
  · rw [isRat, hs] at h
    rw [ratOf, hs, if_neg (by decide), Rat.num_intCast, Rat.den_intCast]
    exact ⟨up (by simpa using h) (by omega), h1⟩
  · rw [isRat, hs] at h
    simp only [if_true, Bool.and_eq_true, decide_eq_true_eq] at h
    obtain ⟨⟨⟨h1', h2⟩, h3⟩, h4⟩ := h
    obtain ⟨e1, e2⟩ := divInt_coprime h3 h4
    have hlen := congrArg List.length (slash_split hs)
    rw [List.length_append, List.length_cons] at hlen
    rw [ratOf, hs, if_pos rfl, e1]
    refine ⟨up h1' (by omega), ?_⟩
    have := up h2 (by omega)
    omega
theorem divInt_le (z y : Int) : (Rat.divInt z y).num.natAbs ≤ z.natAbs ∧ (Rat.divInt z y).den ≤ max y.natAbs 1 := by
  by_cases h : y = 0
  · subst h; rw [Rat.divInt_zero]; simp
  · obtain ⟨e1, e2⟩ := divInt_parts z y h
    refine ⟨by rw [e1]; exact natAbs_ediv_le _ _, ?_⟩
    have h1 := natAbs_ediv_le y (if y < 0 then -(Int.gcd z y : Int) else (Int.gcd z y : Int))
    rw [← e2] at h1
    have : ((Rat.divInt z y).den : Int).natAbs = (Rat.divInt z y).den := by simp
    omega
theorem size_qtxt {q : Rat} (k : Nat) (hk : 0 < k) (hn : q.num.natAbs < 10 ^ k) (hd : q.den < 10 ^ k) : (qtxt q).size ≤ 2 * k + 3 := by
  have h1 := size_ztxt_le hn hk
  have h2 := size_ztxt_le (z := (q.den : Int)) (k := k) (by simpa using hd) hk
  unfold qtxt
  split
  · omega
  · rw [ByteArray.size_append, ByteArray.size_append]
    have : (⟨#[47]⟩ : ByteArray).size = 1 := rfl
    omega
theorem big_sum : (10 : Nat) ^ 100 * 10 ^ 100 + 10 ^ 100 * 10 ^ 100 < 10 ^ 300 := by decide +kernel
theorem big_mul : (10 : Nat) ^ 100 * 10 ^ 100 < 10 ^ 300 := by decide +kernel
theorem size_divInt {z y : Int} (hz : z.natAbs < 10 ^ 300) (hy : y.natAbs < 10 ^ 300) : (qtxt (Rat.divInt z y)).size ≤ maxLen := by
  have h1 : (1 : Nat) < 10 ^ 300 := by decide +kernel
  obtain ⟨a, b⟩ := divInt_le z y
  have h2 : max y.natAbs 1 < 10 ^ 300 := by omega
  have := size_qtxt (q := Rat.divInt z y) 300 (by omega) (by omega) (by omega)
  unfold maxLen; omega
theorem lt_mul_big {a b : Nat} (ha : a < 10 ^ 100) (hb : b < 10 ^ 100) : a * b < 10 ^ 100 * 10 ^ 100 := Nat.mul_lt_mul'' ha hb
theorem size_add {a b : ByteArray} (ha : GoodQ a) (hb : GoodQ b) : (qtxt (qnum a + qnum b)).size ≤ maxLen := by
  obtain ⟨a1, a2⟩ := qnum_lt ha
  obtain ⟨b1, b2⟩ := qnum_lt hb
  rw [add_parts]
  have c1 := lt_mul_big a1 b2
  have c2 := lt_mul_big b1 a2
  have c3 := lt_mul_big a2 b2
  have e1 := big_sum
  have e2 := big_mul
  refine size_divInt ?_ ?_
  · have t := Int.natAbs_add_le ((qnum a).num * (qnum b).den) ((qnum b).num * (qnum a).den)
    simp only [Int.natAbs_mul, Int.natAbs_natCast] at t
    omega
  · rw [Int.natAbs_mul, Int.natAbs_natCast, Int.natAbs_natCast]; omega
theorem size_mul {a b : ByteArray} (ha : GoodQ a) (hb : GoodQ b) : (qtxt (qnum a * qnum b)).size ≤ maxLen := by
  obtain ⟨a1, a2⟩ := qnum_lt ha
  obtain ⟨b1, b2⟩ := qnum_lt hb
  rw [mul_parts]
  have c1 := lt_mul_big a1 b1
  have c3 := lt_mul_big a2 b2
  have e2 := big_mul
  refine size_divInt ?_ ?_
  · rw [Int.natAbs_mul]; omega
  · rw [Int.natAbs_mul, Int.natAbs_natCast, Int.natAbs_natCast]; omega
theorem size_div {a b : ByteArray} (ha : GoodQ a) (hb : GoodQ b) : (qtxt (qnum a / qnum b)).size ≤ maxLen := by
  obtain ⟨a1, a2⟩ := qnum_lt ha
  obtain ⟨b1, b2⟩ := qnum_lt hb
  rw [div_parts]
  have c1 := lt_mul_big a1 b2
  have c3 := lt_mul_big a2 b1
  have e2 := big_mul
  refine size_divInt ?_ ?_
  · rw [Int.natAbs_mul, Int.natAbs_natCast]; omega
  · rw [Int.natAbs_mul, Int.natAbs_natCast]; omega

theorem BadQ.ne {s : ByteArray} {k : Int} (h : BadQ s k) : k ≠ 0 := by
  rcases h with ⟨_, rfl⟩ | ⟨_, _, rfl⟩ <;> decide
theorem WrongQ.ne {a b : ByteArray} {k : Int} (h : WrongQ a b k) : k ≠ 0 := by
  rcases h with h | ⟨_, h⟩ <;> exact h.ne
theorem BadQ.not {s : ByteArray} {k : Int} (h : BadQ s k) : ¬ GoodQ s := by
  rintro ⟨h1, h2⟩
  rcases h with ⟨h, _⟩ | ⟨_, h, _⟩
  · omega
  · rw [h] at h2; cases h2
theorem WrongQ.not {a b : ByteArray} {k : Int} (h : WrongQ a b k) : ¬ (GoodQ a ∧ GoodQ b) := by
  rintro ⟨h1, h2⟩
  rcases h with h | ⟨_, h⟩
  · exact h.not h1
  · exact h.not h2

/-- What a function of two fractions tells: the text of f, or nothing and an error. -/
def QTells (f : Rat → Rat → Rat) (a b s : ByteArray) (k : Int) : Prop :=
  (k = 0 ∧ GoodQ a ∧ GoodQ b ∧ s = qtxt (f (qnum a) (qnum b))) ∨ (k ≠ 0 ∧ WrongQ a b k ∧ s = ⟨#[]⟩)
theorem QTells.yes {f : Rat → Rat → Rat} {a b s : ByteArray} {k : Int} (h : QTells f a b s k) (hk : k = 0) : GoodQ a ∧ GoodQ b ∧ s = qtxt (f (qnum a) (qnum b)) := by
  rcases h with ⟨_, h⟩ | ⟨h, _⟩
  · exact h
  · exact absurd hk h
theorem QTells.zero {f : Rat → Rat → Rat} {a b s : ByteArray} {k : Int} (h : QTells f a b s k) (ha : GoodQ a) (hb : GoodQ b) : k = 0 := by
  rcases h with ⟨h, _⟩ | ⟨_, h, _⟩
  · exact h
  · exact absurd ⟨ha, hb⟩ h.not
theorem QTells.no {f : Rat → Rat → Rat} {a b s : ByteArray} {k : Int} (h : QTells f a b s k) (hn : ¬ (GoodQ a ∧ GoodQ b)) : k ≠ 0 ∧ s = ⟨#[]⟩ := by
  rcases h with ⟨_, h1, h2, _⟩ | ⟨h, _, h2⟩
  · exact absurd ⟨h1, h2⟩ hn
  · exact ⟨h, h2⟩
/-- What a division tells. -/
def QDivs (a b s : ByteArray) (k : Int) : Prop :=
  (k = 0 ∧ GoodQ a ∧ GoodQ b ∧ qnum b ≠ 0 ∧ s = qtxt (qnum a / qnum b)) ∨
  (k ≠ 0 ∧ s = ⟨#[]⟩ ∧ (WrongQ a b k ∨ (GoodQ a ∧ GoodQ b ∧ qnum b = 0 ∧ k = 5)))
theorem QDivs.yes {a b s : ByteArray} {k : Int} (h : QDivs a b s k) (hk : k = 0) : GoodQ a ∧ GoodQ b ∧ qnum b ≠ 0 ∧ s = qtxt (qnum a / qnum b) := by
  rcases h with ⟨_, h⟩ | ⟨h, _⟩
  · exact h
  · exact absurd hk h
theorem QDivs.zero {a b s : ByteArray} {k : Int} (h : QDivs a b s k) (ha : GoodQ a) (hb : GoodQ b) (h0 : qnum b ≠ 0) : k = 0 := by
  rcases h with ⟨h, _⟩ | ⟨_, _, h | ⟨_, _, h, _⟩⟩
  · exact h
  · exact absurd ⟨ha, hb⟩ h.not
  · exact absurd h h0
theorem QDivs.no {a b s : ByteArray} {k : Int} (h : QDivs a b s k) (hk : k ≠ 0) : s = ⟨#[]⟩ ∧ (GoodQ a → GoodQ b → qnum b = 0) := by
  rcases h with ⟨h, _⟩ | ⟨_, hs, h | ⟨_, _, h, _⟩⟩
  · exact absurd h hk
  · exact ⟨hs, fun h1 h2 => absurd ⟨h1, h2⟩ h.not⟩
  · exact ⟨hs, fun _ _ => h⟩
/-- What a comparison tells. -/
def QLess (a b : ByteArray) (t : Bool) (k : Int) : Prop :=
  (k = 0 ∧ GoodQ a ∧ GoodQ b ∧ t = decide (qnum a < qnum b)) ∨ (k ≠ 0 ∧ WrongQ a b k ∧ t = false)
theorem QLess.yes {a b : ByteArray} {t : Bool} {k : Int} (h : QLess a b t k) (hk : k = 0) : GoodQ a ∧ GoodQ b ∧ t = decide (qnum a < qnum b) := by
  rcases h with ⟨_, h⟩ | ⟨h, _⟩
  · exact h
  · exact absurd hk h
theorem QLess.zero {a b : ByteArray} {t : Bool} {k : Int} (h : QLess a b t k) (ha : GoodQ a) (hb : GoodQ b) : k = 0 := by
  rcases h with ⟨h, _⟩ | ⟨_, h, _⟩
  · exact h
  · exact absurd ⟨ha, hb⟩ h.not
theorem QLess.no {a b : ByteArray} {t : Bool} {k : Int} (h : QLess a b t k) (hn : ¬ (GoodQ a ∧ GoodQ b)) : k ≠ 0 ∧ t = false := by
  rcases h with ⟨_, h1, h2, _⟩ | ⟨h, _, h2⟩
  · exact absurd ⟨h1, h2⟩ hn
  · exact ⟨h, h2⟩
/-- What Floor tells. -/
def QFloors (a s : ByteArray) (k : Int) : Prop := (k = 0 ∧ GoodQ a ∧ s = ztxt (qnum a).floor) ∨ (k ≠ 0 ∧ BadQ a k ∧ s = ⟨#[]⟩)
/-- What Make tells. -/
def QMakes (a b s : ByteArray) (k : Int) : Prop :=
  (k = 0 ∧ GoodZ a ∧ GoodZ b ∧ znum b ≠ 0 ∧ s = qtxt (Rat.divInt (znum a) (znum b))) ∨
  (k ≠ 0 ∧ s = ⟨#[]⟩ ∧ (WrongZ a b k ∨ (GoodZ a ∧ GoodZ b ∧ znum b = 0 ∧ k = 5)))
theorem QMakes.yes {a b s : ByteArray} {k : Int} (h : QMakes a b s k) (hk : k = 0) : GoodZ a ∧ GoodZ b ∧ znum b ≠ 0 ∧ s = qtxt (Rat.divInt (znum a) (znum b)) := by
  rcases h with ⟨_, h⟩ | ⟨h, _⟩
  · exact h
  · exact absurd hk h
theorem QMakes.no {a b s : ByteArray} {k : Int} (h : QMakes a b s k) (hk : k ≠ 0) : s = ⟨#[]⟩ := by
  rcases h with ⟨h, _⟩ | ⟨_, h, _⟩
  · exact absurd h hk
  · exact h

theorem qadd_any (a b : ByteArray) (ha : a.size ≤ maxLen) (hb : b.size ≤ maxLen) (w : World) :
    Calls Tryz.prog 23 #[.string a, .string b] w fun e w' => ∃ (s : ByteArray) (k : Int), e = .returned (.tuple #[.string s, errv k]) ∧ QTells (· + ·) a b s k ∧ s.size ≤ maxLen ∧ Below w.heap.size w w' := by
  rcases rightQ_or_wrong a b with ⟨h1, h2⟩ | ⟨k, h⟩
  · refine (qadd_good h1 h2 w).mono ?_
    rintro e w' ⟨rfl, hb⟩
    exact ⟨_, 0, rfl, .inl ⟨rfl, h1, h2, rfl⟩, size_add h1 h2, hb⟩
  · refine (qadd_bad h ha hb w).mono ?_
    rintro e w' ⟨rfl, hb⟩
    exact ⟨_, k, by rw [errv_some h.ne], .inr ⟨h.ne, h, rfl⟩, Nat.zero_le _, hb⟩
theorem qmul_any (a b : ByteArray) (ha : a.size ≤ maxLen) (hb : b.size ≤ maxLen) (w : World) :
    Calls Tryz.prog 24 #[.string a, .string b] w fun e w' => ∃ (s : ByteArray) (k : Int), e = .returned (.tuple #[.string s, errv k]) ∧ QTells (· * ·) a b s k ∧ s.size ≤ maxLen ∧ Below w.heap.size w w' := by
  rcases rightQ_or_wrong a b with ⟨h1, h2⟩ | ⟨k, h⟩
  · refine (qmul_good h1 h2 w).mono ?_
    rintro e w' ⟨rfl, hb⟩
    exact ⟨_, 0, rfl, .inl ⟨rfl, h1, h2, rfl⟩, size_mul h1 h2, hb⟩
  · refine (qmul_bad h ha hb w).mono ?_
    rintro e w' ⟨rfl, hb⟩
    exact ⟨_, k, by rw [errv_some h.ne], .inr ⟨h.ne, h, rfl⟩, Nat.zero_le _, hb⟩
theorem qdiv_any (a b : ByteArray) (ha : a.size ≤ maxLen) (hb : b.size ≤ maxLen) (w : World) :
    Calls Tryz.prog 25 #[.string a, .string b] w fun e w' => ∃ (s : ByteArray) (k : Int), e = .returned (.tuple #[.string s, errv k]) ∧ QDivs a b s k ∧ s.size ≤ maxLen ∧ Below w.heap.size w w' := by
  rcases rightQ_or_wrong a b with ⟨h1, h2⟩ | ⟨k, h⟩
  · by_cases h0 : qnum b = 0
    · refine (qdiv_zero h1 h2 h0 w).mono ?_
      rintro e w' ⟨rfl, hb⟩
      exact ⟨_, 5, rfl, .inr ⟨by decide, rfl, .inr ⟨h1, h2, h0, rfl⟩⟩, Nat.zero_le _, hb⟩
    · refine (qdiv_good h1 h2 h0 w).mono ?_
      rintro e w' ⟨rfl, hb⟩
      exact ⟨_, 0, rfl, .inl ⟨rfl, h1, h2, h0, rfl⟩, size_div h1 h2, hb⟩
  · refine (qdiv_bad h ha hb w).mono ?_
    rintro e w' ⟨rfl, hb⟩
    exact ⟨_, k, by rw [errv_some h.ne], .inr ⟨h.ne, rfl, .inl h⟩, Nat.zero_le _, hb⟩
theorem qless_any (a b : ByteArray) (ha : a.size ≤ maxLen) (hb : b.size ≤ maxLen) (w : World) :
    Calls Tryz.prog 26 #[.string a, .string b] w fun e w' => ∃ (t : Bool) (k : Int), e = .returned (.tuple #[.bool t, errv k]) ∧ QLess a b t k ∧ Below w.heap.size w w' := by
  rcases rightQ_or_wrong a b with ⟨h1, h2⟩ | ⟨k, h⟩
  · refine (qless_good h1 h2 w).mono ?_
    rintro e w' ⟨rfl, hb⟩
    exact ⟨_, 0, rfl, .inl ⟨rfl, h1, h2, rfl⟩, hb⟩
  · refine (qless_bad h ha hb w).mono ?_
    rintro e w' ⟨rfl, hb⟩
    exact ⟨_, k, by rw [errv_some h.ne], .inr ⟨h.ne, h, rfl⟩, hb⟩
theorem floor_lt {a : ByteArray} (h : GoodQ a) : (qnum a).floor.natAbs < 10 ^ 100 := by
  rw [Rat.floor_def]
  exact Nat.lt_of_le_of_lt (natAbs_ediv_le _ _) (qnum_lt h).1
theorem qfloor_any (a : ByteArray) (ha : a.size ≤ maxLen) (w : World) :
    Calls Tryz.prog 12 #[.string a] w fun e w' => ∃ (s : ByteArray) (k : Int), e = .returned (.tuple #[.string s, errv k]) ∧ QFloors a s k ∧ s.size ≤ maxLen ∧ Below w.heap.size w w' := by
  rcases goodQ_or_bad a with h1 | ⟨k, h⟩
  · refine (qfloor_good h1 w).mono ?_
    rintro e w' ⟨rfl, hb⟩
    refine ⟨_, 0, rfl, .inl ⟨rfl, h1, rfl⟩, size_ztxt_max (Nat.lt_trans (floor_lt h1) (by decide +kernel)), hb⟩
  · refine (qfloor_bad h ha w).mono ?_
    rintro e w' ⟨rfl, hb⟩
    exact ⟨_, k, by rw [errv_some h.ne], .inr ⟨h.ne, h, rfl⟩, Nat.zero_le _, hb⟩
theorem qmake_any (a b : ByteArray) (ha : a.size ≤ maxLen) (hb : b.size ≤ maxLen) (w : World) :
    Calls Tryz.prog 27 #[.string a, .string b] w fun e w' => ∃ (s : ByteArray) (k : Int), e = .returned (.tuple #[.string s, errv k]) ∧ QMakes a b s k ∧ s.size ≤ maxLen ∧ Below w.heap.size w w' := by
  rcases rightZ_or_wrong a b with ⟨h1, h2⟩ | ⟨k, h⟩
  · by_cases h0 : znum b = 0
    · refine (qmake_zero h1 h2 h0 w).mono ?_
      rintro e w' ⟨rfl, hb⟩
      exact ⟨_, 5, rfl, .inr ⟨by decide, rfl, .inr ⟨h1, h2, h0, rfl⟩⟩, Nat.zero_le _, hb⟩
    · refine (qmake_good h1 h2 h0 w).mono ?_
      rintro e w' ⟨rfl, hb⟩
      have hp : (10 : Nat) ^ 100 < 10 ^ 300 := by decide +kernel
      exact ⟨_, 0, rfl, .inl ⟨rfl, h1, h2, h0, rfl⟩, size_divInt (Nat.lt_trans (znum_lt h1) hp) (Nat.lt_trans (znum_lt h2) hp), hb⟩
  · refine (qmake_bad h ha hb w).mono ?_
    rintro e w' ⟨rfl, hb⟩
    exact ⟨_, k, by rw [errv_some h.ne], .inr ⟨h.ne, rfl, .inl h⟩, Nat.zero_le _, hb⟩

theorem minus_half (w : World) :
    Calls Tryz.prog 27 #[.string ⟨#[50]⟩, .string ⟨#[45, 52]⟩] w fun e w' => e = .returned (.tuple #[.string ⟨#[45, 49, 47, 50]⟩, .nilIface]) ∧ Below w.heap.size w w' := by
  have h := qmake_good (a := ⟨#[50]⟩) (b := ⟨#[45, 52]⟩) ⟨by decide, by decide⟩ ⟨by decide, by decide⟩ (by decide) w
  have e1 := qtxt_qnum (s := ⟨#[45, 49, 47, 50]⟩) (by decide +kernel)
  have e3 : Rat.divInt (znum ⟨#[50]⟩) (znum ⟨#[45, 52]⟩) = qnum ⟨#[45, 49, 47, 50]⟩ := by decide +kernel
  rw [e3, e1] at h
  exact h

set_option maxHeartbeats 400000 in
theorem halved_true (w : World) :
    Calls Tryz.prog 6 #[] w fun e w' => e = .returned (.bool true) ∧ Below w.heap.size w w' := by
  have H := hid (minus_half w)
  go_enter Tryz.func6, Tryz.ntmps6
  go_wp2_with fail
  refine H.out.mono ?_
  rintro e w' ⟨rfl, hb⟩
  go_wp2_with fail
  go_ret
  exact ⟨rfl, hb⟩

end Go.Proofs.YtjeeepcnaaadmaaGreatDoor

/-
  PACKAGE dec: the mathematics: so many units of n digits at x or below it, at x or above it, nearest to it; their texts. Nothing of a program.
-/
namespace Go.Proofs.YtjeeepcnaaadmaaGreatDoor
open Num

/-- Ten, n times. -/
def pten (n : Nat) : Nat := 10 ^ n
theorem pten_zero : pten 0 = 1 := rfl
theorem pten_succ (n : Nat) : pten (n + 1) = pten n * 10 := Nat.pow_succ ..
theorem pten_pos (n : Nat) : 0 < pten n := Nat.pow_pos (by decide)
theorem pten_le {n : Nat} (h : n ≤ 30) : pten n ≤ 1000000000000000000000000000000 := by
  have : 10 ^ n ≤ 10 ^ 30 := Nat.pow_le_pow_right (by decide) h
  exact this
/-- So many units of n digits are not above x; what is left, so many parts of the denominator. -/
def lowu (x : Rat) (n : Nat) : Int := x.num * (pten n : Int) / (x.den : Int)
def resu (x : Rat) (n : Nat) : Int := x.num * (pten n : Int) % (x.den : Int)
def highu (x : Rat) (n : Nat) : Int := if resu x n = 0 then lowu x n else lowu x n + 1
/-- The nearest one; of two, the even one. -/
def nearu (x : Rat) (n : Nat) : Int :=
  if 2 * resu x n < x.den then lowu x n else if (x.den : Int) < 2 * resu x n then lowu x n + 1 else if lowu x n % 2 = 0 then lowu x n else lowu x n + 1
/-- So many units of n digits. -/
def unq (z : Int) (n : Nat) : Rat := Rat.divInt z (pten n : Int)

theorem den_ipos (x : Rat) : (0 : Int) < x.den := by have := x.den_pos; omega
theorem resu_nonneg (x : Rat) (n : Nat) : 0 ≤ resu x n := Int.emod_nonneg _ (by have := den_ipos x; omega)
theorem resu_lt (x : Rat) (n : Nat) : resu x n < x.den := Int.emod_lt_of_pos _ (den_ipos x)
theorem units_eq (x : Rat) (n : Nat) : (x.den : Int) * lowu x n + resu x n = x.num * (pten n : Int) := Int.mul_ediv_add_emod _ _
theorem den_rat_pos (x : Rat) : (0 : Rat) < (x.den : Rat) := by exact_mod_cast x.den_pos
theorem pten_rat_pos (n : Nat) : (0 : Rat) < (pten n : Rat) := by exact_mod_cast pten_pos n
theorem unq_mul (z : Int) (n : Nat) : unq z n * (pten n : Rat) = (z : Rat) := by
  have h := pten_rat_pos n
  unfold unq
  rw [Rat.divInt_eq_div, Rat.intCast_natCast]
  exact Rat.div_mul_cancel (by grind)
theorem scale_lt {a b u : Rat} (hu : 0 < u) : a < b ↔ a * u < b * u := (Rat.mul_lt_mul_right hu).symm
/-- Twice x below both together. -/
theorem twice_lt (x : Rat) (a b : Int) (n : Nat) : x + x < unq a n + unq b n ↔ 2 * (x.num * (pten n : Int)) < (a + b) * x.den := by
  have hd := den_rat_pos x
  have hu := pten_rat_pos n
  rw [scale_lt hd, scale_lt hu]
  have e1 : (x + x) * (x.den : Rat) * (pten n : Rat) = ((2 * (x.num * (pten n : Int)) : Int) : Rat) := by
    have := parts_mul x
    push_cast
    grind
  have e2 : (unq a n + unq b n) * (x.den : Rat) * (pten n : Rat) = (((a + b) * x.den : Int) : Rat) := by
    have h1 := unq_mul a n
    have h2 := unq_mul b n
    push_cast
    grind
  rw [e1, e2, Rat.intCast_lt_intCast]
theorem twice_gt (x : Rat) (a b : Int) (n : Nat) : unq a n + unq b n < x + x ↔ (a + b) * x.den < 2 * (x.num * (pten n : Int)) := by
  have hd := den_rat_pos x
  have hu := pten_rat_pos n
  rw [scale_lt hd, scale_lt hu]
  have e1 : (x + x) * (x.den : Rat) * (pten n : Rat) = ((2 * (x.num * (pten n : Int)) : Int) : Rat) := by
    have := parts_mul x
    push_cast
    grind
  have e2 : (unq a n + unq b n) * (x.den : Rat) * (pten n : Rat) = (((a + b) * x.den : Int) : Rat) := by
    have h1 := unq_mul a n
    have h2 := unq_mul b n
    push_cast
    grind
  rw [e1, e2, Rat.intCast_lt_intCast]
theorem two_sums (x : Rat) (n : Nat) : (lowu x n + highu x n) * (x.den : Int) = 2 * (x.num * (pten n : Int)) - 2 * resu x n + (if resu x n = 0 then 0 else (x.den : Int)) := by
  have h := units_eq x n
  unfold highu
  split
  · rename_i h0
    rw [← h, Int.add_mul, Int.mul_comm (lowu x n)]; omega
  · rw [← h, Int.add_mul, Int.add_mul, Int.mul_comm (lowu x n)]; omega
theorem near_low {x : Rat} {n : Nat} (h : x + x < unq (lowu x n) n + unq (highu x n) n) : nearu x n = lowu x n := by
  rw [twice_lt, two_sums] at h
  have h1 := resu_nonneg x n
  unfold nearu
  split at h
  · omega
  · rw [if_pos (by omega)]
theorem near_high {x : Rat} {n : Nat} (h : unq (lowu x n) n + unq (highu x n) n < x + x) : nearu x n = highu x n := by
  rw [twice_gt, two_sums] at h
  have h1 := resu_nonneg x n
  unfold nearu highu
  split at h
  · omega
  · rename_i h0
    rw [if_neg (by omega), if_pos (by omega), if_neg h0]
theorem near_tie {x : Rat} {n : Nat} (h1 : ¬ x + x < unq (lowu x n) n + unq (highu x n) n) (h2 : ¬ unq (lowu x n) n + unq (highu x n) n < x + x) : nearu x n = if lowu x n % 2 = 0 then lowu x n else highu x n := by
  rw [twice_lt, two_sums] at h1
  rw [twice_gt, two_sums] at h2
  have h3 := den_ipos x
  unfold nearu highu
  split at h1
  · rename_i h0
    rw [if_pos (by omega), if_pos h0]
    split <;> rfl
  · rename_i h0
    rw [if_neg h0] at h2
    rw [if_neg (by omega), if_neg (by omega), if_neg h0]
/-- The floor of x, units times. -/
theorem low_floor (x : Rat) (n : Nat) : (x * ((pten n : Int) : Rat)).floor = lowu x n := by
  have hd := den_rat_pos x
  have h0 := units_eq x n
  have h1 := resu_nonneg x n
  have h2 := resu_lt x n
  have hx : x * ((pten n : Int) : Rat) * (x.den : Rat) = ((x.num * (pten n : Int) : Int) : Rat) := by
    have := parts_mul x
    push_cast
    grind
  apply Int.le_antisymm
  · apply Int.le_of_lt_add_one
    rw [Rat.floor_lt_iff, scale_lt hd, hx]
    have : (((lowu x n + 1 : Int) : Rat)) * (x.den : Rat) = (((lowu x n + 1) * x.den : Int) : Rat) := by push_cast; rfl
    rw [this, Rat.intCast_lt_intCast, Int.add_mul, Int.mul_comm (lowu x n)]
    omega
  · rw [Rat.le_floor_iff]
    have h3 : ¬ x * ((pten n : Int) : Rat) < (lowu x n : Rat) := by
      rw [scale_lt hd, hx]
      have : ((lowu x n : Rat)) * (x.den : Rat) = ((lowu x n * x.den : Int) : Rat) := by push_cast; rfl
      rw [this, Rat.intCast_lt_intCast, Int.mul_comm (lowu x n)]
      omega
    grind
theorem neg_parts (x : Rat) : (-x).num = -x.num ∧ (-x).den = x.den := ⟨Rat.neg_num x, Rat.neg_den x⟩
theorem neg_units (x : Rat) (n : Nat) : lowu (-x) n = -highu x n ∧ (resu (-x) n = if resu x n = 0 then 0 else x.den - resu x n) := by
  have h0 := units_eq x n
  have h1 := resu_nonneg x n
  have h2 := resu_lt x n
  have h3 := units_eq (-x) n
  have h4 := resu_nonneg (-x) n
  have h5 := resu_lt (-x) n
  rw [(neg_parts x).1, (neg_parts x).2] at h3
  rw [(neg_parts x).2] at h5
  have hd := den_ipos x
  rw [Int.neg_mul] at h3
  generalize x.num * (pten n : Int) = m at *
  unfold highu
  split
  · rename_i e
    have key : lowu (-x) n = -lowu x n := by
      have e2 : (x.den : Int) * (lowu (-x) n + lowu x n) + resu (-x) n = 0 := by rw [Int.mul_add]; omega
      have e3 : lowu (-x) n + lowu x n = 0 := by
        rcases Int.lt_trichotomy (lowu (-x) n + lowu x n) 0 with c | c | c
        · have := Int.mul_le_mul_of_nonneg_left (show lowu (-x) n + lowu x n ≤ -1 by omega) (Int.le_of_lt hd); omega
        · exact c
        · have := Int.mul_le_mul_of_nonneg_left (show 1 ≤ lowu (-x) n + lowu x n by omega) (Int.le_of_lt hd); omega
      omega
    refine ⟨key, ?_⟩
    rw [key, Int.mul_neg] at h3
    omega
  · rename_i e
    have key : lowu (-x) n = -(lowu x n + 1) := by
      have e2 : (x.den : Int) * (lowu (-x) n + lowu x n + 1) + resu (-x) n = x.den - resu x n := by rw [Int.mul_add, Int.mul_add]; omega
      have e3 : lowu (-x) n + lowu x n + 1 = 0 := by
        rcases Int.lt_trichotomy (lowu (-x) n + lowu x n + 1) 0 with c | c | c
        · have := Int.mul_le_mul_of_nonneg_left (show lowu (-x) n + lowu x n + 1 ≤ -1 by omega) (Int.le_of_lt hd); omega
        · exact c
        · have := Int.mul_le_mul_of_nonneg_left (show 1 ≤ lowu (-x) n + lowu x n + 1 by omega) (Int.le_of_lt hd); omega
      omega
    refine ⟨key, ?_⟩
    rw [key, Int.mul_neg, Int.mul_add] at h3
    omega
theorem neg_high (x : Rat) (n : Nat) : highu (-x) n = -lowu x n := by
  obtain ⟨h1, h2⟩ := neg_units x n
  have h4 := resu_lt x n
  unfold highu at *
  rw [h1, h2]
  split at h1 <;> rename_i e
  · rw [if_pos e, if_pos e, if_pos rfl]
  · rw [if_neg e, if_neg e, if_neg (by omega)]; omega
theorem neg_near (x : Rat) (n : Nat) : nearu (-x) n = -nearu x n := by
  obtain ⟨h1, h2⟩ := neg_units x n
  have h3 := resu_nonneg x n
  have h4 := resu_lt x n
  have h5 := den_ipos x
  unfold nearu
  unfold highu at h1
  rw [h1, h2, (neg_parts x).2]
  split <;> rename_i e
  · rw [if_pos (by omega), if_pos (by omega)]
  · repeat' split
    all_goals omega
/-- The reference's way: without the sign; so many times, what is left. -/
def absu (x : Rat) (n : Nat) : Nat :=
  let k := x.num.natAbs * pten n / x.den; let r := x.num.natAbs * pten n % x.den
  if x.den < r + r ∨ (r + r = x.den ∧ k % 2 = 1) then k + 1 else k
theorem absu_pos {x : Rat} (n : Nat) (h : 0 ≤ x.num) : nearu x n = absu x n := by
  have e1 : lowu x n = ((x.num.natAbs * pten n / x.den : Nat) : Int) := by
    unfold lowu
    rw [Int.natCast_ediv, Int.natCast_mul, Int.natAbs_of_nonneg h]
  have e2 : resu x n = ((x.num.natAbs * pten n % x.den : Nat) : Int) := by
    unfold resu
    rw [Int.natCast_emod, Int.natCast_mul, Int.natAbs_of_nonneg h]
  unfold nearu absu
  rw [e1, e2]
  generalize x.num.natAbs * pten n / x.den = k
  generalize x.num.natAbs * pten n % x.den = r
  simp only []
  repeat' split
  all_goals omega
theorem absu_neg (x : Rat) (n : Nat) : absu (-x) n = absu x n := by
  unfold absu
  rw [(neg_parts x).1, (neg_parts x).2, Int.natAbs_neg]
theorem nearu_absu (x : Rat) (n : Nat) : nearu x n = if x.num < 0 then -(absu x n : Int) else absu x n := by
  split
  · rename_i h
    have h2 := absu_pos (x := -x) n (by rw [(neg_parts x).1]; omega)
    rw [neg_near, absu_neg] at h2
    omega
  · exact absu_pos n (by omega)
theorem nearu_natAbs (x : Rat) (n : Nat) : (nearu x n).natAbs = absu x n := by rw [nearu_absu]; split <;> omega
theorem nearu_neg (x : Rat) (n : Nat) : decide (nearu x n < 0) = (decide (x.num < 0) && decide (0 < absu x n)) := by
  rw [nearu_absu]
  split
  · rename_i h; rw [decide_eq_true h, Bool.true_and]; congr 1; apply propext; omega
  · rename_i h; rw [decide_eq_false h, Bool.false_and]; apply decide_eq_false; omega
theorem unq_neg (z : Int) (n : Nat) : unq (-z) n = -unq z n := by
  have h1 := unq_mul z n
  have h2 := unq_mul (-z) n
  have h3 := pten_rat_pos n
  push_cast at h2
  grind
/-- A point before the last n digits, with noughts ahead as far as they are wanted. -/
def zpad (n : Nat) (l : List UInt8) : List UInt8 := List.replicate (n - l.length) 48 ++ l
def dpt (n : Nat) (l : List UInt8) : List UInt8 := (zpad (n + 1) l).take ((zpad (n + 1) l).length - n) ++ 46 :: (zpad (n + 1) l).drop ((zpad (n + 1) l).length - n)
theorem zpad_length (n : Nat) (l : List UInt8) : (zpad n l).length = max n l.length := by
  unfold zpad
  rw [List.length_append, List.length_replicate]
  omega
theorem all_zeros (k : Nat) : (List.replicate k (48 : UInt8)).all isDig = true := by
  rw [List.all_eq_true]
  intro x hx
  rw [(List.mem_replicate.1 hx).2]
  decide
theorem dval_zeros (k : Nat) : dval (List.replicate k (48 : UInt8)) = 0 := by
  induction k with
  | zero => rfl
  | succ k ih => rw [List.replicate_succ', dval_snoc, ih]; rfl
theorem zpad_all {n : Nat} {l : List UInt8} (h : l.all isDig = true) : (zpad n l).all isDig = true := by
  unfold zpad
  rw [List.all_append, all_zeros, h]; rfl
theorem zpad_dval (n : Nat) (l : List UInt8) : dval (zpad n l) = dval l := by
  unfold zpad
  rw [dval_append, dval_zeros]; omega
/-- Lists of digits of one length and one value are one. -/
theorem dval_ext {a b : List UInt8} (ha : a.all isDig = true) (hb : b.all isDig = true) (hl : a.length = b.length) (hv : dval a = dval b) : a = b := by
  induction a generalizing b with
  | nil => cases b with
    | nil => rfl
    | cons y b => simp at hl
  | cons x a ih =>
    cases b with
    | nil => simp at hl
    | cons y b =>
      rw [List.all_cons, Bool.and_eq_true] at ha hb
      have e1 := dval_append [x] a
      have e2 := dval_append [y] b
      rw [List.singleton_append] at e1 e2
      rw [e1, e2] at hv
      have hl2 : a.length = b.length := by simpa using hl
      have h1 := dval_lt ha.2
      have h2 := dval_lt hb.2
      rw [hl2] at h1 hv
      have d1 : dval [x] = x.toNat - 48 := by simp [dval]
      have d2 : dval [y] = y.toNat - 48 := by simp [dval]
      rw [d1, d2] at hv
      have x1 : 48 ≤ x.toNat ∧ x.toNat ≤ 57 := by simpa [isDig] using ha.1
      have y1 : 48 ≤ y.toNat ∧ y.toNat ≤ 57 := by simpa [isDig] using hb.1
      have hp : 0 < 10 ^ b.length := Nat.pow_pos (by decide)
      have q1 : (x.toNat - 48) = (y.toNat - 48) := by
        have a1 := congrArg (· / 10 ^ b.length) hv
        rw [Nat.add_comm, Nat.add_mul_div_right _ _ hp, Nat.div_eq_of_lt h1, Nat.add_comm _ (dval b), Nat.add_mul_div_right _ _ hp, Nat.div_eq_of_lt h2] at a1
        omega
      have q2 : x = y := UInt8.toNat_inj.1 (by omega)
      subst q2
      rw [ih ha.2 hb.2 hl2 (by omega)]
theorem split_digits {l : List UInt8} (h : l.all isDig = true) (n : Nat) (hn : n ≤ l.length) :
    dval (l.take (l.length - n)) = dval l / pten n ∧ dval (l.drop (l.length - n)) = dval l % pten n := by
  have e := dval_append (l.take (l.length - n)) (l.drop (l.length - n))
  rw [List.take_append_drop, List.length_drop, show l.length - (l.length - n) = n by omega] at e
  have h1 := dval_lt (all_drop h (l.length - n))
  rw [List.length_drop, show l.length - (l.length - n) = n by omega] at h1
  have hp := pten_pos n
  unfold pten at *
  rw [e]
  constructor
  · rw [Nat.add_comm, Nat.add_mul_div_right _ _ hp, Nat.div_eq_of_lt h1, Nat.zero_add]
  · rw [Nat.add_comm, Nat.add_mul_mod_self_right, Nat.mod_eq_of_lt h1]
/-- The digits behind the point, and those ahead of it. -/
theorem dpt_dtext (k n : Nat) (hn : 0 < n) : dpt n (dtext k) = dtext (k / pten n) ++ 46 :: zpad n (dtext (k % pten n)) := by
  have hall := zpad_all (n := n + 1) (dtext_all k)
  have hlen := zpad_length (n + 1) (dtext k)
  have hle : n ≤ (zpad (n + 1) (dtext k)).length := by omega
  obtain ⟨h1, h2⟩ := split_digits hall n hle
  rw [zpad_dval, dval_dtext] at h1 h2
  unfold dpt
  congr 1
  · rw [← h1]
    symm
    apply dtext_dval
    have ha : ((zpad (n + 1) (dtext k)).take ((zpad (n + 1) (dtext k)).length - n)).all isDig = true := all_take hall _
    have hl : ((zpad (n + 1) (dtext k)).take ((zpad (n + 1) (dtext k)).length - n)).length = (zpad (n + 1) (dtext k)).length - n := by rw [List.length_take]; omega
    rw [isNat_rest ?_ ?_, ha]
    · intro e; rw [e] at hl; simp at hl; omega
    · by_cases hk : (dtext k).length ≤ n + 1
      · -- one digit
        have hl1 : ((zpad (n + 1) (dtext k)).take ((zpad (n + 1) (dtext k)).length - n)).length = 1 := by rw [hl, hlen]; omega
        obtain ⟨x, hx⟩ := List.length_eq_one_iff.1 hl1
        rw [hx]
        by_cases h48 : x = 48
        · right; subst h48; rfl
        · left; simpa using h48
      · left
        have e0 : zpad (n + 1) (dtext k) = dtext k := by
          unfold zpad
          rw [show n + 1 - (dtext k).length = 0 by omega]; rfl
        rw [e0, List.head?_take, if_neg (by omega)]
        apply head_dtext
        intro e
        subst e
        rw [dtext_zero] at hk
        simp at hk
  · congr 1
    apply dval_ext (all_drop hall _) (zpad_all (dtext_all _))
    · rw [List.length_drop, zpad_length n, hlen]
      have hlt : k % pten n < 10 ^ n := Nat.mod_lt _ (pten_pos n)
      have := length_dtext_le hlt hn
      omega
    · rw [h2, zpad_dval, dval_dtext]
/-- The text of a natural number of units. -/
def dabs (k n : Nat) : ByteArray := ⟨(if n = 0 then dtext k else dpt n (dtext k)).toArray⟩
/-- The text of so many units of n digits. -/
def dtxt (z : Int) (n : Nat) : ByteArray := if z < 0 then ⟨#[45]⟩ ++ dabs z.natAbs n else dabs z.natAbs n
theorem dabs_list (k n : Nat) : (dabs k n).data.toList = if n = 0 then dtext k else dpt n (dtext k) := by simp [dabs]
theorem dabs_zero (k : Nat) : dabs k 0 = txt k := rfl
theorem dpt_length (n : Nat) (l : List UInt8) : (dpt n l).length = max (n + 1) l.length + 1 := by
  have h := zpad_length (n + 1) l
  unfold dpt
  rw [List.length_append, List.length_take, List.length_cons, List.length_drop, h]
  omega
theorem size_dabs {k n m : Nat} (h : k < 10 ^ m) (hm : n < m) : (dabs k n).size ≤ m + 1 := by
  have h1 := length_dtext_le h (by omega)
  have e : (dabs k n).size = (dabs k n).data.toList.length := by simp
  rw [e, dabs_list]
  split
  · omega
  · rw [dpt_length]; omega
theorem size_dtxt {z : Int} {n m : Nat} (h : z.natAbs < 10 ^ m) (hm : n < m) : (dtxt z n).size ≤ m + 2 := by
  have h1 := size_dabs h hm
  unfold dtxt
  split
  · rw [ByteArray.size_append]; show 1 + _ ≤ _; omega
  · omega
/-- What withPoint joins. -/
theorem point_text {k n : Nat} (hn : 0 < n) (s : ByteArray) (hs : s.data.toList = zpad (n + 1) (dtext k)) :
    s.extract 0 (s.size - n) ++ ⟨#[46]⟩ ++ s.extract (s.size - n) s.size = dabs k n := by
  have e : s.size = (zpad (n + 1) (dtext k)).length := by rw [← hs]; simp
  apply ba_ext
  rw [app_list, app_list, dabs_list, if_neg (by omega)]
  rw [ByteArray.data_extract, Array.toList_extract, List.extract_eq_take_drop, ByteArray.data_extract, Array.toList_extract, List.extract_eq_take_drop, hs, e]
  unfold dpt
  rw [List.drop_zero, Nat.sub_zero, List.append_assoc]
  congr 1
  rw [List.take_of_length_le (by rw [List.length_drop]; exact Nat.le_refl _)]
  rfl
/-- The reference's text: so many, and what is behind. -/
theorem dabs_parts (k n : Nat) (hn : 0 < n) : dabs k n = txt (k / pten n) ++ ⟨#[46]⟩ ++ ⟨(zpad n (dtext (k % pten n))).toArray⟩ := by
  apply ba_ext
  rw [dabs_list, if_neg (by omega), dpt_dtext k n hn, app_list, app_list, txt_list]
  simp
theorem dabs_whole (k : Nat) : dabs k 0 = txt (k / pten 0) := by rw [pten_zero, Nat.div_one, dabs_zero]
theorem dtxt_turn (z : Int) (n : Nat) : dtxt z n = dtxt (-z) n ∨ dtxt z n = ⟨#[45]⟩ ++ dtxt (-z) n ∨ ⟨#[45]⟩ ++ dtxt z n = dtxt (-z) n := by
  unfold dtxt
  rw [Int.natAbs_neg]
  rcases Int.lt_trichotomy z 0 with h | h | h
  · right; left; rw [if_pos h, if_neg (by omega)]
  · left; subst h; rfl
  · right; right; rw [if_neg (by omega), if_pos (by omega)]

end Go.Proofs.YtjeeepcnaaadmaaGreatDoor

/-
  PACKAGE dec: decimals in memory.
-/
namespace Go.Proofs.YtjeeepcnaaadmaaGreatDoor
open Go.RowKit
open Num
set_option linter.unusedVariables false
set_option maxRecDepth 100000
set_option linter.unusedSimpArgs false

/-- A block of three cells: a decimal. -/
def Dbx (w : World) (g : Nat) (s : Bool) (sv : Value) (d : Int) : Prop := w.heap[g]? = some (.cells #[.bool s, sv, .int .i64 d] 119 (0, 0)) ∧ ∃ p n c, sv = .slice p n c
theorem Dbx.lt {w : World} {g : Nat} {s : Bool} {sv : Value} {d : Int} (h : Dbx w g s sv d) : g < w.heap.size := lt_of_block h.1
theorem Dbx.cells {w : World} {g : Nat} {s : Bool} {sv : Value} {d : Int} (h : Dbx w g s sv d) : w.cell? ⟨g, 0, none⟩ = some (.bool s) ∧ w.cell? ⟨g, 1, none⟩ = some sv ∧ w.cell? ⟨g, 2, none⟩ = some (.int .i64 d) := by
  have := h.1
  refine ⟨?_, ?_, ?_⟩ <;> simp [World.cell?, this]
theorem Dbx.free {w : World} {g : Nat} {s : Bool} {sv : Value} {d : Int} (h : Dbx w g s sv d) (i : Nat) : w.frozen? ⟨g, i, none⟩ = false := by
  have := h.1
  simp [World.frozen?, this]
theorem Dbx.below {w w' : World} {g K : Nat} {s : Bool} {sv : Value} {d : Int} (h : Dbx w g s sv d) (hb : Below K w w') (hK : g < K) : Dbx w' g s sv d := ⟨(hb.block g hK).trans h.1, h.2⟩
theorem Dbx.dr {w : World} {g : Nat} {s : Bool} {sv : Value} {d : Int} (h : Dbx w g s sv d) : Dbx w.drew g s sv d := h
theorem Dbx.new (w : World) (s : Bool) (p : Option Addr) (n c : Nat) (d : Int) : Dbx (w.alloc (.cells #[.bool s, .slice p n c, .int .i64 d] 119)) w.heap.size s (.slice p n c) d := by
  refine ⟨?_, ⟨_, _, _, rfl⟩⟩
  show (w.heap.push _)[w.heap.size]? = _
  simp
theorem Dbx.other {w : World} {g g2 : Nat} {s : Bool} {sv : Value} {d : Int} (h : Dbx w g s sv d) (hne : g ≠ g2) (i : Nat) (v : Value) : Dbx (w.setCell ⟨g2, i, none⟩ v) g s sv d := by
  refine ⟨?_, h.2⟩
  rw [Below.heap_setCell _ _ _ _ (by exact hne)]; exact h.1
theorem Dbx.set0 {w : World} {g : Nat} {s : Bool} {sv : Value} {d : Int} (h : Dbx w g s sv d) (x : Bool) : Dbx (w.setCell ⟨g, 0, none⟩ (.bool x)) g x sv d := by
  refine ⟨?_, h.2⟩
  show (w.setCell ⟨g, 0, none⟩ (.bool x)).heap[g]? = _
  simp only [World.setCell, Array.getElem?_modify, h.1]
  simp
theorem Dbx.set1 {w : World} {g : Nat} {s : Bool} {sv : Value} {d : Int} (h : Dbx w g s sv d) (p : Option Addr) (n c : Nat) : Dbx (w.setCell ⟨g, 1, none⟩ (.slice p n c)) g s (.slice p n c) d := by
  refine ⟨?_, ⟨_, _, _, rfl⟩⟩
  show (w.setCell ⟨g, 1, none⟩ (.slice p n c)).heap[g]? = _
  simp only [World.setCell, Array.getElem?_modify, h.1]
  simp
theorem Dbx.set2 {w : World} {g : Nat} {s : Bool} {sv : Value} {d : Int} (h : Dbx w g s sv d) (e : Int) : Dbx (w.setCell ⟨g, 2, none⟩ (.int .i64 e)) g s sv e := by
  refine ⟨?_, h.2⟩
  show (w.setCell ⟨g, 2, none⟩ (.int .i64 e)).heap[g]? = _
  simp only [World.setCell, Array.getElem?_modify, h.1]
  simp
theorem Dbx.stores {w : World} {g : Nat} {s : Bool} {sv : Value} {d : Int} (h : Dbx w g s sv d) :
    (w.cell? ⟨g, 0, none⟩ = some (.bool s) ∧ w.frozen? ⟨g, 0, none⟩ = false) ∧
    ((∀ x, (w.setCell ⟨g, 0, none⟩ (.bool x)).cell? ⟨g, 1, none⟩ = some sv) ∧ (∀ x, (w.setCell ⟨g, 0, none⟩ (.bool x)).frozen? ⟨g, 1, none⟩ = false)) ∧
    (∀ x p n c, ((w.setCell ⟨g, 0, none⟩ (.bool x)).setCell ⟨g, 1, none⟩ (.slice p n c)).cell? ⟨g, 2, none⟩ = some (.int .i64 d)) ∧ (∀ x p n c, ((w.setCell ⟨g, 0, none⟩ (.bool x)).setCell ⟨g, 1, none⟩ (.slice p n c)).frozen? ⟨g, 2, none⟩ = false) :=
  ⟨⟨h.cells.1, h.free 0⟩, ⟨fun x => (h.set0 x).cells.2.1, fun x => (h.set0 x).free 1⟩, fun x p n c => ((h.set0 x).set1 p n c).cells.2.2, fun x p n c => ((h.set0 x).set1 p n c).free 2⟩
theorem Lim.dbx {w : World} {v : Value} {xs : List Nat} {g : Nat} {s : Bool} {sv : Value} {d : Int} (h : Lim w v xs) (hx : Dbx w g s sv d) (i : Nat) (u : Value) : Lim (w.setCell ⟨g, i, none⟩ u) v xs := by
  obtain ⟨h1, p, c, h2, h3, h4, h5⟩ := h
  refine ⟨h1, p, c, h2, h3, h4, ?_⟩
  rcases h5 with h5 | ⟨b, off, h6, h7, h8⟩
  · exact .inl h5
  · refine .inr ⟨b, off, h6, by simpa [World.setCell] using h7, fun i hi => ?_⟩
    have h9 := h8 i hi
    by_cases hb : b = g
    · subst hb
      obtain ⟨hx1, p', n', c', hx2⟩ := hx
      subst hx2
      simp only [World.cell?, hx1] at h9
      have hh : ∀ k : Nat, (#[Value.bool s, Value.slice p' n' c', Value.int .i64 d] : Array Value)[k]? ≠ some (.int .u32 (dg xs i)) := by
        intro k
        rcases k with _ | _ | _ | k <;> simp
      exact absurd h9 (hh _)
    · rw [← h9]
      exact World.cell?_of_block (Below.heap_setCell _ _ _ _ (by exact hb))
theorem Whl.dbx {w : World} {v : Value} {z : Int} {k g : Nat} {s : Bool} {sv : Value} {d : Int} (h : Whl w v z k) (hx : Dbx w g s sv d) (i : Nat) (u : Value) : Whl (w.setCell ⟨g, i, none⟩ u) v z k := by
  obtain ⟨s', sv', xs, h1, h2, h3⟩ := h
  exact ⟨s', sv', xs, h1, h2.dbx hx i u, h3⟩
theorem Dbx.last {w0 w : World} {g K : Nat} {s : Bool} {sv : Value} {d : Int} (h : Dbx w g s sv d) (hb : Below K w0 w) (hg : K ≤ g) (a : Bool) (p : Option Addr) (n c : Nat) (e : Int) :
    Dbx (((w.setCell ⟨g, 0, none⟩ (.bool a)).setCell ⟨g, 1, none⟩ (.slice p n c)).setCell ⟨g, 2, none⟩ (.int .i64 e)) g a (.slice p n c) e ∧
    Below K w0 (((w.setCell ⟨g, 0, none⟩ (.bool a)).setCell ⟨g, 1, none⟩ (.slice p n c)).setCell ⟨g, 2, none⟩ (.int .i64 e)) ∧
    (∀ {v z k}, Whl w v z k → Whl (((w.setCell ⟨g, 0, none⟩ (.bool a)).setCell ⟨g, 1, none⟩ (.slice p n c)).setCell ⟨g, 2, none⟩ (.int .i64 e)) v z k) := by
  have h1 := h.set0 a
  have h2 := h1.set1 p n c
  refine ⟨h2.set2 _, ((hb.setCell (p := ⟨g, 0, none⟩) hg _).setCell (p := ⟨g, 1, none⟩) hg _).setCell (p := ⟨g, 2, none⟩) hg _, fun hv => ?_⟩
  exact ((hv.dbx h 0 _).dbx h1 1 _).dbx h2 2 _
theorem load_dec {w : World} {g : Nat} {s : Bool} {sv : Value} {d : Int} (h2 : Dbx w g s sv d) : (loadVar 119 ⟨g, 0, none⟩).run Tryz.prog w = .ok (.agg #[.bool s, sv, .int .i64 d]) w := by
  obtain ⟨h0, h1, h3⟩ := h2.cells
  simp [go_sem, h0, h1, h3]
theorem res_dec {fn : Func} {t : Tmp} {tmps : Array Value} {w : World} {g : Nat} {s : Bool} {sv : Value} {d : Int} (hf : fn.results = #[.cell t 119]) (ht : tmps.getD t undef = .pointer (some ⟨g, 0, none⟩)) (h2 : Dbx w g s sv d) :
    (results fn tmps).run Tryz.prog w = .ok (.agg #[.bool s, sv, .int .i64 d]) w := by
  have h1 := at_addr (P := Tryz.prog) (w := w) ht
  have h3 := load_dec h2
  simp only [Array.getD_eq_getD_getElem?] at h1
  simp [results, hf, Sem.run_bind, h1, h3]
theorem res_dd {fn : Func} {t t' : Tmp} {tmps : Array Value} {w : World} {g g' : Nat} {s s' : Bool} {sv sv' : Value} {d d' : Int} (hf : fn.results = #[.cell t 119, .cell t' 119]) (ht : tmps.getD t undef = .pointer (some ⟨g, 0, none⟩)) (ht' : tmps.getD t' undef = .pointer (some ⟨g', 0, none⟩)) (h2 : Dbx w g s sv d) (h2' : Dbx w g' s' sv' d') :
    (results fn tmps).run Tryz.prog w = .ok (.tuple #[.agg #[.bool s, sv, .int .i64 d], .agg #[.bool s', sv', .int .i64 d']]) w := by
  have h1 := at_addr (P := Tryz.prog) (w := w) ht
  have h1' := at_addr (P := Tryz.prog) (w := w) ht'
  have h3 := load_dec h2
  have h3' := load_dec h2'
  simp only [Array.getD_eq_getD_getElem?] at h1 h1'
  simp [results, hf, Sem.run_bind, h1, h3, h1', h3']
theorem dx {w w' : World} {g : Nat} {s : Bool} {sv : Value} {d : Int} (h : Hid (Dbx w g s sv d)) (hb : Below w.heap.size w w') : Hid (Dbx w' g s sv d) := hid (h.out.below hb h.out.lt)

/-- A value reads as z units of n digits, of k limbs or fewer. -/
def Dcl (w : World) (v : Value) (z : Int) (n k : Nat) : Prop := ∃ s p m c, v = .agg #[.bool s, .slice p m c, .int .i64 (n : Int)] ∧ Whl w (.agg #[.bool s, .slice p m c]) z k
theorem Dcl.opened {w : World} {v : Value} {z : Int} {n k : Nat} (h : Dcl w v z n k) : ∃ s p m c, v = .agg #[.bool s, .slice p m c, .int .i64 (n : Int)] := by
  obtain ⟨s, p, m, c, h1, _⟩ := h
  exact ⟨s, p, m, c, h1⟩
theorem Dcl.one {w : World} {z : Int} {n k : Nat} {s p m c} (h : Dcl w (.agg #[.bool s, .slice p m c, .int .i64 (n : Int)]) z n k) : Whl w (.agg #[.bool s, .slice p m c]) z k := by
  obtain ⟨s1, p1, m1, c1, h1, h2⟩ := h
  simp only [Value.agg.injEq, Array.mk.injEq, List.cons.injEq, Value.bool.injEq, Value.slice.injEq, and_true] at h1
  obtain ⟨rfl, rfl, rfl, rfl⟩ := h1
  exact h2
theorem Dcl.mk1 {w : World} {z : Int} {n k : Nat} {s p m c} (h : Whl w (.agg #[.bool s, .slice p m c]) z k) : Dcl w (.agg #[.bool s, .slice p m c, .int .i64 (n : Int)]) z n k := ⟨_, _, _, _, rfl, h⟩
theorem Dcl.on {w w' : World} {v : Value} {z : Int} {n k : Nat} (h : Dcl w v z n k) (hb : Below w.heap.size w w') : Dcl w' v z n k := by
  obtain ⟨s, p, m, c, h1, h2⟩ := h
  exact ⟨s, p, m, c, h1, h2.on hb⟩
theorem Dcl.fit {w : World} {v : Value} {z : Int} {n k : Nat} (m : Nat) (h : Dcl w v z n k) (hm : z.natAbs < B ^ m) : Dcl w v z n m := by
  obtain ⟨s, p, m', c, h1, h2⟩ := h
  exact ⟨s, p, m', c, h1, h2.fit m hm⟩

/-- An Integer's box that the region has made. -/
def NewI (w0 w : World) (u : Value) (b : Bool) (v : Value) : Prop := ∃ g, u = .pointer (some ⟨g, 0, none⟩) ∧ w0.heap.size ≤ g ∧ (b = false → Box w g false (.slice none 0 0)) ∧ (b = true → ∃ s p n c, v = .agg #[.bool s, .slice p n c] ∧ Box w g s (.slice p n c))
theorem NewI.free {w0 w : World} {u v v' : Value} {b : Bool} (h : NewI w0 w u b v) (hb : b = false) : NewI w0 w u b v' := by
  obtain ⟨g, h1, h2, h3, h4⟩ := h
  exact ⟨g, h1, h2, h3, fun e => absurd (hb.symm.trans e) (by decide)⟩
theorem NewI.on {w0 w w' : World} {u v : Value} {b : Bool} (h : NewI w0 w u b v) (hb : Below w.heap.size w w') : NewI w0 w' u b v := by
  obtain ⟨g, h1, h2, h3, h4⟩ := h
  refine ⟨g, h1, h2, fun e => (h3 e).below hb (h3 e).lt, fun e => ?_⟩
  obtain ⟨s, p, n, c, e1, e2⟩ := h4 e
  exact ⟨s, p, n, c, e1, e2.below hb e2.lt⟩
theorem NewI.lt {w0 w : World} {u v : Value} {b : Bool} (h : NewI w0 w u b v) : ∃ g, u = .pointer (some ⟨g, 0, none⟩) ∧ g < w.heap.size := by
  obtain ⟨g, h1, h2, h3, h4⟩ := h
  refine ⟨g, h1, ?_⟩
  cases b with
  | false => exact (h3 rfl).lt
  | true => obtain ⟨_, _, _, _, _, h⟩ := h4 rfl; exact h.lt
theorem NewI.set {w0 w : World} {u v : Value} {b : Bool} {g : Nat} (h : NewI w0 w u b v) (hne : u ≠ .pointer (some ⟨g, 0, none⟩)) (a1 a2 : Value) : NewI w0 ((w.setCell ⟨g, 0, none⟩ a1).setCell ⟨g, 1, none⟩ a2) u b v := by
  obtain ⟨g', rfl, h2, h3, h4⟩ := h
  have hg : g' ≠ g := fun e => hne (by rw [e])
  refine ⟨g', rfl, h2, fun e => ((h3 e).other hg _ _).other hg _ _, fun e => ?_⟩
  obtain ⟨s, p, n, c, e1, e2⟩ := h4 e
  exact ⟨s, p, n, c, e1, (e2.other hg _ _).other hg _ _⟩
theorem pten_int (k : Nat) : (pten k : Int) * 10 = (pten (k + 1) : Int) := by rw [pten_succ]; omega
theorem pten_fit {k : Nat} (h : k ≤ 30) : ((pten k : Nat) : Int).natAbs < B ^ 4 := Nat.lt_of_le_of_lt (pten_le h) (by decide +kernel)
theorem pten_ne (k : Nat) : ((pten k : Nat) : Int) ≠ 0 := by have := pten_pos k; omega

end Go.Proofs.YtjeeepcnaaadmaaGreatDoor
