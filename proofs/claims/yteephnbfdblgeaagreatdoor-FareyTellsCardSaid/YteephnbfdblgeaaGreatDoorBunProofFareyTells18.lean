import Derived.Test.YteephnbfdblgeaaGreatDoorBunProofFareyTells16
import Derived.Test.YteephnbfdblgeaaGreatDoorBunProofFareyTells15
import Derived.Deep.RegionHeld3
import Derived.Test.YteephnbfdblgeaaGreatDoorBunProofFareyTells14
import Derived.Test.YteephnbfdblgeaaGreatDoorBunProofFareyTells1
import Derived.Test.YteephnbfdblgeaaGreatDoorBunProofFareyTells12
import Derived.Test.YteephnbfdblgeaaGreatDoorBunProofFareyTells11
import Derived.Test.YteephnbfdblgeaaGreatDoorBunProofFareyTells5
import Derived.Laws.BytesArg
import Derived.Laws.IdiomStrings
/-
  PACKAGE rat: Parse.
-/
namespace Go.Proofs.YteephnbfdblgeaaGreatDoor
open Go.RowKit
open Num
set_option linter.unusedVariables false
set_option maxRecDepth 100000
set_option linter.unusedSimpArgs false

/-- A fraction that may be handed in. -/
def GoodQ (s : ByteArray) : Prop := s.size ≤ 100 ∧ isRat s.data.toList = true
/-- What is wrong with a text. -/
def BadQ (s : ByteArray) (k : Int) : Prop := (100 < s.size ∧ k = 4) ∨ (s.size ≤ 100 ∧ isRat s.data.toList = false ∧ k = 1)
theorem goodQ_or_bad (s : ByteArray) : GoodQ s ∨ ∃ k, BadQ s k := by
  by_cases h : s.size ≤ 100
  · cases hn : isRat s.data.toList with
    | true => exact .inl ⟨h, hn⟩
    | false => exact .inr ⟨1, .inr ⟨h, hn, rfl⟩⟩
  · exact .inr ⟨4, .inl ⟨by omega, rfl⟩⟩
/-- The fraction of a text. -/
def qnum (s : ByteArray) : Rat := ratOf s.data.toList
/-- The error of two texts. -/
def WrongQ (a b : ByteArray) (k : Int) : Prop := BadQ a k ∨ (GoodQ a ∧ BadQ b k)
theorem rightQ_or_wrong (a b : ByteArray) : (GoodQ a ∧ GoodQ b) ∨ ∃ k, WrongQ a b k := by
  rcases goodQ_or_bad a with ha | ⟨k, ha⟩
  · rcases goodQ_or_bad b with hb | ⟨k, hb⟩
    · exact .inl ⟨ha, hb⟩
    · exact .inr ⟨k, .inr ⟨ha, hb⟩⟩
  · exact .inr ⟨k, .inl ha⟩
theorem divInt_coprime {n d : Int} (hd : 1 < d) (hg : Int.gcd n d = 1) : (Rat.divInt n d).num = n ∧ ((Rat.divInt n d).den : Int) = d := by
  have h := divInt_parts n d (by omega)
  rw [if_neg (by omega), hg] at h
  simpa using h
theorem res_nn_tmp {fn : Func} {t t' t'' : Tmp} {tmps : Array Value} {w : World} {g g' : Nat} {s s' a a' : Bool} {sv sv' av av' u : Value} (hf : fn.results = #[.cell t 62, .cell t' 62, .tmp t'']) (ht : tmps.getD t undef = .pointer (some ⟨g, 0, none⟩)) (ht' : tmps.getD t' undef = .pointer (some ⟨g', 0, none⟩)) (hu : tmps.getD t'' undef = u) (h2 : Nbx w g s sv s' sv') (h2' : Nbx w g' a av a' av') :
    (results fn tmps).run Tryz.prog w = .ok (.tuple #[.agg #[.bool s, sv, .bool s', sv'], .agg #[.bool a, av, .bool a', av'], u]) w := by
  have h1 := at_addr (P := Tryz.prog) (w := w) ht
  have h1' := at_addr (P := Tryz.prog) (w := w) ht'
  have h3 := load_num h2
  have h3' := load_num h2'
  simp only [Array.getD_eq_getD_getElem?] at h1 h1' hu
  simp [results, hf, Sem.run_bind, h1, h3, h1', h3', hu]

set_option maxHeartbeats 2000000 in
theorem qparseA (s : ByteArray) (w : World) (hs : s.size ≤ 68719476736) (hA : isWhl (cutB s.data.toList) = false) :
    Calls Tryz.prog 41 #[.string s] w fun e w' => e = .returned (.tuple #[.agg #[.bool false, .slice none 0 0, .bool false, .slice none 0 0], errno 1]) ∧ Below w.heap.size w w' := by
  have HA := hid hA
  have HS := hid hs
  have B := hid (Below.refl w.heap.size w)
  have hb1 := (Below.refl _ _).alloc (Nat.le_refl w.heap.size) (.cells #[.bool false, .slice none 0 0, .bool false, .slice none 0 0] 62)
  have hx2 := Nbx.new w false false (.slice none 0 0) (.slice none 0 0)
  replace B := bb B hb1
  have XQ := hid hx2
  have hs3 : (w.alloc (.cells #[.bool false, .slice none 0 0, .bool false, .slice none 0 0] 62)).heap.size = w.heap.size + 1 := by simp
  clear hb1 hx2
  clear hs3 hs hA
  go_enter Tryz.func41, Tryz.ntmps41
  obtain ⟨cc4a, cc4b, cc4c, cc4d⟩ := XQ.out.cells
  go_wp2_with fail
  generalize hW : w.alloc (.cells #[.bool false, .slice none 0 0, .bool false, .slice none 0 0] 62) = W5 at *
  clear hW
  have HC := cut_slash s W5 (by have := HS.out; unfold maxLen; omega)
  refine (HC).mono ?_
  rintro e w6 ⟨a, b, rfl, ha, hbb, hsa, hsb, hb⟩
  have HAL := hid ha
  have HBL := hid hbb
  have HSA := hid hsa
  have HSB := hid hsb
  replace XQ := nx XQ hb
  replace B := bb B hb
  clear cc4a cc4b cc4c cc4d
  clear hb HC ha hbb hsa hsb
  obtain ⟨cc7a, cc7b, cc7c, cc7d⟩ := XQ.out.cells
  generalize hasSl s.data.toList = sl at *
  go_wp2_with fail
  refine (zparse_no a _ (by have := HS.out; have := HSA.out; omega) (by rw [HAL.out]; exact HA.out)).mono ?_
  rintro e w8 ⟨rfl, hb⟩
  replace XQ := nx XQ hb
  replace B := bb B hb
  clear cc7a cc7b cc7c cc7d
  clear hb 
  have hb9 := (Below.refl _ _).alloc (Nat.le_refl w8.heap.size) (.cells #[.bool false, .slice none 0 0] 60)
  have hx10 := Box.new w8 false none 0 0
  have L0 := hid XQ.out.lt
  replace XQ := nx XQ hb9
  replace B := bb B hb9
  have X7 := hid hx10
  have hs11 : (w8.alloc (.cells #[.bool false, .slice none 0 0] 60)).heap.size = w8.heap.size + 1 := by simp
  clear hb9 hx10
  obtain ⟨cc12a, cc12b, cc12c, cc12d⟩ := XQ.out.cells
  obtain ⟨cc13a, cc13b⟩ := X7.out.both
  obtain ⟨⟨cc14a, cc14b⟩, ⟨cc14c, cc14d⟩, ⟨cc14e, cc14f⟩, cc14g, cc14h⟩ := XQ.out.stores
  obtain ⟨r15a, r15b, r15c⟩ := XQ.out.last B.out (by have := L0.out; omega) false false none none 0 0 0 0
  replace X7 := hid ((((X7.out.other (g2 := w.heap.size) (by have := L0.out; omega) 0 (.bool false)).other (g2 := w.heap.size) (by have := L0.out; omega) 1 (.slice none 0 0)).other (g2 := w.heap.size) (by have := L0.out; omega) 2 (.bool false)).other (g2 := w.heap.size) (by have := L0.out; omega) 3 (.slice none 0 0))
  replace XQ := hid r15a
  replace B := hid r15b
  clear r15a r15b r15c
  go_wp2_with fail
  refine bodyPost_ret (res_num_tmp rfl rfl rfl XQ.out) rfl ?_
  exact ⟨rfl, B.out⟩

set_option maxHeartbeats 2000000 in
theorem qparseB (s : ByteArray) (w : World) (hs : s.size ≤ 68719476736) (hsl : hasSl s.data.toList = false) (hA : isWhl (cutB s.data.toList) = true) :
    Calls Tryz.prog 41 #[.string s] w fun e w' => ∃ v, e = .returned (.tuple #[v, .nilIface]) ∧ Rtl w' v (ratOf s.data.toList) s.size ∧ Below w.heap.size w w' := by
  have HSL := hid hsl
  have HA := hid hA
  have HS := hid hs
  have B := hid (Below.refl w.heap.size w)
  have hb1 := (Below.refl _ _).alloc (Nat.le_refl w.heap.size) (.cells #[.bool false, .slice none 0 0, .bool false, .slice none 0 0] 62)
  have hx2 := Nbx.new w false false (.slice none 0 0) (.slice none 0 0)
  replace B := bb B hb1
  have XQ := hid hx2
  have hs3 : (w.alloc (.cells #[.bool false, .slice none 0 0, .bool false, .slice none 0 0] 62)).heap.size = w.heap.size + 1 := by simp
  clear hb1 hx2
  clear hs3 hs hsl hA
  go_enter Tryz.func41, Tryz.ntmps41
  obtain ⟨cc4a, cc4b, cc4c, cc4d⟩ := XQ.out.cells
  go_wp2_with fail
  generalize hW : w.alloc (.cells #[.bool false, .slice none 0 0, .bool false, .slice none 0 0] 62) = W5 at *
  clear hW
  have HC := cut_slash s W5 (by have := HS.out; unfold maxLen; omega)
  rw [HSL.out] at HC
  refine (HC).mono ?_
  rintro e w6 ⟨a, b, rfl, ha, hbb, hsa, hsb, hb⟩
  have HAL := hid ha
  have HBL := hid hbb
  have HSA := hid hsa
  have HSB := hid hsb
  replace XQ := nx XQ hb
  replace B := bb B hb
  clear cc4a cc4b cc4c cc4d
  clear hb HC ha hbb hsa hsb
  obtain ⟨cc7a, cc7b, cc7c, cc7d⟩ := XQ.out.cells
  go_wp2_with fail
  refine (zparse_yes a _ (by have := HS.out; have := HSA.out; omega) (by rw [HAL.out]; exact HA.out)).mono ?_
  rintro e w8 ⟨v, rfl, hv, hb⟩
  rw [HAL.out] at hv
  replace hv := hv.mono HSA.out
  obtain ⟨s5, p5, n5, c5, rfl⟩ := hv.opened
  replace XQ := nx XQ hb
  replace B := bb B hb
  clear cc7a cc7b cc7c cc7d
  have HT := hid hv
  clear hb hv
  have hb9 := (Below.refl _ _).alloc (Nat.le_refl w8.heap.size) (.cells #[.bool s5, .slice p5 n5 c5] 60)
  have hx10 := Box.new w8 s5 p5 n5 c5
  have L0 := hid XQ.out.lt
  replace XQ := nx XQ hb9
  replace HT := wl HT hb9
  replace B := bb B hb9
  have X7 := hid hx10
  have hs11 : (w8.alloc (.cells #[.bool s5, .slice p5 n5 c5] 60)).heap.size = w8.heap.size + 1 := by simp
  clear hb9 hx10
  obtain ⟨cc12a, cc12b, cc12c, cc12d⟩ := XQ.out.cells
  obtain ⟨cc13a, cc13b⟩ := X7.out.both
  obtain ⟨⟨cc14a, cc14b⟩, ⟨cc14c, cc14d⟩, ⟨cc14e, cc14f⟩, cc14g, cc14h⟩ := XQ.out.stores
  obtain ⟨r15a, r15b, r15c⟩ := XQ.out.last B.out (by have := L0.out; omega) s5 false p5 none n5 0 c5 0
  replace X7 := hid ((((X7.out.other (g2 := w.heap.size) (by have := L0.out; omega) 0 (.bool s5)).other (g2 := w.heap.size) (by have := L0.out; omega) 1 (.slice p5 n5 c5)).other (g2 := w.heap.size) (by have := L0.out; omega) 2 (.bool false)).other (g2 := w.heap.size) (by have := L0.out; omega) 3 (.slice none 0 0))
  replace HT := hid (r15c HT.out)
  replace XQ := hid r15a
  replace B := hid r15b
  clear r15a r15b r15c
  go_wp2_with fail
  refine bodyPost_ret (res_num_tmp rfl rfl rfl XQ.out) rfl ?_
  refine ⟨_, rfl, Rtl.mk2 (d := 0) ?_ (Whl.nil _ _) (.inr ⟨rfl, ?_⟩), B.out⟩
  · rw [ratOf, if_neg (by rw [HSL.out]; decide), Rat.num_intCast]
    have h := HT.out
    have e : cutB s.data.toList = s.data.toList := by rcases index_cut s.data.toList with ⟨_, _, e⟩ | ⟨e, _⟩; exact e; rw [HSL.out] at e; exact absurd e (by decide)
    rw [e] at h; exact h
  · rw [ratOf, if_neg (by rw [HSL.out]; decide), Rat.den_intCast]

set_option maxHeartbeats 2000000 in
theorem qparseC (s : ByteArray) (w : World) (hs : s.size ≤ 68719476736) (hsl : hasSl s.data.toList = true) (hA : isWhl (cutB s.data.toList) = true) (hB : isWhl (cutA s.data.toList) = false) :
    Calls Tryz.prog 41 #[.string s] w fun e w' => e = .returned (.tuple #[.agg #[.bool false, .slice none 0 0, .bool false, .slice none 0 0], errno 1]) ∧ Below w.heap.size w w' := by
  have HSL := hid hsl
  have HA := hid hA
  have HB := hid hB
  have HS := hid hs
  have B := hid (Below.refl w.heap.size w)
  have hb1 := (Below.refl _ _).alloc (Nat.le_refl w.heap.size) (.cells #[.bool false, .slice none 0 0, .bool false, .slice none 0 0] 62)
  have hx2 := Nbx.new w false false (.slice none 0 0) (.slice none 0 0)
  replace B := bb B hb1
  have XQ := hid hx2
  have hs3 : (w.alloc (.cells #[.bool false, .slice none 0 0, .bool false, .slice none 0 0] 62)).heap.size = w.heap.size + 1 := by simp
  clear hb1 hx2
  clear hs3 hs hsl hA hB
  go_enter Tryz.func41, Tryz.ntmps41
  obtain ⟨cc4a, cc4b, cc4c, cc4d⟩ := XQ.out.cells
  go_wp2_with fail
  generalize hW : w.alloc (.cells #[.bool false, .slice none 0 0, .bool false, .slice none 0 0] 62) = W5 at *
  clear hW
  have HC := cut_slash s W5 (by have := HS.out; unfold maxLen; omega)
  rw [HSL.out] at HC
  refine (HC).mono ?_
  rintro e w6 ⟨a, b, rfl, ha, hbb, hsa, hsb, hb⟩
  have HAL := hid ha
  have HBL := hid hbb
  have HSA := hid hsa
  have HSB := hid hsb
  replace XQ := nx XQ hb
  replace B := bb B hb
  clear cc4a cc4b cc4c cc4d
  clear hb HC ha hbb hsa hsb
  obtain ⟨cc7a, cc7b, cc7c, cc7d⟩ := XQ.out.cells
  go_wp2_with fail
  refine (zparse_yes a _ (by have := HS.out; have := HSA.out; omega) (by rw [HAL.out]; exact HA.out)).mono ?_
  rintro e w8 ⟨v, rfl, hv, hb⟩
  rw [HAL.out] at hv
  replace hv := hv.mono HSA.out
  obtain ⟨s5, p5, n5, c5, rfl⟩ := hv.opened
  replace XQ := nx XQ hb
  replace B := bb B hb
  clear cc7a cc7b cc7c cc7d
  have HT := hid hv
  clear hb hv
  have hb9 := (Below.refl _ _).alloc (Nat.le_refl w8.heap.size) (.cells #[.bool s5, .slice p5 n5 c5] 60)
  have hx10 := Box.new w8 s5 p5 n5 c5
  have L0 := hid XQ.out.lt
  replace XQ := nx XQ hb9
  replace HT := wl HT hb9
  replace B := bb B hb9
  have X7 := hid hx10
  have hs11 : (w8.alloc (.cells #[.bool s5, .slice p5 n5 c5] 60)).heap.size = w8.heap.size + 1 := by simp
  clear hb9 hx10
  obtain ⟨cc12a, cc12b, cc12c, cc12d⟩ := XQ.out.cells
  obtain ⟨cc13a, cc13b⟩ := X7.out.both
  go_wp2_with fail
  generalize hW : w8.alloc (.cells #[.bool s5, .slice p5 n5 c5] 60) = W14 at *
  clear hW
  have HBL := hid (HBL.out (by first | rfl | trivial))
  refine (zparse_no b _ (by have := HS.out; have := HSB.out; omega) (by rw [HBL.out]; exact HB.out)).mono ?_
  rintro e w15 ⟨rfl, hb⟩
  replace XQ := nx XQ hb
  replace X7 := bx X7 hb
  replace HT := wl HT hb
  replace B := bb B hb
  clear cc12a cc12b cc12c cc12d cc13a cc13b
  clear hb 
  have hb16 := (Below.refl _ _).alloc (Nat.le_refl w15.heap.size) (.cells #[.bool false, .slice none 0 0] 60)
  have hx17 := Box.new w15 false none 0 0
  have L1 := hid X7.out.lt
  replace XQ := nx XQ hb16
  replace X7 := bx X7 hb16
  replace HT := wl HT hb16
  replace B := bb B hb16
  have X9 := hid hx17
  have hs18 : (w15.alloc (.cells #[.bool false, .slice none 0 0] 60)).heap.size = w15.heap.size + 1 := by simp
  clear hb16 hx17
  obtain ⟨cc19a, cc19b, cc19c, cc19d⟩ := XQ.out.cells
  obtain ⟨cc20a, cc20b⟩ := X7.out.both
  obtain ⟨cc21a, cc21b⟩ := X9.out.both
  obtain ⟨⟨cc22a, cc22b⟩, ⟨cc22c, cc22d⟩, ⟨cc22e, cc22f⟩, cc22g, cc22h⟩ := XQ.out.stores
  obtain ⟨r23a, r23b, r23c⟩ := XQ.out.last B.out (by have := L0.out; have := L1.out; omega) false false none none 0 0 0 0
  replace X7 := hid ((((X7.out.other (g2 := w.heap.size) (by have := L0.out; have := L1.out; omega) 0 (.bool false)).other (g2 := w.heap.size) (by have := L0.out; have := L1.out; omega) 1 (.slice none 0 0)).other (g2 := w.heap.size) (by have := L0.out; have := L1.out; omega) 2 (.bool false)).other (g2 := w.heap.size) (by have := L0.out; have := L1.out; omega) 3 (.slice none 0 0))
  replace X9 := hid ((((X9.out.other (g2 := w.heap.size) (by have := L0.out; have := L1.out; omega) 0 (.bool false)).other (g2 := w.heap.size) (by have := L0.out; have := L1.out; omega) 1 (.slice none 0 0)).other (g2 := w.heap.size) (by have := L0.out; have := L1.out; omega) 2 (.bool false)).other (g2 := w.heap.size) (by have := L0.out; have := L1.out; omega) 3 (.slice none 0 0))
  replace HT := hid (r23c HT.out)
  replace XQ := hid r23a
  replace B := hid r23b
  clear r23a r23b r23c
  go_wp2_with fail
  refine bodyPost_ret (res_num_tmp rfl rfl rfl XQ.out) rfl ?_
  exact ⟨rfl, B.out⟩

set_option maxHeartbeats 2000000 in
theorem qparseD (s : ByteArray) (w : World) (hs : s.size ≤ 68719476736) (hsl : hasSl s.data.toList = true) (hA : isWhl (cutB s.data.toList) = true) (hB : isWhl (cutA s.data.toList) = true) (hD : ¬ 1 < whlOf (cutA s.data.toList)) :
    Calls Tryz.prog 41 #[.string s] w fun e w' => e = .returned (.tuple #[.agg #[.bool false, .slice none 0 0, .bool false, .slice none 0 0], errno 1]) ∧ Below w.heap.size w w' := by
  have HSL := hid hsl
  have HA := hid hA
  have HB := hid hB
  have HD := hid hD
  have HS := hid hs
  have B := hid (Below.refl w.heap.size w)
  have hb1 := (Below.refl _ _).alloc (Nat.le_refl w.heap.size) (.cells #[.bool false, .slice none 0 0, .bool false, .slice none 0 0] 62)
  have hx2 := Nbx.new w false false (.slice none 0 0) (.slice none 0 0)
  replace B := bb B hb1
  have XQ := hid hx2
  have hs3 : (w.alloc (.cells #[.bool false, .slice none 0 0, .bool false, .slice none 0 0] 62)).heap.size = w.heap.size + 1 := by simp
  clear hb1 hx2
  clear hs3 hs hsl hA hB hD
  go_enter Tryz.func41, Tryz.ntmps41
  obtain ⟨cc4a, cc4b, cc4c, cc4d⟩ := XQ.out.cells
  go_wp2_with fail
  generalize hW : w.alloc (.cells #[.bool false, .slice none 0 0, .bool false, .slice none 0 0] 62) = W5 at *
  clear hW
  have HC := cut_slash s W5 (by have := HS.out; unfold maxLen; omega)
  rw [HSL.out] at HC
  refine (HC).mono ?_
  rintro e w6 ⟨a, b, rfl, ha, hbb, hsa, hsb, hb⟩
  have HAL := hid ha
  have HBL := hid hbb
  have HSA := hid hsa
  have HSB := hid hsb
  replace XQ := nx XQ hb
  replace B := bb B hb
  clear cc4a cc4b cc4c cc4d
  clear hb HC ha hbb hsa hsb
  obtain ⟨cc7a, cc7b, cc7c, cc7d⟩ := XQ.out.cells
  go_wp2_with fail
  refine (zparse_yes a _ (by have := HS.out; have := HSA.out; omega) (by rw [HAL.out]; exact HA.out)).mono ?_
  rintro e w8 ⟨v, rfl, hv, hb⟩
  rw [HAL.out] at hv
  replace hv := hv.mono HSA.out
  obtain ⟨s5, p5, n5, c5, rfl⟩ := hv.opened
  replace XQ := nx XQ hb
  replace B := bb B hb
  clear cc7a cc7b cc7c cc7d
  have HT := hid hv
  clear hb hv
  have hb9 := (Below.refl _ _).alloc (Nat.le_refl w8.heap.size) (.cells #[.bool s5, .slice p5 n5 c5] 60)
  have hx10 := Box.new w8 s5 p5 n5 c5
  have L0 := hid XQ.out.lt
  replace XQ := nx XQ hb9
  replace HT := wl HT hb9
  replace B := bb B hb9
  have X7 := hid hx10
  have hs11 : (w8.alloc (.cells #[.bool s5, .slice p5 n5 c5] 60)).heap.size = w8.heap.size + 1 := by simp
  clear hb9 hx10
  obtain ⟨cc12a, cc12b, cc12c, cc12d⟩ := XQ.out.cells
  obtain ⟨cc13a, cc13b⟩ := X7.out.both
  go_wp2_with fail
  generalize hW : w8.alloc (.cells #[.bool s5, .slice p5 n5 c5] 60) = W14 at *
  clear hW
  have HBL := hid (HBL.out (by first | rfl | trivial))
  refine (zparse_yes b _ (by have := HS.out; have := HSB.out; omega) (by rw [HBL.out]; exact HB.out)).mono ?_
  rintro e w15 ⟨v, rfl, hv, hb⟩
  rw [HBL.out] at hv
  replace hv := hv.mono HSB.out
  obtain ⟨s6, p6, n6, c6, rfl⟩ := hv.opened
  replace XQ := nx XQ hb
  replace X7 := bx X7 hb
  replace HT := wl HT hb
  replace B := bb B hb
  clear cc12a cc12b cc12c cc12d cc13a cc13b
  have HU := hid hv
  clear hb hv
  have hb16 := (Below.refl _ _).alloc (Nat.le_refl w15.heap.size) (.cells #[.bool s6, .slice p6 n6 c6] 60)
  have hx17 := Box.new w15 s6 p6 n6 c6
  have L1 := hid X7.out.lt
  replace XQ := nx XQ hb16
  replace X7 := bx X7 hb16
  replace HT := wl HT hb16
  replace HU := wl HU hb16
  replace B := bb B hb16
  have X9 := hid hx17
  have hs18 : (w15.alloc (.cells #[.bool s6, .slice p6 n6 c6] 60)).heap.size = w15.heap.size + 1 := by simp
  clear hb16 hx17
  obtain ⟨cc19a, cc19b, cc19c, cc19d⟩ := XQ.out.cells
  obtain ⟨cc20a, cc20b⟩ := X7.out.both
  obtain ⟨cc21a, cc21b⟩ := X9.out.both
  go_wp2_with fail
  generalize hW : w15.alloc (.cells #[.bool s6, .slice p6 n6 c6] 60) = W22 at *
  clear hW
  have HM := more_whl HU.out (by have := HS.out; omega)
  rw [decide_eq_false (by have h := HD.out; omega)] at HM
  refine (HM).mono ?_
  rintro e w23 ⟨rfl, hb⟩
  replace XQ := nx XQ hb
  replace X7 := bx X7 hb
  replace X9 := bx X9 hb
  replace HT := wl HT hb
  replace HU := wl HU hb
  replace B := bb B hb
  clear cc19a cc19b cc19c cc19d cc20a cc20b cc21a cc21b
  clear hb HM
  obtain ⟨cc24a, cc24b, cc24c, cc24d⟩ := XQ.out.cells
  obtain ⟨cc25a, cc25b⟩ := X7.out.both
  obtain ⟨cc26a, cc26b⟩ := X9.out.both
  obtain ⟨⟨cc27a, cc27b⟩, ⟨cc27c, cc27d⟩, ⟨cc27e, cc27f⟩, cc27g, cc27h⟩ := XQ.out.stores
  obtain ⟨r28a, r28b, r28c⟩ := XQ.out.last B.out (by have := L0.out; have := L1.out; omega) false false none none 0 0 0 0
  replace X7 := hid ((((X7.out.other (g2 := w.heap.size) (by have := L0.out; have := L1.out; omega) 0 (.bool false)).other (g2 := w.heap.size) (by have := L0.out; have := L1.out; omega) 1 (.slice none 0 0)).other (g2 := w.heap.size) (by have := L0.out; have := L1.out; omega) 2 (.bool false)).other (g2 := w.heap.size) (by have := L0.out; have := L1.out; omega) 3 (.slice none 0 0))
  replace X9 := hid ((((X9.out.other (g2 := w.heap.size) (by have := L0.out; have := L1.out; omega) 0 (.bool false)).other (g2 := w.heap.size) (by have := L0.out; have := L1.out; omega) 1 (.slice none 0 0)).other (g2 := w.heap.size) (by have := L0.out; have := L1.out; omega) 2 (.bool false)).other (g2 := w.heap.size) (by have := L0.out; have := L1.out; omega) 3 (.slice none 0 0))
  replace HT := hid (r28c HT.out)
  replace HU := hid (r28c HU.out)
  replace XQ := hid r28a
  replace B := hid r28b
  clear r28a r28b r28c
  go_wp2_with fail
  refine bodyPost_ret (res_num_tmp rfl rfl rfl XQ.out) rfl ?_
  exact ⟨rfl, B.out⟩

set_option maxHeartbeats 2000000 in
theorem qparseE (s : ByteArray) (w : World) (hs : s.size ≤ 68719476736) (hsl : hasSl s.data.toList = true) (hA : isWhl (cutB s.data.toList) = true) (hB : isWhl (cutA s.data.toList) = true) (hD : 1 < whlOf (cutA s.data.toList)) (hG : ¬ Int.gcd (whlOf (cutB s.data.toList)) (whlOf (cutA s.data.toList)) = 1) :
    Calls Tryz.prog 41 #[.string s] w fun e w' => e = .returned (.tuple #[.agg #[.bool false, .slice none 0 0, .bool false, .slice none 0 0], errno 1]) ∧ Below w.heap.size w w' := by
  have HSL := hid hsl
  have HA := hid hA
  have HB := hid hB
  have HD := hid hD
  have HG := hid hG
  have HS := hid hs
  have B := hid (Below.refl w.heap.size w)
  have hb1 := (Below.refl _ _).alloc (Nat.le_refl w.heap.size) (.cells #[.bool false, .slice none 0 0, .bool false, .slice none 0 0] 62)
  have hx2 := Nbx.new w false false (.slice none 0 0) (.slice none 0 0)
  replace B := bb B hb1
  have XQ := hid hx2
  have hs3 : (w.alloc (.cells #[.bool false, .slice none 0 0, .bool false, .slice none 0 0] 62)).heap.size = w.heap.size + 1 := by simp
  clear hb1 hx2
  clear hs3 hs hsl hA hB hD hG
  go_enter Tryz.func41, Tryz.ntmps41
  obtain ⟨cc4a, cc4b, cc4c, cc4d⟩ := XQ.out.cells
  go_wp2_with fail
  generalize hW : w.alloc (.cells #[.bool false, .slice none 0 0, .bool false, .slice none 0 0] 62) = W5 at *
  clear hW
  have HC := cut_slash s W5 (by have := HS.out; unfold maxLen; omega)
  rw [HSL.out] at HC
  refine (HC).mono ?_
  rintro e w6 ⟨a, b, rfl, ha, hbb, hsa, hsb, hb⟩
  have HAL := hid ha
  have HBL := hid hbb
  have HSA := hid hsa
  have HSB := hid hsb
  replace XQ := nx XQ hb
  replace B := bb B hb
  clear cc4a cc4b cc4c cc4d
  clear hb HC ha hbb hsa hsb
  obtain ⟨cc7a, cc7b, cc7c, cc7d⟩ := XQ.out.cells
  go_wp2_with fail
  refine (zparse_yes a _ (by have := HS.out; have := HSA.out; omega) (by rw [HAL.out]; exact HA.out)).mono ?_
  rintro e w8 ⟨v, rfl, hv, hb⟩
  rw [HAL.out] at hv
  replace hv := hv.mono HSA.out
  obtain ⟨s5, p5, n5, c5, rfl⟩ := hv.opened
  replace XQ := nx XQ hb
  replace B := bb B hb
  clear cc7a cc7b cc7c cc7d
  have HT := hid hv
  clear hb hv
  have hb9 := (Below.refl _ _).alloc (Nat.le_refl w8.heap.size) (.cells #[.bool s5, .slice p5 n5 c5] 60)
  have hx10 := Box.new w8 s5 p5 n5 c5
  have L0 := hid XQ.out.lt
  replace XQ := nx XQ hb9
  replace HT := wl HT hb9
  replace B := bb B hb9
  have X7 := hid hx10
  have hs11 : (w8.alloc (.cells #[.bool s5, .slice p5 n5 c5] 60)).heap.size = w8.heap.size + 1 := by simp
  clear hb9 hx10
  obtain ⟨cc12a, cc12b, cc12c, cc12d⟩ := XQ.out.cells
  obtain ⟨cc13a, cc13b⟩ := X7.out.both
  go_wp2_with fail
  generalize hW : w8.alloc (.cells #[.bool s5, .slice p5 n5 c5] 60) = W14 at *
  clear hW
  have HBL := hid (HBL.out (by first | rfl | trivial))
  refine (zparse_yes b _ (by have := HS.out; have := HSB.out; omega) (by rw [HBL.out]; exact HB.out)).mono ?_
  rintro e w15 ⟨v, rfl, hv, hb⟩
  rw [HBL.out] at hv
  replace hv := hv.mono HSB.out
  obtain ⟨s6, p6, n6, c6, rfl⟩ := hv.opened
  replace XQ := nx XQ hb
  replace X7 := bx X7 hb
  replace HT := wl HT hb
  replace B := bb B hb
  clear cc12a cc12b cc12c cc12d cc13a cc13b
  have HU := hid hv
  clear hb hv
  have hb16 := (Below.refl _ _).alloc (Nat.le_refl w15.heap.size) (.cells #[.bool s6, .slice p6 n6 c6] 60)
  have hx17 := Box.new w15 s6 p6 n6 c6
  have L1 := hid X7.out.lt
  replace XQ := nx XQ hb16
  replace X7 := bx X7 hb16
  replace HT := wl HT hb16
  replace HU := wl HU hb16
  replace B := bb B hb16
  have X9 := hid hx17
  have hs18 : (w15.alloc (.cells #[.bool s6, .slice p6 n6 c6] 60)).heap.size = w15.heap.size + 1 := by simp
  clear hb16 hx17
  obtain ⟨cc19a, cc19b, cc19c, cc19d⟩ := XQ.out.cells
  obtain ⟨cc20a, cc20b⟩ := X7.out.both
  obtain ⟨cc21a, cc21b⟩ := X9.out.both
  go_wp2_with fail
  generalize hW : w15.alloc (.cells #[.bool s6, .slice p6 n6 c6] 60) = W22 at *
  clear hW
  have HM := more_whl HU.out (by have := HS.out; omega)
  rw [decide_eq_true (by have h := HD.out; omega)] at HM
  refine (HM).mono ?_
  rintro e w23 ⟨rfl, hb⟩
  replace XQ := nx XQ hb
  replace X7 := bx X7 hb
  replace X9 := bx X9 hb
  replace HT := wl HT hb
  replace HU := wl HU hb
  replace B := bb B hb
  clear cc19a cc19b cc19c cc19d cc20a cc20b cc21a cc21b
  clear hb HM
  obtain ⟨cc24a, cc24b, cc24c, cc24d⟩ := XQ.out.cells
  obtain ⟨cc25a, cc25b⟩ := X7.out.both
  obtain ⟨cc26a, cc26b⟩ := X9.out.both
  go_wp2_with fail
  refine (zgcd_whl HT.out HU.out (by have := HS.out; omega)).mono ?_
  rintro e w27 ⟨v, rfl, hv, hb⟩
  obtain ⟨s7, p7, n7, c7, rfl⟩ := hv.opened
  replace XQ := nx XQ hb
  replace X7 := bx X7 hb
  replace X9 := bx X9 hb
  replace HT := wl HT hb
  replace HU := wl HU hb
  replace B := bb B hb
  clear cc24a cc24b cc24c cc24d cc25a cc25b cc26a cc26b
  have HV := hid hv
  clear hb hv
  obtain ⟨cc28a, cc28b, cc28c, cc28d⟩ := XQ.out.cells
  obtain ⟨cc29a, cc29b⟩ := X7.out.both
  obtain ⟨cc30a, cc30b⟩ := X9.out.both
  go_wp2_with fail
  have HM := more_whl HV.out (by have := HS.out; omega)
  rw [decide_eq_true (by have h1 := HG.out; have h2 := HD.out; have h3 := Int.gcd_pos_of_ne_zero_right (whlOf (cutB s.data.toList)) (show whlOf (cutA s.data.toList) ≠ 0 by omega); omega)] at HM
  refine (HM).mono ?_
  rintro e w31 ⟨rfl, hb⟩
  replace XQ := nx XQ hb
  replace X7 := bx X7 hb
  replace X9 := bx X9 hb
  replace HT := wl HT hb
  replace HU := wl HU hb
  replace HV := wl HV hb
  replace B := bb B hb
  clear cc28a cc28b cc28c cc28d cc29a cc29b cc30a cc30b
  clear hb HM
  obtain ⟨cc32a, cc32b, cc32c, cc32d⟩ := XQ.out.cells
  obtain ⟨cc33a, cc33b⟩ := X7.out.both
  obtain ⟨cc34a, cc34b⟩ := X9.out.both
  obtain ⟨⟨cc35a, cc35b⟩, ⟨cc35c, cc35d⟩, ⟨cc35e, cc35f⟩, cc35g, cc35h⟩ := XQ.out.stores
  obtain ⟨r36a, r36b, r36c⟩ := XQ.out.last B.out (by have := L0.out; have := L1.out; omega) false false none none 0 0 0 0
  replace X7 := hid ((((X7.out.other (g2 := w.heap.size) (by have := L0.out; have := L1.out; omega) 0 (.bool false)).other (g2 := w.heap.size) (by have := L0.out; have := L1.out; omega) 1 (.slice none 0 0)).other (g2 := w.heap.size) (by have := L0.out; have := L1.out; omega) 2 (.bool false)).other (g2 := w.heap.size) (by have := L0.out; have := L1.out; omega) 3 (.slice none 0 0))
  replace X9 := hid ((((X9.out.other (g2 := w.heap.size) (by have := L0.out; have := L1.out; omega) 0 (.bool false)).other (g2 := w.heap.size) (by have := L0.out; have := L1.out; omega) 1 (.slice none 0 0)).other (g2 := w.heap.size) (by have := L0.out; have := L1.out; omega) 2 (.bool false)).other (g2 := w.heap.size) (by have := L0.out; have := L1.out; omega) 3 (.slice none 0 0))
  replace HT := hid (r36c HT.out)
  replace HU := hid (r36c HU.out)
  replace HV := hid (r36c HV.out)
  replace XQ := hid r36a
  replace B := hid r36b
  clear r36a r36b r36c
  go_wp2_with fail
  refine bodyPost_ret (res_num_tmp rfl rfl rfl XQ.out) rfl ?_
  exact ⟨rfl, B.out⟩

set_option maxHeartbeats 2000000 in
theorem qparseF (s : ByteArray) (w : World) (hs : s.size ≤ 68719476736) (hsl : hasSl s.data.toList = true) (hA : isWhl (cutB s.data.toList) = true) (hB : isWhl (cutA s.data.toList) = true) (hD : 1 < whlOf (cutA s.data.toList)) (hG : Int.gcd (whlOf (cutB s.data.toList)) (whlOf (cutA s.data.toList)) = 1) :
    Calls Tryz.prog 41 #[.string s] w fun e w' => ∃ v, e = .returned (.tuple #[v, .nilIface]) ∧ Rtl w' v (ratOf s.data.toList) s.size ∧ Below w.heap.size w w' := by
  have HSL := hid hsl
  have HA := hid hA
  have HB := hid hB
  have HD := hid hD
  have HG := hid hG
  have HS := hid hs
  have B := hid (Below.refl w.heap.size w)
  have hb1 := (Below.refl _ _).alloc (Nat.le_refl w.heap.size) (.cells #[.bool false, .slice none 0 0, .bool false, .slice none 0 0] 62)
  have hx2 := Nbx.new w false false (.slice none 0 0) (.slice none 0 0)
  replace B := bb B hb1
  have XQ := hid hx2
  have hs3 : (w.alloc (.cells #[.bool false, .slice none 0 0, .bool false, .slice none 0 0] 62)).heap.size = w.heap.size + 1 := by simp
  clear hb1 hx2
  clear hs3 hs hsl hA hB hD hG
  go_enter Tryz.func41, Tryz.ntmps41
  obtain ⟨cc4a, cc4b, cc4c, cc4d⟩ := XQ.out.cells
  go_wp2_with fail
  generalize hW : w.alloc (.cells #[.bool false, .slice none 0 0, .bool false, .slice none 0 0] 62) = W5 at *
  clear hW
  have HC := cut_slash s W5 (by have := HS.out; unfold maxLen; omega)
  rw [HSL.out] at HC
  refine (HC).mono ?_
  rintro e w6 ⟨a, b, rfl, ha, hbb, hsa, hsb, hb⟩
  have HAL := hid ha
  have HBL := hid hbb
  have HSA := hid hsa
  have HSB := hid hsb
  replace XQ := nx XQ hb
  replace B := bb B hb
  clear cc4a cc4b cc4c cc4d
  clear hb HC ha hbb hsa hsb
  obtain ⟨cc7a, cc7b, cc7c, cc7d⟩ := XQ.out.cells
  go_wp2_with fail
  refine (zparse_yes a _ (by have := HS.out; have := HSA.out; omega) (by rw [HAL.out]; exact HA.out)).mono ?_
  rintro e w8 ⟨v, rfl, hv, hb⟩
  rw [HAL.out] at hv
  replace hv := hv.mono HSA.out
  obtain ⟨s5, p5, n5, c5, rfl⟩ := hv.opened
  replace XQ := nx XQ hb
  replace B := bb B hb
  clear cc7a cc7b cc7c cc7d
  have HT := hid hv
  clear hb hv
  have hb9 := (Below.refl _ _).alloc (Nat.le_refl w8.heap.size) (.cells #[.bool s5, .slice p5 n5 c5] 60)
  have hx10 := Box.new w8 s5 p5 n5 c5
  have L0 := hid XQ.out.lt
  replace XQ := nx XQ hb9
  replace HT := wl HT hb9
  replace B := bb B hb9
  have X7 := hid hx10
  have hs11 : (w8.alloc (.cells #[.bool s5, .slice p5 n5 c5] 60)).heap.size = w8.heap.size + 1 := by simp
  clear hb9 hx10
  obtain ⟨cc12a, cc12b, cc12c, cc12d⟩ := XQ.out.cells
  obtain ⟨cc13a, cc13b⟩ := X7.out.both
  go_wp2_with fail
  generalize hW : w8.alloc (.cells #[.bool s5, .slice p5 n5 c5] 60) = W14 at *
  clear hW
  have HBL := hid (HBL.out (by first | rfl | trivial))
  refine (zparse_yes b _ (by have := HS.out; have := HSB.out; omega) (by rw [HBL.out]; exact HB.out)).mono ?_
  rintro e w15 ⟨v, rfl, hv, hb⟩
  rw [HBL.out] at hv
  replace hv := hv.mono HSB.out
  obtain ⟨s6, p6, n6, c6, rfl⟩ := hv.opened
  replace XQ := nx XQ hb
  replace X7 := bx X7 hb
  replace HT := wl HT hb
  replace B := bb B hb
  clear cc12a cc12b cc12c cc12d cc13a cc13b
  have HU := hid hv
  clear hb hv
  have hb16 := (Below.refl _ _).alloc (Nat.le_refl w15.heap.size) (.cells #[.bool s6, .slice p6 n6 c6] 60)
  have hx17 := Box.new w15 s6 p6 n6 c6
  have L1 := hid X7.out.lt
  replace XQ := nx XQ hb16
  replace X7 := bx X7 hb16
  replace HT := wl HT hb16
  replace HU := wl HU hb16
  replace B := bb B hb16
  have X9 := hid hx17
  have hs18 : (w15.alloc (.cells #[.bool s6, .slice p6 n6 c6] 60)).heap.size = w15.heap.size + 1 := by simp
  clear hb16 hx17
  obtain ⟨cc19a, cc19b, cc19c, cc19d⟩ := XQ.out.cells
  obtain ⟨cc20a, cc20b⟩ := X7.out.both
  obtain ⟨cc21a, cc21b⟩ := X9.out.both
  go_wp2_with fail
  generalize hW : w15.alloc (.cells #[.bool s6, .slice p6 n6 c6] 60) = W22 at *
  clear hW
  have HM := more_whl HU.out (by have := HS.out; omega)
  rw [decide_eq_true (by have h := HD.out; omega)] at HM
  refine (HM).mono ?_
  rintro e w23 ⟨rfl, hb⟩
  replace XQ := nx XQ hb
  replace X7 := bx X7 hb
  replace X9 := bx X9 hb
  replace HT := wl HT hb
  replace HU := wl HU hb
  replace B := bb B hb
  clear cc19a cc19b cc19c cc19d cc20a cc20b cc21a cc21b
  clear hb HM
  obtain ⟨cc24a, cc24b, cc24c, cc24d⟩ := XQ.out.cells
  obtain ⟨cc25a, cc25b⟩ := X7.out.both
  obtain ⟨cc26a, cc26b⟩ := X9.out.both
  go_wp2_with fail
  refine (zgcd_whl HT.out HU.out (by have := HS.out; omega)).mono ?_
  rintro e w27 ⟨v, rfl, hv, hb⟩
  obtain ⟨s7, p7, n7, c7, rfl⟩ := hv.opened
  replace XQ := nx XQ hb
  replace X7 := bx X7 hb
  replace X9 := bx X9 hb
  replace HT := wl HT hb
  replace HU := wl HU hb
  replace B := bb B hb
  clear cc24a cc24b cc24c cc24d cc25a cc25b cc26a cc26b
  have HV := hid hv
  clear hb hv
  obtain ⟨cc28a, cc28b, cc28c, cc28d⟩ := XQ.out.cells
  obtain ⟨cc29a, cc29b⟩ := X7.out.both
  obtain ⟨cc30a, cc30b⟩ := X9.out.both
  go_wp2_with fail
  have HM := more_whl HV.out (by have := HS.out; omega)
  rw [decide_eq_false (by have h1 := HG.out; omega)] at HM
  refine (HM).mono ?_
  rintro e w31 ⟨rfl, hb⟩
  replace XQ := nx XQ hb
  replace X7 := bx X7 hb
  replace X9 := bx X9 hb
  replace HT := wl HT hb
  replace HU := wl HU hb
  replace HV := wl HV hb
  replace B := bb B hb
  clear cc28a cc28b cc28c cc28d cc29a cc29b cc30a cc30b
  clear hb HM
  obtain ⟨cc32a, cc32b, cc32c, cc32d⟩ := XQ.out.cells
  obtain ⟨cc33a, cc33b⟩ := X7.out.both
  obtain ⟨cc34a, cc34b⟩ := X9.out.both
  obtain ⟨⟨cc35a, cc35b⟩, ⟨cc35c, cc35d⟩, ⟨cc35e, cc35f⟩, cc35g, cc35h⟩ := XQ.out.stores
  obtain ⟨r36a, r36b, r36c⟩ := XQ.out.last B.out (by have := L0.out; have := L1.out; omega) s5 s6 p5 p6 n5 n6 c5 c6
  replace X7 := hid ((((X7.out.other (g2 := w.heap.size) (by have := L0.out; have := L1.out; omega) 0 (.bool s5)).other (g2 := w.heap.size) (by have := L0.out; have := L1.out; omega) 1 (.slice p5 n5 c5)).other (g2 := w.heap.size) (by have := L0.out; have := L1.out; omega) 2 (.bool s6)).other (g2 := w.heap.size) (by have := L0.out; have := L1.out; omega) 3 (.slice p6 n6 c6))
  replace X9 := hid ((((X9.out.other (g2 := w.heap.size) (by have := L0.out; have := L1.out; omega) 0 (.bool s5)).other (g2 := w.heap.size) (by have := L0.out; have := L1.out; omega) 1 (.slice p5 n5 c5)).other (g2 := w.heap.size) (by have := L0.out; have := L1.out; omega) 2 (.bool s6)).other (g2 := w.heap.size) (by have := L0.out; have := L1.out; omega) 3 (.slice p6 n6 c6))
  replace HT := hid (r36c HT.out)
  replace HU := hid (r36c HU.out)
  replace HV := hid (r36c HV.out)
  replace XQ := hid r36a
  replace B := hid r36b
  clear r36a r36b r36c
  go_wp2_with fail
  refine bodyPost_ret (res_num_tmp rfl rfl rfl XQ.out) rfl ?_
  obtain ⟨e1, e2⟩ := divInt_coprime HD.out HG.out
  refine ⟨_, rfl, ?_, B.out⟩
  rw [ratOf, if_pos HSL.out]
  exact Rtl.mk2 (by rw [e1]; exact HT.out) HU.out (.inl e2.symm)

theorem qparse_yes (s : ByteArray) (w : World) (hs : s.size ≤ 68719476736) (hn : isRat s.data.toList = true) :
    Calls Tryz.prog 41 #[.string s] w fun e w' => ∃ v, e = .returned (.tuple #[v, .nilIface]) ∧ Rtl w' v (ratOf s.data.toList) s.size ∧ Below w.heap.size w w' := by
  unfold isRat at hn
  cases hsl : hasSl s.data.toList
  · rw [hsl] at hn
    have e : cutB s.data.toList = s.data.toList := by
      rcases index_cut s.data.toList with ⟨_, _, e⟩ | ⟨e, _⟩
      · exact e
      · rw [hsl] at e; exact absurd e (by decide)
    exact qparseB s w hs hsl (by rw [e]; simpa using hn)
  · rw [hsl] at hn
    simp only [if_true, Bool.and_eq_true, decide_eq_true_eq] at hn
    obtain ⟨⟨⟨h1, h2⟩, h3⟩, h4⟩ := hn
    exact qparseF s w hs hsl h1 h2 h3 h4
theorem qparse_no (s : ByteArray) (w : World) (hs : s.size ≤ 68719476736) (hn : isRat s.data.toList = false) :
    Calls Tryz.prog 41 #[.string s] w fun e w' => e = .returned (.tuple #[.agg #[.bool false, .slice none 0 0, .bool false, .slice none 0 0], errno 1]) ∧ Below w.heap.size w w' := by
  unfold isRat at hn
  cases h1 : isWhl (cutB s.data.toList)
  · exact qparseA s w hs h1
  · cases hsl : hasSl s.data.toList
    · rw [hsl] at hn
      have e : cutB s.data.toList = s.data.toList := by
        rcases index_cut s.data.toList with ⟨_, _, e⟩ | ⟨e, _⟩
        · exact e
        · rw [hsl] at e; exact absurd e (by decide)
      rw [e] at h1
      rw [h1] at hn
      simp at hn
    · rw [hsl] at hn
      cases h2 : isWhl (cutA s.data.toList)
      · exact qparseC s w hs hsl h1 h2
      · by_cases h3 : 1 < whlOf (cutA s.data.toList)
        · by_cases h4 : Int.gcd (whlOf (cutB s.data.toList)) (whlOf (cutA s.data.toList)) = 1
          · simp [h1, h2, h3, h4] at hn
          · exact qparseE s w hs hsl h1 h2 h3 h4
        · exact qparseD s w hs hsl h1 h2 h3

end Go.Proofs.YteephnbfdblgeaaGreatDoor

/-
  PACKAGE rat: Read, readBoth.
-/
namespace Go.Proofs.YteephnbfdblgeaaGreatDoor
open Go.RowKit
open Num
set_option linter.unusedVariables false
set_option maxRecDepth 100000
set_option linter.unusedSimpArgs false

set_option maxHeartbeats 1000000 in
theorem qread_long {s : ByteArray} (h : 100 < s.size) (w : World) (hs : s.size ≤ maxLen) :
    Calls Tryz.prog 27 #[.string s] w fun e w' => e = .returned (.tuple #[.agg #[.bool false, .slice none 0 0, .bool false, .slice none 0 0], errno 4]) ∧ Below w.heap.size w w' := by
  have h' : (100 : Int) < (s.size : Int) := by omega
  unfold maxLen at hs
  have B := hid (Below.refl w.heap.size w)
  have hb1 := (Below.refl _ _).alloc (Nat.le_refl w.heap.size) (.cells #[.bool false, .slice none 0 0, .bool false, .slice none 0 0] 62)
  have hx2 := Nbx.new w false false (.slice none 0 0) (.slice none 0 0)
  replace B := bb B hb1
  have XQ := hid hx2
  have hs3 : (w.alloc (.cells #[.bool false, .slice none 0 0, .bool false, .slice none 0 0] 62)).heap.size = w.heap.size + 1 := by simp
  clear hb1 hx2
  clear hs3 h
  go_enter Tryz.func27, Tryz.ntmps27
  go_wp2_with fail
  refine bodyPost_ret (res_num_tmp rfl rfl rfl XQ.out) rfl ?_
  exact ⟨rfl, B.out⟩

set_option maxHeartbeats 1000000 in
theorem qread_form {s : ByteArray} (h : s.size ≤ 100) (hn : isRat s.data.toList = false) (w : World) :
    Calls Tryz.prog 27 #[.string s] w fun e w' => e = .returned (.tuple #[.agg #[.bool false, .slice none 0 0, .bool false, .slice none 0 0], errno 1]) ∧ Below w.heap.size w w' := by
  have h' : (s.size : Int) ≤ 100 := by omega
  have HN := hid hn
  have HS := hid h
  have B := hid (Below.refl w.heap.size w)
  have hb1 := (Below.refl _ _).alloc (Nat.le_refl w.heap.size) (.cells #[.bool false, .slice none 0 0, .bool false, .slice none 0 0] 62)
  have hx2 := Nbx.new w false false (.slice none 0 0) (.slice none 0 0)
  replace B := bb B hb1
  have XQ := hid hx2
  have hs3 : (w.alloc (.cells #[.bool false, .slice none 0 0, .bool false, .slice none 0 0] 62)).heap.size = w.heap.size + 1 := by simp
  clear hb1 hx2
  clear hs3 h hn
  go_enter Tryz.func27, Tryz.ntmps27
  obtain ⟨cc4a, cc4b, cc4c, cc4d⟩ := XQ.out.cells
  go_wp2_with fail
  generalize hW : w.alloc (.cells #[.bool false, .slice none 0 0, .bool false, .slice none 0 0] 62) = W5 at *
  clear hW
  refine (qparse_no s _ (by have := HS.out; omega) HN.out).mono ?_
  rintro e w6 ⟨rfl, hb⟩
  replace XQ := nx XQ hb
  replace B := bb B hb
  clear cc4a cc4b cc4c cc4d
  clear hb 
  obtain ⟨cc7a, cc7b, cc7c, cc7d⟩ := XQ.out.cells
  obtain ⟨⟨cc8a, cc8b⟩, ⟨cc8c, cc8d⟩, ⟨cc8e, cc8f⟩, cc8g, cc8h⟩ := XQ.out.stores
  obtain ⟨r9a, r9b, r9c⟩ := XQ.out.last B.out (by omega) false false none none 0 0 0 0
  replace XQ := hid r9a
  replace B := hid r9b
  clear r9a r9b r9c
  go_wp2_with fail
  refine bodyPost_ret (res_num_tmp rfl rfl rfl XQ.out) rfl ?_
  exact ⟨rfl, B.out⟩

theorem qread_bad {s : ByteArray} {k : Int} (h : BadQ s k) (w : World) (hs : s.size ≤ maxLen) :
    Calls Tryz.prog 27 #[.string s] w fun e w' => e = .returned (.tuple #[.agg #[.bool false, .slice none 0 0, .bool false, .slice none 0 0], errno k]) ∧ Below w.heap.size w w' := by
  rcases h with ⟨h, rfl⟩ | ⟨h, hn, rfl⟩
  · exact qread_long h w hs
  · exact qread_form h hn w

set_option maxHeartbeats 1000000 in
theorem qread_good {s : ByteArray} (h : GoodQ s) (w : World) :
    Calls Tryz.prog 27 #[.string s] w fun e w' => ∃ v, e = .returned (.tuple #[v, .nilIface]) ∧ Rtl w' v (qnum s) 100 ∧ Below w.heap.size w w' := by
  obtain ⟨h, hn⟩ := h
  have h' : (s.size : Int) ≤ 100 := by omega
  have HN := hid hn
  have HS := hid h
  have B := hid (Below.refl w.heap.size w)
  have hb1 := (Below.refl _ _).alloc (Nat.le_refl w.heap.size) (.cells #[.bool false, .slice none 0 0, .bool false, .slice none 0 0] 62)
  have hx2 := Nbx.new w false false (.slice none 0 0) (.slice none 0 0)
  replace B := bb B hb1
  have XQ := hid hx2
  have hs3 : (w.alloc (.cells #[.bool false, .slice none 0 0, .bool false, .slice none 0 0] 62)).heap.size = w.heap.size + 1 := by simp
  clear hb1 hx2
  clear hs3 h hn
  go_enter Tryz.func27, Tryz.ntmps27
  obtain ⟨cc4a, cc4b, cc4c, cc4d⟩ := XQ.out.cells
  go_wp2_with fail
  generalize hW : w.alloc (.cells #[.bool false, .slice none 0 0, .bool false, .slice none 0 0] 62) = W5 at *
  clear hW
  refine (qparse_yes s _ (by have := HS.out; omega) HN.out).mono ?_
  rintro e w6 ⟨v, rfl, hv, hb⟩
  replace hv := hv.mono HS.out
  obtain ⟨s9a, p9a, n9a, c9a, s9b, p9b, n9b, c9b, rfl⟩ := hv.opened
  obtain ⟨ht9, d9, hu9, hd9⟩ := hv.two
  have HD9 := hid hd9
  replace XQ := nx XQ hb
  replace B := bb B hb
  clear cc4a cc4b cc4c cc4d
  have HT9 := hid ht9
  have HU9 := hid hu9
  clear hb hv ht9 hu9 hd9
  obtain ⟨cc7a, cc7b, cc7c, cc7d⟩ := XQ.out.cells
  obtain ⟨⟨cc8a, cc8b⟩, ⟨cc8c, cc8d⟩, ⟨cc8e, cc8f⟩, cc8g, cc8h⟩ := XQ.out.stores
  obtain ⟨r9a, r9b, r9c⟩ := XQ.out.last B.out (by omega) s9a s9b p9a p9b n9a n9b c9a c9b
  replace HT9 := hid (r9c HT9.out)
  replace HU9 := hid (r9c HU9.out)
  replace XQ := hid r9a
  replace B := hid r9b
  clear r9a r9b r9c
  go_wp2_with fail
  refine bodyPost_ret (res_num_tmp rfl rfl rfl XQ.out) rfl ?_
  exact ⟨_, rfl, Rtl.mk2 HT9.out HU9.out HD9.out, B.out⟩

end Go.Proofs.YteephnbfdblgeaaGreatDoor

/-
  PACKAGE rat: ITS FUNCTIONS OF TEXTS.
-/
namespace Go.Proofs.YteephnbfdblgeaaGreatDoor
open Go.RowKit
open Num
set_option linter.unusedVariables false
set_option maxRecDepth 100000
set_option linter.unusedSimpArgs false

end Go.Proofs.YteephnbfdblgeaaGreatDoor

/-
  PACKAGE rat: TEXTS OF FRACTIONS; EACH FUNCTION AT WHATEVER TEXTS.
-/
namespace Go.Proofs.YteephnbfdblgeaaGreatDoor
open Go.RowKit
open Num
set_option linter.unusedVariables false
set_option maxRecDepth 100000
set_option linter.unusedSimpArgs false

theorem ba_ext {a b : ByteArray} (h : a.data.toList = b.data.toList) : a = b := by
  obtain ⟨⟨l⟩⟩ := a
  obtain ⟨⟨m⟩⟩ := b
  simp only at h
  rw [h]
theorem app_list (a b : ByteArray) : (a ++ b).data.toList = a.data.toList ++ b.data.toList := by
  rw [ByteArray.data_append, Array.toList_append]
theorem no_slash {l : List UInt8} (h : ∀ c ∈ l, c ≠ 47) : hasSl l = false ∧ cutB l = l := by
  induction l with
  | nil => exact ⟨rfl, rfl⟩
  | cons b l ih =>
    have h1 : (b != 47) = true := by simpa using h b (List.mem_cons_self ..)
    obtain ⟨i1, i2⟩ := ih fun c hc => h c (List.mem_cons_of_mem _ hc)
    exact ⟨by rw [← i1]; simp [hasSl, List.dropWhile_cons, h1], by rw [cutB, List.takeWhile_cons, if_pos h1]; exact congrArg _ i2⟩
theorem at_slash {l m : List UInt8} (h : ∀ c ∈ l, c ≠ 47) : hasSl (l ++ 47 :: m) = true ∧ cutB (l ++ 47 :: m) = l ∧ cutA (l ++ 47 :: m) = m := by
  have h' : ∀ c ∈ l, (c != 47) = true := fun c hc => by simpa using h c hc
  refine ⟨?_, ?_, ?_⟩
  · rw [hasSl, List.dropWhile_append_of_pos h']; simp
  · rw [cutB, List.takeWhile_append_of_pos h']; simp
  · rw [cutA, List.dropWhile_append_of_pos h']; simp
theorem slash_split {l : List UInt8} (h : hasSl l = true) : l = cutB l ++ 47 :: cutA l := by
  induction l with
  | nil => exact absurd h (by decide)
  | cons b l ih =>
    by_cases hb : b = 47
    · subst hb
      simp [cutB, cutA]
    · have h1 : (b != 47) = true := by simpa using hb
      have e1 : hasSl (b :: l) = hasSl l := by simp [hasSl, List.dropWhile_cons, h1]
      have e2 : cutB (b :: l) = b :: cutB l := by simp [cutB, List.takeWhile_cons, h1]
      have e3 : cutA (b :: l) = cutA l := by simp [cutA, List.dropWhile_cons, h1]
      rw [e1] at h
      rw [e2, e3, List.cons_append, ← ih h]
theorem dig_ne {c : UInt8} (h : isDig c = true) : c ≠ 47 := by
  intro e; subst e; exact absurd h (by decide)
theorem ztxt_ne (z : Int) : ∀ c ∈ (ztxt z).data.toList, c ≠ 47 := by
  have hd : ∀ n, ∀ c ∈ dtext n, c ≠ 47 := fun n c hc => dig_ne (List.all_eq_true.1 (dtext_all n) c hc)
  rw [ztxt_list]
  split
  · intro c hc
    rcases List.mem_cons.1 hc with rfl | hc
    · decide
    · exact hd _ c hc
  · exact hd _
theorem whlOf_ztxt (z : Int) : whlOf (ztxt z).data.toList = z := znum_ztxt z
theorem ztxt_whlOf {l : List UInt8} (h : isWhl l = true) : (ztxt (whlOf l)).data.toList = l := by
  have := ztxt_znum (s := ⟨l.toArray⟩) (by simpa using h)
  have e : znum ⟨l.toArray⟩ = whlOf l := by simp [znum]
  rw [e] at this
  rw [this]
theorem qtxt_one {q : Rat} (h : q.den = 1) : qtxt q = ztxt q.num := by rw [qtxt, if_pos h]
theorem qtxt_two {q : Rat} (h : q.den ≠ 1) : (qtxt q).data.toList = (ztxt q.num).data.toList ++ 47 :: (ztxt q.den).data.toList := by
  rw [qtxt, if_neg h, app_list, app_list]
  simp
theorem rat_of_one {q : Rat} (h : q.den = 1) : (q.num : Rat) = q := by
  apply Rat.ext
  · rw [Rat.num_intCast]
  · rw [Rat.den_intCast, h]
theorem isRat_qtxt (q : Rat) : isRat (qtxt q).data.toList = true := by
  by_cases h : q.den = 1
  · rw [qtxt_one h, isRat, if_neg (by rw [(no_slash (ztxt_ne _)).1]; decide)]
    exact isWhl_ztxt _
  · have hd := q.den_pos
    obtain ⟨e1, e2, e3⟩ := at_slash (m := (ztxt (q.den : Int)).data.toList) (ztxt_ne q.num)
    rw [qtxt_two h, isRat, if_pos e1, e2, e3, isWhl_ztxt, isWhl_ztxt, whlOf_ztxt, whlOf_ztxt]
    have hr : Int.gcd q.num q.den = 1 := q.reduced
    rw [decide_eq_true (by omega), decide_eq_true hr]
    rfl
theorem qnum_qtxt (q : Rat) : qnum (qtxt q) = q := by
  unfold qnum
  by_cases h : q.den = 1
  · rw [qtxt_one h, ratOf, if_neg (by rw [(no_slash (ztxt_ne _)).1]; decide), whlOf_ztxt]
    exact rat_of_one h
  · obtain ⟨e1, e2, e3⟩ := at_slash (m := (ztxt (q.den : Int)).data.toList) (ztxt_ne q.num)
    rw [qtxt_two h, ratOf, if_pos e1, e2, e3, whlOf_ztxt, whlOf_ztxt, Rat.num_divInt_den]
theorem qtxt_inj {p q : Rat} (h : qtxt p = qtxt q) : p = q := by
  have := congrArg qnum h
  rwa [qnum_qtxt, qnum_qtxt] at this
theorem qtxt_qnum {s : ByteArray} (h : isRat s.data.toList = true) : qtxt (qnum s) = s := by
  apply ba_ext
  unfold qnum
  cases hs : hasSl s.data.toList
  · rw [isRat, hs] at h
    rw [ratOf, hs, if_neg (by decide), qtxt_one (Rat.den_intCast _), Rat.num_intCast]
    exact ztxt_whlOf (by simpa using h)
  · rw [isRat, hs] at h
    simp only [if_true, Bool.and_eq_true, decide_eq_true_eq] at h
    obtain ⟨⟨⟨h1, h2⟩, h3⟩, h4⟩ := h
    obtain ⟨e1, e2⟩ := divInt_coprime h3 h4
    rw [ratOf, hs, if_pos rfl, qtxt_two (by omega), e1, e2, ztxt_whlOf h1, ztxt_whlOf h2]
    exact (slash_split hs).symm
theorem qtxt_good {s : ByteArray} (h : GoodQ s) : qtxt (qnum s) = s := qtxt_qnum h.2
theorem qtxt_zero : qtxt 0 = ⟨#[48]⟩ := by rw [qtxt_one rfl]; exact ztxt_zero
theorem qtxt_int (z : Int) : qtxt (z : Rat) = ztxt z := by rw [qtxt_one (Rat.den_intCast _), Rat.num_intCast]

theorem whl_lt {l : List UInt8} (h : isWhl l = true) : (whlOf l).natAbs < 10 ^ l.length := by
  cases hb : (l.head? == some 45)
  · have h3 : isNat l = true := by rw [isWhl, hb] at h; simpa using h
    have h4 : whlOf l = (dval l : Int) := by rw [whlOf, hb]; rfl
    rw [h4]
    simpa using dval_lt' h3
  · have h3 : isNat l.tail = true := by rw [isWhl, hb] at h; simp at h; exact h.1
    have h4 : whlOf l = -(dval l.tail : Int) := by rw [whlOf, hb]; rfl
    rw [h4]
    exact Nat.lt_of_lt_of_le (by simpa using dval_lt' h3) (Nat.pow_le_pow_right (by omega) (by simp))
theorem qnum_lt {s : ByteArray} (h : GoodQ s) : (qnum s).num.natAbs < 10 ^ 100 ∧ (qnum s).den < 10 ^ 100 := by
  obtain ⟨hl, h⟩ := h
  have hsz : s.data.toList.length = s.size := rfl
  have h1 : (1 : Nat) < 10 ^ 100 := by decide +kernel
  have up : ∀ {l : List UInt8}, isWhl l = true → l.length ≤ 100 → (whlOf l).natAbs < 10 ^ 100 := fun hw hl => Nat.lt_of_lt_of_le (whl_lt hw) (Nat.pow_le_pow_right (by omega) hl)
  unfold qnum
  cases hs : hasSl s.data.toList
  · rw [isRat, hs] at h
    rw [ratOf, hs, if_neg (by decide), Rat.num_intCast, Rat.den_intCast]
    exact ⟨up (by simpa using h) (by omega), h1⟩
  · rw [isRat, hs] at h
    simp only [if_true, Bool.and_eq_true, decide_eq_true_eq] at h
    obtain ⟨⟨⟨h1', h2⟩, h3⟩, h4⟩ := h
    obtain ⟨e1, e2⟩ := divInt_coprime h3 h4
    have hlen := congrArg List.length (slash_split hs)
    rw [List.length_append, List.length_cons] at hlen
    rw [ratOf, hs, if_pos rfl, e1]
    refine ⟨up h1' (by omega), ?_⟩
    have := up h2 (by omega)
    omega
theorem divInt_le (z y : Int) : (Rat.divInt z y).num.natAbs ≤ z.natAbs ∧ (Rat.divInt z y).den ≤ max y.natAbs 1 := by
  by_cases h : y = 0
  · subst h; rw [Rat.divInt_zero]; simp
  · obtain ⟨e1, e2⟩ := divInt_parts z y h
    refine ⟨by rw [e1]; exact natAbs_ediv_le _ _, ?_⟩
    have h1 := natAbs_ediv_le y (if y < 0 then -(Int.gcd z y : Int) else (Int.gcd z y : Int))
    rw [← e2] at h1
    have : ((Rat.divInt z y).den : Int).natAbs = (Rat.divInt z y).den := by simp
    omega
theorem size_qtxt {q : Rat} (k : Nat) (hk : 0 < k) (hn : q.num.natAbs < 10 ^ k) (hd : q.den < 10 ^ k) : (qtxt q).size ≤ 2 * k + 3 := by
  have h1 := size_ztxt_le hn hk
  have h2 := size_ztxt_le (z := (q.den : Int)) (k := k) (by simpa using hd) hk
  unfold qtxt
  split
  · omega
  · rw [ByteArray.size_append, ByteArray.size_append]
    have : (⟨#[47]⟩ : ByteArray).size = 1 := rfl
    omega
theorem big_sum : (10 : Nat) ^ 100 * 10 ^ 100 + 10 ^ 100 * 10 ^ 100 < 10 ^ 300 := by decide +kernel
theorem big_mul : (10 : Nat) ^ 100 * 10 ^ 100 < 10 ^ 300 := by decide +kernel
theorem size_divInt {z y : Int} (hz : z.natAbs < 10 ^ 300) (hy : y.natAbs < 10 ^ 300) : (qtxt (Rat.divInt z y)).size ≤ maxLen := by
  have h1 : (1 : Nat) < 10 ^ 300 := by decide +kernel
  obtain ⟨a, b⟩ := divInt_le z y
  have h2 : max y.natAbs 1 < 10 ^ 300 := by omega
  have := size_qtxt (q := Rat.divInt z y) 300 (by omega) (by omega) (by omega)
  unfold maxLen; omega
theorem lt_mul_big {a b : Nat} (ha : a < 10 ^ 100) (hb : b < 10 ^ 100) : a * b < 10 ^ 100 * 10 ^ 100 := Nat.mul_lt_mul'' ha hb
theorem size_add {a b : ByteArray} (ha : GoodQ a) (hb : GoodQ b) : (qtxt (qnum a + qnum b)).size ≤ maxLen := by
  obtain ⟨a1, a2⟩ := qnum_lt ha
  obtain ⟨b1, b2⟩ := qnum_lt hb
  rw [add_parts]
  have c1 := lt_mul_big a1 b2
  have c2 := lt_mul_big b1 a2
  have c3 := lt_mul_big a2 b2
  have e1 := big_sum
  have e2 := big_mul
  refine size_divInt ?_ ?_
  · have t := Int.natAbs_add_le ((qnum a).num * (qnum b).den) ((qnum b).num * (qnum a).den)
    simp only [Int.natAbs_mul, Int.natAbs_natCast] at t
    omega
  · rw [Int.natAbs_mul, Int.natAbs_natCast, Int.natAbs_natCast]; omega
theorem size_mul {a b : ByteArray} (ha : GoodQ a) (hb : GoodQ b) : (qtxt (qnum a * qnum b)).size ≤ maxLen := by
  obtain ⟨a1, a2⟩ := qnum_lt ha
  obtain ⟨b1, b2⟩ := qnum_lt hb
  rw [mul_parts]
  have c1 := lt_mul_big a1 b1
  have c3 := lt_mul_big a2 b2
  have e2 := big_mul
  refine size_divInt ?_ ?_
  · rw [Int.natAbs_mul]; omega
  · rw [Int.natAbs_mul, Int.natAbs_natCast, Int.natAbs_natCast]; omega
theorem size_div {a b : ByteArray} (ha : GoodQ a) (hb : GoodQ b) : (qtxt (qnum a / qnum b)).size ≤ maxLen := by
  obtain ⟨a1, a2⟩ := qnum_lt ha
  obtain ⟨b1, b2⟩ := qnum_lt hb
  rw [div_parts]
  have c1 := lt_mul_big a1 b2
  have c3 := lt_mul_big a2 b1
  have e2 := big_mul
  refine size_divInt ?_ ?_
  · rw [Int.natAbs_mul, Int.natAbs_natCast]; omega
  · rw [Int.natAbs_mul, Int.natAbs_natCast]; omega

theorem BadQ.ne {s : ByteArray} {k : Int} (h : BadQ s k) : k ≠ 0 := by
  rcases h with ⟨_, rfl⟩ | ⟨_, _, rfl⟩ <;> decide
theorem WrongQ.ne {a b : ByteArray} {k : Int} (h : WrongQ a b k) : k ≠ 0 := by
  rcases h with h | ⟨_, h⟩ <;> exact h.ne
theorem BadQ.not {s : ByteArray} {k : Int} (h : BadQ s k) : ¬ GoodQ s := by
  rintro ⟨h1, h2⟩
  rcases h with ⟨h, _⟩ | ⟨_, h, _⟩
  · omega
  · rw [h] at h2; cases h2
theorem WrongQ.not {a b : ByteArray} {k : Int} (h : WrongQ a b k) : ¬ (GoodQ a ∧ GoodQ b) := by
  rintro ⟨h1, h2⟩
  rcases h with h | ⟨_, h⟩
  · exact h.not h1
  · exact h.not h2

/-- What a function of two fractions tells: the text of f, or nothing and an error. -/
def QTells (f : Rat → Rat → Rat) (a b s : ByteArray) (k : Int) : Prop :=
  (k = 0 ∧ GoodQ a ∧ GoodQ b ∧ s = qtxt (f (qnum a) (qnum b))) ∨ (k ≠ 0 ∧ WrongQ a b k ∧ s = ⟨#[]⟩)
theorem QTells.yes {f : Rat → Rat → Rat} {a b s : ByteArray} {k : Int} (h : QTells f a b s k) (hk : k = 0) : GoodQ a ∧ GoodQ b ∧ s = qtxt (f (qnum a) (qnum b)) := by
  rcases h with ⟨_, h⟩ | ⟨h, _⟩
  · exact h
  · exact absurd hk h
theorem QTells.zero {f : Rat → Rat → Rat} {a b s : ByteArray} {k : Int} (h : QTells f a b s k) (ha : GoodQ a) (hb : GoodQ b) : k = 0 := by
  rcases h with ⟨h, _⟩ | ⟨_, h, _⟩
  · exact h
  · exact absurd ⟨ha, hb⟩ h.not
theorem QTells.no {f : Rat → Rat → Rat} {a b s : ByteArray} {k : Int} (h : QTells f a b s k) (hn : ¬ (GoodQ a ∧ GoodQ b)) : k ≠ 0 ∧ s = ⟨#[]⟩ := by
  rcases h with ⟨_, h1, h2, _⟩ | ⟨h, _, h2⟩
  · exact absurd ⟨h1, h2⟩ hn
  · exact ⟨h, h2⟩
/-- What a division tells. -/
def QDivs (a b s : ByteArray) (k : Int) : Prop :=
  (k = 0 ∧ GoodQ a ∧ GoodQ b ∧ qnum b ≠ 0 ∧ s = qtxt (qnum a / qnum b)) ∨
  (k ≠ 0 ∧ s = ⟨#[]⟩ ∧ (WrongQ a b k ∨ (GoodQ a ∧ GoodQ b ∧ qnum b = 0 ∧ k = 5)))
theorem QDivs.yes {a b s : ByteArray} {k : Int} (h : QDivs a b s k) (hk : k = 0) : GoodQ a ∧ GoodQ b ∧ qnum b ≠ 0 ∧ s = qtxt (qnum a / qnum b) := by
  rcases h with ⟨_, h⟩ | ⟨h, _⟩
  · exact h
  · exact absurd hk h
theorem QDivs.zero {a b s : ByteArray} {k : Int} (h : QDivs a b s k) (ha : GoodQ a) (hb : GoodQ b) (h0 : qnum b ≠ 0) : k = 0 := by
  rcases h with ⟨h, _⟩ | ⟨_, _, h | ⟨_, _, h, _⟩⟩
  · exact h
  · exact absurd ⟨ha, hb⟩ h.not
  · exact absurd h h0
theorem QDivs.no {a b s : ByteArray} {k : Int} (h : QDivs a b s k) (hk : k ≠ 0) : s = ⟨#[]⟩ ∧ (GoodQ a → GoodQ b → qnum b = 0) := by
  rcases h with ⟨h, _⟩ | ⟨_, hs, h | ⟨_, _, h, _⟩⟩
  · exact absurd h hk
  · exact ⟨hs, fun h1 h2 => absurd ⟨h1, h2⟩ h.not⟩
  · exact ⟨hs, fun _ _ => h⟩
/-- What a comparison tells. -/
def QLess (a b : ByteArray) (t : Bool) (k : Int) : Prop :=
  (k = 0 ∧ GoodQ a ∧ GoodQ b ∧ t = decide (qnum a < qnum b)) ∨ (k ≠ 0 ∧ WrongQ a b k ∧ t = false)
theorem QLess.yes {a b : ByteArray} {t : Bool} {k : Int} (h : QLess a b t k) (hk : k = 0) : GoodQ a ∧ GoodQ b ∧ t = decide (qnum a < qnum b) := by
  rcases h with ⟨_, h⟩ | ⟨h, _⟩
  · exact h
  · exact absurd hk h
theorem QLess.zero {a b : ByteArray} {t : Bool} {k : Int} (h : QLess a b t k) (ha : GoodQ a) (hb : GoodQ b) : k = 0 := by
  rcases h with ⟨h, _⟩ | ⟨_, h, _⟩
  · exact h
  · exact absurd ⟨ha, hb⟩ h.not
theorem QLess.no {a b : ByteArray} {t : Bool} {k : Int} (h : QLess a b t k) (hn : ¬ (GoodQ a ∧ GoodQ b)) : k ≠ 0 ∧ t = false := by
  rcases h with ⟨_, h1, h2, _⟩ | ⟨h, _, h2⟩
  · exact absurd ⟨h1, h2⟩ hn
  · exact ⟨h, h2⟩
/-- What Floor tells. -/
def QFloors (a s : ByteArray) (k : Int) : Prop := (k = 0 ∧ GoodQ a ∧ s = ztxt (qnum a).floor) ∨ (k ≠ 0 ∧ BadQ a k ∧ s = ⟨#[]⟩)
/-- What Make tells. -/
def QMakes (a b s : ByteArray) (k : Int) : Prop :=
  (k = 0 ∧ GoodZ a ∧ GoodZ b ∧ znum b ≠ 0 ∧ s = qtxt (Rat.divInt (znum a) (znum b))) ∨
  (k ≠ 0 ∧ s = ⟨#[]⟩ ∧ (WrongZ a b k ∨ (GoodZ a ∧ GoodZ b ∧ znum b = 0 ∧ k = 5)))
theorem QMakes.yes {a b s : ByteArray} {k : Int} (h : QMakes a b s k) (hk : k = 0) : GoodZ a ∧ GoodZ b ∧ znum b ≠ 0 ∧ s = qtxt (Rat.divInt (znum a) (znum b)) := by
  rcases h with ⟨_, h⟩ | ⟨h, _⟩
  · exact h
  · exact absurd hk h
theorem QMakes.no {a b s : ByteArray} {k : Int} (h : QMakes a b s k) (hk : k ≠ 0) : s = ⟨#[]⟩ := by
  rcases h with ⟨h, _⟩ | ⟨_, h, _⟩
  · exact absurd h hk
  · exact h

theorem floor_lt {a : ByteArray} (h : GoodQ a) : (qnum a).floor.natAbs < 10 ^ 100 := by
  rw [Rat.floor_def]
  exact Nat.lt_of_le_of_lt (natAbs_ediv_le _ _) (qnum_lt h).1
end Go.Proofs.YteephnbfdblgeaaGreatDoor

/-
  PACKAGE farey: fractionOf, mediant, against, String.
-/
namespace Go.Proofs.YteephnbfdblgeaaGreatDoor
open Go.RowKit
open Num
set_option linter.unusedVariables false
set_option maxRecDepth 100000
set_option linter.unusedSimpArgs false

set_option maxHeartbeats 1000000 in
theorem fractionOf_frc {w : World} {v : Value} {q : Rat} {k : Nat} (h : Rtl w v q k) (hk1 : 1 ≤ k) :
    Calls Tryz.prog 28 #[v] w fun e w' => ∃ v, e = .returned v ∧ Frc w' v q.num q.den k ∧ Below w.heap.size w w' := by
  obtain ⟨s1a, p1a, n1a, c1a, s1b, p1b, n1b, c1b, rfl⟩ := h.opened
  obtain ⟨ht1, d1, hu1, hd1⟩ := h.two
  have HD1 := hid hd1
  have HK1 := hid hk1
  have B := hid (Below.refl w.heap.size w)
  have HT1 := hid ht1
  have HU1 := hid hu1
  have hb1 := (Below.refl _ _).alloc (Nat.le_refl w.heap.size) (.cells #[.bool s1a, .slice p1a n1a c1a, .bool s1b, .slice p1b n1b c1b] 62)
  have hx2 := Nbx.new w s1a s1b (.slice p1a n1a c1a) (.slice p1b n1b c1b)
  replace HT1 := wl HT1 hb1
  replace HU1 := wl HU1 hb1
  replace B := bb B hb1
  have X1 := hid hx2
  have hs3 : (w.alloc (.cells #[.bool s1a, .slice p1a n1a c1a, .bool s1b, .slice p1b n1b c1b] 62)).heap.size = w.heap.size + 1 := by simp
  clear hb1 hx2
  have hb4 := (Below.refl _ _).alloc (Nat.le_refl (w.alloc (.cells #[.bool s1a, .slice p1a n1a c1a, .bool s1b, .slice p1b n1b c1b] 62)).heap.size) (.cells #[.bool false, .slice none 0 0, .bool false, .slice none 0 0] 66)
  have hx5 := Fbx.new (w.alloc (.cells #[.bool s1a, .slice p1a n1a c1a, .bool s1b, .slice p1b n1b c1b] 62)) false false (.slice none 0 0) (.slice none 0 0)
  rw [hs3] at hx5
  replace X1 := nx X1 hb4
  replace HT1 := wl HT1 hb4
  replace HU1 := wl HU1 hb4
  replace B := bb B hb4
  have XF := hid hx5
  have hs6 : ((w.alloc (.cells #[.bool s1a, .slice p1a n1a c1a, .bool s1b, .slice p1b n1b c1b] 62)).alloc (.cells #[.bool false, .slice none 0 0, .bool false, .slice none 0 0] 66)).heap.size = w.heap.size + 1 + 1 := by simp [hs3]
  clear hb4 hx5
  clear hs6 h ht1 hu1 hd1 hk1
  go_enter Tryz.func28, Tryz.ntmps28
  obtain ⟨cc7a, cc7b, cc7c, cc7d⟩ := X1.out.cells
  obtain ⟨cc8a, cc8b, cc8c, cc8d⟩ := XF.out.cells
  go_wp2_with fail
  generalize hW : (w.alloc (.cells #[.bool s1a, .slice p1a n1a c1a, .bool s1b, .slice p1b n1b c1b] 62)).alloc (.cells #[.bool false, .slice none 0 0, .bool false, .slice none 0 0] 66) = W9 at *
  clear hW
  refine (parts_rtl (Rtl.mk2 HT1.out HU1.out HD1.out) HK1.out).mono ?_
  rintro e w10 ⟨v, u, rfl, hv, hu, hb⟩
  obtain ⟨s3, p3, n3, c3, rfl⟩ := hv.opened
  obtain ⟨s4, p4, n4, c4, rfl⟩ := hu.opened
  replace XF := fx XF hb
  replace B := bb B hb
  clear cc7a cc7b cc7c cc7d cc8a cc8b cc8c cc8d
  have HA := hid hv
  have HB := hid hu
  clear hb hv hu
  have hb11 := (Below.refl _ _).alloc (Nat.le_refl w10.heap.size) (.cells #[.bool s3, .slice p3 n3 c3] 60)
  have hx12 := Box.new w10 s3 p3 n3 c3
  have L0 := hid XF.out.lt
  replace XF := fx XF hb11
  replace HA := wl HA hb11
  replace HB := wl HB hb11
  replace B := bb B hb11
  have XA := hid hx12
  have hs13 : (w10.alloc (.cells #[.bool s3, .slice p3 n3 c3] 60)).heap.size = w10.heap.size + 1 := by simp
  clear hb11 hx12
  have hb14 := (Below.refl _ _).alloc (Nat.le_refl (w10.alloc (.cells #[.bool s3, .slice p3 n3 c3] 60)).heap.size) (.cells #[.bool s4, .slice p4 n4 c4] 60)
  have hx15 := Box.new (w10.alloc (.cells #[.bool s3, .slice p3 n3 c3] 60)) s4 p4 n4 c4
  rw [hs13] at hx15
  replace XF := fx XF hb14
  replace XA := bx XA hb14
  replace HA := wl HA hb14
  replace HB := wl HB hb14
  replace B := bb B hb14
  have XB := hid hx15
  have hs16 : ((w10.alloc (.cells #[.bool s3, .slice p3 n3 c3] 60)).alloc (.cells #[.bool s4, .slice p4 n4 c4] 60)).heap.size = w10.heap.size + 1 + 1 := by simp [hs13]
  clear hb14 hx15
  obtain ⟨cc17a, cc17b, cc17c, cc17d⟩ := XF.out.cells
  obtain ⟨cc18a, cc18b⟩ := XA.out.both
  obtain ⟨cc19a, cc19b⟩ := XB.out.both
  obtain ⟨⟨cc20a, cc20b⟩, ⟨cc20c, cc20d⟩, ⟨cc20e, cc20f⟩, cc20g, cc20h⟩ := XF.out.stores
  obtain ⟨r21a, r21b, r21c⟩ := XF.out.last B.out (by have := L0.out; omega) s3 s4 p3 p4 n3 n4 c3 c4
  replace XA := hid ((((XA.out.other (g2 := w.heap.size + 1) (by have := L0.out; omega) 0 (.bool s3)).other (g2 := w.heap.size + 1) (by have := L0.out; omega) 1 (.slice p3 n3 c3)).other (g2 := w.heap.size + 1) (by have := L0.out; omega) 2 (.bool s4)).other (g2 := w.heap.size + 1) (by have := L0.out; omega) 3 (.slice p4 n4 c4))
  replace XB := hid ((((XB.out.other (g2 := w.heap.size + 1) (by have := L0.out; omega) 0 (.bool s3)).other (g2 := w.heap.size + 1) (by have := L0.out; omega) 1 (.slice p3 n3 c3)).other (g2 := w.heap.size + 1) (by have := L0.out; omega) 2 (.bool s4)).other (g2 := w.heap.size + 1) (by have := L0.out; omega) 3 (.slice p4 n4 c4))
  replace HA := hid (r21c HA.out)
  replace HB := hid (r21c HB.out)
  replace XF := hid r21a
  replace B := hid r21b
  clear r21a r21b r21c
  obtain ⟨cc22a, cc22b, cc22c, cc22d⟩ := XF.out.cells
  go_wp2_with fail
  refine bodyPost_ret (res_frc rfl rfl XF.out) rfl ?_
  exact ⟨_, rfl, Frc.mk2 HA.out HB.out, B.out⟩

set_option maxHeartbeats 2000000 in
theorem mediant_frc {w : World} {v u : Value} {z y z' y' : Int} {k : Nat} (h : Frc w v z y k) (h' : Frc w u z' y' k) (hk : k ≤ 68719476736) :
    Calls Tryz.prog 29 #[v, u] w fun e w' => ∃ v, e = .returned v ∧ Frc w' v (z + z') (y + y') (k + 1) ∧ Below w.heap.size w w' := by
  obtain ⟨s1a, p1a, n1a, c1a, s1b, p1b, n1b, c1b, rfl⟩ := h.opened
  obtain ⟨ht1, hu1⟩ := h.two
  obtain ⟨s2a, p2a, n2a, c2a, s2b, p2b, n2b, c2b, rfl⟩ := h'.opened
  obtain ⟨ht2, hu2⟩ := h'.two
  have HK := hid hk
  have B := hid (Below.refl w.heap.size w)
  have HT1 := hid ht1
  have HU1 := hid hu1
  have HT2 := hid ht2
  have HU2 := hid hu2
  have hb1 := (Below.refl _ _).alloc (Nat.le_refl w.heap.size) (.cells #[.bool s1a, .slice p1a n1a c1a, .bool s1b, .slice p1b n1b c1b] 66)
  have hx2 := Fbx.new w s1a s1b (.slice p1a n1a c1a) (.slice p1b n1b c1b)
  replace HT1 := wl HT1 hb1
  replace HU1 := wl HU1 hb1
  replace HT2 := wl HT2 hb1
  replace HU2 := wl HU2 hb1
  replace B := bb B hb1
  have X1 := hid hx2
  have hs3 : (w.alloc (.cells #[.bool s1a, .slice p1a n1a c1a, .bool s1b, .slice p1b n1b c1b] 66)).heap.size = w.heap.size + 1 := by simp
  clear hb1 hx2
  have hb4 := (Below.refl _ _).alloc (Nat.le_refl (w.alloc (.cells #[.bool s1a, .slice p1a n1a c1a, .bool s1b, .slice p1b n1b c1b] 66)).heap.size) (.cells #[.bool s2a, .slice p2a n2a c2a, .bool s2b, .slice p2b n2b c2b] 66)
  have hx5 := Fbx.new (w.alloc (.cells #[.bool s1a, .slice p1a n1a c1a, .bool s1b, .slice p1b n1b c1b] 66)) s2a s2b (.slice p2a n2a c2a) (.slice p2b n2b c2b)
  rw [hs3] at hx5
  replace X1 := fx X1 hb4
  replace HT1 := wl HT1 hb4
  replace HU1 := wl HU1 hb4
  replace HT2 := wl HT2 hb4
  replace HU2 := wl HU2 hb4
  replace B := bb B hb4
  have X2 := hid hx5
  have hs6 : ((w.alloc (.cells #[.bool s1a, .slice p1a n1a c1a, .bool s1b, .slice p1b n1b c1b] 66)).alloc (.cells #[.bool s2a, .slice p2a n2a c2a, .bool s2b, .slice p2b n2b c2b] 66)).heap.size = w.heap.size + 1 + 1 := by simp [hs3]
  clear hb4 hx5
  have hb7 := (Below.refl _ _).alloc (Nat.le_refl ((w.alloc (.cells #[.bool s1a, .slice p1a n1a c1a, .bool s1b, .slice p1b n1b c1b] 66)).alloc (.cells #[.bool s2a, .slice p2a n2a c2a, .bool s2b, .slice p2b n2b c2b] 66)).heap.size) (.cells #[.bool false, .slice none 0 0, .bool false, .slice none 0 0] 66)
  have hx8 := Fbx.new ((w.alloc (.cells #[.bool s1a, .slice p1a n1a c1a, .bool s1b, .slice p1b n1b c1b] 66)).alloc (.cells #[.bool s2a, .slice p2a n2a c2a, .bool s2b, .slice p2b n2b c2b] 66)) false false (.slice none 0 0) (.slice none 0 0)
  rw [hs6] at hx8
  replace X1 := fx X1 hb7
  replace X2 := fx X2 hb7
  replace HT1 := wl HT1 hb7
  replace HU1 := wl HU1 hb7
  replace HT2 := wl HT2 hb7
  replace HU2 := wl HU2 hb7
  replace B := bb B hb7
  have XF := hid hx8
  have hs9 : (((w.alloc (.cells #[.bool s1a, .slice p1a n1a c1a, .bool s1b, .slice p1b n1b c1b] 66)).alloc (.cells #[.bool s2a, .slice p2a n2a c2a, .bool s2b, .slice p2b n2b c2b] 66)).alloc (.cells #[.bool false, .slice none 0 0, .bool false, .slice none 0 0] 66)).heap.size = w.heap.size + 1 + 1 + 1 := by simp [hs6]
  clear hb7 hx8
  clear hs9 h h' ht1 hu1 ht2 hu2 hk
  go_enter Tryz.func29, Tryz.ntmps29
  obtain ⟨cc10a, cc10b, cc10c, cc10d⟩ := X1.out.cells
  obtain ⟨cc11a, cc11b, cc11c, cc11d⟩ := X2.out.cells
  obtain ⟨cc12a, cc12b, cc12c, cc12d⟩ := XF.out.cells
  go_wp2_with fail
  generalize hW : ((w.alloc (.cells #[.bool s1a, .slice p1a n1a c1a, .bool s1b, .slice p1b n1b c1b] 66)).alloc (.cells #[.bool s2a, .slice p2a n2a c2a, .bool s2b, .slice p2b n2b c2b] 66)).alloc (.cells #[.bool false, .slice none 0 0, .bool false, .slice none 0 0] 66) = W13 at *
  clear hW
  obtain ⟨cc14a, cc14b, cc14c, cc14d⟩ := X1.out.cells
  obtain ⟨cc15a, cc15b, cc15c, cc15d⟩ := X2.out.cells
  replace X1 := hid X1.out.dr
  replace X2 := hid X2.out.dr
  replace XF := hid XF.out.dr
  replace HT1 := hid HT1.out.drew
  replace HU1 := hid HU1.out.drew
  replace HT2 := hid HT2.out.drew
  replace HU2 := hid HU2.out.drew
  replace B := hid (Below.drew B.out)
  obtain ⟨cc16a, cc16b, cc16c, cc16d⟩ := X1.out.cells
  obtain ⟨cc17a, cc17b, cc17c, cc17d⟩ := X2.out.cells
  go_region_held3 (fun w' => w'.cell? ⟨w.heap.size, 0, none⟩ = some (.bool s1a) ∧ w'.cell? ⟨w.heap.size, 1, none⟩ = some (.slice p1a n1a c1a) ∧ w'.cell? ⟨w.heap.size, 2, none⟩ = some (.bool s1b) ∧ w'.cell? ⟨w.heap.size, 3, none⟩ = some (.slice p1b n1b c1b) ∧ w'.cell? ⟨w.heap.size + 1, 0, none⟩ = some (.bool s2a) ∧ w'.cell? ⟨w.heap.size + 1, 1, none⟩ = some (.slice p2a n2a c2a) ∧ w'.cell? ⟨w.heap.size + 1, 2, none⟩ = some (.bool s2b) ∧ w'.cell? ⟨w.heap.size + 1, 3, none⟩ = some (.slice p2b n2b c2b)) (go_keep) (first
    | (have hm := mk18_0; clear hm; go_at_call 43; refine (add_whl HU1.out HU2.out (by have := HK.out; omega) (by have := HK.out; omega)).mono ?_; rintro e w22 ⟨v, rfl, hv, hb⟩; obtain ⟨s4, p4, n4, c4, rfl⟩ := hv.opened; replace X1 := fx X1 hb; replace X2 := fx X2 hb; replace XF := fx XF hb; replace HT1 := wl HT1 hb; replace HU1 := wl HU1 hb; replace HT2 := wl HT2 hb; replace HU2 := wl HU2 hb; replace P1 := wl P1 hb; replace B := bb B hb; clear cc20a cc20b cc20c cc20d cc21a cc21b cc21c cc21d; have P2 := hid hv; clear hb hv; obtain ⟨cc23a, cc23b, cc23c, cc23d⟩ := X1.out.cells; obtain ⟨cc24a, cc24b, cc24c, cc24d⟩ := X2.out.cells; obtain ⟨⟨cc25a, cc25b⟩, ⟨cc25c, cc25d⟩, ⟨cc25e, cc25f⟩, cc25g, cc25h⟩ := XF.out.stores; obtain ⟨r26a, r26b, r26c⟩ := XF.out.last B.out (by omega) s3 s4 p3 p4 n3 n4 c3 c4; replace X1 := hid ((((X1.out.other (g2 := w.heap.size + 1 + 1) (by omega) 0 (.bool s3)).other (g2 := w.heap.size + 1 + 1) (by omega) 1 (.slice p3 n3 c3)).other (g2 := w.heap.size + 1 + 1) (by omega) 2 (.bool s4)).other (g2 := w.heap.size + 1 + 1) (by omega) 3 (.slice p4 n4 c4)); replace X2 := hid ((((X2.out.other (g2 := w.heap.size + 1 + 1) (by omega) 0 (.bool s3)).other (g2 := w.heap.size + 1 + 1) (by omega) 1 (.slice p3 n3 c3)).other (g2 := w.heap.size + 1 + 1) (by omega) 2 (.bool s4)).other (g2 := w.heap.size + 1 + 1) (by omega) 3 (.slice p4 n4 c4)); replace HT1 := hid (r26c HT1.out); replace HU1 := hid (r26c HU1.out); replace HT2 := hid (r26c HT2.out); replace HU2 := hid (r26c HU2.out); replace P1 := hid (r26c P1.out); replace P2 := hid (r26c P2.out); replace XF := hid r26a; replace B := hid r26b; clear r26a r26b r26c; obtain ⟨cc27a, cc27b, cc27c, cc27d⟩ := X1.out.cells; obtain ⟨cc28a, cc28b, cc28c, cc28d⟩ := X2.out.cells; have mk18_1 := hid True.intro)
    | (go_at_call 43; refine (add_whl HT1.out HT2.out (by have := HK.out; omega) (by have := HK.out; omega)).mono ?_; rintro e w19 ⟨v, rfl, hv, hb⟩; obtain ⟨s3, p3, n3, c3, rfl⟩ := hv.opened; replace X1 := fx X1 hb; replace X2 := fx X2 hb; replace XF := fx XF hb; replace HT1 := wl HT1 hb; replace HU1 := wl HU1 hb; replace HT2 := wl HT2 hb; replace HU2 := wl HU2 hb; replace B := bb B hb; clear cc10a cc10b cc10c cc10d cc11a cc11b cc11c cc11d cc12a cc12b cc12c cc12d cc14a cc14b cc14c cc14d cc15a cc15b cc15c cc15d cc16a cc16b cc16c cc16d cc17a cc17b cc17c cc17d; have P1 := hid hv; clear hb hv; obtain ⟨cc20a, cc20b, cc20c, cc20d⟩ := X1.out.cells; obtain ⟨cc21a, cc21b, cc21c, cc21d⟩ := X2.out.cells; have mk18_0 := hid True.intro))
  go_wp2_with fail
  refine bodyPost_ret (res_frc rfl rfl XF.out) rfl ?_
  exact ⟨_, rfl, Frc.mk2 (P1.out.mono (by omega)) (P2.out.mono (by omega)), B.out⟩

set_option maxHeartbeats 2000000 in
theorem against_frc {w : World} {v u : Value} {z y z' y' : Int} {k : Nat} (h : Frc w v z y k) (h' : Frc w u z' y' k) (hk : k ≤ 68719476736) :
    Calls Tryz.prog 49 #[v, u] w fun e w' => e = .returned (.int .i64 (z * y' - z' * y).sign) ∧ Below w.heap.size w w' := by
  obtain ⟨s1a, p1a, n1a, c1a, s1b, p1b, n1b, c1b, rfl⟩ := h.opened
  obtain ⟨ht1, hu1⟩ := h.two
  obtain ⟨s2a, p2a, n2a, c2a, s2b, p2b, n2b, c2b, rfl⟩ := h'.opened
  obtain ⟨ht2, hu2⟩ := h'.two
  have HK := hid hk
  have B := hid (Below.refl w.heap.size w)
  have HT1 := hid ht1
  have HU1 := hid hu1
  have HT2 := hid ht2
  have HU2 := hid hu2
  have hb1 := (Below.refl _ _).alloc (Nat.le_refl w.heap.size) (.cells #[.bool s1a, .slice p1a n1a c1a, .bool s1b, .slice p1b n1b c1b] 66)
  have hx2 := Fbx.new w s1a s1b (.slice p1a n1a c1a) (.slice p1b n1b c1b)
  replace HT1 := wl HT1 hb1
  replace HU1 := wl HU1 hb1
  replace HT2 := wl HT2 hb1
  replace HU2 := wl HU2 hb1
  replace B := bb B hb1
  have X1 := hid hx2
  have hs3 : (w.alloc (.cells #[.bool s1a, .slice p1a n1a c1a, .bool s1b, .slice p1b n1b c1b] 66)).heap.size = w.heap.size + 1 := by simp
  clear hb1 hx2
  have hb4 := (Below.refl _ _).alloc (Nat.le_refl (w.alloc (.cells #[.bool s1a, .slice p1a n1a c1a, .bool s1b, .slice p1b n1b c1b] 66)).heap.size) (.cells #[.bool s2a, .slice p2a n2a c2a, .bool s2b, .slice p2b n2b c2b] 66)
  have hx5 := Fbx.new (w.alloc (.cells #[.bool s1a, .slice p1a n1a c1a, .bool s1b, .slice p1b n1b c1b] 66)) s2a s2b (.slice p2a n2a c2a) (.slice p2b n2b c2b)
  rw [hs3] at hx5
  replace X1 := fx X1 hb4
  replace HT1 := wl HT1 hb4
  replace HU1 := wl HU1 hb4
  replace HT2 := wl HT2 hb4
  replace HU2 := wl HU2 hb4
  replace B := bb B hb4
  have X2 := hid hx5
  have hs6 : ((w.alloc (.cells #[.bool s1a, .slice p1a n1a c1a, .bool s1b, .slice p1b n1b c1b] 66)).alloc (.cells #[.bool s2a, .slice p2a n2a c2a, .bool s2b, .slice p2b n2b c2b] 66)).heap.size = w.heap.size + 1 + 1 := by simp [hs3]
  clear hb4 hx5
  clear hs6 h h' ht1 hu1 ht2 hu2 hk
  go_enter Tryz.func49, Tryz.ntmps49
  obtain ⟨cc7a, cc7b, cc7c, cc7d⟩ := X1.out.cells
  obtain ⟨cc8a, cc8b, cc8c, cc8d⟩ := X2.out.cells
  go_wp2_with fail
  generalize hW : (w.alloc (.cells #[.bool s1a, .slice p1a n1a c1a, .bool s1b, .slice p1b n1b c1b] 66)).alloc (.cells #[.bool s2a, .slice p2a n2a c2a, .bool s2b, .slice p2b n2b c2b] 66) = W9 at *
  clear hW
  obtain ⟨cc10a, cc10b, cc10c, cc10d⟩ := X1.out.cells
  obtain ⟨cc11a, cc11b, cc11c, cc11d⟩ := X2.out.cells
  replace X1 := hid X1.out.dr
  replace X2 := hid X2.out.dr
  replace HT1 := hid HT1.out.drew
  replace HU1 := hid HU1.out.drew
  replace HT2 := hid HT2.out.drew
  replace HU2 := hid HU2.out.drew
  replace B := hid (Below.drew B.out)
  obtain ⟨cc12a, cc12b, cc12c, cc12d⟩ := X1.out.cells
  obtain ⟨cc13a, cc13b, cc13c, cc13d⟩ := X2.out.cells
  go_region_held3 (fun w' => w'.cell? ⟨w.heap.size, 0, none⟩ = some (.bool s1a) ∧ w'.cell? ⟨w.heap.size, 1, none⟩ = some (.slice p1a n1a c1a) ∧ w'.cell? ⟨w.heap.size, 2, none⟩ = some (.bool s1b) ∧ w'.cell? ⟨w.heap.size, 3, none⟩ = some (.slice p1b n1b c1b) ∧ w'.cell? ⟨w.heap.size + 1, 0, none⟩ = some (.bool s2a) ∧ w'.cell? ⟨w.heap.size + 1, 1, none⟩ = some (.slice p2a n2a c2a) ∧ w'.cell? ⟨w.heap.size + 1, 2, none⟩ = some (.bool s2b) ∧ w'.cell? ⟨w.heap.size + 1, 3, none⟩ = some (.slice p2b n2b c2b)) (go_keep) (first
    | (have hm := mk14_2; clear hm; go_at_call 35; refine (sgn_whl P3.out).mono ?_; rintro e w24 ⟨rfl, hb⟩; replace X1 := fx X1 hb; replace X2 := fx X2 hb; replace P1 := wl P1 hb; replace P2 := wl P2 hb; replace P3 := wl P3 hb; replace B := bb B hb; clear cc22a cc22b cc22c cc22d cc23a cc23b cc23c cc23d; clear hb ; obtain ⟨cc25a, cc25b, cc25c, cc25d⟩ := X1.out.cells; obtain ⟨cc26a, cc26b, cc26c, cc26d⟩ := X2.out.cells; have mk14_3 := hid True.intro)
    | (have hm := mk14_1; clear hm; go_at_call 69; refine (sub_whl P1.out P2.out (by have := HK.out; omega) (by have := HK.out; omega)).mono ?_; rintro e w21 ⟨v, rfl, hv, hb⟩; obtain ⟨s5, p5, n5, c5, rfl⟩ := hv.opened; replace X1 := fx X1 hb; replace X2 := fx X2 hb; replace P1 := wl P1 hb; replace P2 := wl P2 hb; replace B := bb B hb; clear cc19a cc19b cc19c cc19d cc20a cc20b cc20c cc20d; have P3 := hid hv; clear hb hv; obtain ⟨cc22a, cc22b, cc22c, cc22d⟩ := X1.out.cells; obtain ⟨cc23a, cc23b, cc23c, cc23d⟩ := X2.out.cells; have mk14_2 := hid True.intro)
    | (have hm := mk14_0; clear hm; go_at_call 68; refine (mul_whl HT2.out HU1.out (by have := HK.out; omega) (by have := HK.out; omega)).mono ?_; rintro e w18 ⟨v, rfl, hv, hb⟩; obtain ⟨s4, p4, n4, c4, rfl⟩ := hv.opened; replace X1 := fx X1 hb; replace X2 := fx X2 hb; replace P1 := wl P1 hb; replace B := bb B hb; clear cc16a cc16b cc16c cc16d cc17a cc17b cc17c cc17d; have P2 := hid hv; clear hb hv; obtain ⟨cc19a, cc19b, cc19c, cc19d⟩ := X1.out.cells; obtain ⟨cc20a, cc20b, cc20c, cc20d⟩ := X2.out.cells; have mk14_1 := hid True.intro)
    | (go_at_call 68; refine (mul_whl HT1.out HU2.out (by have := HK.out; omega) (by have := HK.out; omega)).mono ?_; rintro e w15 ⟨v, rfl, hv, hb⟩; obtain ⟨s3, p3, n3, c3, rfl⟩ := hv.opened; replace X1 := fx X1 hb; replace X2 := fx X2 hb; replace HU1 := wl HU1 hb; replace HT2 := wl HT2 hb; replace B := bb B hb; clear cc7a cc7b cc7c cc7d cc8a cc8b cc8c cc8d cc10a cc10b cc10c cc10d cc11a cc11b cc11c cc11d cc12a cc12b cc12c cc12d cc13a cc13b cc13c cc13d; have P1 := hid hv; clear hb hv; obtain ⟨cc16a, cc16b, cc16c, cc16d⟩ := X1.out.cells; obtain ⟨cc17a, cc17b, cc17c, cc17d⟩ := X2.out.cells; have mk14_0 := hid True.intro))
  go_wp2_with fail
  go_ret
  exact ⟨rfl, B.out⟩

set_option maxHeartbeats 1000000 in
theorem fstring_frc {w : World} {v : Value} {z y : Int} {k : Nat} (h : Frc w v z y k) (hy : y ≠ 0) (hk : k ≤ 4294967296) :
    Calls Tryz.prog 30 #[v] w fun e w' => e = .returned (.string (qtxt (Rat.divInt z y))) ∧ Below w.heap.size w w' := by
  obtain ⟨s1a, p1a, n1a, c1a, s1b, p1b, n1b, c1b, rfl⟩ := h.opened
  obtain ⟨ht1, hu1⟩ := h.two
  have HK := hid hk
  have HY := hid hy
  have B := hid (Below.refl w.heap.size w)
  have HT1 := hid ht1
  have HU1 := hid hu1
  have hb1 := (Below.refl _ _).alloc (Nat.le_refl w.heap.size) (.cells #[.bool s1a, .slice p1a n1a c1a, .bool s1b, .slice p1b n1b c1b] 66)
  have hx2 := Fbx.new w s1a s1b (.slice p1a n1a c1a) (.slice p1b n1b c1b)
  replace HT1 := wl HT1 hb1
  replace HU1 := wl HU1 hb1
  replace B := bb B hb1
  have X1 := hid hx2
  have hs3 : (w.alloc (.cells #[.bool s1a, .slice p1a n1a c1a, .bool s1b, .slice p1b n1b c1b] 66)).heap.size = w.heap.size + 1 := by simp
  clear hb1 hx2
  clear hs3 h ht1 hu1 hk hy
  go_enter Tryz.func30, Tryz.ntmps30
  obtain ⟨cc4a, cc4b, cc4c, cc4d⟩ := X1.out.cells
  go_wp2_with fail
  generalize hW : w.alloc (.cells #[.bool s1a, .slice p1a n1a c1a, .bool s1b, .slice p1b n1b c1b] 66) = W5 at *
  clear hW
  refine (quot_some HT1.out HU1.out HY.out (by have := HK.out; omega)).mono ?_
  rintro e w6 ⟨v, rfl, hv, hb⟩
  obtain ⟨s9a, p9a, n9a, c9a, s9b, p9b, n9b, c9b, rfl⟩ := hv.opened
  obtain ⟨ht9, d9, hu9, hd9⟩ := hv.two
  have HD9 := hid hd9
  replace B := bb B hb
  clear cc4a cc4b cc4c cc4d
  have HT9 := hid ht9
  have HU9 := hid hu9
  clear hb hv ht9 hu9 hd9
  have hb7 := (Below.refl _ _).alloc (Nat.le_refl w6.heap.size) (.cells #[.bool s9a, .slice p9a n9a c9a, .bool s9b, .slice p9b n9b c9b] 62)
  have hx8 := Nbx.new w6 s9a s9b (.slice p9a n9a c9a) (.slice p9b n9b c9b)
  replace HT9 := wl HT9 hb7
  replace HU9 := wl HU9 hb7
  replace B := bb B hb7
  have XQ := hid hx8
  have hs9 : (w6.alloc (.cells #[.bool s9a, .slice p9a n9a c9a, .bool s9b, .slice p9b n9b c9b] 62)).heap.size = w6.heap.size + 1 := by simp
  clear hb7 hx8
  obtain ⟨cc10a, cc10b, cc10c, cc10d⟩ := XQ.out.cells
  go_wp2_with fail
  generalize hW : w6.alloc (.cells #[.bool s9a, .slice p9a n9a c9a, .bool s9b, .slice p9b n9b c9b] 62) = W11 at *
  clear hW
  refine (qstring (Rtl.mk2 HT9.out HU9.out HD9.out) (by have := HK.out; omega)).mono ?_
  rintro e w12 ⟨rfl, hb⟩
  replace HT9 := wl HT9 hb
  replace HU9 := wl HU9 hb
  replace B := bb B hb
  clear cc10a cc10b cc10c cc10d
  clear hb 
  go_wp2_with fail
  go_ret
  exact ⟨rfl, B.out⟩

end Go.Proofs.YteephnbfdblgeaaGreatDoor

/-
  PACKAGE farey: descent.
-/
namespace Go.Proofs.YteephnbfdblgeaaGreatDoor
open Go.RowKit
open Num
set_option linter.unusedVariables false
set_option maxRecDepth 100000
set_option linter.unusedSimpArgs false

/-- A box that holds z over y. -/
def Fat (w : World) (g : Nat) (z y : Int) (k : Nat) : Prop :=
  ∃ s p n c s' p' n' c', Fbx w g s (.slice p n c) s' (.slice p' n' c') ∧ Whl w (.agg #[.bool s, .slice p n c]) z k ∧ Whl w (.agg #[.bool s', .slice p' n' c']) y k
theorem Fat.below {w w' : World} {g : Nat} {z y : Int} {k : Nat} (h : Fat w g z y k) (hb : Below w.heap.size w w') : Fat w' g z y k := by
  obtain ⟨s, p, n, c, s', p', n', c', h1, h2, h3⟩ := h
  exact ⟨s, p, n, c, s', p', n', c', h1.below hb h1.lt, h2.on hb, h3.on hb⟩
theorem Fat.lt {w : World} {g : Nat} {z y : Int} {k : Nat} (h : Fat w g z y k) : g < w.heap.size := by
  obtain ⟨s, p, n, c, s', p', n', c', h1, h2, h3⟩ := h
  exact h1.lt
/-- What the closure has: the bounds of s and the middle, in three boxes at K or above. -/
def Tri (w : World) (K gl gh gm : Nat) (s : Bnd) : Prop :=
  K ≤ gl ∧ gl < gh ∧ gh < gm ∧ Fat w gl s.a s.b 1 ∧ Fat w gh s.c s.d 1 ∧ Fat w gm s.m s.n 1
theorem Tri.on {w w' : World} {K gl gh gm : Nat} {s : Bnd} (h : Tri w K gl gh gm s) (hb : Below w.heap.size w w') : Tri w' K gl gh gm s := by
  obtain ⟨h1, h2, h3, h4, h5, h6⟩ := h
  exact ⟨h1, h2, h3, h4.below hb, h5.below hb, h6.below hb⟩
theorem Tri.dr {w : World} {K gl gh gm : Nat} {s : Bnd} (h : Tri w K gl gh gm s) : Tri w.drew K gl gh gm s := h.on (Below.drew (Below.refl _ _))
theorem Tri.lt {w : World} {K gl gh gm : Nat} {s : Bnd} (h : Tri w K gl gh gm s) : gm < w.heap.size := h.2.2.2.2.2.lt
/-- All blocks but three are as they were. -/
def But3 (w w' : World) (gl gh gm : Nat) : Prop := w.heap.size ≤ w'.heap.size ∧ (∀ g, g < w.heap.size → g ≠ gl → g ≠ gh → g ≠ gm → w'.heap[g]? = w.heap[g]?) ∧ ∀ v z k, Whl w v z k → Whl w' v z k
theorem But3.refl (w : World) (gl gh gm : Nat) : But3 w w gl gh gm := ⟨Nat.le_refl _, fun _ _ _ _ _ => rfl, fun _ _ _ h => h⟩
theorem But3.below {w w1 w2 : World} {gl gh gm : Nat} (h : But3 w w1 gl gh gm) (hb : Below w1.heap.size w1 w2) : But3 w w2 gl gh gm :=
  ⟨Nat.le_trans h.1 hb.size, fun g h1 h2 h3 h4 => (hb.block g (Nat.lt_of_lt_of_le h1 h.1)).trans (h.2.1 g h1 h2 h3 h4), fun v z k hv => (h.2.2 v z k hv).on hb⟩
theorem set4_size (w : World) (g : Nat) (a b c d : Value) : ((((w.setCell ⟨g, 0, none⟩ a).setCell ⟨g, 1, none⟩ b).setCell ⟨g, 2, none⟩ c).setCell ⟨g, 3, none⟩ d).heap.size = w.heap.size := by simp [World.setCell]
theorem set4_block (w : World) (g j : Nat) (hj : j ≠ g) (a b c d : Value) : ((((w.setCell ⟨g, 0, none⟩ a).setCell ⟨g, 1, none⟩ b).setCell ⟨g, 2, none⟩ c).setCell ⟨g, 3, none⟩ d).heap[j]? = w.heap[j]? := by
  rw [Below.heap_setCell _ _ _ _ (by exact hj), Below.heap_setCell _ _ _ _ (by exact hj), Below.heap_setCell _ _ _ _ (by exact hj), Below.heap_setCell _ _ _ _ (by exact hj)]
theorem But3.set4 {w w1 : World} {gl gh gm g : Nat} {s s' : Bool} {p p' : Option Addr} {n n' c c' : Nat} (h : But3 w w1 gl gh gm) (hg : g = gl ∨ g = gh ∨ g = gm ∨ w.heap.size ≤ g) (hx : Fbx w1 g s (.slice p n c) s' (.slice p' n' c')) (a b : Bool) (q q' : Option Addr) (m m' d d' : Nat) :
    But3 w ((((w1.setCell ⟨g, 0, none⟩ (.bool a)).setCell ⟨g, 1, none⟩ (.slice q m d)).setCell ⟨g, 2, none⟩ (.bool b)).setCell ⟨g, 3, none⟩ (.slice q' m' d')) gl gh gm := by
  obtain ⟨h1, h2, h3⟩ := h
  refine ⟨by rw [set4_size]; exact h1, fun j j1 j2 j3 j4 => ?_, fun v z k hv => ?_⟩
  · rw [set4_block _ _ _ (by rcases hg with e | e | e | e <;> omega)]
    exact h2 j j1 j2 j3 j4
  · exact (hx.last (Below.refl 0 w1) (Nat.zero_le _) a b q q' m m' d d').2.2 (h3 v z k hv)
theorem But3.fbx {w w' : World} {gl gh gm g : Nat} {s s' : Bool} {sv sv' : Value} (h : But3 w w' gl gh gm) (hx : Fbx w g s sv s' sv') (h1 : g ≠ gl) (h2 : g ≠ gh) (h3 : g ≠ gm) : Fbx w' g s sv s' sv' := (h.2.1 g hx.lt h1 h2 h3).trans hx

theorem res_frc_tmp' {fn : Func} {t t' : Tmp} {tmps : Array Value} {w : World} {g : Nat} {s s' : Bool} {sv sv' u : Value} (hf : fn.results = #[.cell t 66, .tmp t']) (ht : tmps.getD t undef = .pointer (some ⟨g, 0, none⟩)) (hu : tmps.getD t' undef = u) (h2 : Fbx w g s sv s' sv') :
    (results fn tmps).run Tryz.prog w = .ok (.tuple #[.agg #[.bool s, sv, .bool s', sv'], u]) w := by
  have h1 := at_addr (P := Tryz.prog) (w := w) ht
  have h3 := load_frc h2
  simp only [Array.getD_eq_getD_getElem?] at h1 hu
  simp [results, hf, Sem.run_bind, h1, h3, hu]
theorem nat_fit {n : Nat} (h : n ≤ 2147483648) : ((n : Int)).natAbs < B ^ 1 := by rw [Nat.pow_one, B_eq]; omega

set_option maxHeartbeats 4000000 in
theorem descent_tri (w : World) :
    Calls Tryz.prog 38 #[] w fun e w' => ∃ v gl gh gm, e = .returned (.tuple #[v, .func (.func 51) #[] #[.pointer (some ⟨gm, 0, none⟩), .pointer (some ⟨gh, 0, none⟩), .pointer (some ⟨gl, 0, none⟩)]]) ∧ Frc w' v 1 1 1 ∧ Tri w' (w.heap.size + 1) gl gh gm bnd0 ∧ Below w.heap.size w w' := by
  have hmf : ∀ (fn : Fn) (first cap : Array Value) (w : World), (Instr.makeFunc fn first cap).run Tryz.prog w = .ok (.func fn first cap) w := fun _ _ _ _ => rfl
  have B := hid (Below.refl w.heap.size w)
  have hb1 := (Below.refl _ _).alloc (Nat.le_refl w.heap.size) (.cells #[.bool false, .slice none 0 0, .bool false, .slice none 0 0] 66)
  have hx2 := Fbx.new w false false (.slice none 0 0) (.slice none 0 0)
  replace B := bb B hb1
  have XR := hid hx2
  have hs3 : (w.alloc (.cells #[.bool false, .slice none 0 0, .bool false, .slice none 0 0] 66)).heap.size = w.heap.size + 1 := by simp
  clear hb1 hx2
  clear hs3 
  go_enter Tryz.func38, Tryz.ntmps38
  obtain ⟨cc4a, cc4b, cc4c, cc4d⟩ := XR.out.cells
  go_wp2_with fail
  generalize hW : w.alloc (.cells #[.bool false, .slice none 0 0, .bool false, .slice none 0 0] 66) = W5 at *
  clear hW
  refine (of_small 0 (by decide) _).mono ?_
  rintro e w6 ⟨v, rfl, hv, hb⟩
  obtain ⟨s1, p1, n1, c1, rfl⟩ := hv.opened
  replace XR := fx XR hb
  replace B := bb B hb
  clear cc4a cc4b cc4c cc4d
  have HA := hid hv
  clear hb hv
  obtain ⟨cc7a, cc7b, cc7c, cc7d⟩ := XR.out.cells
  go_wp2_with fail
  refine (of_small 1 (by decide) _).mono ?_
  rintro e w8 ⟨v, rfl, hv, hb⟩
  obtain ⟨s2, p2, n2, c2, rfl⟩ := hv.opened
  replace XR := fx XR hb
  replace HA := wl HA hb
  replace B := bb B hb
  clear cc7a cc7b cc7c cc7d
  have HB := hid hv
  clear hb hv
  have hb9 := (Below.refl _ _).alloc (Nat.le_refl w8.heap.size) (.cells #[.bool s1, .slice p1 n1 c1, .bool s2, .slice p2 n2 c2] 66)
  have hx10 := Fbx.new w8 s1 s2 (.slice p1 n1 c1) (.slice p2 n2 c2)
  have L0 := hid XR.out.lt
  replace XR := fx XR hb9
  replace HA := wl HA hb9
  replace HB := wl HB hb9
  replace B := bb B hb9
  have XL := hid hx10
  have hs11 : (w8.alloc (.cells #[.bool s1, .slice p1 n1 c1, .bool s2, .slice p2 n2 c2] 66)).heap.size = w8.heap.size + 1 := by simp
  clear hb9 hx10
  obtain ⟨cc12a, cc12b, cc12c, cc12d⟩ := XR.out.cells
  obtain ⟨cc13a, cc13b, cc13c, cc13d⟩ := XL.out.cells
  go_wp2_with fail
  generalize hW : w8.alloc (.cells #[.bool s1, .slice p1 n1 c1, .bool s2, .slice p2 n2 c2] 66) = W14 at *
  clear hW
  refine (of_small 1 (by decide) _).mono ?_
  rintro e w15 ⟨v, rfl, hv, hb⟩
  obtain ⟨s3, p3, n3, c3, rfl⟩ := hv.opened
  replace XR := fx XR hb
  replace XL := fx XL hb
  replace HA := wl HA hb
  replace HB := wl HB hb
  replace B := bb B hb
  clear cc12a cc12b cc12c cc12d cc13a cc13b cc13c cc13d
  have HC := hid hv
  clear hb hv
  obtain ⟨cc16a, cc16b, cc16c, cc16d⟩ := XR.out.cells
  obtain ⟨cc17a, cc17b, cc17c, cc17d⟩ := XL.out.cells
  go_wp2_with fail
  refine (of_small 0 (by decide) _).mono ?_
  rintro e w18 ⟨v, rfl, hv, hb⟩
  obtain ⟨s4, p4, n4, c4, rfl⟩ := hv.opened
  replace XR := fx XR hb
  replace XL := fx XL hb
  replace HA := wl HA hb
  replace HB := wl HB hb
  replace HC := wl HC hb
  replace B := bb B hb
  clear cc16a cc16b cc16c cc16d cc17a cc17b cc17c cc17d
  have HD := hid hv
  clear hb hv
  have hb19 := (Below.refl _ _).alloc (Nat.le_refl w18.heap.size) (.cells #[.bool s3, .slice p3 n3 c3, .bool s4, .slice p4 n4 c4] 66)
  have hx20 := Fbx.new w18 s3 s4 (.slice p3 n3 c3) (.slice p4 n4 c4)
  have L1 := hid XL.out.lt
  replace XR := fx XR hb19
  replace XL := fx XL hb19
  replace HA := wl HA hb19
  replace HB := wl HB hb19
  replace HC := wl HC hb19
  replace HD := wl HD hb19
  replace B := bb B hb19
  have XH := hid hx20
  have hs21 : (w18.alloc (.cells #[.bool s3, .slice p3 n3 c3, .bool s4, .slice p4 n4 c4] 66)).heap.size = w18.heap.size + 1 := by simp
  clear hb19 hx20
  obtain ⟨cc22a, cc22b, cc22c, cc22d⟩ := XR.out.cells
  obtain ⟨cc23a, cc23b, cc23c, cc23d⟩ := XL.out.cells
  obtain ⟨cc24a, cc24b, cc24c, cc24d⟩ := XH.out.cells
  go_wp2_with fail
  generalize hW : w18.alloc (.cells #[.bool s3, .slice p3 n3 c3, .bool s4, .slice p4 n4 c4] 66) = W25 at *
  clear hW
  refine (mediant_frc (Frc.mk2 HA.out HB.out) (Frc.mk2 HC.out HD.out) (by decide)).mono ?_
  rintro e w26 ⟨v, rfl, hv, hb⟩
  replace hv := hv.fit 1 (by decide) (by decide)
  obtain ⟨s5a, p5a, n5a, c5a, s5b, p5b, n5b, c5b, rfl⟩ := hv.opened
  obtain ⟨ht5, hu5⟩ := hv.two
  replace XR := fx XR hb
  replace XL := fx XL hb
  replace XH := fx XH hb
  replace HA := wl HA hb
  replace HB := wl HB hb
  replace HC := wl HC hb
  replace HD := wl HD hb
  replace B := bb B hb
  clear cc22a cc22b cc22c cc22d cc23a cc23b cc23c cc23d cc24a cc24b cc24c cc24d
  have HT5 := hid ht5
  have HU5 := hid hu5
  clear hb hv ht5 hu5
  have hb27 := (Below.refl _ _).alloc (Nat.le_refl w26.heap.size) (.cells #[.bool s5a, .slice p5a n5a c5a, .bool s5b, .slice p5b n5b c5b] 66)
  have hx28 := Fbx.new w26 s5a s5b (.slice p5a n5a c5a) (.slice p5b n5b c5b)
  have L2 := hid XH.out.lt
  replace XR := fx XR hb27
  replace XL := fx XL hb27
  replace XH := fx XH hb27
  replace HA := wl HA hb27
  replace HB := wl HB hb27
  replace HC := wl HC hb27
  replace HD := wl HD hb27
  replace HT5 := wl HT5 hb27
  replace HU5 := wl HU5 hb27
  replace B := bb B hb27
  have XM := hid hx28
  have hs29 : (w26.alloc (.cells #[.bool s5a, .slice p5a n5a c5a, .bool s5b, .slice p5b n5b c5b] 66)).heap.size = w26.heap.size + 1 := by simp
  clear hb27 hx28
  obtain ⟨cc30a, cc30b, cc30c, cc30d⟩ := XR.out.cells
  obtain ⟨cc31a, cc31b, cc31c, cc31d⟩ := XL.out.cells
  obtain ⟨cc32a, cc32b, cc32c, cc32d⟩ := XH.out.cells
  obtain ⟨cc33a, cc33b, cc33c, cc33d⟩ := XM.out.cells
  obtain ⟨⟨cc34a, cc34b⟩, ⟨cc34c, cc34d⟩, ⟨cc34e, cc34f⟩, cc34g, cc34h⟩ := XR.out.stores
  obtain ⟨r35a, r35b, r35c⟩ := XR.out.last B.out (by have := L0.out; have := L1.out; have := L2.out; omega) s5a s5b p5a p5b n5a n5b c5a c5b
  replace XL := hid ((((XL.out.other (g2 := w.heap.size) (by have := L0.out; have := L1.out; have := L2.out; omega) 0 (.bool s5a)).other (g2 := w.heap.size) (by have := L0.out; have := L1.out; have := L2.out; omega) 1 (.slice p5a n5a c5a)).other (g2 := w.heap.size) (by have := L0.out; have := L1.out; have := L2.out; omega) 2 (.bool s5b)).other (g2 := w.heap.size) (by have := L0.out; have := L1.out; have := L2.out; omega) 3 (.slice p5b n5b c5b))
  replace XH := hid ((((XH.out.other (g2 := w.heap.size) (by have := L0.out; have := L1.out; have := L2.out; omega) 0 (.bool s5a)).other (g2 := w.heap.size) (by have := L0.out; have := L1.out; have := L2.out; omega) 1 (.slice p5a n5a c5a)).other (g2 := w.heap.size) (by have := L0.out; have := L1.out; have := L2.out; omega) 2 (.bool s5b)).other (g2 := w.heap.size) (by have := L0.out; have := L1.out; have := L2.out; omega) 3 (.slice p5b n5b c5b))
  replace XM := hid ((((XM.out.other (g2 := w.heap.size) (by have := L0.out; have := L1.out; have := L2.out; omega) 0 (.bool s5a)).other (g2 := w.heap.size) (by have := L0.out; have := L1.out; have := L2.out; omega) 1 (.slice p5a n5a c5a)).other (g2 := w.heap.size) (by have := L0.out; have := L1.out; have := L2.out; omega) 2 (.bool s5b)).other (g2 := w.heap.size) (by have := L0.out; have := L1.out; have := L2.out; omega) 3 (.slice p5b n5b c5b))
  replace HA := hid (r35c HA.out)
  replace HB := hid (r35c HB.out)
  replace HC := hid (r35c HC.out)
  replace HD := hid (r35c HD.out)
  replace HT5 := hid (r35c HT5.out)
  replace HU5 := hid (r35c HU5.out)
  replace XR := hid r35a
  replace B := hid r35b
  clear r35a r35b r35c
  go_wp2_with fail
  have L5 := hid XL.out.lt
  refine bodyPost_ret (res_frc_tmp rfl rfl rfl XR.out) rfl ?_
  exact ⟨_, w8.heap.size, w18.heap.size, w26.heap.size, rfl, Frc.mk2 HT5.out HU5.out, ⟨(by have := L0.out; have := L1.out; have := L2.out; omega), (by have := L0.out; have := L1.out; have := L2.out; omega), (by have := L0.out; have := L1.out; have := L2.out; omega), ⟨_, _, _, _, _, _, _, _, XL.out, HA.out, HB.out⟩, ⟨_, _, _, _, _, _, _, _, XH.out, HC.out, HD.out⟩, ⟨_, _, _, _, _, _, _, _, XM.out, HT5.out, HU5.out⟩⟩, B.out⟩

end Go.Proofs.YteephnbfdblgeaaGreatDoor

/-
  PACKAGE farey: the closure that goes down.
-/
namespace Go.Proofs.YteephnbfdblgeaaGreatDoor
open Go.RowKit
open Num
set_option linter.unusedVariables false
set_option maxRecDepth 100000
set_option linter.unusedSimpArgs false

theorem bK {K : Nat} {w0 w w' : World} (h0 : K ≤ w0.heap.size) (h : Hid (Below K w0 w)) (hb : Below w.heap.size w w') : Hid (Below K w0 w') := hid (h.out.trans (hb.mono (Nat.le_trans h0 h.out.size)))

set_option maxHeartbeats 4000000 in
theorem step_L {w : World} {K gl gh gm : Nat} {s : Bnd} (h : Tri w K gl gh gm s) (hs : (stp s 76).m ≤ 2147483648 ∧ (stp s 76).n ≤ 2147483648) :
    Calls Tryz.prog 51 #[.int .u8 76, .pointer (some ⟨gm, 0, none⟩), .pointer (some ⟨gh, 0, none⟩), .pointer (some ⟨gl, 0, none⟩)] w fun e w' => ∃ v, e = .returned v ∧ Frc w' v (stp s 76).m (stp s 76).n 1 ∧ Tri w' K gl gh gm (stp s 76) ∧ But3 w w' gl gh gm ∧ Below K w w' := by
  obtain ⟨h1, h2, h3, ⟨sla, pla, nla, cla, slb, plb, nlb, clb, xl, hla, hlb⟩, ⟨sha, pha, nha, cha, shb, phb, nhb, chb, xh, hha, hhb⟩, ⟨sma, pma, nma, cma, smb, pmb, nmb, cmb, xm, hma, hmb⟩⟩ := h
  have LK := hid (show K ≤ gl ∧ gl < gh ∧ gh < gm ∧ gm < w.heap.size from ⟨h1, h2, h3, xm.lt⟩)
  have HKW := hid (show K ≤ w.heap.size by have := LK.out; omega)
  have HF := hid hs
  have XL := hid xl
  have HTl := hid hla
  have HUl := hid hlb
  have XH := hid xh
  have HTh := hid hha
  have HUh := hid hhb
  have XM := hid xm
  have HTm := hid hma
  have HUm := hid hmb
  have B := hid (Below.refl K w)
  have C := hid (But3.refl w gl gh gm)
  clear h1 h2 h3 xl hla hlb xh hha hhb xm hma hmb hs
  have hb1 := (Below.refl _ _).alloc (Nat.le_refl w.heap.size) (.cells #[.bool false, .slice none 0 0, .bool false, .slice none 0 0] 66)
  have hx2 := Fbx.new w false false (.slice none 0 0) (.slice none 0 0)
  replace XL := fx XL hb1
  replace XH := fx XH hb1
  replace XM := fx XM hb1
  replace HTl := wl HTl hb1
  replace HUl := wl HUl hb1
  replace HTh := wl HTh hb1
  replace HUh := wl HUh hb1
  replace HTm := wl HTm hb1
  replace HUm := wl HUm hb1
  replace B := bK HKW.out B hb1
  replace C := hid (C.out.below hb1)
  have XR := hid hx2
  have hs3 : (w.alloc (.cells #[.bool false, .slice none 0 0, .bool false, .slice none 0 0] 66)).heap.size = w.heap.size + 1 := by simp
  clear hb1 hx2
  clear hs3 
  go_enter Tryz.func51, Tryz.ntmps51
  obtain ⟨cc4a, cc4b, cc4c, cc4d⟩ := XL.out.cells
  obtain ⟨cc5a, cc5b, cc5c, cc5d⟩ := XH.out.cells
  obtain ⟨cc6a, cc6b, cc6c, cc6d⟩ := XM.out.cells
  obtain ⟨cc7a, cc7b, cc7c, cc7d⟩ := XR.out.cells
  obtain ⟨⟨cc8a, cc8b⟩, ⟨cc8c, cc8d⟩, ⟨cc8e, cc8f⟩, cc8g, cc8h⟩ := XH.out.stores
  obtain ⟨r9a, r9b, r9c⟩ := XH.out.last B.out (by have := LK.out; omega) sma smb pma pmb nma nmb cma cmb
  replace C := hid (C.out.set4 (by omega) XH.out sma smb pma pmb nma nmb cma cmb)
  replace XL := hid ((((XL.out.other (g2 := gh) (by have := LK.out; omega) 0 (.bool sma)).other (g2 := gh) (by have := LK.out; omega) 1 (.slice pma nma cma)).other (g2 := gh) (by have := LK.out; omega) 2 (.bool smb)).other (g2 := gh) (by have := LK.out; omega) 3 (.slice pmb nmb cmb))
  replace XM := hid ((((XM.out.other (g2 := gh) (by have := LK.out; omega) 0 (.bool sma)).other (g2 := gh) (by have := LK.out; omega) 1 (.slice pma nma cma)).other (g2 := gh) (by have := LK.out; omega) 2 (.bool smb)).other (g2 := gh) (by have := LK.out; omega) 3 (.slice pmb nmb cmb))
  replace XR := hid ((((XR.out.other (g2 := gh) (by have := LK.out; omega) 0 (.bool sma)).other (g2 := gh) (by have := LK.out; omega) 1 (.slice pma nma cma)).other (g2 := gh) (by have := LK.out; omega) 2 (.bool smb)).other (g2 := gh) (by have := LK.out; omega) 3 (.slice pmb nmb cmb))
  replace HTl := hid (r9c HTl.out)
  replace HUl := hid (r9c HUl.out)
  replace HTh := hid (r9c HTh.out)
  replace HUh := hid (r9c HUh.out)
  replace HTm := hid (r9c HTm.out)
  replace HUm := hid (r9c HUm.out)
  replace XH := hid r9a
  replace B := hid r9b
  clear r9a r9b r9c
  obtain ⟨cc10a, cc10b, cc10c, cc10d⟩ := XL.out.cells
  obtain ⟨cc11a, cc11b, cc11c, cc11d⟩ := XH.out.cells
  obtain ⟨cc12a, cc12b, cc12c, cc12d⟩ := XM.out.cells
  obtain ⟨cc13a, cc13b, cc13c, cc13d⟩ := XR.out.cells
  go_wp2_with fail
  generalize hW : ((((w.alloc (.cells #[.bool false, .slice none 0 0, .bool false, .slice none 0 0] 66)).setCell ⟨gh, 0, none⟩ (.bool sma)).setCell ⟨gh, 1, none⟩ (.slice pma nma cma)).setCell ⟨gh, 2, none⟩ (.bool smb)).setCell ⟨gh, 3, none⟩ (.slice pmb nmb cmb) = W14 at *
  clear hW
  have e1 : (s.a : Int) + (s.m : Int) = ((stp s 76).m : Nat) := by rw [stp_L]; simp [Bnd.m]
  have e2 : (s.b : Int) + (s.n : Int) = ((stp s 76).n : Nat) := by rw [stp_L]; simp [Bnd.n]
  refine (mediant_frc (Frc.mk2 HTl.out HUl.out) (Frc.mk2 HTm.out HUm.out) (by decide)).mono ?_
  rintro e w15 ⟨v, rfl, hv, hb⟩
  rw [e1, e2] at hv
  replace hv := hv.fit 1 (nat_fit HF.out.1) (nat_fit HF.out.2)
  obtain ⟨s7a, p7a, n7a, c7a, s7b, p7b, n7b, c7b, rfl⟩ := hv.opened
  obtain ⟨ht7, hu7⟩ := hv.two
  replace XL := fx XL hb
  replace XH := fx XH hb
  replace XM := fx XM hb
  replace XR := fx XR hb
  replace HTl := wl HTl hb
  replace HUl := wl HUl hb
  replace HTh := wl HTh hb
  replace HUh := wl HUh hb
  replace HTm := wl HTm hb
  replace HUm := wl HUm hb
  replace B := bK HKW.out B hb
  replace C := hid (C.out.below hb)
  clear cc4a cc4b cc4c cc4d cc5a cc5b cc5c cc5d cc6a cc6b cc6c cc6d cc7a cc7b cc7c cc7d cc8a cc8b cc8c cc8d cc8e cc8f cc8g cc8h cc10a cc10b cc10c cc10d cc11a cc11b cc11c cc11d cc12a cc12b cc12c cc12d cc13a cc13b cc13c cc13d
  have HT7 := hid ht7
  have HU7 := hid hu7
  clear hb hv ht7 hu7
  clear e1 e2
  obtain ⟨cc16a, cc16b, cc16c, cc16d⟩ := XL.out.cells
  obtain ⟨cc17a, cc17b, cc17c, cc17d⟩ := XH.out.cells
  obtain ⟨cc18a, cc18b, cc18c, cc18d⟩ := XM.out.cells
  obtain ⟨cc19a, cc19b, cc19c, cc19d⟩ := XR.out.cells
  obtain ⟨⟨cc20a, cc20b⟩, ⟨cc20c, cc20d⟩, ⟨cc20e, cc20f⟩, cc20g, cc20h⟩ := XM.out.stores
  obtain ⟨r21a, r21b, r21c⟩ := XM.out.last B.out (by have := LK.out; omega) s7a s7b p7a p7b n7a n7b c7a c7b
  replace C := hid (C.out.set4 (by omega) XM.out s7a s7b p7a p7b n7a n7b c7a c7b)
  replace XL := hid ((((XL.out.other (g2 := gm) (by have := LK.out; omega) 0 (.bool s7a)).other (g2 := gm) (by have := LK.out; omega) 1 (.slice p7a n7a c7a)).other (g2 := gm) (by have := LK.out; omega) 2 (.bool s7b)).other (g2 := gm) (by have := LK.out; omega) 3 (.slice p7b n7b c7b))
  replace XH := hid ((((XH.out.other (g2 := gm) (by have := LK.out; omega) 0 (.bool s7a)).other (g2 := gm) (by have := LK.out; omega) 1 (.slice p7a n7a c7a)).other (g2 := gm) (by have := LK.out; omega) 2 (.bool s7b)).other (g2 := gm) (by have := LK.out; omega) 3 (.slice p7b n7b c7b))
  replace XR := hid ((((XR.out.other (g2 := gm) (by have := LK.out; omega) 0 (.bool s7a)).other (g2 := gm) (by have := LK.out; omega) 1 (.slice p7a n7a c7a)).other (g2 := gm) (by have := LK.out; omega) 2 (.bool s7b)).other (g2 := gm) (by have := LK.out; omega) 3 (.slice p7b n7b c7b))
  replace HTl := hid (r21c HTl.out)
  replace HUl := hid (r21c HUl.out)
  replace HTh := hid (r21c HTh.out)
  replace HUh := hid (r21c HUh.out)
  replace HTm := hid (r21c HTm.out)
  replace HUm := hid (r21c HUm.out)
  replace HT7 := hid (r21c HT7.out)
  replace HU7 := hid (r21c HU7.out)
  replace XM := hid r21a
  replace B := hid r21b
  clear r21a r21b r21c
  obtain ⟨cc22a, cc22b, cc22c, cc22d⟩ := XL.out.cells
  obtain ⟨cc23a, cc23b, cc23c, cc23d⟩ := XH.out.cells
  obtain ⟨cc24a, cc24b, cc24c, cc24d⟩ := XM.out.cells
  obtain ⟨cc25a, cc25b, cc25c, cc25d⟩ := XR.out.cells
  obtain ⟨⟨cc26a, cc26b⟩, ⟨cc26c, cc26d⟩, ⟨cc26e, cc26f⟩, cc26g, cc26h⟩ := XR.out.stores
  obtain ⟨r27a, r27b, r27c⟩ := XR.out.last B.out (by have := LK.out; omega) s7a s7b p7a p7b n7a n7b c7a c7b
  replace C := hid (C.out.set4 (by omega) XR.out s7a s7b p7a p7b n7a n7b c7a c7b)
  replace XL := hid ((((XL.out.other (g2 := w.heap.size) (by have := LK.out; omega) 0 (.bool s7a)).other (g2 := w.heap.size) (by have := LK.out; omega) 1 (.slice p7a n7a c7a)).other (g2 := w.heap.size) (by have := LK.out; omega) 2 (.bool s7b)).other (g2 := w.heap.size) (by have := LK.out; omega) 3 (.slice p7b n7b c7b))
  replace XH := hid ((((XH.out.other (g2 := w.heap.size) (by have := LK.out; omega) 0 (.bool s7a)).other (g2 := w.heap.size) (by have := LK.out; omega) 1 (.slice p7a n7a c7a)).other (g2 := w.heap.size) (by have := LK.out; omega) 2 (.bool s7b)).other (g2 := w.heap.size) (by have := LK.out; omega) 3 (.slice p7b n7b c7b))
  replace XM := hid ((((XM.out.other (g2 := w.heap.size) (by have := LK.out; omega) 0 (.bool s7a)).other (g2 := w.heap.size) (by have := LK.out; omega) 1 (.slice p7a n7a c7a)).other (g2 := w.heap.size) (by have := LK.out; omega) 2 (.bool s7b)).other (g2 := w.heap.size) (by have := LK.out; omega) 3 (.slice p7b n7b c7b))
  replace HTl := hid (r27c HTl.out)
  replace HUl := hid (r27c HUl.out)
  replace HTh := hid (r27c HTh.out)
  replace HUh := hid (r27c HUh.out)
  replace HTm := hid (r27c HTm.out)
  replace HUm := hid (r27c HUm.out)
  replace HT7 := hid (r27c HT7.out)
  replace HU7 := hid (r27c HU7.out)
  replace XR := hid r27a
  replace B := hid r27b
  clear r27a r27b r27c
  go_wp2_with fail
  refine bodyPost_ret (res_frc rfl rfl XR.out) rfl ?_
  have hk := LK.out
  exact ⟨_, rfl, Frc.mk2 HT7.out HU7.out, ⟨hk.1, hk.2.1, hk.2.2.1, ⟨_, _, _, _, _, _, _, _, XL.out, HTl.out, HUl.out⟩, ⟨_, _, _, _, _, _, _, _, XH.out, HTm.out, HUm.out⟩, ⟨_, _, _, _, _, _, _, _, XM.out, HT7.out, HU7.out⟩⟩, C.out, B.out⟩

set_option maxHeartbeats 4000000 in
theorem step_R {w : World} {K gl gh gm : Nat} {s : Bnd} {x : UInt8} {c : Int} (hx : x ≠ 76) (hc : ¬ c = 76) (h : Tri w K gl gh gm s) (hs : (stp s x).m ≤ 2147483648 ∧ (stp s x).n ≤ 2147483648) :
    Calls Tryz.prog 51 #[.int .u8 c, .pointer (some ⟨gm, 0, none⟩), .pointer (some ⟨gh, 0, none⟩), .pointer (some ⟨gl, 0, none⟩)] w fun e w' => ∃ v, e = .returned v ∧ Frc w' v (stp s x).m (stp s x).n 1 ∧ Tri w' K gl gh gm (stp s x) ∧ But3 w w' gl gh gm ∧ Below K w w' := by
  obtain ⟨h1, h2, h3, ⟨sla, pla, nla, cla, slb, plb, nlb, clb, xl, hla, hlb⟩, ⟨sha, pha, nha, cha, shb, phb, nhb, chb, xh, hha, hhb⟩, ⟨sma, pma, nma, cma, smb, pmb, nmb, cmb, xm, hma, hmb⟩⟩ := h
  have LK := hid (show K ≤ gl ∧ gl < gh ∧ gh < gm ∧ gm < w.heap.size from ⟨h1, h2, h3, xm.lt⟩)
  have HKW := hid (show K ≤ w.heap.size by have := LK.out; omega)
  have HF := hid hs
  have XL := hid xl
  have HTl := hid hla
  have HUl := hid hlb
  have XH := hid xh
  have HTh := hid hha
  have HUh := hid hhb
  have XM := hid xm
  have HTm := hid hma
  have HUm := hid hmb
  have B := hid (Below.refl K w)
  have C := hid (But3.refl w gl gh gm)
  have HX := hid hx
  have hcb : (c == 76) = false := by simpa using hc
  clear hc
  clear h1 h2 h3 xl hla hlb xh hha hhb xm hma hmb hs hx
  have hb1 := (Below.refl _ _).alloc (Nat.le_refl w.heap.size) (.cells #[.bool false, .slice none 0 0, .bool false, .slice none 0 0] 66)
  have hx2 := Fbx.new w false false (.slice none 0 0) (.slice none 0 0)
  replace XL := fx XL hb1
  replace XH := fx XH hb1
  replace XM := fx XM hb1
  replace HTl := wl HTl hb1
  replace HUl := wl HUl hb1
  replace HTh := wl HTh hb1
  replace HUh := wl HUh hb1
  replace HTm := wl HTm hb1
  replace HUm := wl HUm hb1
  replace B := bK HKW.out B hb1
  replace C := hid (C.out.below hb1)
  have XR := hid hx2
  have hs3 : (w.alloc (.cells #[.bool false, .slice none 0 0, .bool false, .slice none 0 0] 66)).heap.size = w.heap.size + 1 := by simp
  clear hb1 hx2
  clear hs3 
  go_enter Tryz.func51, Tryz.ntmps51
  obtain ⟨cc4a, cc4b, cc4c, cc4d⟩ := XL.out.cells
  obtain ⟨cc5a, cc5b, cc5c, cc5d⟩ := XH.out.cells
  obtain ⟨cc6a, cc6b, cc6c, cc6d⟩ := XM.out.cells
  obtain ⟨cc7a, cc7b, cc7c, cc7d⟩ := XR.out.cells
  obtain ⟨⟨cc8a, cc8b⟩, ⟨cc8c, cc8d⟩, ⟨cc8e, cc8f⟩, cc8g, cc8h⟩ := XL.out.stores
  obtain ⟨r9a, r9b, r9c⟩ := XL.out.last B.out (by have := LK.out; omega) sma smb pma pmb nma nmb cma cmb
  replace C := hid (C.out.set4 (by omega) XL.out sma smb pma pmb nma nmb cma cmb)
  replace XH := hid ((((XH.out.other (g2 := gl) (by have := LK.out; omega) 0 (.bool sma)).other (g2 := gl) (by have := LK.out; omega) 1 (.slice pma nma cma)).other (g2 := gl) (by have := LK.out; omega) 2 (.bool smb)).other (g2 := gl) (by have := LK.out; omega) 3 (.slice pmb nmb cmb))
  replace XM := hid ((((XM.out.other (g2 := gl) (by have := LK.out; omega) 0 (.bool sma)).other (g2 := gl) (by have := LK.out; omega) 1 (.slice pma nma cma)).other (g2 := gl) (by have := LK.out; omega) 2 (.bool smb)).other (g2 := gl) (by have := LK.out; omega) 3 (.slice pmb nmb cmb))
  replace XR := hid ((((XR.out.other (g2 := gl) (by have := LK.out; omega) 0 (.bool sma)).other (g2 := gl) (by have := LK.out; omega) 1 (.slice pma nma cma)).other (g2 := gl) (by have := LK.out; omega) 2 (.bool smb)).other (g2 := gl) (by have := LK.out; omega) 3 (.slice pmb nmb cmb))
  replace HTl := hid (r9c HTl.out)
  replace HUl := hid (r9c HUl.out)
  replace HTh := hid (r9c HTh.out)
  replace HUh := hid (r9c HUh.out)
  replace HTm := hid (r9c HTm.out)
  replace HUm := hid (r9c HUm.out)
  replace XL := hid r9a
  replace B := hid r9b
  clear r9a r9b r9c
  obtain ⟨cc10a, cc10b, cc10c, cc10d⟩ := XL.out.cells
  obtain ⟨cc11a, cc11b, cc11c, cc11d⟩ := XH.out.cells
  obtain ⟨cc12a, cc12b, cc12c, cc12d⟩ := XM.out.cells
  obtain ⟨cc13a, cc13b, cc13c, cc13d⟩ := XR.out.cells
  go_wp2_with fail
  generalize hW : ((((w.alloc (.cells #[.bool false, .slice none 0 0, .bool false, .slice none 0 0] 66)).setCell ⟨gl, 0, none⟩ (.bool sma)).setCell ⟨gl, 1, none⟩ (.slice pma nma cma)).setCell ⟨gl, 2, none⟩ (.bool smb)).setCell ⟨gl, 3, none⟩ (.slice pmb nmb cmb) = W14 at *
  clear hW
  have e1 : (s.m : Int) + (s.c : Int) = ((stp s x).m : Nat) := by rw [stp_R HX.out]; simp [Bnd.m]
  have e2 : (s.n : Int) + (s.d : Int) = ((stp s x).n : Nat) := by rw [stp_R HX.out]; simp [Bnd.n]
  refine (mediant_frc (Frc.mk2 HTm.out HUm.out) (Frc.mk2 HTh.out HUh.out) (by decide)).mono ?_
  rintro e w15 ⟨v, rfl, hv, hb⟩
  rw [e1, e2] at hv
  replace hv := hv.fit 1 (nat_fit HF.out.1) (nat_fit HF.out.2)
  obtain ⟨s7a, p7a, n7a, c7a, s7b, p7b, n7b, c7b, rfl⟩ := hv.opened
  obtain ⟨ht7, hu7⟩ := hv.two
  replace XL := fx XL hb
  replace XH := fx XH hb
  replace XM := fx XM hb
  replace XR := fx XR hb
  replace HTl := wl HTl hb
  replace HUl := wl HUl hb
  replace HTh := wl HTh hb
  replace HUh := wl HUh hb
  replace HTm := wl HTm hb
  replace HUm := wl HUm hb
  replace B := bK HKW.out B hb
  replace C := hid (C.out.below hb)
  clear cc4a cc4b cc4c cc4d cc5a cc5b cc5c cc5d cc6a cc6b cc6c cc6d cc7a cc7b cc7c cc7d cc8a cc8b cc8c cc8d cc8e cc8f cc8g cc8h cc10a cc10b cc10c cc10d cc11a cc11b cc11c cc11d cc12a cc12b cc12c cc12d cc13a cc13b cc13c cc13d
  have HT7 := hid ht7
  have HU7 := hid hu7
  clear hb hv ht7 hu7
  clear e1 e2
  obtain ⟨cc16a, cc16b, cc16c, cc16d⟩ := XL.out.cells
  obtain ⟨cc17a, cc17b, cc17c, cc17d⟩ := XH.out.cells
  obtain ⟨cc18a, cc18b, cc18c, cc18d⟩ := XM.out.cells
  obtain ⟨cc19a, cc19b, cc19c, cc19d⟩ := XR.out.cells
  obtain ⟨⟨cc20a, cc20b⟩, ⟨cc20c, cc20d⟩, ⟨cc20e, cc20f⟩, cc20g, cc20h⟩ := XM.out.stores
  obtain ⟨r21a, r21b, r21c⟩ := XM.out.last B.out (by have := LK.out; omega) s7a s7b p7a p7b n7a n7b c7a c7b
  replace C := hid (C.out.set4 (by omega) XM.out s7a s7b p7a p7b n7a n7b c7a c7b)
  replace XL := hid ((((XL.out.other (g2 := gm) (by have := LK.out; omega) 0 (.bool s7a)).other (g2 := gm) (by have := LK.out; omega) 1 (.slice p7a n7a c7a)).other (g2 := gm) (by have := LK.out; omega) 2 (.bool s7b)).other (g2 := gm) (by have := LK.out; omega) 3 (.slice p7b n7b c7b))
  replace XH := hid ((((XH.out.other (g2 := gm) (by have := LK.out; omega) 0 (.bool s7a)).other (g2 := gm) (by have := LK.out; omega) 1 (.slice p7a n7a c7a)).other (g2 := gm) (by have := LK.out; omega) 2 (.bool s7b)).other (g2 := gm) (by have := LK.out; omega) 3 (.slice p7b n7b c7b))
  replace XR := hid ((((XR.out.other (g2 := gm) (by have := LK.out; omega) 0 (.bool s7a)).other (g2 := gm) (by have := LK.out; omega) 1 (.slice p7a n7a c7a)).other (g2 := gm) (by have := LK.out; omega) 2 (.bool s7b)).other (g2 := gm) (by have := LK.out; omega) 3 (.slice p7b n7b c7b))
  replace HTl := hid (r21c HTl.out)
  replace HUl := hid (r21c HUl.out)
  replace HTh := hid (r21c HTh.out)
  replace HUh := hid (r21c HUh.out)
  replace HTm := hid (r21c HTm.out)
  replace HUm := hid (r21c HUm.out)
  replace HT7 := hid (r21c HT7.out)
  replace HU7 := hid (r21c HU7.out)
  replace XM := hid r21a
  replace B := hid r21b
  clear r21a r21b r21c
  obtain ⟨cc22a, cc22b, cc22c, cc22d⟩ := XL.out.cells
  obtain ⟨cc23a, cc23b, cc23c, cc23d⟩ := XH.out.cells
  obtain ⟨cc24a, cc24b, cc24c, cc24d⟩ := XM.out.cells
  obtain ⟨cc25a, cc25b, cc25c, cc25d⟩ := XR.out.cells
  obtain ⟨⟨cc26a, cc26b⟩, ⟨cc26c, cc26d⟩, ⟨cc26e, cc26f⟩, cc26g, cc26h⟩ := XR.out.stores
  obtain ⟨r27a, r27b, r27c⟩ := XR.out.last B.out (by have := LK.out; omega) s7a s7b p7a p7b n7a n7b c7a c7b
  replace C := hid (C.out.set4 (by omega) XR.out s7a s7b p7a p7b n7a n7b c7a c7b)
  replace XL := hid ((((XL.out.other (g2 := w.heap.size) (by have := LK.out; omega) 0 (.bool s7a)).other (g2 := w.heap.size) (by have := LK.out; omega) 1 (.slice p7a n7a c7a)).other (g2 := w.heap.size) (by have := LK.out; omega) 2 (.bool s7b)).other (g2 := w.heap.size) (by have := LK.out; omega) 3 (.slice p7b n7b c7b))
  replace XH := hid ((((XH.out.other (g2 := w.heap.size) (by have := LK.out; omega) 0 (.bool s7a)).other (g2 := w.heap.size) (by have := LK.out; omega) 1 (.slice p7a n7a c7a)).other (g2 := w.heap.size) (by have := LK.out; omega) 2 (.bool s7b)).other (g2 := w.heap.size) (by have := LK.out; omega) 3 (.slice p7b n7b c7b))
  replace XM := hid ((((XM.out.other (g2 := w.heap.size) (by have := LK.out; omega) 0 (.bool s7a)).other (g2 := w.heap.size) (by have := LK.out; omega) 1 (.slice p7a n7a c7a)).other (g2 := w.heap.size) (by have := LK.out; omega) 2 (.bool s7b)).other (g2 := w.heap.size) (by have := LK.out; omega) 3 (.slice p7b n7b c7b))
  replace HTl := hid (r27c HTl.out)
  replace HUl := hid (r27c HUl.out)
  replace HTh := hid (r27c HTh.out)
  replace HUh := hid (r27c HUh.out)
  replace HTm := hid (r27c HTm.out)
  replace HUm := hid (r27c HUm.out)
  replace HT7 := hid (r27c HT7.out)
  replace HU7 := hid (r27c HU7.out)
  replace XR := hid r27a
  replace B := hid r27b
  clear r27a r27b r27c
  go_wp2_with fail
  refine bodyPost_ret (res_frc rfl rfl XR.out) rfl ?_
  have hk := LK.out
  have ht := HT7.out; have hu := HU7.out; rw [stp_R HX.out] at ht hu; rw [stp_R HX.out]
  exact ⟨_, rfl, Frc.mk2 ht hu, ⟨hk.1, hk.2.1, hk.2.2.1, ⟨_, _, _, _, _, _, _, _, XL.out, HTm.out, HUm.out⟩, ⟨_, _, _, _, _, _, _, _, XH.out, HTh.out, HUh.out⟩, ⟨_, _, _, _, _, _, _, _, XM.out, ht, hu⟩⟩, C.out, B.out⟩

theorem step_tri {w : World} {K gl gh gm : Nat} {s : Bnd} (x : UInt8) (h : Tri w K gl gh gm s) (hs : (stp s x).m ≤ 2147483648 ∧ (stp s x).n ≤ 2147483648) :
    Calls Tryz.prog 51 #[.int .u8 x.toNat, .pointer (some ⟨gm, 0, none⟩), .pointer (some ⟨gh, 0, none⟩), .pointer (some ⟨gl, 0, none⟩)] w fun e w' => ∃ v, e = .returned v ∧ Frc w' v (stp s x).m (stp s x).n 1 ∧ Tri w' K gl gh gm (stp s x) ∧ But3 w w' gl gh gm ∧ Below K w w' := by
  by_cases hx : x = 76
  · subst hx; exact step_L h hs
  · refine step_R hx ?_ h hs
    intro e
    apply hx
    apply UInt8.toNat_inj.1
    have e2 : ((76 : UInt8).toNat : Int) = 76 := rfl
    omega

end Go.Proofs.YteephnbfdblgeaaGreatDoor

/-
  PACKAGE farey: At.
-/
namespace Go.Proofs.YteephnbfdblgeaaGreatDoor
open Go.RowKit
open Num
set_option linter.unusedVariables false
set_option maxRecDepth 100000
set_option linter.unusedSimpArgs false

theorem Fat.set4 {w : World} {g' g : Nat} {z y : Int} {k : Nat} {s s' : Bool} {p p' : Option Addr} {n n' c c' : Nat} (h : Fat w g' z y k) (hg : g' ≠ g) (hx : Fbx w g s (.slice p n c) s' (.slice p' n' c')) (a b : Bool) (q q' : Option Addr) (m m' d d' : Nat) :
    Fat ((((w.setCell ⟨g, 0, none⟩ (.bool a)).setCell ⟨g, 1, none⟩ (.slice q m d)).setCell ⟨g, 2, none⟩ (.bool b)).setCell ⟨g, 3, none⟩ (.slice q' m' d')) g' z y k := by
  obtain ⟨t, u, v, x, t', u', v', x', h1, h2, h3⟩ := h
  exact ⟨t, u, v, x, t', u', v', x', (((h1.other hg _ _).other hg _ _).other hg _ _).other hg _ _, (hx.last (Below.refl 0 w) (Nat.zero_le _) a b q q' m m' d d').2.2 h2, (hx.last (Below.refl 0 w) (Nat.zero_le _) a b q q' m m' d d').2.2 h3⟩
theorem Tri.set4 {w : World} {K gl gh gm g : Nat} {b : Bnd} {s s' : Bool} {p p' : Option Addr} {n n' c c' : Nat} (h : Tri w K gl gh gm b) (hg : gm < g ∨ g < gl) (hx : Fbx w g s (.slice p n c) s' (.slice p' n' c')) (a a' : Bool) (q q' : Option Addr) (m m' d d' : Nat) :
    Tri ((((w.setCell ⟨g, 0, none⟩ (.bool a)).setCell ⟨g, 1, none⟩ (.slice q m d)).setCell ⟨g, 2, none⟩ (.bool a')).setCell ⟨g, 3, none⟩ (.slice q' m' d')) K gl gh gm b := by
  obtain ⟨h1, h2, h3, h4, h5, h6⟩ := h
  exact ⟨h1, h2, h3, h4.set4 (by omega) hx _ _ _ _ _ _ _ _, h5.set4 (by omega) hx _ _ _ _ _ _ _ _, h6.set4 (by omega) hx _ _ _ _ _ _ _ _⟩
theorem stp_fit {l : List UInt8} {x : UInt8} (h : l.length < 30) : (stp (wlk bnd0 l) x).m ≤ 2147483648 ∧ (stp (wlk bnd0 l) x).n ≤ 2147483648 := by
  rw [← wlk_snoc]
  obtain ⟨h1, h2, h3, h4⟩ := wlk_small (l := l ++ [x]) (by rw [List.length_append, List.length_singleton]; omega)
  unfold Bnd.m Bnd.n
  omega

set_option maxHeartbeats 4000000 in
theorem at_ok {s : ByteArray} (h : wayE s.data.toList = 0) (w : World) :
    Calls Tryz.prog 17 #[.string s] w fun e w' => e = .returned (.tuple #[.string (qtxt (endq s.data.toList)), .nilIface]) ∧ Below w.heap.size w w' := by
  obtain ⟨hlr, hlen⟩ := wayE_zero h
  have hsz : s.data.toList.length = s.size := by simp
  have hn30 : s.size ≤ 30 := by omega
  have H1 := checkWay_any s w (by unfold maxLen; omega)
  rw [h] at H1
  replace H1 := hid H1
  have HSZ := hid hsz
  have hne := errv_neq
  have hgd := errv_guard
  clear h hlr hlen hsz
  go_enter Tryz.func17, Tryz.ntmps17
  go_wp2_with fail
  refine (H1.out).mono ?_
  rintro e w' ⟨rfl, rfl⟩
  clear H1
  go_wp2_with fail
  refine (descent_tri w).mono ?_
  rintro e w1 ⟨v, gl, gh, gm, rfl, hv, ht, hb⟩
  obtain ⟨s1a, p1a, n1a, c1a, s1b, p1b, n1b, c1b, rfl⟩ := hv.opened
  obtain ⟨ht1, hu1⟩ := hv.two
  have B := hid hb
  have TR := hid ht
  have HT1 := hid ht1
  have HU1 := hid hu1
  have LG := hid (show w.heap.size < gl ∧ gl < gh ∧ gh < gm ∧ gm < w1.heap.size from ⟨ht.1, ht.2.1, ht.2.2.1, ht.lt⟩)
  clear hv ht hb ht1 hu1
  have hb1 := (Below.refl _ _).alloc (Nat.le_refl w1.heap.size) (.cells #[.bool s1a, .slice p1a n1a c1a, .bool s1b, .slice p1b n1b c1b] 66)
  have hx2 := Fbx.new w1 s1a s1b (.slice p1a n1a c1a) (.slice p1b n1b c1b)
  replace HT1 := wl HT1 hb1
  replace HU1 := wl HU1 hb1
  replace B := bb B hb1
  replace TR := hid (TR.out.on hb1)
  have XH := hid hx2
  have hs3 : (w1.alloc (.cells #[.bool s1a, .slice p1a n1a c1a, .bool s1b, .slice p1b n1b c1b] 66)).heap.size = w1.heap.size + 1 := by simp
  clear hb1 hx2
  obtain ⟨cc4a, cc4b, cc4c, cc4d⟩ := XH.out.cells
  go_wp2_with fail
  clear cc4a cc4b cc4c cc4d
  generalize hG : w1.heap.size = G at *
  clear hG
  go_loopw [19] (fun i wr => ∃ (k : Nat) (sha : Bool) (pha : Option Addr) (nha cha : Nat) (shb : Bool) (phb : Option Addr) (nhb chb : Nat), k ≤ s.size ∧ i = .int .i64 k ∧ Hid (Fbx wr G sha (.slice pha nha cha) shb (.slice phb nhb chb)) ∧ Hid (Whl wr (.agg #[.bool sha, .slice pha nha cha]) (wlk bnd0 (s.data.toList.take k)).m 1) ∧ Hid (Whl wr (.agg #[.bool shb, .slice phb nhb chb]) (wlk bnd0 (s.data.toList.take k)).n 1) ∧ Hid (Tri wr (w.heap.size + 1) gl gh gm (wlk bnd0 (s.data.toList.take k))) ∧ Hid (Below w.heap.size w wr)) (fun i _ => s.size - (intOf i).toNat)
  case atStart => exact ⟨0, _, _, _, _, _, _, _, _, Nat.zero_le _, rfl, XH, HT1, HU1, TR, B⟩
  case round =>
    obtain ⟨k, sha, pha, nha, cha, shb, phb, nhb, chb, hk, rfl, XH, HTh, HUh, TR, B⟩ := hrel
    by_cases hlt : k < s.size
    · have hstep : wlk bnd0 (s.data.toList.take (k + 1)) = stp (wlk bnd0 (s.data.toList.take k)) s[k] := by rw [take_snoc s k hlt, wlk_snoc]
      have hfit := stp_fit (l := s.data.toList.take k) (x := s[k]) (by rw [List.length_take, HSZ.out]; omega)
      have HST := hid hstep
      have HFI := hid hfit
      clear hstep hfit
      obtain ⟨cc201a, cc201b, cc201c, cc201d⟩ := XH.out.cells
      go_wp2_with fail
      refine (step_tri s[k] TR.out HFI.out).mono ?_
      rintro e w2 ⟨v, rfl, hv, ht, hc, hb⟩
      obtain ⟨s7a, p7a, n7a, c7a, s7b, p7b, n7b, c7b, rfl⟩ := hv.opened
      obtain ⟨ht7, hu7⟩ := hv.two
      have hl := LG.out
      replace XH := hid (hc.fbx XH.out (by omega) (by omega) (by omega))
      clear hl
      replace B := hid (B.out.trans (hb.mono (Nat.le_succ _)))
      replace TR := hid ht
      have HT7 := hid ht7
      have HU7 := hid hu7
      clear hv ht hc hb ht7 hu7 HTh HUh cc201a cc201b cc201c cc201d
      obtain ⟨cc202a, cc202b, cc202c, cc202d⟩ := XH.out.cells
      obtain ⟨⟨cc203a, cc203b⟩, ⟨cc203c, cc203d⟩, ⟨cc203e, cc203f⟩, cc203g, cc203h⟩ := XH.out.stores
      obtain ⟨r204a, r204b, r204c⟩ := XH.out.last B.out (by have := LG.out; omega) s7a s7b p7a p7b n7a n7b c7a c7b
      replace TR := hid (TR.out.set4 (by have := LG.out; omega) XH.out s7a s7b p7a p7b n7a n7b c7a c7b)
      replace HT7 := hid (r204c HT7.out)
      replace HU7 := hid (r204c HU7.out)
      replace XH := hid r204a
      replace B := hid r204b
      clear r204a r204b r204c
      go_wp2_with fail
      go_roundw
      case rel => exact ⟨k + 1, _, _, _, _, _, _, _, _, by omega, by go_num, XH, hid (by rw [HST.out]; exact HT7.out), hid (by rw [HST.out]; exact HU7.out), hid (by rw [HST.out]; exact TR.out), B⟩
      case measure => simp [intOf]; omega
    · obtain rfl : k = s.size := by omega
      have hall : s.data.toList.take s.size = s.data.toList := List.take_of_length_le (by rw [HSZ.out]; exact Nat.le_refl _)
      rw [hall] at HTh HUh
      clear hall
      have HN := hid (show ((wlk bnd0 s.data.toList).n : Int) ≠ 0 by have := (uni0.wlk s.data.toList).mpos; omega)
      obtain ⟨cc301a, cc301b, cc301c, cc301d⟩ := XH.out.cells
      go_wp2_with fail
      refine (fstring_frc (Frc.mk2 HTh.out HUh.out) HN.out (by decide)).mono ?_
      rintro e w302 ⟨rfl, hb⟩
      replace B := bb B hb
      clear cc301a cc301b cc301c cc301d
      clear hb 
      go_wp2_with fail
      go_ret2
      exact ⟨rfl, B.out⟩

set_option maxHeartbeats 1000000 in
theorem at_bad {s : ByteArray} (hs : s.size ≤ maxLen) (h : wayE s.data.toList ≠ 0) (w : World) :
    Calls Tryz.prog 17 #[.string s] w fun e w' => e = .returned (.tuple #[.string ⟨#[]⟩, errv (wayE s.data.toList)]) ∧ Below w.heap.size w w' := by
  have H1 := hid (checkWay_any s w hs)
  have hne := errv_neq
  have hgd := errv_guard
  generalize wayE s.data.toList = k at *
  have hk : (k != 0) = true := by simpa using h
  go_enter Tryz.func17, Tryz.ntmps17
  go_wp2_with fail
  refine (H1.out).mono ?_
  rintro e w' ⟨rfl, rfl⟩
  clear H1
  go_wp2_with fail
  go_ret2
  exact ⟨rfl, Below.refl _ _⟩

def AtTells (way s : ByteArray) (k : Int) : Prop :=
  (k = 0 ∧ LR way.data.toList ∧ way.data.toList.length ≤ 30 ∧ s = qtxt (endq way.data.toList)) ∨ (k ≠ 0 ∧ k = wayE way.data.toList ∧ s = ⟨#[]⟩)
theorem ten_pow : (1073741824 + 1073741824 : Nat) < 10 ^ 10 := by decide +kernel
theorem endq_size {l : List UInt8} (h : l.length ≤ 30) : (qtxt (endq l)).size ≤ 23 := by
  obtain ⟨h1, h2, h3, h4⟩ := wlk_small h
  have h5 := ten_pow
  refine size_qtxt 10 (by decide) ?_ ?_
  · rw [(endq_parts l).1]; unfold Bnd.m; omega
  · rw [(endq_parts l).2]; unfold Bnd.n; omega
theorem endq_good {l : List UInt8} (h : l.length ≤ 30) : GoodQ (qtxt (endq l)) := ⟨Nat.le_trans (endq_size h) (by decide), isRat_qtxt _⟩
theorem at_any (way : ByteArray) (hs : way.size ≤ maxLen) (w : World) :
    Calls Tryz.prog 17 #[.string way] w fun e w' => ∃ s k, e = .returned (.tuple #[.string s, errv k]) ∧ AtTells way s k ∧ s.size ≤ maxLen ∧ Below w.heap.size w w' := by
  by_cases h : wayE way.data.toList = 0
  · refine (at_ok h w).mono ?_
    rintro e w' ⟨rfl, hb⟩
    obtain ⟨h1, h2⟩ := wayE_zero h
    exact ⟨_, 0, rfl, .inl ⟨rfl, h1, h2, rfl⟩, Nat.le_trans (endq_size h2) (by decide), hb⟩
  · refine (at_bad hs h w).mono ?_
    rintro e w' ⟨rfl, hb⟩
    exact ⟨_, _, rfl, .inr ⟨h, rfl, rfl⟩, Nat.zero_le _, hb⟩

end Go.Proofs.YteephnbfdblgeaaGreatDoor

/-
  PACKAGE farey: bytes of the call's own.
-/
namespace Go.Proofs.YteephnbfdblgeaaGreatDoor
open Go.RowKit
open Num
set_option linter.unusedVariables false
set_option maxRecDepth 100000
set_option linter.unusedSimpArgs false

/-- No limb. -/
def N8 (u : Value) : Prop := ∀ z, u ≠ .int .u32 z
/-- A block without limbs. -/
def No32 (w : World) (g : Nat) : Prop := ∀ cur T f, w.heap[g]? = some (.cells cur T f) → ∀ u ∈ cur.toList, N8 u
theorem No32.below {w w' : World} {g K : Nat} (h : No32 w g) (hb : Below K w w') (hg : g < K) : No32 w' g := by
  intro cur T f e
  rw [hb.block g hg] at e
  exact h _ _ _ e
theorem Lim.grown8 {w w' : World} {v : Value} {xs : List Nat} {g : Nat} (h : Lim w v xs) (hn : No32 w g) (hg : w.grownBy w' (some g)) : Lim w' v xs := by
  obtain ⟨h1, p, c, h2, h3, h4, h5⟩ := h
  refine ⟨h1, p, c, h2, h3, h4, ?_⟩
  rcases h5 with h5 | ⟨b, off, h6, h7, h8⟩
  · exact .inl h5
  · refine .inr ⟨b, off, h6, Nat.lt_of_lt_of_le h7 hg.size, fun i hi => ?_⟩
    have h9 := h8 i hi
    by_cases hb : b = g
    · exfalso
      subst hb
      simp only [World.cell?] at h9
      split at h9
      · rename_i cur T f e
        have := hn cur T f e _ (by have := Array.mem_of_getElem? h9; simpa using this)
        exact this _ rfl
      all_goals simp at h9
    · rw [← h9]
      exact World.cell?_of_block (hg.block b h7 (by simpa using hb))
theorem No32.new (w : World) (cs : Array Value) (T : TypeId) (h : ∀ u ∈ cs.toList, N8 u) : No32 (w.alloc (.cells cs T)) w.heap.size := by
  intro cur T' f e
  rw [heap_alloc_new] at e
  cases e
  exact h

section
variable {P : Program}
/-- 'append' onto a row of the call's own that holds no limbs. -/
theorem append_n8 (w : World) (base : Nat) (t ty e : TypeId) (i : TypeInfo) (z : Value) (size bytes : Nat) (ht : P.underlying t = some (.slice e)) (hi : P.info? e = some i) (hz : i.zero = some z)
    (hsize : i.size = size) (hby : i.bytes = bytes) (hzs : z.cells.size = size) (hsz : 0 < size)
    (v : Value) (n : Nat) (xs : List Value) (hown : w.ownsRow base e size v n xs) (hC : ∀ g, v.ownBlock = some g → No32 w g) (hzC : ∀ u ∈ z.cells.toList, N8 u)
    (a : Addr) (m c : Nat) (news : List Value) (hl : news.length = m * size) (hnews : ∀ j u, news[j]? = some u → w.cell? (a.add j) = some u) (h1 : ∀ u ∈ news, u.oneCell' = true) (hnC : ∀ u ∈ news, N8 u)
    (h63 : n + m ≤ maxLen) (hbytes : (n + m) * bytes ≤ 140737488355328) (hbase : base ≤ w.heap.size) :
    ∃ v' w', (Builtin.append_ #[t, t] ty #[v, .slice (some a) m c]).run P w = .ok v' w' ∧ w'.ownsRow base e size v' (n + m) (xs ++ news) ∧ w.grownBy w' v.ownBlock ∧ (∀ g, v'.ownBlock = some g → No32 w' g) := by
  obtain ⟨v', w', hr, h2, h3, h4⟩ := run_append_own (P := P) w base t ty e i z size bytes ht hi hz hsize hby hzs hsz v n xs hown a m c news hl hnews h1 h63 hbytes hbase
  refine ⟨v', w', hr, h2, h3, ?_⟩
  subst hsize hby
  have hsmall : n + m ≤ 9223372036854775807 := by simp only [maxLen] at h63; omega
  have hzr : ∀ k, ∀ u ∈ (Builtin.zeroCells z.cells k).toList, N8 u := by
    intro k u hu
    simp only [Builtin.zeroCells] at hu
    apply hzC
    simp at hu
    obtain ⟨j, hj, rfl⟩ := hu
    have hp : j % z.cells.size < z.cells.size := Nat.mod_lt _ (by
      rcases Nat.eq_zero_or_pos z.cells.size with h0 | h0
      · rw [h0] at hj; simp at hj
      · exact h0)
    rw [getElem!_pos z.cells _ hp]
    simp
  rcases hown.2 with ⟨rfl, rfl⟩ | ⟨g, cap, cur, rfl, hbg, hg, hnc, hcm, hcs, htake⟩
  · by_cases hm : m = 0
    · subst hm
      obtain rfl := h4.2 ⟨rfl, rfl⟩
      intro g hg
      simp [Value.ownBlock] at hg
    · have hr' := run_append_nil (P := P) w t ty e i z ht hi hz a m c news hl hnews (by omega) (by omega) (by have hb := hbytes; simp only [Nat.zero_add] at hb; omega)
      rw [hr'] at hr
      cases hr
      intro g hg
      simp [Value.ownBlock] at hg
      subst hg
      refine No32.new w.drew _ _ fun u hu => ?_
      rw [Array.toList_append] at hu
      rcases List.mem_append.1 hu with hu | hu
      · exact hnC u (by simpa using hu)
      · exact hzr _ u hu
  · have hng := hC g rfl
    by_cases hroom : n + m ≤ cap
    · have hfit : n * i.size + news.length ≤ cur.size := by rw [hl, hcs, ← Nat.add_mul]; exact Nat.mul_le_mul_right _ hroom
      have hr' := run_append_room (P := P) w t ty e i ht hi g n cap cur hg a m c news hl hnews h1 hroom hfit
      rw [hr'] at hr
      cases hr
      intro g' hg'
      simp [Value.ownBlock] at hg'
      subst hg'
      intro cur' T f e'
      rw [setRow_heap w g cur _ e _ hg] at e'
      cases e'
      intro u hu
      have hcu := hng cur e _ hg
      rcases List.mem_append.1 hu with hu | hu
      · rcases List.mem_append.1 hu with hu | hu
        · exact hcu u (List.mem_of_mem_take hu)
        · exact hnC u hu
      · exact hcu u (List.mem_of_mem_drop hu)
    · have holds : ∀ j u, xs[j]? = some u → w.cell? ((⟨g, 0, none⟩ : Addr).add j) = some u := hown.cells (g := g) rfl
      have hr' := run_append_grow (P := P) w t ty e i z ht hi hz ⟨g, 0, none⟩ n cap xs hown.1 holds a m c news hl hnews (by omega) (by omega) (growslice_fits (by omega) hbytes)
      rw [hr'] at hr
      cases hr
      intro g' hg'
      simp [Value.ownBlock] at hg'
      subst hg'
      have hcu := hng cur e _ hg
      refine No32.new w.drew _ _ fun u hu => ?_
      rw [Array.toList_append] at hu
      rcases List.mem_append.1 hu with hu | hu
      · rw [Array.toList_append] at hu
        rcases List.mem_append.1 hu with hu | hu
        · exact hcu u (by rw [← htake] at hu; exact List.mem_of_mem_take hu)
        · exact hnC u (by simpa using hu)
      · exact hzr _ u hu
theorem wpList_append_n8 {w : World} {ops : Array Oper} {rest : List Oper} {o : Oper} {a : Act} {Q : Exit → Act → World → Prop} (hgd : o.guard = none) (s x : Operand) (t : TypeId)
    (ho : o.op = .call { callee := .builtin .append, args := #[s, x], argTypes := #[t, t] })
    (base : Nat) (e : TypeId) (i : TypeInfo) (z : Value) (size bytes : Nat) (ht : P.underlying t = some (.slice e)) (hi : P.info? e = some i) (hz : i.zero = some z)
    (hsize : i.size = size) (hby : i.bytes = bytes) (hzs : z.cells.size = size) (hsz : 0 < size)
    (v : Value) (n : Nat) (xs : List Value) (hs : a.eval s = v) (hown : w.ownsRow base e size v n xs) (hC : ∀ g, v.ownBlock = some g → No32 w g) (hzC : ∀ u ∈ z.cells.toList, N8 u)
    (ad : Addr) (m c : Nat) (news : List Value) (hx : a.eval x = .slice (some ad) m c) (hl : news.length = m * size) (hnews : ∀ j u, news[j]? = some u → w.cell? (ad.add j) = some u) (h1 : ∀ u ∈ news, u.oneCell' = true) (hnC : ∀ u ∈ news, N8 u)
    (h63 : n + m ≤ maxLen) (hbytes : (n + m) * bytes ≤ 140737488355328) (hbase : base ≤ w.heap.size)
    (h : ∀ v' w', w'.ownsRow base e size v' (n + m) (xs ++ news) → w.grownBy w' v.ownBlock → (∀ g, v'.ownBlock = some g → No32 w' g) → wpList P ops Q rest (a.put o.dst v') w') : wpList P ops Q (o :: rest) a w :=
  wpList_plain hgd fun K hK => by
    obtain ⟨v', w', hr, h2, h3, h4⟩ := append_n8 (P := P) w base t o.type e i z size bytes ht hi hz hsize hby hzs hsz v n xs hown hC hzC ad m c news hl hnews h1 hnC h63 hbytes hbase
    unfold Oper.wp execOp
    simp only [ho, resolve, invoke, builtin, Sem.run_bind, Sem.run_pure, Result.andThen_ok, List.map_toArray, List.map_cons, List.map_nil, hs, hx, hr]
    exact hK _ _ (h v' w' h2 h3 h4)
end

theorem N8.byte (z : Int) : N8 (.int .u8 z) := fun _ h => by cases h
/-- A byte's value. -/
def bv (c : UInt8) : Value := .int .u8 (c.toNat : Int)
/-- Bytes of the call's own. -/
def OwnB (w : World) (K : Nat) (v : Value) (bs : List UInt8) : Prop := w.ownsRow K 5 1 v bs.length (bs.map bv) ∧ ∀ g, v.ownBlock = some g → No32 w g
theorem OwnB.nil (w : World) (K : Nat) : OwnB w K (.slice none 0 0) [] := ⟨World.ownsRow_nil w K _ 1, fun g h => by simp [Value.ownBlock] at h⟩
theorem OwnB.opened {w : World} {K : Nat} {v : Value} {bs : List UInt8} (h : OwnB w K v bs) : ∃ p c, v = .slice p bs.length c := by
  rcases h.1.2 with ⟨rfl, h0⟩ | ⟨g, cap, cur, rfl, _⟩
  · exact ⟨none, 0, by rw [h0]⟩
  · exact ⟨_, _, rfl⟩
theorem OwnB.lt {w : World} {K : Nat} {v : Value} {bs : List UInt8} (h : OwnB w K v bs) {g : Nat} (hg : v.ownBlock = some g) : K ≤ g ∧ g < w.heap.size := by
  rcases h.1.2 with ⟨rfl, h0⟩ | ⟨g', cap, cur, rfl, hK, h1, _⟩
  · simp [Value.ownBlock] at hg
  · simp [Value.ownBlock] at hg
    subst hg
    exact ⟨hK, lt_of_block h1⟩
theorem OwnB.same {w w' : World} {K : Nat} {v : Value} {bs : List UInt8} (h : OwnB w K v bs) (hk : ∀ g, v.ownBlock = some g → w'.heap[g]? = w.heap[g]?) : OwnB w' K v bs := by
  refine ⟨⟨h.1.1, ?_⟩, fun g hg => ?_⟩
  · rcases h.1.2 with h0 | ⟨g, cap, cur, rfl, hK, h1, h2⟩
    · exact .inl h0
    · exact .inr ⟨g, cap, cur, rfl, hK, (hk g rfl).trans h1, h2⟩
  · intro cur T f e
    rw [hk g hg] at e
    exact h.2 g hg cur T f e
theorem OwnB.on {w w' : World} {K : Nat} {v : Value} {bs : List UInt8} (h : OwnB w K v bs) (hb : Below w.heap.size w w') : OwnB w' K v bs := h.same fun g hg => hb.block g (h.lt hg).2
theorem OwnB.ne {w : World} {K : Nat} {v : Value} {bs : List UInt8} {g : Nat} {cs : Array Value} {t : TypeId} {f : Nat × Nat} (h : OwnB w K v bs) (hg : w.heap[g]? = some (.cells cs t f)) (ht : t ≠ 5) : v.ownBlock ≠ some g := by
  intro e
  rcases h.1.2 with ⟨rfl, _⟩ | ⟨g', cap, cur, rfl, _, h1, _⟩
  · simp [Value.ownBlock] at e
  · simp [Value.ownBlock] at e
    subst e
    rw [hg] at h1
    cases h1
    exact ht rfl
theorem OwnB.neF {w : World} {K : Nat} {v : Value} {bs : List UInt8} {g : Nat} {s s' : Bool} {sv sv' : Value} (h : OwnB w K v bs) (hx : Fbx w g s sv s' sv') : v.ownBlock ≠ some g := h.ne hx (by decide)
theorem OwnB.set4 {w : World} {K : Nat} {v : Value} {bs : List UInt8} {g : Nat} {s s' : Bool} {sv sv' : Value} (h : OwnB w K v bs) (hx : Fbx w g s sv s' sv') (a b c d : Value) : OwnB ((((w.setCell ⟨g, 0, none⟩ a).setCell ⟨g, 1, none⟩ b).setCell ⟨g, 2, none⟩ c).setCell ⟨g, 3, none⟩ d) K v bs :=
  h.same fun j hj => set4_block w g j (fun e => h.neF hx (by rw [hj, e])) a b c d
theorem OwnB.but3 {w w' : World} {K K2 gl gh gm : Nat} {v : Value} {bs : List UInt8} {s : Bnd} (h : OwnB w K v bs) (ht : Tri w K2 gl gh gm s) (hc : But3 w w' gl gh gm) : OwnB w' K v bs := by
  obtain ⟨_, _, _, ⟨_, _, _, _, _, _, _, _, h1, _⟩, ⟨_, _, _, _, _, _, _, _, h2, _⟩, ⟨_, _, _, _, _, _, _, _, h3, _⟩⟩ := ht
  exact h.same fun j hj => hc.2.1 j (h.lt hj).2 (fun e => h.neF h1 (by rw [hj, e])) (fun e => h.neF h2 (by rw [hj, e])) (fun e => h.neF h3 (by rw [hj, e]))
theorem Whl.own8 {w w' : World} {v u : Value} {z : Int} {k K : Nat} {bs : List UInt8} (h : Whl w v z k) (ho : OwnB w K u bs) (hg : w.grownBy w' u.ownBlock) : Whl w' v z k := by
  obtain ⟨s, sv, xs, h1, h2, h3⟩ := h
  refine ⟨s, sv, xs, h1, ?_, h3⟩
  cases hu : u.ownBlock with
  | none =>
    rw [hu] at hg
    exact h2.below (K := w.heap.size) ⟨hg.os, hg.tape, hg.output, hg.size, fun b hb => hg.block b hb (by simp)⟩ (Nat.le_refl _)
  | some g =>
    rw [hu] at hg
    exact h2.grown8 (ho.2 g hu) hg
theorem Fbx.own8 {w w' : World} {g K : Nat} {u : Value} {s s' : Bool} {sv sv' : Value} {bs : List UInt8} (h : Fbx w g s sv s' sv') (ho : OwnB w K u bs) (hg : w.grownBy w' u.ownBlock) : Fbx w' g s sv s' sv' := (hg.block g h.lt (ho.neF h).symm).trans h
theorem Fat.own8 {w w' : World} {g K k : Nat} {u : Value} {z y : Int} {bs : List UInt8} (h : Fat w g z y k) (ho : OwnB w K u bs) (hg : w.grownBy w' u.ownBlock) : Fat w' g z y k := by
  obtain ⟨s, p, n, c, s', p', n', c', h1, h2, h3⟩ := h
  exact ⟨s, p, n, c, s', p', n', c', h1.own8 ho hg, h2.own8 ho hg, h3.own8 ho hg⟩
theorem Tri.own8 {w w' : World} {K K2 gl gh gm : Nat} {u : Value} {s : Bnd} {bs : List UInt8} (h : Tri w K gl gh gm s) (ho : OwnB w K2 u bs) (hg : w.grownBy w' u.ownBlock) : Tri w' K gl gh gm s := by
  obtain ⟨h1, h2, h3, h4, h5, h6⟩ := h
  exact ⟨h1, h2, h3, h4.own8 ho hg, h5.own8 ho hg, h6.own8 ho hg⟩
theorem OwnB.grown {w0 w w' : World} {K : Nat} {u : Value} {bs : List UInt8} (ho : OwnB w K u bs) (hb : Below K w0 w) (hK : K ≤ w.heap.size) (hg : w.grownBy w' u.ownBlock) : Below K w0 w' :=
  hb.grown hg hK fun g h => (ho.lt h).1
theorem OwnB.str {w : World} {K : Nat} {v : Value} {bs : List UInt8} (h : OwnB w K v bs) : (convert 91 9 v).run Tryz.prog w = .ok (.string ⟨bs.toArray⟩) w := by
  rcases h.1.2 with ⟨rfl, h0⟩ | ⟨g, cap, cur, rfl, hK, h1, h2, h3, h4, h5⟩
  · obtain rfl := List.length_eq_zero_iff.1 h0
    exact run_convert_bytes_nil w 91 5 Tryz.underlying91 Tryz.underlying5 0 0 9 Tryz.underlying9
  · refine run_convert_bytes_back w _ _ _ ⟨g, 0, none⟩ cap bs Tryz.underlying91 Tryz.underlying5 Tryz.underlying9 (fun j hj => ?_)
    have e : ((⟨g, 0, none⟩ : Addr).add j) = ⟨g, j, none⟩ := by unfold Addr.add; split <;> simp_all
    rw [e]
    have h6 : (bs.map bv)[j]? = some (.int .u8 (bs[j].toNat : Int)) := by simp [bv, hj]
    rw [← h5, List.getElem?_take, Nat.mul_one, if_pos hj, Array.getElem?_toList] at h6
    simp [World.cell?, h1, h6]
theorem cells_byte (z : Int) : (Value.int .u8 z).cells = #[.int .u8 z] := rfl

end Go.Proofs.YteephnbfdblgeaaGreatDoor

/-
  PACKAGE farey: Mediant.
-/
namespace Go.Proofs.YteephnbfdblgeaaGreatDoor
open Go.RowKit
open Num
set_option linter.unusedVariables false
set_option maxRecDepth 100000
set_option linter.unusedSimpArgs false

set_option maxHeartbeats 4000000 in
theorem qmed_a {a b : ByteArray} {k : Int} (h : BadQ a k) (ha : a.size ≤ maxLen) (w : World) :
    Calls Tryz.prog 10 #[.string a, .string b] w fun e w' => e = .returned (.tuple #[.string ⟨#[]⟩, errno k]) ∧ Below w.heap.size w w' := by
  have hne := errv_neq
  have hgd := errv_guard
  have hkk := errv_some h.ne
  have H1 := hid (qread_bad h w ha)
  have B := hid (Below.refl w.heap.size w)
  clear  h
  go_enter Tryz.func10, Tryz.ntmps10
  go_wp2_with fail
  refine (H1.out).mono ?_
  rintro e w1 ⟨rfl, hb⟩
  replace B := bb B hb
  clear hb H1
  have hb2 := (Below.refl _ _).alloc (Nat.le_refl w1.heap.size) (.cells #[.bool false, .slice none 0 0, .bool false, .slice none 0 0] 62)
  have hx3 := Nbx.new w1 false false (.slice none 0 0) (.slice none 0 0)
  replace B := bb B hb2
  have XA := hid hx3
  have hs4 : (w1.alloc (.cells #[.bool false, .slice none 0 0, .bool false, .slice none 0 0] 62)).heap.size = w1.heap.size + 1 := by simp
  clear hb2 hx3
  obtain ⟨cc5a, cc5b, cc5c, cc5d⟩ := XA.out.cells
  go_wp2_with fail
  go_ret2
  exact ⟨rfl, B.out⟩

set_option maxHeartbeats 4000000 in
theorem qmed_b {a b : ByteArray} {k : Int} (h : GoodQ a) (hd : BadQ b k) (hbs : b.size ≤ maxLen) (w : World) :
    Calls Tryz.prog 10 #[.string a, .string b] w fun e w' => e = .returned (.tuple #[.string ⟨#[]⟩, errno k]) ∧ Below w.heap.size w w' := by
  have hne := errv_neq
  have hgd := errv_guard
  have hkk := errv_some hd.ne
  have H1 := hid (qread_good h w)
  have H2 := hid (fun w => qread_bad hd w hbs)
  have B := hid (Below.refl w.heap.size w)
  clear  h hd
  go_enter Tryz.func10, Tryz.ntmps10
  go_wp2_with fail
  refine (H1.out).mono ?_
  rintro e w1 ⟨v, rfl, hv, hb⟩
  obtain ⟨s1a, p1a, n1a, c1a, s1b, p1b, n1b, c1b, rfl⟩ := hv.opened
  obtain ⟨ht1, d1, hu1, hd1⟩ := hv.two
  have HD1 := hid hd1
  replace B := bb B hb
  have HT1 := hid ht1
  have HU1 := hid hu1
  clear hb hv ht1 hu1 hd1 H1
  have hb2 := (Below.refl _ _).alloc (Nat.le_refl w1.heap.size) (.cells #[.bool s1a, .slice p1a n1a c1a, .bool s1b, .slice p1b n1b c1b] 62)
  have hx3 := Nbx.new w1 s1a s1b (.slice p1a n1a c1a) (.slice p1b n1b c1b)
  replace B := bb B hb2
  have XA := hid hx3
  have hs4 : (w1.alloc (.cells #[.bool s1a, .slice p1a n1a c1a, .bool s1b, .slice p1b n1b c1b] 62)).heap.size = w1.heap.size + 1 := by simp
  clear hb2 hx3
  obtain ⟨cc5a, cc5b, cc5c, cc5d⟩ := XA.out.cells
  go_wp2_with fail
  generalize hW : w1.alloc (.cells #[.bool s1a, .slice p1a n1a c1a, .bool s1b, .slice p1b n1b c1b] 62) = W6 at *
  clear hW
  refine (H2.out _).mono ?_
  rintro e w7 ⟨rfl, hb⟩
  replace XA := nx XA hb
  replace B := bb B hb
  clear cc5a cc5b cc5c cc5d
  clear hb H2
  have hb8 := (Below.refl _ _).alloc (Nat.le_refl w7.heap.size) (.cells #[.bool false, .slice none 0 0, .bool false, .slice none 0 0] 62)
  have hx9 := Nbx.new w7 false false (.slice none 0 0) (.slice none 0 0)
  have L0 := hid XA.out.lt
  replace XA := nx XA hb8
  replace B := bb B hb8
  have XB := hid hx9
  have hs10 : (w7.alloc (.cells #[.bool false, .slice none 0 0, .bool false, .slice none 0 0] 62)).heap.size = w7.heap.size + 1 := by simp
  clear hb8 hx9
  obtain ⟨cc11a, cc11b, cc11c, cc11d⟩ := XA.out.cells
  obtain ⟨cc12a, cc12b, cc12c, cc12d⟩ := XB.out.cells
  go_wp2_with fail
  go_ret2
  exact ⟨rfl, B.out⟩

set_option maxHeartbeats 4000000 in
theorem qmed_ok {a b : ByteArray} (h : GoodQ a) (hd : GoodQ b) (w : World) :
    Calls Tryz.prog 10 #[.string a, .string b] w fun e w' => e = .returned (.tuple #[.string (qtxt (medq (qnum a) (qnum b))), .nilIface]) ∧ Below w.heap.size w w' := by
  have hne := errv_neq
  have hgd := errv_guard
  have H1 := hid (qread_good h w)
  have H2 := hid (fun w => qread_good hd w)
  have HY := hid (show ((qnum a).den : Int) + ((qnum b).den : Int) ≠ 0 by have := (qnum a).den_pos; omega)
  have B := hid (Below.refl w.heap.size w)
  clear  h hd
  go_enter Tryz.func10, Tryz.ntmps10
  go_wp2_with fail
  refine (H1.out).mono ?_
  rintro e w1 ⟨v, rfl, hv, hb⟩
  obtain ⟨s1a, p1a, n1a, c1a, s1b, p1b, n1b, c1b, rfl⟩ := hv.opened
  obtain ⟨ht1, d1, hu1, hd1⟩ := hv.two
  have HD1 := hid hd1
  replace B := bb B hb
  have HT1 := hid ht1
  have HU1 := hid hu1
  clear hb hv ht1 hu1 hd1 H1
  have hb2 := (Below.refl _ _).alloc (Nat.le_refl w1.heap.size) (.cells #[.bool s1a, .slice p1a n1a c1a, .bool s1b, .slice p1b n1b c1b] 62)
  have hx3 := Nbx.new w1 s1a s1b (.slice p1a n1a c1a) (.slice p1b n1b c1b)
  replace HT1 := wl HT1 hb2
  replace HU1 := wl HU1 hb2
  replace B := bb B hb2
  have XA := hid hx3
  have hs4 : (w1.alloc (.cells #[.bool s1a, .slice p1a n1a c1a, .bool s1b, .slice p1b n1b c1b] 62)).heap.size = w1.heap.size + 1 := by simp
  clear hb2 hx3
  obtain ⟨cc5a, cc5b, cc5c, cc5d⟩ := XA.out.cells
  go_wp2_with fail
  generalize hW : w1.alloc (.cells #[.bool s1a, .slice p1a n1a c1a, .bool s1b, .slice p1b n1b c1b] 62) = W6 at *
  clear hW
  refine (H2.out _).mono ?_
  rintro e w7 ⟨v, rfl, hv, hb⟩
  obtain ⟨s2a, p2a, n2a, c2a, s2b, p2b, n2b, c2b, rfl⟩ := hv.opened
  obtain ⟨ht2, d2, hu2, hd2⟩ := hv.two
  have HD2 := hid hd2
  replace XA := nx XA hb
  replace HT1 := wl HT1 hb
  replace HU1 := wl HU1 hb
  replace B := bb B hb
  clear cc5a cc5b cc5c cc5d
  have HT2 := hid ht2
  have HU2 := hid hu2
  clear hb hv ht2 hu2 hd2 H2
  have hb8 := (Below.refl _ _).alloc (Nat.le_refl w7.heap.size) (.cells #[.bool s2a, .slice p2a n2a c2a, .bool s2b, .slice p2b n2b c2b] 62)
  have hx9 := Nbx.new w7 s2a s2b (.slice p2a n2a c2a) (.slice p2b n2b c2b)
  have L0 := hid XA.out.lt
  replace XA := nx XA hb8
  replace HT1 := wl HT1 hb8
  replace HU1 := wl HU1 hb8
  replace HT2 := wl HT2 hb8
  replace HU2 := wl HU2 hb8
  replace B := bb B hb8
  have XB := hid hx9
  have hs10 : (w7.alloc (.cells #[.bool s2a, .slice p2a n2a c2a, .bool s2b, .slice p2b n2b c2b] 62)).heap.size = w7.heap.size + 1 := by simp
  clear hb8 hx9
  obtain ⟨cc11a, cc11b, cc11c, cc11d⟩ := XA.out.cells
  obtain ⟨cc12a, cc12b, cc12c, cc12d⟩ := XB.out.cells
  go_wp2_with fail
  generalize hW : w7.alloc (.cells #[.bool s2a, .slice p2a n2a c2a, .bool s2b, .slice p2b n2b c2b] 62) = W13 at *
  clear hW
  obtain ⟨cc14a, cc14b, cc14c, cc14d⟩ := XA.out.cells
  obtain ⟨cc15a, cc15b, cc15c, cc15d⟩ := XB.out.cells
  replace XA := hid XA.out.dr
  replace XB := hid XB.out.dr
  replace HT1 := hid HT1.out.drew
  replace HU1 := hid HU1.out.drew
  replace HT2 := hid HT2.out.drew
  replace HU2 := hid HU2.out.drew
  replace B := hid (Below.drew B.out)
  obtain ⟨cc16a, cc16b, cc16c, cc16d⟩ := XA.out.cells
  obtain ⟨cc17a, cc17b, cc17c, cc17d⟩ := XB.out.cells
  go_region_held3 (fun w' => w'.cell? ⟨w1.heap.size, 0, none⟩ = some (.bool s1a) ∧ w'.cell? ⟨w1.heap.size, 1, none⟩ = some (.slice p1a n1a c1a) ∧ w'.cell? ⟨w1.heap.size, 2, none⟩ = some (.bool s1b) ∧ w'.cell? ⟨w1.heap.size, 3, none⟩ = some (.slice p1b n1b c1b) ∧ w'.cell? ⟨w7.heap.size, 0, none⟩ = some (.bool s2a) ∧ w'.cell? ⟨w7.heap.size, 1, none⟩ = some (.slice p2a n2a c2a) ∧ w'.cell? ⟨w7.heap.size, 2, none⟩ = some (.bool s2b) ∧ w'.cell? ⟨w7.heap.size, 3, none⟩ = some (.slice p2b n2b c2b)) (go_keep) (first
    | (have hm := mk18_2; clear hm; go_at_call 30; refine (fstring_frc (Frc.mk2 HT5.out HU5.out) HY.out (by decide)).mono ?_; rintro e w28 ⟨rfl, hb⟩; replace XA := nx XA hb; replace XB := nx XB hb; replace B := bb B hb; clear cc26a cc26b cc26c cc26d cc27a cc27b cc27c cc27d; clear hb ; obtain ⟨cc29a, cc29b, cc29c, cc29d⟩ := XA.out.cells; obtain ⟨cc30a, cc30b, cc30c, cc30d⟩ := XB.out.cells; have mk18_3 := hid True.intro)
    | (have hm := mk18_1; clear hm; go_at_call 29; refine (mediant_frc (Frc.mk2 HT3.out HU3.out) (Frc.mk2 HT4.out HU4.out) (by decide)).mono ?_; rintro e w25 ⟨v, rfl, hv, hb⟩; obtain ⟨s5a, p5a, n5a, c5a, s5b, p5b, n5b, c5b, rfl⟩ := hv.opened; obtain ⟨ht5, hu5⟩ := hv.two; replace XA := nx XA hb; replace XB := nx XB hb; replace B := bb B hb; clear cc23a cc23b cc23c cc23d cc24a cc24b cc24c cc24d; have HT5 := hid ht5; have HU5 := hid hu5; clear hb hv ht5 hu5; obtain ⟨cc26a, cc26b, cc26c, cc26d⟩ := XA.out.cells; obtain ⟨cc27a, cc27b, cc27c, cc27d⟩ := XB.out.cells; have mk18_2 := hid True.intro)
    | (have hm := mk18_0; clear hm; go_at_call 28; refine (fractionOf_frc (Rtl.mk2 HT2.out HU2.out HD2.out) (by decide)).mono ?_; rintro e w22 ⟨v, rfl, hv, hb⟩; obtain ⟨s4a, p4a, n4a, c4a, s4b, p4b, n4b, c4b, rfl⟩ := hv.opened; obtain ⟨ht4, hu4⟩ := hv.two; replace XA := nx XA hb; replace XB := nx XB hb; replace HT3 := wl HT3 hb; replace HU3 := wl HU3 hb; replace B := bb B hb; clear cc20a cc20b cc20c cc20d cc21a cc21b cc21c cc21d; have HT4 := hid ht4; have HU4 := hid hu4; clear hb hv ht4 hu4; obtain ⟨cc23a, cc23b, cc23c, cc23d⟩ := XA.out.cells; obtain ⟨cc24a, cc24b, cc24c, cc24d⟩ := XB.out.cells; have mk18_1 := hid True.intro)
    | (go_at_call 28; refine (fractionOf_frc (Rtl.mk2 HT1.out HU1.out HD1.out) (by decide)).mono ?_; rintro e w19 ⟨v, rfl, hv, hb⟩; obtain ⟨s3a, p3a, n3a, c3a, s3b, p3b, n3b, c3b, rfl⟩ := hv.opened; obtain ⟨ht3, hu3⟩ := hv.two; replace XA := nx XA hb; replace XB := nx XB hb; replace HT2 := wl HT2 hb; replace HU2 := wl HU2 hb; replace B := bb B hb; clear cc11a cc11b cc11c cc11d cc12a cc12b cc12c cc12d cc14a cc14b cc14c cc14d cc15a cc15b cc15c cc15d cc16a cc16b cc16c cc16d cc17a cc17b cc17c cc17d; have HT3 := hid ht3; have HU3 := hid hu3; clear hb hv ht3 hu3; obtain ⟨cc20a, cc20b, cc20c, cc20d⟩ := XA.out.cells; obtain ⟨cc21a, cc21b, cc21c, cc21d⟩ := XB.out.cells; have mk18_0 := hid True.intro))
  go_wp2_with fail
  go_ret2
  exact ⟨by rw [medq]; push_cast; rfl, B.out⟩

theorem size_medq {a b : ByteArray} (ha : GoodQ a) (hb : GoodQ b) : (qtxt (medq (qnum a) (qnum b))).size ≤ maxLen := by
  obtain ⟨h1, h2⟩ := qnum_lt ha
  obtain ⟨h3, h4⟩ := qnum_lt hb
  have h5 : (10 : Nat) ^ 100 + 10 ^ 100 < 10 ^ 300 := by decide +kernel
  refine size_divInt ?_ ?_
  · have := Int.natAbs_add_le (qnum a).num (qnum b).num
    generalize (10 : Nat) ^ 100 = x at *
    generalize (10 : Nat) ^ 300 = y at *
    omega
  · generalize (10 : Nat) ^ 100 = x at *
    generalize (10 : Nat) ^ 300 = y at *
    omega
theorem qmed_any (a b : ByteArray) (ha : a.size ≤ maxLen) (hb : b.size ≤ maxLen) (w : World) :
    Calls Tryz.prog 10 #[.string a, .string b] w fun e w' => ∃ s k, e = .returned (.tuple #[.string s, errv k]) ∧ QTells medq a b s k ∧ s.size ≤ maxLen ∧ Below w.heap.size w w' := by
  rcases goodQ_or_bad a with h | ⟨k, h⟩
  · rcases goodQ_or_bad b with h2 | ⟨k, h2⟩
    · refine (qmed_ok h h2 w).mono ?_
      rintro e w' ⟨rfl, hw⟩
      exact ⟨_, 0, rfl, .inl ⟨rfl, h, h2, rfl⟩, size_medq h h2, hw⟩
    · refine (qmed_b h h2 hb w).mono ?_
      rintro e w' ⟨rfl, hw⟩
      exact ⟨_, k, by rw [errv_some h2.ne], .inr ⟨h2.ne, .inr ⟨h, h2⟩, rfl⟩, Nat.zero_le _, hw⟩
  · refine (qmed_a h ha w).mono ?_
    rintro e w' ⟨rfl, hw⟩
    exact ⟨_, k, by rw [errv_some h.ne], .inr ⟨h.ne, .inl h, rfl⟩, Nat.zero_le _, hw⟩

end Go.Proofs.YteephnbfdblgeaaGreatDoor
