import Derived.Test.YtkdeopikojgboaaGreatDoorBunProofIvalTells16
import Derived.Test.YtkdeopikojgboaaGreatDoorBunProofIvalTells15
import Derived.Deep.RegionHeld3
import Derived.Test.YtkdeopikojgboaaGreatDoorBunProofIvalTells14
import Derived.Test.YtkdeopikojgboaaGreatDoorBunProofIvalTells11
import Derived.Test.YtkdeopikojgboaaGreatDoorBunProofIvalTells5
import Derived.Test.YtkdeopikojgboaaGreatDoorBunProofIvalTells1
/-
  PACKAGE rat: Parse.
-/
namespace Go.Proofs.YtkdeopikojgboaaGreatDoor
open Go.RowKit
open Num
set_option linter.unusedVariables false
set_option maxRecDepth 100000
set_option linter.unusedSimpArgs false

/-- A fraction that may be handed in. -/
def GoodQ (s : ByteArray) : Prop := s.size ≤ 100 ∧ isRat s.data.toList = true
/-- What is wrong with a text. -/
def BadQ (s : ByteArray) (k : Int) : Prop := (100 < s.size ∧ k = 4) ∨ (s.size ≤ 100 ∧ isRat s.data.toList = false ∧ k = 1)
theorem goodQ_or_bad (s : ByteArray) : GoodQ s ∨ ∃ k, BadQ s k := by
  by_cases h : s.size ≤ 100
  · cases hn : isRat s.data.toList with
    | true => exact .inl ⟨h, hn⟩
    | false => exact .inr ⟨1, .inr ⟨h, hn, rfl⟩⟩
  · exact .inr ⟨4, .inl ⟨by omega, rfl⟩⟩
/-- The fraction of a text. -/
def qnum (s : ByteArray) : Rat := ratOf s.data.toList
/-- The error of two texts. -/
def WrongQ (a b : ByteArray) (k : Int) : Prop := BadQ a k ∨ (GoodQ a ∧ BadQ b k)
theorem rightQ_or_wrong (a b : ByteArray) : (GoodQ a ∧ GoodQ b) ∨ ∃ k, WrongQ a b k := by
  rcases goodQ_or_bad a with ha | ⟨k, ha⟩
  · rcases goodQ_or_bad b with hb | ⟨k, hb⟩
    · exact .inl ⟨ha, hb⟩
    · exact .inr ⟨k, .inr ⟨ha, hb⟩⟩
  · exact .inr ⟨k, .inl ha⟩
theorem divInt_coprime {n d : Int} (hd : 1 < d) (hg : Int.gcd n d = 1) : (Rat.divInt n d).num = n ∧ ((Rat.divInt n d).den : Int) = d := by
  have h := divInt_parts n d (by omega)
  rw [if_neg (by omega), hg] at h
  simpa using h
theorem res_nn_tmp {fn : Func} {t t' t'' : Tmp} {tmps : Array Value} {w : World} {g g' : Nat} {s s' a a' : Bool} {sv sv' av av' u : Value} (hf : fn.results = #[.cell t 60, .cell t' 60, .tmp t'']) (ht : tmps.getD t undef = .pointer (some ⟨g, 0, none⟩)) (ht' : tmps.getD t' undef = .pointer (some ⟨g', 0, none⟩)) (hu : tmps.getD t'' undef = u) (h2 : Nbx w g s sv s' sv') (h2' : Nbx w g' a av a' av') :
    (results fn tmps).run Tryz.prog w = .ok (.tuple #[.agg #[.bool s, sv, .bool s', sv'], .agg #[.bool a, av, .bool a', av'], u]) w := by
  have h1 := at_addr (P := Tryz.prog) (w := w) ht
  have h1' := at_addr (P := Tryz.prog) (w := w) ht'
  have h3 := load_num h2
  have h3' := load_num h2'
  simp only [Array.getD_eq_getD_getElem?] at h1 h1' hu
  simp [results, hf, Sem.run_bind, h1, h3, h1', h3', hu]

set_option maxHeartbeats 2000000 in
theorem qparseA (s : ByteArray) (w : World) (hs : s.size ≤ 68719476736) (hA : isWhl (cutB s.data.toList) = false) :
    Calls Tryz.prog 51 #[.string s] w fun e w' => e = .returned (.tuple #[.agg #[.bool false, .slice none 0 0, .bool false, .slice none 0 0], errno 1]) ∧ Below w.heap.size w w' := by
  have HA := hid hA
  have HS := hid hs
  have B := hid (Below.refl w.heap.size w)
  have hb1 := (Below.refl _ _).alloc (Nat.le_refl w.heap.size) (.cells #[.bool false, .slice none 0 0, .bool false, .slice none 0 0] 60)
  have hx2 := Nbx.new w false false (.slice none 0 0) (.slice none 0 0)
  replace B := bb B hb1
  have XQ := hid hx2
  have hs3 : (w.alloc (.cells #[.bool false, .slice none 0 0, .bool false, .slice none 0 0] 60)).heap.size = w.heap.size + 1 := by simp
  clear hb1 hx2
  clear hs3 hs hA
  go_enter Tryz.func51, Tryz.ntmps51
  obtain ⟨cc4a, cc4b, cc4c, cc4d⟩ := XQ.out.cells
  go_wp2_with fail
  generalize hW : w.alloc (.cells #[.bool false, .slice none 0 0, .bool false, .slice none 0 0] 60) = W5 at *
  clear hW
  have HC := cut_slash s W5 (by have := HS.out; unfold maxLen; omega)
  refine (HC).mono ?_
  rintro e w6 ⟨a, b, rfl, ha, hbb, hsa, hsb, hb⟩
  have HAL := hid ha
  have HBL := hid hbb
  have HSA := hid hsa
  have HSB := hid hsb
  replace XQ := nx XQ hb
  replace B := bb B hb
  clear cc4a cc4b cc4c cc4d
  clear hb HC ha hbb hsa hsb
  obtain ⟨cc7a, cc7b, cc7c, cc7d⟩ := XQ.out.cells
  generalize hasSl s.data.toList = sl at *
  go_wp2_with fail
  refine (zparse_no a _ (by have := HS.out; have := HSA.out; omega) (by rw [HAL.out]; exact HA.out)).mono ?_
  rintro e w8 ⟨rfl, hb⟩
  replace XQ := nx XQ hb
  replace B := bb B hb
  clear cc7a cc7b cc7c cc7d
  clear hb 
  have hb9 := (Below.refl _ _).alloc (Nat.le_refl w8.heap.size) (.cells #[.bool false, .slice none 0 0] 58)
  have hx10 := Box.new w8 false none 0 0
  have L0 := hid XQ.out.lt
  replace XQ := nx XQ hb9
  replace B := bb B hb9
  have X7 := hid hx10
  have hs11 : (w8.alloc (.cells #[.bool false, .slice none 0 0] 58)).heap.size = w8.heap.size + 1 := by simp
  clear hb9 hx10
  obtain ⟨cc12a, cc12b, cc12c, cc12d⟩ := XQ.out.cells
  obtain ⟨cc13a, cc13b⟩ := X7.out.both
  obtain ⟨⟨cc14a, cc14b⟩, ⟨cc14c, cc14d⟩, ⟨cc14e, cc14f⟩, cc14g, cc14h⟩ := XQ.out.stores
  obtain ⟨r15a, r15b, r15c⟩ := XQ.out.last B.out (by have := L0.out; omega) false false none none 0 0 0 0
  replace X7 := hid ((((X7.out.other (g2 := w.heap.size) (by have := L0.out; omega) 0 (.bool false)).other (g2 := w.heap.size) (by have := L0.out; omega) 1 (.slice none 0 0)).other (g2 := w.heap.size) (by have := L0.out; omega) 2 (.bool false)).other (g2 := w.heap.size) (by have := L0.out; omega) 3 (.slice none 0 0))
  replace XQ := hid r15a
  replace B := hid r15b
  clear r15a r15b r15c
  go_wp2_with fail
  refine bodyPost_ret (res_num_tmp rfl rfl rfl XQ.out) rfl ?_
  exact ⟨rfl, B.out⟩

set_option maxHeartbeats 2000000 in
theorem qparseB (s : ByteArray) (w : World) (hs : s.size ≤ 68719476736) (hsl : hasSl s.data.toList = false) (hA : isWhl (cutB s.data.toList) = true) :
    Calls Tryz.prog 51 #[.string s] w fun e w' => ∃ v, e = .returned (.tuple #[v, .nilIface]) ∧ Rtl w' v (ratOf s.data.toList) s.size ∧ Below w.heap.size w w' := by
  have HSL := hid hsl
  have HA := hid hA
  have HS := hid hs
  have B := hid (Below.refl w.heap.size w)
  have hb1 := (Below.refl _ _).alloc (Nat.le_refl w.heap.size) (.cells #[.bool false, .slice none 0 0, .bool false, .slice none 0 0] 60)
  have hx2 := Nbx.new w false false (.slice none 0 0) (.slice none 0 0)
  replace B := bb B hb1
  have XQ := hid hx2
  have hs3 : (w.alloc (.cells #[.bool false, .slice none 0 0, .bool false, .slice none 0 0] 60)).heap.size = w.heap.size + 1 := by simp
  clear hb1 hx2
  clear hs3 hs hsl hA
  go_enter Tryz.func51, Tryz.ntmps51
  obtain ⟨cc4a, cc4b, cc4c, cc4d⟩ := XQ.out.cells
  go_wp2_with fail
  generalize hW : w.alloc (.cells #[.bool false, .slice none 0 0, .bool false, .slice none 0 0] 60) = W5 at *
  clear hW
  have HC := cut_slash s W5 (by have := HS.out; unfold maxLen; omega)
  rw [HSL.out] at HC
  refine (HC).mono ?_
  rintro e w6 ⟨a, b, rfl, ha, hbb, hsa, hsb, hb⟩
  have HAL := hid ha
  have HBL := hid hbb
  have HSA := hid hsa
  have HSB := hid hsb
  replace XQ := nx XQ hb
  replace B := bb B hb
  clear cc4a cc4b cc4c cc4d
  clear hb HC ha hbb hsa hsb
  obtain ⟨cc7a, cc7b, cc7c, cc7d⟩ := XQ.out.cells
  go_wp2_with fail
  refine (zparse_yes a _ (by have := HS.out; have := HSA.out; omega) (by rw [HAL.out]; exact HA.out)).mono ?_
  rintro e w8 ⟨v, rfl, hv, hb⟩
  rw [HAL.out] at hv
  replace hv := hv.mono HSA.out
  obtain ⟨s5, p5, n5, c5, rfl⟩ := hv.opened
  replace XQ := nx XQ hb
  replace B := bb B hb
  clear cc7a cc7b cc7c cc7d
  have HT := hid hv
  clear hb hv
  have hb9 := (Below.refl _ _).alloc (Nat.le_refl w8.heap.size) (.cells #[.bool s5, .slice p5 n5 c5] 58)
  have hx10 := Box.new w8 s5 p5 n5 c5
  have L0 := hid XQ.out.lt
  replace XQ := nx XQ hb9
  replace HT := wl HT hb9
  replace B := bb B hb9
  have X7 := hid hx10
  have hs11 : (w8.alloc (.cells #[.bool s5, .slice p5 n5 c5] 58)).heap.size = w8.heap.size + 1 := by simp
  clear hb9 hx10
  obtain ⟨cc12a, cc12b, cc12c, cc12d⟩ := XQ.out.cells
  obtain ⟨cc13a, cc13b⟩ := X7.out.both
  obtain ⟨⟨cc14a, cc14b⟩, ⟨cc14c, cc14d⟩, ⟨cc14e, cc14f⟩, cc14g, cc14h⟩ := XQ.out.stores
  obtain ⟨r15a, r15b, r15c⟩ := XQ.out.last B.out (by have := L0.out; omega) s5 false p5 none n5 0 c5 0
  replace X7 := hid ((((X7.out.other (g2 := w.heap.size) (by have := L0.out; omega) 0 (.bool s5)).other (g2 := w.heap.size) (by have := L0.out; omega) 1 (.slice p5 n5 c5)).other (g2 := w.heap.size) (by have := L0.out; omega) 2 (.bool false)).other (g2 := w.heap.size) (by have := L0.out; omega) 3 (.slice none 0 0))
  replace HT := hid (r15c HT.out)
  replace XQ := hid r15a
  replace B := hid r15b
  clear r15a r15b r15c
  go_wp2_with fail
  refine bodyPost_ret (res_num_tmp rfl rfl rfl XQ.out) rfl ?_
  refine ⟨_, rfl, Rtl.mk2 (d := 0) ?_ (Whl.nil _ _) (.inr ⟨rfl, ?_⟩), B.out⟩
  · rw [ratOf, if_neg (by rw [HSL.out]; decide), Rat.num_intCast]
    have h := HT.out
    have e : cutB s.data.toList = s.data.toList := by rcases index_cut s.data.toList with ⟨_, _, e⟩ | ⟨e, _⟩; exact e; rw [HSL.out] at e; exact absurd e (by decide)
    rw [e] at h; exact h
  · rw [ratOf, if_neg (by rw [HSL.out]; decide), Rat.den_intCast]

set_option maxHeartbeats 2000000 in
theorem qparseC (s : ByteArray) (w : World) (hs : s.size ≤ 68719476736) (hsl : hasSl s.data.toList = true) (hA : isWhl (cutB s.data.toList) = true) (hB : isWhl (cutA s.data.toList) = false) :
    Calls Tryz.prog 51 #[.string s] w fun e w' => e = .returned (.tuple #[.agg #[.bool false, .slice none 0 0, .bool false, .slice none 0 0], errno 1]) ∧ Below w.heap.size w w' := by
  have HSL := hid hsl
  have HA := hid hA
  have HB := hid hB
  have HS := hid hs
  have B := hid (Below.refl w.heap.size w)
  have hb1 := (Below.refl _ _).alloc (Nat.le_refl w.heap.size) (.cells #[.bool false, .slice none 0 0, .bool false, .slice none 0 0] 60)
  have hx2 := Nbx.new w false false (.slice none 0 0) (.slice none 0 0)
  replace B := bb B hb1
  have XQ := hid hx2
  have hs3 : (w.alloc (.cells #[.bool false, .slice none 0 0, .bool false, .slice none 0 0] 60)).heap.size = w.heap.size + 1 := by simp
  clear hb1 hx2
  clear hs3 hs hsl hA hB
  go_enter Tryz.func51, Tryz.ntmps51
  obtain ⟨cc4a, cc4b, cc4c, cc4d⟩ := XQ.out.cells
  go_wp2_with fail
  generalize hW : w.alloc (.cells #[.bool false, .slice none 0 0, .bool false, .slice none 0 0] 60) = W5 at *
  clear hW
  have HC := cut_slash s W5 (by have := HS.out; unfold maxLen; omega)
  rw [HSL.out] at HC
  refine (HC).mono ?_
  rintro e w6 ⟨a, b, rfl, ha, hbb, hsa, hsb, hb⟩
  have HAL := hid ha
  have HBL := hid hbb
  have HSA := hid hsa
  have HSB := hid hsb
  replace XQ := nx XQ hb
  replace B := bb B hb
  clear cc4a cc4b cc4c cc4d
  clear hb HC ha hbb hsa hsb
  obtain ⟨cc7a, cc7b, cc7c, cc7d⟩ := XQ.out.cells
  go_wp2_with fail
  refine (zparse_yes a _ (by have := HS.out; have := HSA.out; omega) (by rw [HAL.out]; exact HA.out)).mono ?_
  rintro e w8 ⟨v, rfl, hv, hb⟩
  rw [HAL.out] at hv
  replace hv := hv.mono HSA.out
  obtain ⟨s5, p5, n5, c5, rfl⟩ := hv.opened
  replace XQ := nx XQ hb
  replace B := bb B hb
  clear cc7a cc7b cc7c cc7d
  have HT := hid hv
  clear hb hv
  have hb9 := (Below.refl _ _).alloc (Nat.le_refl w8.heap.size) (.cells #[.bool s5, .slice p5 n5 c5] 58)
  have hx10 := Box.new w8 s5 p5 n5 c5
  have L0 := hid XQ.out.lt
  replace XQ := nx XQ hb9
  replace HT := wl HT hb9
  replace B := bb B hb9
  have X7 := hid hx10
  have hs11 : (w8.alloc (.cells #[.bool s5, .slice p5 n5 c5] 58)).heap.size = w8.heap.size + 1 := by simp
  clear hb9 hx10
  obtain ⟨cc12a, cc12b, cc12c, cc12d⟩ := XQ.out.cells
  obtain ⟨cc13a, cc13b⟩ := X7.out.both
  go_wp2_with fail
  generalize hW : w8.alloc (.cells #[.bool s5, .slice p5 n5 c5] 58) = W14 at *
  clear hW
  have HBL := hid (HBL.out (by first | rfl | trivial))
  refine (zparse_no b _ (by have := HS.out; have := HSB.out; omega) (by rw [HBL.out]; exact HB.out)).mono ?_
  rintro e w15 ⟨rfl, hb⟩
  replace XQ := nx XQ hb
  replace X7 := bx X7 hb
  replace HT := wl HT hb
  replace B := bb B hb
  clear cc12a cc12b cc12c cc12d cc13a cc13b
  clear hb 
  have hb16 := (Below.refl _ _).alloc (Nat.le_refl w15.heap.size) (.cells #[.bool false, .slice none 0 0] 58)
  have hx17 := Box.new w15 false none 0 0
  have L1 := hid X7.out.lt
  replace XQ := nx XQ hb16
  replace X7 := bx X7 hb16
  replace HT := wl HT hb16
  replace B := bb B hb16
  have X9 := hid hx17
  have hs18 : (w15.alloc (.cells #[.bool false, .slice none 0 0] 58)).heap.size = w15.heap.size + 1 := by simp
  clear hb16 hx17
  obtain ⟨cc19a, cc19b, cc19c, cc19d⟩ := XQ.out.cells
  obtain ⟨cc20a, cc20b⟩ := X7.out.both
  obtain ⟨cc21a, cc21b⟩ := X9.out.both
  obtain ⟨⟨cc22a, cc22b⟩, ⟨cc22c, cc22d⟩, ⟨cc22e, cc22f⟩, cc22g, cc22h⟩ := XQ.out.stores
  obtain ⟨r23a, r23b, r23c⟩ := XQ.out.last B.out (by have := L0.out; have := L1.out; omega) false false none none 0 0 0 0
  replace X7 := hid ((((X7.out.other (g2 := w.heap.size) (by have := L0.out; have := L1.out; omega) 0 (.bool false)).other (g2 := w.heap.size) (by have := L0.out; have := L1.out; omega) 1 (.slice none 0 0)).other (g2 := w.heap.size) (by have := L0.out; have := L1.out; omega) 2 (.bool false)).other (g2 := w.heap.size) (by have := L0.out; have := L1.out; omega) 3 (.slice none 0 0))
  replace X9 := hid ((((X9.out.other (g2 := w.heap.size) (by have := L0.out; have := L1.out; omega) 0 (.bool false)).other (g2 := w.heap.size) (by have := L0.out; have := L1.out; omega) 1 (.slice none 0 0)).other (g2 := w.heap.size) (by have := L0.out; have := L1.out; omega) 2 (.bool false)).other (g2 := w.heap.size) (by have := L0.out; have := L1.out; omega) 3 (.slice none 0 0))
  replace HT := hid (r23c HT.out)
  replace XQ := hid r23a
  replace B := hid r23b
  clear r23a r23b r23c
  go_wp2_with fail
  refine bodyPost_ret (res_num_tmp rfl rfl rfl XQ.out) rfl ?_
  exact ⟨rfl, B.out⟩

set_option maxHeartbeats 2000000 in
theorem qparseD (s : ByteArray) (w : World) (hs : s.size ≤ 68719476736) (hsl : hasSl s.data.toList = true) (hA : isWhl (cutB s.data.toList) = true) (hB : isWhl (cutA s.data.toList) = true) (hD : ¬ 1 < whlOf (cutA s.data.toList)) :
    Calls Tryz.prog 51 #[.string s] w fun e w' => e = .returned (.tuple #[.agg #[.bool false, .slice none 0 0, .bool false, .slice none 0 0], errno 1]) ∧ Below w.heap.size w w' := by
  have HSL := hid hsl
  have HA := hid hA
  have HB := hid hB
  have HD := hid hD
  have HS := hid hs
  have B := hid (Below.refl w.heap.size w)
  have hb1 := (Below.refl _ _).alloc (Nat.le_refl w.heap.size) (.cells #[.bool false, .slice none 0 0, .bool false, .slice none 0 0] 60)
  have hx2 := Nbx.new w false false (.slice none 0 0) (.slice none 0 0)
  replace B := bb B hb1
  have XQ := hid hx2
  have hs3 : (w.alloc (.cells #[.bool false, .slice none 0 0, .bool false, .slice none 0 0] 60)).heap.size = w.heap.size + 1 := by simp
  clear hb1 hx2
  clear hs3 hs hsl hA hB hD
  go_enter Tryz.func51, Tryz.ntmps51
  obtain ⟨cc4a, cc4b, cc4c, cc4d⟩ := XQ.out.cells
  go_wp2_with fail
  generalize hW : w.alloc (.cells #[.bool false, .slice none 0 0, .bool false, .slice none 0 0] 60) = W5 at *
  clear hW
  have HC := cut_slash s W5 (by have := HS.out; unfold maxLen; omega)
  rw [HSL.out] at HC
  refine (HC).mono ?_
  rintro e w6 ⟨a, b, rfl, ha, hbb, hsa, hsb, hb⟩
  have HAL := hid ha
  have HBL := hid hbb
  have HSA := hid hsa
  have HSB := hid hsb
  replace XQ := nx XQ hb
  replace B := bb B hb
  clear cc4a cc4b cc4c cc4d
  clear hb HC ha hbb hsa hsb
  obtain ⟨cc7a, cc7b, cc7c, cc7d⟩ := XQ.out.cells
  go_wp2_with fail
  refine (zparse_yes a _ (by have := HS.out; have := HSA.out; omega) (by rw [HAL.out]; exact HA.out)).mono ?_
  rintro e w8 ⟨v, rfl, hv, hb⟩
  rw [HAL.out] at hv
  replace hv := hv.mono HSA.out
  obtain ⟨s5, p5, n5, c5, rfl⟩ := hv.opened
  replace XQ := nx XQ hb
  replace B := bb B hb
  clear cc7a cc7b cc7c cc7d
  have HT := hid hv
  clear hb hv
  have hb9 := (Below.refl _ _).alloc (Nat.le_refl w8.heap.size) (.cells #[.bool s5, .slice p5 n5 c5] 58)
  have hx10 := Box.new w8 s5 p5 n5 c5
  have L0 := hid XQ.out.lt
  replace XQ := nx XQ hb9
  replace HT := wl HT hb9
  replace B := bb B hb9
  have X7 := hid hx10
  have hs11 : (w8.alloc (.cells #[.bool s5, .slice p5 n5 c5] 58)).heap.size = w8.heap.size + 1 := by simp
  clear hb9 hx10
  obtain ⟨cc12a, cc12b, cc12c, cc12d⟩ := XQ.out.cells
  obtain ⟨cc13a, cc13b⟩ := X7.out.both
  go_wp2_with fail
  generalize hW : w8.alloc (.cells #[.bool s5, .slice p5 n5 c5] 58) = W14 at *
  clear hW
  have HBL := hid (HBL.out (by first | rfl | trivial))
  refine (zparse_yes b _ (by have := HS.out; have := HSB.out; omega) (by rw [HBL.out]; exact HB.out)).mono ?_
  rintro e w15 ⟨v, rfl, hv, hb⟩
  rw [HBL.out] at hv
  replace hv := hv.mono HSB.out
  obtain ⟨s6, p6, n6, c6, rfl⟩ := hv.opened
  replace XQ := nx XQ hb
  replace X7 := bx X7 hb
  replace HT := wl HT hb
  replace B := bb B hb
  clear cc12a cc12b cc12c cc12d cc13a cc13b
  have HU := hid hv
  clear hb hv
  have hb16 := (Below.refl _ _).alloc (Nat.le_refl w15.heap.size) (.cells #[.bool s6, .slice p6 n6 c6] 58)
  have hx17 := Box.new w15 s6 p6 n6 c6
  have L1 := hid X7.out.lt
  replace XQ := nx XQ hb16
  replace X7 := bx X7 hb16
  replace HT := wl HT hb16
  replace HU := wl HU hb16
  replace B := bb B hb16
  have X9 := hid hx17
  have hs18 : (w15.alloc (.cells #[.bool s6, .slice p6 n6 c6] 58)).heap.size = w15.heap.size + 1 := by simp
  clear hb16 hx17
  obtain ⟨cc19a, cc19b, cc19c, cc19d⟩ := XQ.out.cells
  obtain ⟨cc20a, cc20b⟩ := X7.out.both
  obtain ⟨cc21a, cc21b⟩ := X9.out.both
  go_wp2_with fail
  generalize hW : w15.alloc (.cells #[.bool s6, .slice p6 n6 c6] 58) = W22 at *
  clear hW
  have HM := more_whl HU.out (by have := HS.out; omega)
  rw [decide_eq_false (by have h := HD.out; omega)] at HM
  refine (HM).mono ?_
  rintro e w23 ⟨rfl, hb⟩
  replace XQ := nx XQ hb
  replace X7 := bx X7 hb
  replace X9 := bx X9 hb
  replace HT := wl HT hb
  replace HU := wl HU hb
  replace B := bb B hb
  clear cc19a cc19b cc19c cc19d cc20a cc20b cc21a cc21b
  clear hb HM
  obtain ⟨cc24a, cc24b, cc24c, cc24d⟩ := XQ.out.cells
  obtain ⟨cc25a, cc25b⟩ := X7.out.both
  obtain ⟨cc26a, cc26b⟩ := X9.out.both
  obtain ⟨⟨cc27a, cc27b⟩, ⟨cc27c, cc27d⟩, ⟨cc27e, cc27f⟩, cc27g, cc27h⟩ := XQ.out.stores
  obtain ⟨r28a, r28b, r28c⟩ := XQ.out.last B.out (by have := L0.out; have := L1.out; omega) false false none none 0 0 0 0
  replace X7 := hid ((((X7.out.other (g2 := w.heap.size) (by have := L0.out; have := L1.out; omega) 0 (.bool false)).other (g2 := w.heap.size) (by have := L0.out; have := L1.out; omega) 1 (.slice none 0 0)).other (g2 := w.heap.size) (by have := L0.out; have := L1.out; omega) 2 (.bool false)).other (g2 := w.heap.size) (by have := L0.out; have := L1.out; omega) 3 (.slice none 0 0))
  replace X9 := hid ((((X9.out.other (g2 := w.heap.size) (by have := L0.out; have := L1.out; omega) 0 (.bool false)).other (g2 := w.heap.size) (by have := L0.out; have := L1.out; omega) 1 (.slice none 0 0)).other (g2 := w.heap.size) (by have := L0.out; have := L1.out; omega) 2 (.bool false)).other (g2 := w.heap.size) (by have := L0.out; have := L1.out; omega) 3 (.slice none 0 0))
  replace HT := hid (r28c HT.out)
  replace HU := hid (r28c HU.out)
  replace XQ := hid r28a
  replace B := hid r28b
  clear r28a r28b r28c
  go_wp2_with fail
  refine bodyPost_ret (res_num_tmp rfl rfl rfl XQ.out) rfl ?_
  exact ⟨rfl, B.out⟩

set_option maxHeartbeats 2000000 in
theorem qparseE (s : ByteArray) (w : World) (hs : s.size ≤ 68719476736) (hsl : hasSl s.data.toList = true) (hA : isWhl (cutB s.data.toList) = true) (hB : isWhl (cutA s.data.toList) = true) (hD : 1 < whlOf (cutA s.data.toList)) (hG : ¬ Int.gcd (whlOf (cutB s.data.toList)) (whlOf (cutA s.data.toList)) = 1) :
    Calls Tryz.prog 51 #[.string s] w fun e w' => e = .returned (.tuple #[.agg #[.bool false, .slice none 0 0, .bool false, .slice none 0 0], errno 1]) ∧ Below w.heap.size w w' := by
  have HSL := hid hsl
  have HA := hid hA
  have HB := hid hB
  have HD := hid hD
  have HG := hid hG
  have HS := hid hs
  have B := hid (Below.refl w.heap.size w)
  have hb1 := (Below.refl _ _).alloc (Nat.le_refl w.heap.size) (.cells #[.bool false, .slice none 0 0, .bool false, .slice none 0 0] 60)
  have hx2 := Nbx.new w false false (.slice none 0 0) (.slice none 0 0)
  replace B := bb B hb1
  have XQ := hid hx2
  have hs3 : (w.alloc (.cells #[.bool false, .slice none 0 0, .bool false, .slice none 0 0] 60)).heap.size = w.heap.size + 1 := by simp
  clear hb1 hx2
  clear hs3 hs hsl hA hB hD hG
  go_enter Tryz.func51, Tryz.ntmps51
  obtain ⟨cc4a, cc4b, cc4c, cc4d⟩ := XQ.out.cells
  go_wp2_with fail
  generalize hW : w.alloc (.cells #[.bool false, .slice none 0 0, .bool false, .slice none 0 0] 60) = W5 at *
  clear hW
  have HC := cut_slash s W5 (by have := HS.out; unfold maxLen; omega)
  rw [HSL.out] at HC
  refine (HC).mono ?_
  rintro e w6 ⟨a, b, rfl, ha, hbb, hsa, hsb, hb⟩
  have HAL := hid ha
  have HBL := hid hbb
  have HSA := hid hsa
  have HSB := hid hsb
  replace XQ := nx XQ hb
  replace B := bb B hb
  clear cc4a cc4b cc4c cc4d
  clear hb HC ha hbb hsa hsb
  obtain ⟨cc7a, cc7b, cc7c, cc7d⟩ := XQ.out.cells
  go_wp2_with fail
  refine (zparse_yes a _ (by have := HS.out; have := HSA.out; omega) (by rw [HAL.out]; exact HA.out)).mono ?_
  rintro e w8 ⟨v, rfl, hv, hb⟩
  rw [HAL.out] at hv
  replace hv := hv.mono HSA.out
  obtain ⟨s5, p5, n5, c5, rfl⟩ := hv.opened
  replace XQ := nx XQ hb
  replace B := bb B hb
  clear cc7a cc7b cc7c cc7d
  have HT := hid hv
  clear hb hv
  have hb9 := (Below.refl _ _).alloc (Nat.le_refl w8.heap.size) (.cells #[.bool s5, .slice p5 n5 c5] 58)
  have hx10 := Box.new w8 s5 p5 n5 c5
  have L0 := hid XQ.out.lt
  replace XQ := nx XQ hb9
  replace HT := wl HT hb9
  replace B := bb B hb9
  have X7 := hid hx10
  have hs11 : (w8.alloc (.cells #[.bool s5, .slice p5 n5 c5] 58)).heap.size = w8.heap.size + 1 := by simp
  clear hb9 hx10
  obtain ⟨cc12a, cc12b, cc12c, cc12d⟩ := XQ.out.cells
  obtain ⟨cc13a, cc13b⟩ := X7.out.both
  go_wp2_with fail
  generalize hW : w8.alloc (.cells #[.bool s5, .slice p5 n5 c5] 58) = W14 at *
  clear hW
  have HBL := hid (HBL.out (by first | rfl | trivial))
  refine (zparse_yes b _ (by have := HS.out; have := HSB.out; omega) (by rw [HBL.out]; exact HB.out)).mono ?_
  rintro e w15 ⟨v, rfl, hv, hb⟩
  rw [HBL.out] at hv
  replace hv := hv.mono HSB.out
  obtain ⟨s6, p6, n6, c6, rfl⟩ := hv.opened
  replace XQ := nx XQ hb
  replace X7 := bx X7 hb
  replace HT := wl HT hb
  replace B := bb B hb
  clear cc12a cc12b cc12c cc12d cc13a cc13b
  have HU := hid hv
  clear hb hv
  have hb16 := (Below.refl _ _).alloc (Nat.le_refl w15.heap.size) (.cells #[.bool s6, .slice p6 n6 c6] 58)
  have hx17 := Box.new w15 s6 p6 n6 c6
  have L1 := hid X7.out.lt
  replace XQ := nx XQ hb16
  replace X7 := bx X7 hb16
  replace HT := wl HT hb16
  replace HU := wl HU hb16
  replace B := bb B hb16
  have X9 := hid hx17
  have hs18 : (w15.alloc (.cells #[.bool s6, .slice p6 n6 c6] 58)).heap.size = w15.heap.size + 1 := by simp
  clear hb16 hx17
  obtain ⟨cc19a, cc19b, cc19c, cc19d⟩ := XQ.out.cells
  obtain ⟨cc20a, cc20b⟩ := X7.out.both
  obtain ⟨cc21a, cc21b⟩ := X9.out.both
  go_wp2_with fail
  generalize hW : w15.alloc (.cells #[.bool s6, .slice p6 n6 c6] 58) = W22 at *
  clear hW
  have HM := more_whl HU.out (by have := HS.out; omega)
  rw [decide_eq_true (by have h := HD.out; omega)] at HM
  refine (HM).mono ?_
  rintro e w23 ⟨rfl, hb⟩
  replace XQ := nx XQ hb
  replace X7 := bx X7 hb
  replace X9 := bx X9 hb
  replace HT := wl HT hb
  replace HU := wl HU hb
  replace B := bb B hb
  clear cc19a cc19b cc19c cc19d cc20a cc20b cc21a cc21b
  clear hb HM
  obtain ⟨cc24a, cc24b, cc24c, cc24d⟩ := XQ.out.cells
  obtain ⟨cc25a, cc25b⟩ := X7.out.both
  obtain ⟨cc26a, cc26b⟩ := X9.out.both
  go_wp2_with fail
  refine (zgcd_whl HT.out HU.out (by have := HS.out; omega)).mono ?_
  rintro e w27 ⟨v, rfl, hv, hb⟩
  obtain ⟨s7, p7, n7, c7, rfl⟩ := hv.opened
  replace XQ := nx XQ hb
  replace X7 := bx X7 hb
  replace X9 := bx X9 hb
  replace HT := wl HT hb
  replace HU := wl HU hb
  replace B := bb B hb
  clear cc24a cc24b cc24c cc24d cc25a cc25b cc26a cc26b
  have HV := hid hv
  clear hb hv
  obtain ⟨cc28a, cc28b, cc28c, cc28d⟩ := XQ.out.cells
  obtain ⟨cc29a, cc29b⟩ := X7.out.both
  obtain ⟨cc30a, cc30b⟩ := X9.out.both
  go_wp2_with fail
  have HM := more_whl HV.out (by have := HS.out; omega)
  rw [decide_eq_true (by have h1 := HG.out; have h2 := HD.out; have h3 := Int.gcd_pos_of_ne_zero_right (whlOf (cutB s.data.toList)) (show whlOf (cutA s.data.toList) ≠ 0 by omega); omega)] at HM
  refine (HM).mono ?_
  rintro e w31 ⟨rfl, hb⟩
  replace XQ := nx XQ hb
  replace X7 := bx X7 hb
  replace X9 := bx X9 hb
  replace HT := wl HT hb
  replace HU := wl HU hb
  replace HV := wl HV hb
  replace B := bb B hb
  clear cc28a cc28b cc28c cc28d cc29a cc29b cc30a cc30b
  clear hb HM
  obtain ⟨cc32a, cc32b, cc32c, cc32d⟩ := XQ.out.cells
  obtain ⟨cc33a, cc33b⟩ := X7.out.both
  obtain ⟨cc34a, cc34b⟩ := X9.out.both
  obtain ⟨⟨cc35a, cc35b⟩, ⟨cc35c, cc35d⟩, ⟨cc35e, cc35f⟩, cc35g, cc35h⟩ := XQ.out.stores
  obtain ⟨r36a, r36b, r36c⟩ := XQ.out.last B.out (by have := L0.out; have := L1.out; omega) false false none none 0 0 0 0
  replace X7 := hid ((((X7.out.other (g2 := w.heap.size) (by have := L0.out; have := L1.out; omega) 0 (.bool false)).other (g2 := w.heap.size) (by have := L0.out; have := L1.out; omega) 1 (.slice none 0 0)).other (g2 := w.heap.size) (by have := L0.out; have := L1.out; omega) 2 (.bool false)).other (g2 := w.heap.size) (by have := L0.out; have := L1.out; omega) 3 (.slice none 0 0))
  replace X9 := hid ((((X9.out.other (g2 := w.heap.size) (by have := L0.out; have := L1.out; omega) 0 (.bool false)).other (g2 := w.heap.size) (by have := L0.out; have := L1.out; omega) 1 (.slice none 0 0)).other (g2 := w.heap.size) (by have := L0.out; have := L1.out; omega) 2 (.bool false)).other (g2 := w.heap.size) (by have := L0.out; have := L1.out; omega) 3 (.slice none 0 0))
  replace HT := hid (r36c HT.out)
  replace HU := hid (r36c HU.out)
  replace HV := hid (r36c HV.out)
  replace XQ := hid r36a
  replace B := hid r36b
  clear r36a r36b r36c
  go_wp2_with fail
  refine bodyPost_ret (res_num_tmp rfl rfl rfl XQ.out) rfl ?_
  exact ⟨rfl, B.out⟩

set_option maxHeartbeats 2000000 in
theorem qparseF (s : ByteArray) (w : World) (hs : s.size ≤ 68719476736) (hsl : hasSl s.data.toList = true) (hA : isWhl (cutB s.data.toList) = true) (hB : isWhl (cutA s.data.toList) = true) (hD : 1 < whlOf (cutA s.data.toList)) (hG : Int.gcd (whlOf (cutB s.data.toList)) (whlOf (cutA s.data.toList)) = 1) :
    Calls Tryz.prog 51 #[.string s] w fun e w' => ∃ v, e = .returned (.tuple #[v, .nilIface]) ∧ Rtl w' v (ratOf s.data.toList) s.size ∧ Below w.heap.size w w' := by
  have HSL := hid hsl
  have HA := hid hA
  have HB := hid hB
  have HD := hid hD
  have HG := hid hG
  have HS := hid hs
  have B := hid (Below.refl w.heap.size w)
  have hb1 := (Below.refl _ _).alloc (Nat.le_refl w.heap.size) (.cells #[.bool false, .slice none 0 0, .bool false, .slice none 0 0] 60)
  have hx2 := Nbx.new w false false (.slice none 0 0) (.slice none 0 0)
  replace B := bb B hb1
  have XQ := hid hx2
  have hs3 : (w.alloc (.cells #[.bool false, .slice none 0 0, .bool false, .slice none 0 0] 60)).heap.size = w.heap.size + 1 := by simp
  clear hb1 hx2
  clear hs3 hs hsl hA hB hD hG
  go_enter Tryz.func51, Tryz.ntmps51
  obtain ⟨cc4a, cc4b, cc4c, cc4d⟩ := XQ.out.cells
  go_wp2_with fail
  generalize hW : w.alloc (.cells #[.bool false, .slice none 0 0, .bool false, .slice none 0 0] 60) = W5 at *
  clear hW
  have HC := cut_slash s W5 (by have := HS.out; unfold maxLen; omega)
  rw [HSL.out] at HC
  refine (HC).mono ?_
  rintro e w6 ⟨a, b, rfl, ha, hbb, hsa, hsb, hb⟩
  have HAL := hid ha
  have HBL := hid hbb
  have HSA := hid hsa
  have HSB := hid hsb
  replace XQ := nx XQ hb
  replace B := bb B hb
  clear cc4a cc4b cc4c cc4d
  clear hb HC ha hbb hsa hsb
  obtain ⟨cc7a, cc7b, cc7c, cc7d⟩ := XQ.out.cells
  go_wp2_with fail
  refine (zparse_yes a _ (by have := HS.out; have := HSA.out; omega) (by rw [HAL.out]; exact HA.out)).mono ?_
  rintro e w8 ⟨v, rfl, hv, hb⟩
  rw [HAL.out] at hv
  replace hv := hv.mono HSA.out
  obtain ⟨s5, p5, n5, c5, rfl⟩ := hv.opened
  replace XQ := nx XQ hb
  replace B := bb B hb
  clear cc7a cc7b cc7c cc7d
  have HT := hid hv
  clear hb hv
  have hb9 := (Below.refl _ _).alloc (Nat.le_refl w8.heap.size) (.cells #[.bool s5, .slice p5 n5 c5] 58)
  have hx10 := Box.new w8 s5 p5 n5 c5
  have L0 := hid XQ.out.lt
  replace XQ := nx XQ hb9
  replace HT := wl HT hb9
  replace B := bb B hb9
  have X7 := hid hx10
  have hs11 : (w8.alloc (.cells #[.bool s5, .slice p5 n5 c5] 58)).heap.size = w8.heap.size + 1 := by simp
  clear hb9 hx10
  obtain ⟨cc12a, cc12b, cc12c, cc12d⟩ := XQ.out.cells
  obtain ⟨cc13a, cc13b⟩ := X7.out.both
  go_wp2_with fail
  generalize hW : w8.alloc (.cells #[.bool s5, .slice p5 n5 c5] 58) = W14 at *
  clear hW
  have HBL := hid (HBL.out (by first | rfl | trivial))
  refine (zparse_yes b _ (by have := HS.out; have := HSB.out; omega) (by rw [HBL.out]; exact HB.out)).mono ?_
  rintro e w15 ⟨v, rfl, hv, hb⟩
  rw [HBL.out] at hv
  replace hv := hv.mono HSB.out
  obtain ⟨s6, p6, n6, c6, rfl⟩ := hv.opened
  replace XQ := nx XQ hb
  replace X7 := bx X7 hb
  replace HT := wl HT hb
  replace B := bb B hb
  clear cc12a cc12b cc12c cc12d cc13a cc13b
  have HU := hid hv
  clear hb hv
  have hb16 := (Below.refl _ _).alloc (Nat.le_refl w15.heap.size) (.cells #[.bool s6, .slice p6 n6 c6] 58)
  have hx17 := Box.new w15 s6 p6 n6 c6
  have L1 := hid X7.out.lt
  replace XQ := nx XQ hb16
  replace X7 := bx X7 hb16
  replace HT := wl HT hb16
  replace HU := wl HU hb16
  replace B := bb B hb16
  have X9 := hid hx17
  have hs18 : (w15.alloc (.cells #[.bool s6, .slice p6 n6 c6] 58)).heap.size = w15.heap.size + 1 := by simp
  clear hb16 hx17
  obtain ⟨cc19a, cc19b, cc19c, cc19d⟩ := XQ.out.cells
  obtain ⟨cc20a, cc20b⟩ := X7.out.both
  obtain ⟨cc21a, cc21b⟩ := X9.out.both
  go_wp2_with fail
  generalize hW : w15.alloc (.cells #[.bool s6, .slice p6 n6 c6] 58) = W22 at *
  clear hW
  have HM := more_whl HU.out (by have := HS.out; omega)
  rw [decide_eq_true (by have h := HD.out; omega)] at HM
  refine (HM).mono ?_
  rintro e w23 ⟨rfl, hb⟩
  replace XQ := nx XQ hb
  replace X7 := bx X7 hb
  replace X9 := bx X9 hb
  replace HT := wl HT hb
  replace HU := wl HU hb
  replace B := bb B hb
  clear cc19a cc19b cc19c cc19d cc20a cc20b cc21a cc21b
  clear hb HM
  obtain ⟨cc24a, cc24b, cc24c, cc24d⟩ := XQ.out.cells
  obtain ⟨cc25a, cc25b⟩ := X7.out.both
  obtain ⟨cc26a, cc26b⟩ := X9.out.both
  go_wp2_with fail
  refine (zgcd_whl HT.out HU.out (by have := HS.out; omega)).mono ?_
  rintro e w27 ⟨v, rfl, hv, hb⟩
  obtain ⟨s7, p7, n7, c7, rfl⟩ := hv.opened
  replace XQ := nx XQ hb
  replace X7 := bx X7 hb
  replace X9 := bx X9 hb
  replace HT := wl HT hb
  replace HU := wl HU hb
  replace B := bb B hb
  clear cc24a cc24b cc24c cc24d cc25a cc25b cc26a cc26b
  have HV := hid hv
  clear hb hv
  obtain ⟨cc28a, cc28b, cc28c, cc28d⟩ := XQ.out.cells
  obtain ⟨cc29a, cc29b⟩ := X7.out.both
  obtain ⟨cc30a, cc30b⟩ := X9.out.both
  go_wp2_with fail
  have HM := more_whl HV.out (by have := HS.out; omega)
  rw [decide_eq_false (by have h1 := HG.out; omega)] at HM
  refine (HM).mono ?_
  rintro e w31 ⟨rfl, hb⟩
  replace XQ := nx XQ hb
  replace X7 := bx X7 hb
  replace X9 := bx X9 hb
  replace HT := wl HT hb
  replace HU := wl HU hb
  replace HV := wl HV hb
  replace B := bb B hb
  clear cc28a cc28b cc28c cc28d cc29a cc29b cc30a cc30b
  clear hb HM
  obtain ⟨cc32a, cc32b, cc32c, cc32d⟩ := XQ.out.cells
  obtain ⟨cc33a, cc33b⟩ := X7.out.both
  obtain ⟨cc34a, cc34b⟩ := X9.out.both
  obtain ⟨⟨cc35a, cc35b⟩, ⟨cc35c, cc35d⟩, ⟨cc35e, cc35f⟩, cc35g, cc35h⟩ := XQ.out.stores
  obtain ⟨r36a, r36b, r36c⟩ := XQ.out.last B.out (by have := L0.out; have := L1.out; omega) s5 s6 p5 p6 n5 n6 c5 c6
  replace X7 := hid ((((X7.out.other (g2 := w.heap.size) (by have := L0.out; have := L1.out; omega) 0 (.bool s5)).other (g2 := w.heap.size) (by have := L0.out; have := L1.out; omega) 1 (.slice p5 n5 c5)).other (g2 := w.heap.size) (by have := L0.out; have := L1.out; omega) 2 (.bool s6)).other (g2 := w.heap.size) (by have := L0.out; have := L1.out; omega) 3 (.slice p6 n6 c6))
  replace X9 := hid ((((X9.out.other (g2 := w.heap.size) (by have := L0.out; have := L1.out; omega) 0 (.bool s5)).other (g2 := w.heap.size) (by have := L0.out; have := L1.out; omega) 1 (.slice p5 n5 c5)).other (g2 := w.heap.size) (by have := L0.out; have := L1.out; omega) 2 (.bool s6)).other (g2 := w.heap.size) (by have := L0.out; have := L1.out; omega) 3 (.slice p6 n6 c6))
  replace HT := hid (r36c HT.out)
  replace HU := hid (r36c HU.out)
  replace HV := hid (r36c HV.out)
  replace XQ := hid r36a
  replace B := hid r36b
  clear r36a r36b r36c
  go_wp2_with fail
  refine bodyPost_ret (res_num_tmp rfl rfl rfl XQ.out) rfl ?_
  obtain ⟨e1, e2⟩ := divInt_coprime HD.out HG.out
  refine ⟨_, rfl, ?_, B.out⟩
  rw [ratOf, if_pos HSL.out]
  exact Rtl.mk2 (by rw [e1]; exact HT.out) HU.out (.inl e2.symm)

theorem qparse_yes (s : ByteArray) (w : World) (hs : s.size ≤ 68719476736) (hn : isRat s.data.toList = true) :
    Calls Tryz.prog 51 #[.string s] w fun e w' => ∃ v, e = .returned (.tuple #[v, .nilIface]) ∧ Rtl w' v (ratOf s.data.toList) s.size ∧ Below w.heap.size w w' := by
  unfold isRat at hn
  cases hsl : hasSl s.data.toList
  · rw [hsl] at hn
    have e : cutB s.data.toList = s.data.toList := by
      rcases index_cut s.data.toList with ⟨_, _, e⟩ | ⟨e, _⟩
      · exact e
      · rw [hsl] at e; exact absurd e (by decide)
    exact qparseB s w hs hsl (by rw [e]; simpa using hn)
  · rw [hsl] at hn
    simp only [if_true, Bool.and_eq_true, decide_eq_true_eq] at hn
    obtain ⟨⟨⟨h1, h2⟩, h3⟩, h4⟩ := hn
    exact qparseF s w hs hsl h1 h2 h3 h4
theorem qparse_no (s : ByteArray) (w : World) (hs : s.size ≤ 68719476736) (hn : isRat s.data.toList = false) :
    Calls Tryz.prog 51 #[.string s] w fun e w' => e = .returned (.tuple #[.agg #[.bool false, .slice none 0 0, .bool false, .slice none 0 0], errno 1]) ∧ Below w.heap.size w w' := by
  unfold isRat at hn
  cases h1 : isWhl (cutB s.data.toList)
  · exact qparseA s w hs h1
  · cases hsl : hasSl s.data.toList
    · rw [hsl] at hn
      have e : cutB s.data.toList = s.data.toList := by
        rcases index_cut s.data.toList with ⟨_, _, e⟩ | ⟨e, _⟩
        · exact e
        · rw [hsl] at e; exact absurd e (by decide)
      rw [e] at h1
      rw [h1] at hn
      simp at hn
    · rw [hsl] at hn
      cases h2 : isWhl (cutA s.data.toList)
      · exact qparseC s w hs hsl h1 h2
      · by_cases h3 : 1 < whlOf (cutA s.data.toList)
        · by_cases h4 : Int.gcd (whlOf (cutB s.data.toList)) (whlOf (cutA s.data.toList)) = 1
          · simp [h1, h2, h3, h4] at hn
          · exact qparseE s w hs hsl h1 h2 h3 h4
        · exact qparseD s w hs hsl h1 h2 h3

end Go.Proofs.YtkdeopikojgboaaGreatDoor

/-
  PACKAGE rat: Read, readBoth.
-/
namespace Go.Proofs.YtkdeopikojgboaaGreatDoor
open Go.RowKit
open Num
set_option linter.unusedVariables false
set_option maxRecDepth 100000
set_option linter.unusedSimpArgs false

set_option maxHeartbeats 1000000 in
theorem qread_long {s : ByteArray} (h : 100 < s.size) (w : World) (hs : s.size ≤ maxLen) :
    Calls Tryz.prog 29 #[.string s] w fun e w' => e = .returned (.tuple #[.agg #[.bool false, .slice none 0 0, .bool false, .slice none 0 0], errno 4]) ∧ Below w.heap.size w w' := by
  have h' : (100 : Int) < (s.size : Int) := by omega
  unfold maxLen at hs
  have B := hid (Below.refl w.heap.size w)
  have hb1 := (Below.refl _ _).alloc (Nat.le_refl w.heap.size) (.cells #[.bool false, .slice none 0 0, .bool false, .slice none 0 0] 60)
  have hx2 := Nbx.new w false false (.slice none 0 0) (.slice none 0 0)
  replace B := bb B hb1
  have XQ := hid hx2
  have hs3 : (w.alloc (.cells #[.bool false, .slice none 0 0, .bool false, .slice none 0 0] 60)).heap.size = w.heap.size + 1 := by simp
  clear hb1 hx2
  clear hs3 h
  go_enter Tryz.func29, Tryz.ntmps29
  go_wp2_with fail
  refine bodyPost_ret (res_num_tmp rfl rfl rfl XQ.out) rfl ?_
  exact ⟨rfl, B.out⟩

set_option maxHeartbeats 1000000 in
theorem qread_form {s : ByteArray} (h : s.size ≤ 100) (hn : isRat s.data.toList = false) (w : World) :
    Calls Tryz.prog 29 #[.string s] w fun e w' => e = .returned (.tuple #[.agg #[.bool false, .slice none 0 0, .bool false, .slice none 0 0], errno 1]) ∧ Below w.heap.size w w' := by
  have h' : (s.size : Int) ≤ 100 := by omega
  have HN := hid hn
  have HS := hid h
  have B := hid (Below.refl w.heap.size w)
  have hb1 := (Below.refl _ _).alloc (Nat.le_refl w.heap.size) (.cells #[.bool false, .slice none 0 0, .bool false, .slice none 0 0] 60)
  have hx2 := Nbx.new w false false (.slice none 0 0) (.slice none 0 0)
  replace B := bb B hb1
  have XQ := hid hx2
  have hs3 : (w.alloc (.cells #[.bool false, .slice none 0 0, .bool false, .slice none 0 0] 60)).heap.size = w.heap.size + 1 := by simp
  clear hb1 hx2
  clear hs3 h hn
  go_enter Tryz.func29, Tryz.ntmps29
  obtain ⟨cc4a, cc4b, cc4c, cc4d⟩ := XQ.out.cells
  go_wp2_with fail
  generalize hW : w.alloc (.cells #[.bool false, .slice none 0 0, .bool false, .slice none 0 0] 60) = W5 at *
  clear hW
  refine (qparse_no s _ (by have := HS.out; omega) HN.out).mono ?_
  rintro e w6 ⟨rfl, hb⟩
  replace XQ := nx XQ hb
  replace B := bb B hb
  clear cc4a cc4b cc4c cc4d
  clear hb 
  obtain ⟨cc7a, cc7b, cc7c, cc7d⟩ := XQ.out.cells
  obtain ⟨⟨cc8a, cc8b⟩, ⟨cc8c, cc8d⟩, ⟨cc8e, cc8f⟩, cc8g, cc8h⟩ := XQ.out.stores
  obtain ⟨r9a, r9b, r9c⟩ := XQ.out.last B.out (by omega) false false none none 0 0 0 0
  replace XQ := hid r9a
  replace B := hid r9b
  clear r9a r9b r9c
  go_wp2_with fail
  refine bodyPost_ret (res_num_tmp rfl rfl rfl XQ.out) rfl ?_
  exact ⟨rfl, B.out⟩

theorem qread_bad {s : ByteArray} {k : Int} (h : BadQ s k) (w : World) (hs : s.size ≤ maxLen) :
    Calls Tryz.prog 29 #[.string s] w fun e w' => e = .returned (.tuple #[.agg #[.bool false, .slice none 0 0, .bool false, .slice none 0 0], errno k]) ∧ Below w.heap.size w w' := by
  rcases h with ⟨h, rfl⟩ | ⟨h, hn, rfl⟩
  · exact qread_long h w hs
  · exact qread_form h hn w

set_option maxHeartbeats 1000000 in
theorem qread_good {s : ByteArray} (h : GoodQ s) (w : World) :
    Calls Tryz.prog 29 #[.string s] w fun e w' => ∃ v, e = .returned (.tuple #[v, .nilIface]) ∧ Rtl w' v (qnum s) 100 ∧ Below w.heap.size w w' := by
  obtain ⟨h, hn⟩ := h
  have h' : (s.size : Int) ≤ 100 := by omega
  have HN := hid hn
  have HS := hid h
  have B := hid (Below.refl w.heap.size w)
  have hb1 := (Below.refl _ _).alloc (Nat.le_refl w.heap.size) (.cells #[.bool false, .slice none 0 0, .bool false, .slice none 0 0] 60)
  have hx2 := Nbx.new w false false (.slice none 0 0) (.slice none 0 0)
  replace B := bb B hb1
  have XQ := hid hx2
  have hs3 : (w.alloc (.cells #[.bool false, .slice none 0 0, .bool false, .slice none 0 0] 60)).heap.size = w.heap.size + 1 := by simp
  clear hb1 hx2
  clear hs3 h hn
  go_enter Tryz.func29, Tryz.ntmps29
  obtain ⟨cc4a, cc4b, cc4c, cc4d⟩ := XQ.out.cells
  go_wp2_with fail
  generalize hW : w.alloc (.cells #[.bool false, .slice none 0 0, .bool false, .slice none 0 0] 60) = W5 at *
  clear hW
  refine (qparse_yes s _ (by have := HS.out; omega) HN.out).mono ?_
  rintro e w6 ⟨v, rfl, hv, hb⟩
  replace hv := hv.mono HS.out
  obtain ⟨s9a, p9a, n9a, c9a, s9b, p9b, n9b, c9b, rfl⟩ := hv.opened
  obtain ⟨ht9, d9, hu9, hd9⟩ := hv.two
  have HD9 := hid hd9
  replace XQ := nx XQ hb
  replace B := bb B hb
  clear cc4a cc4b cc4c cc4d
  have HT9 := hid ht9
  have HU9 := hid hu9
  clear hb hv ht9 hu9 hd9
  obtain ⟨cc7a, cc7b, cc7c, cc7d⟩ := XQ.out.cells
  obtain ⟨⟨cc8a, cc8b⟩, ⟨cc8c, cc8d⟩, ⟨cc8e, cc8f⟩, cc8g, cc8h⟩ := XQ.out.stores
  obtain ⟨r9a, r9b, r9c⟩ := XQ.out.last B.out (by omega) s9a s9b p9a p9b n9a n9b c9a c9b
  replace HT9 := hid (r9c HT9.out)
  replace HU9 := hid (r9c HU9.out)
  replace XQ := hid r9a
  replace B := hid r9b
  clear r9a r9b r9c
  go_wp2_with fail
  refine bodyPost_ret (res_num_tmp rfl rfl rfl XQ.out) rfl ?_
  exact ⟨_, rfl, Rtl.mk2 HT9.out HU9.out HD9.out, B.out⟩

end Go.Proofs.YtkdeopikojgboaaGreatDoor

/-
  PACKAGE rat: ITS FUNCTIONS OF TEXTS.
-/
namespace Go.Proofs.YtkdeopikojgboaaGreatDoor
open Go.RowKit
open Num
set_option linter.unusedVariables false
set_option maxRecDepth 100000
set_option linter.unusedSimpArgs false

end Go.Proofs.YtkdeopikojgboaaGreatDoor

/-
  PACKAGE rat: TEXTS OF FRACTIONS; EACH FUNCTION AT WHATEVER TEXTS.
-/
namespace Go.Proofs.YtkdeopikojgboaaGreatDoor
open Go.RowKit
open Num
set_option linter.unusedVariables false
set_option maxRecDepth 100000
set_option linter.unusedSimpArgs false

theorem cells_whl_zero (w : World) (k : Nat) : Whl w (.agg #[.bool false, .slice none 0 0]) 0 k := ⟨false, _, [], rfl, Lim.nil w, .inl rfl, Nat.zero_le _, by simp, rfl⟩
theorem ba_ext {a b : ByteArray} (h : a.data.toList = b.data.toList) : a = b := by
  obtain ⟨⟨l⟩⟩ := a
  obtain ⟨⟨m⟩⟩ := b
  simp only at h
  rw [h]
theorem app_list (a b : ByteArray) : (a ++ b).data.toList = a.data.toList ++ b.data.toList := by
  rw [ByteArray.data_append, Array.toList_append]
theorem no_slash {l : List UInt8} (h : ∀ c ∈ l, c ≠ 47) : hasSl l = false ∧ cutB l = l := by
  induction l with
  | nil => exact ⟨rfl, rfl⟩
  | cons b l ih =>
    have h1 : (b != 47) = true := by simpa using h b (List.mem_cons_self ..)
    obtain ⟨i1, i2⟩ := ih fun c hc => h c (List.mem_cons_of_mem _ hc)
    exact ⟨by rw [← i1]; simp [hasSl, List.dropWhile_cons, h1], by rw [cutB, List.takeWhile_cons, if_pos h1]; exact congrArg _ i2⟩
theorem at_slash {l m : List UInt8} (h : ∀ c ∈ l, c ≠ 47) : hasSl (l ++ 47 :: m) = true ∧ cutB (l ++ 47 :: m) = l ∧ cutA (l ++ 47 :: m) = m := by
  have h' : ∀ c ∈ l, (c != 47) = true := fun c hc => by simpa using h c hc
  refine ⟨?_, ?_, ?_⟩
  · rw [hasSl, List.dropWhile_append_of_pos h']; simp
  · rw [cutB, List.takeWhile_append_of_pos h']; simp
  · rw [cutA, List.dropWhile_append_of_pos h']; simp
theorem slash_split {l : List UInt8} (h : hasSl l = true) : l = cutB l ++ 47 :: cutA l := by
  induction l with
  | nil => exact absurd h (by decide)
  | cons b l ih =>
    by_cases hb : b = 47
    · subst hb
      simp [cutB, cutA]
    · have h1 : (b != 47) = true := by simpa using hb
      have e1 : hasSl (b :: l) = hasSl l := by simp [hasSl, List.dropWhile_cons, h1]
      have e2 : cutB (b :: l) = b :: cutB l := by simp [cutB, List.takeWhile_cons, h1]
      have e3 : cutA (b :: l) = cutA l := by simp [cutA, List.dropWhile_cons, h1]
      rw [e1] at h
      rw [e2, e3, List.cons_append, ← ih h]
theorem dig_ne {c : UInt8} (h : isDig c = true) : c ≠ 47 := by
  intro e; subst e; exact absurd h (by decide)
theorem ztxt_ne (z : Int) : ∀ c ∈ (ztxt z).data.toList, c ≠ 47 := by
  have hd : ∀ n, ∀ c ∈ dtext n, c ≠ 47 := fun n c hc => dig_ne (List.all_eq_true.1 (dtext_all n) c hc)
  rw [ztxt_list]
  split
  · intro c hc
    rcases List.mem_cons.1 hc with rfl | hc
    · decide
    · exact hd _ c hc
  · exact hd _
theorem whlOf_ztxt (z : Int) : whlOf (ztxt z).data.toList = z := znum_ztxt z
theorem ztxt_whlOf {l : List UInt8} (h : isWhl l = true) : (ztxt (whlOf l)).data.toList = l := by
  have := ztxt_znum (s := ⟨l.toArray⟩) (by simpa using h)
  have e : znum ⟨l.toArray⟩ = whlOf l := by simp [znum]
  rw [e] at this
  rw [this]
theorem qtxt_one {q : Rat} (h : q.den = 1) : qtxt q = ztxt q.num := by rw [qtxt, if_pos h]
theorem qtxt_two {q : Rat} (h : q.den ≠ 1) : (qtxt q).data.toList = (ztxt q.num).data.toList ++ 47 :: (ztxt q.den).data.toList := by
  rw [qtxt, if_neg h, app_list, app_list]
  simp
theorem rat_of_one {q : Rat} (h : q.den = 1) : (q.num : Rat) = q := by
  apply Rat.ext
  · rw [Rat.num_intCast]
  · rw [Rat.den_intCast, h]
theorem isRat_qtxt (q : Rat) : isRat (qtxt q).data.toList = true := by
  by_cases h : q.den = 1
  · rw [qtxt_one h, isRat, if_neg (by rw [(no_slash (ztxt_ne _)).1]; decide)]
    exact isWhl_ztxt _
  · have hd := q.den_pos
    obtain ⟨e1, e2, e3⟩ := at_slash (m := (ztxt (q.den : Int)).data.toList) (ztxt_ne q.num)
    rw [qtxt_two h, isRat, if_pos e1, e2, e3, isWhl_ztxt, isWhl_ztxt, whlOf_ztxt, whlOf_ztxt]
    have hr : Int.gcd q.num q.den = 1 := q.reduced
    rw [decide_eq_true (by omega), decide_eq_true hr]
    rfl
theorem qnum_qtxt (q : Rat) : qnum (qtxt q) = q := by
  unfold qnum
  by_cases h : q.den = 1
  · rw [qtxt_one h, ratOf, if_neg (by rw [(no_slash (ztxt_ne _)).1]; decide), whlOf_ztxt]
    exact rat_of_one h
  · obtain ⟨e1, e2, e3⟩ := at_slash (m := (ztxt (q.den : Int)).data.toList) (ztxt_ne q.num)
    rw [qtxt_two h, ratOf, if_pos e1, e2, e3, whlOf_ztxt, whlOf_ztxt, Rat.num_divInt_den]
theorem qtxt_inj {p q : Rat} (h : qtxt p = qtxt q) : p = q := by
  have := congrArg qnum h
  rwa [qnum_qtxt, qnum_qtxt] at this
theorem qtxt_qnum {s : ByteArray} (h : isRat s.data.toList = true) : qtxt (qnum s) = s := by
  apply ba_ext
  unfold qnum
  cases hs : hasSl s.data.toList
  · rw [isRat, hs] at h
    rw [ratOf, hs, if_neg (by decide), qtxt_one (Rat.den_intCast _), Rat.num_intCast]
    exact ztxt_whlOf (by simpa using h)
  · rw [isRat, hs] at h
    simp only [if_true, Bool.and_eq_true, decide_eq_true_eq] at h
    obtain ⟨⟨⟨h1, h2⟩, h3⟩, h4⟩ := h
    obtain ⟨e1, e2⟩ := divInt_coprime h3 h4
    rw [ratOf, hs, if_pos rfl, qtxt_two (by omega), e1, e2, ztxt_whlOf h1, ztxt_whlOf h2]
    exact (slash_split hs).symm
theorem qtxt_good {s : ByteArray} (h : GoodQ s) : qtxt (qnum s) = s := qtxt_qnum h.2
theorem qtxt_zero : qtxt 0 = ⟨#[48]⟩ := by rw [qtxt_one rfl]; exact ztxt_zero
theorem qtxt_int (z : Int) : qtxt (z : Rat) = ztxt z := by rw [qtxt_one (Rat.den_intCast _), Rat.num_intCast]

theorem whl_lt {l : List UInt8} (h : isWhl l = true) : (whlOf l).natAbs < 10 ^ l.length := by
  cases hb : (l.head? == some 45)
  · have h3 : isNat l = true := by rw [isWhl, hb] at h; simpa using h
    have h4 : whlOf l = (dval l : Int) := by rw [whlOf, hb]; rfl
    rw [h4]
    simpa using dval_lt' h3
  · have h3 : isNat l.tail = true := by rw [isWhl, hb] at h; simp at h; exact h.1
    have h4 : whlOf l = -(dval l.tail : Int) := by rw [whlOf, hb]; rfl
    rw [h4]
    exact Nat.lt_of_lt_of_le (by simpa using dval_lt' h3) (Nat.pow_le_pow_right (by omega) (by simp))
theorem qnum_lt {s : ByteArray} (h : GoodQ s) : (qnum s).num.natAbs < 10 ^ 100 ∧ (qnum s).den < 10 ^ 100 := by
  obtain ⟨hl, h⟩ := h
  have hsz : s.data.toList.length = s.size := rfl
  have h1 : (1 : Nat) < 10 ^ 100 := by decide +kernel
  have up : ∀ {l : List UInt8}, isWhl l = true → l.length ≤ 100 → (whlOf l).natAbs < 10 ^ 100 := fun hw hl => Nat.lt_of_lt_of_le (whl_lt hw) (Nat.pow_le_pow_right (by omega) hl)
  unfold qnum
  cases hs : hasSl s.data.toList
  · rw [isRat, hs] at h
    rw [ratOf, hs, if_neg (by decide), Rat.num_intCast, Rat.den_intCast]
    exact ⟨up (by simpa using h) (by omega), h1⟩
  · rw [isRat, hs] at h
    simp only [if_true, Bool.and_eq_true, decide_eq_true_eq] at h
    obtain ⟨⟨⟨h1', h2⟩, h3⟩, h4⟩ := h
    obtain ⟨e1, e2⟩ := divInt_coprime h3 h4
    have hlen := congrArg List.length (slash_split hs)
    rw [List.length_append, List.length_cons] at hlen
    rw [ratOf, hs, if_pos rfl, e1]
    refine ⟨up h1' (by omega), ?_⟩
    have := up h2 (by omega)
    omega
theorem divInt_le (z y : Int) : (Rat.divInt z y).num.natAbs ≤ z.natAbs ∧ (Rat.divInt z y).den ≤ max y.natAbs 1 := by
  by_cases h : y = 0
  · subst h; rw [Rat.divInt_zero]; simp
  · obtain ⟨e1, e2⟩ := divInt_parts z y h
    refine ⟨by rw [e1]; exact natAbs_ediv_le _ _, ?_⟩
    have h1 := natAbs_ediv_le y (if y < 0 then -(Int.gcd z y : Int) else (Int.gcd z y : Int))
    rw [← e2] at h1
    have : ((Rat.divInt z y).den : Int).natAbs = (Rat.divInt z y).den := by simp
    omega
theorem size_qtxt {q : Rat} (k : Nat) (hk : 0 < k) (hn : q.num.natAbs < 10 ^ k) (hd : q.den < 10 ^ k) : (qtxt q).size ≤ 2 * k + 3 := by
  have h1 := size_ztxt_le hn hk
  have h2 := size_ztxt_le (z := (q.den : Int)) (k := k) (by simpa using hd) hk
  unfold qtxt
  split
  · omega
  · rw [ByteArray.size_append, ByteArray.size_append]
    have : (⟨#[47]⟩ : ByteArray).size = 1 := rfl
    omega
theorem big_sum : (10 : Nat) ^ 100 * 10 ^ 100 + 10 ^ 100 * 10 ^ 100 < 10 ^ 300 := by decide +kernel
theorem big_mul : (10 : Nat) ^ 100 * 10 ^ 100 < 10 ^ 300 := by decide +kernel
theorem size_divInt {z y : Int} (hz : z.natAbs < 10 ^ 300) (hy : y.natAbs < 10 ^ 300) : (qtxt (Rat.divInt z y)).size ≤ maxLen := by
  have h1 : (1 : Nat) < 10 ^ 300 := by decide +kernel
  obtain ⟨a, b⟩ := divInt_le z y
  have h2 : max y.natAbs 1 < 10 ^ 300 := by omega
  have := size_qtxt (q := Rat.divInt z y) 300 (by omega) (by omega) (by omega)
  unfold maxLen; omega
theorem lt_mul_big {a b : Nat} (ha : a < 10 ^ 100) (hb : b < 10 ^ 100) : a * b < 10 ^ 100 * 10 ^ 100 := Nat.mul_lt_mul'' ha hb
theorem size_add {a b : ByteArray} (ha : GoodQ a) (hb : GoodQ b) : (qtxt (qnum a + qnum b)).size ≤ maxLen := by
  obtain ⟨a1, a2⟩ := qnum_lt ha
  obtain ⟨b1, b2⟩ := qnum_lt hb
  rw [add_parts]
  have c1 := lt_mul_big a1 b2
  have c2 := lt_mul_big b1 a2
  have c3 := lt_mul_big a2 b2
  have e1 := big_sum
  have e2 := big_mul
  refine size_divInt ?_ ?_
  · have t := Int.natAbs_add_le ((qnum a).num * (qnum b).den) ((qnum b).num * (qnum a).den)
    simp only [Int.natAbs_mul, Int.natAbs_natCast] at t
    omega
  · rw [Int.natAbs_mul, Int.natAbs_natCast, Int.natAbs_natCast]; omega
theorem size_mul {a b : ByteArray} (ha : GoodQ a) (hb : GoodQ b) : (qtxt (qnum a * qnum b)).size ≤ maxLen := by
  obtain ⟨a1, a2⟩ := qnum_lt ha
  obtain ⟨b1, b2⟩ := qnum_lt hb
  rw [mul_parts]
  have c1 := lt_mul_big a1 b1
  have c3 := lt_mul_big a2 b2
  have e2 := big_mul
  refine size_divInt ?_ ?_
  · rw [Int.natAbs_mul]; omega
  · rw [Int.natAbs_mul, Int.natAbs_natCast, Int.natAbs_natCast]; omega
theorem size_div {a b : ByteArray} (ha : GoodQ a) (hb : GoodQ b) : (qtxt (qnum a / qnum b)).size ≤ maxLen := by
  obtain ⟨a1, a2⟩ := qnum_lt ha
  obtain ⟨b1, b2⟩ := qnum_lt hb
  rw [div_parts]
  have c1 := lt_mul_big a1 b2
  have c3 := lt_mul_big a2 b1
  have e2 := big_mul
  refine size_divInt ?_ ?_
  · rw [Int.natAbs_mul, Int.natAbs_natCast]; omega
  · rw [Int.natAbs_mul, Int.natAbs_natCast]; omega

theorem BadQ.ne {s : ByteArray} {k : Int} (h : BadQ s k) : k ≠ 0 := by
  rcases h with ⟨_, rfl⟩ | ⟨_, _, rfl⟩ <;> decide
theorem WrongQ.ne {a b : ByteArray} {k : Int} (h : WrongQ a b k) : k ≠ 0 := by
  rcases h with h | ⟨_, h⟩ <;> exact h.ne
theorem BadQ.not {s : ByteArray} {k : Int} (h : BadQ s k) : ¬ GoodQ s := by
  rintro ⟨h1, h2⟩
  rcases h with ⟨h, _⟩ | ⟨_, h, _⟩
  · omega
  · rw [h] at h2; cases h2
theorem WrongQ.not {a b : ByteArray} {k : Int} (h : WrongQ a b k) : ¬ (GoodQ a ∧ GoodQ b) := by
  rintro ⟨h1, h2⟩
  rcases h with h | ⟨_, h⟩
  · exact h.not h1
  · exact h.not h2

/-- What a function of two fractions tells: the text of f, or nothing and an error. -/
def QTells (f : Rat → Rat → Rat) (a b s : ByteArray) (k : Int) : Prop :=
  (k = 0 ∧ GoodQ a ∧ GoodQ b ∧ s = qtxt (f (qnum a) (qnum b))) ∨ (k ≠ 0 ∧ WrongQ a b k ∧ s = ⟨#[]⟩)
theorem QTells.yes {f : Rat → Rat → Rat} {a b s : ByteArray} {k : Int} (h : QTells f a b s k) (hk : k = 0) : GoodQ a ∧ GoodQ b ∧ s = qtxt (f (qnum a) (qnum b)) := by
  rcases h with ⟨_, h⟩ | ⟨h, _⟩
  · exact h
  · exact absurd hk h
theorem QTells.zero {f : Rat → Rat → Rat} {a b s : ByteArray} {k : Int} (h : QTells f a b s k) (ha : GoodQ a) (hb : GoodQ b) : k = 0 := by
  rcases h with ⟨h, _⟩ | ⟨_, h, _⟩
  · exact h
  · exact absurd ⟨ha, hb⟩ h.not
theorem QTells.no {f : Rat → Rat → Rat} {a b s : ByteArray} {k : Int} (h : QTells f a b s k) (hn : ¬ (GoodQ a ∧ GoodQ b)) : k ≠ 0 ∧ s = ⟨#[]⟩ := by
  rcases h with ⟨_, h1, h2, _⟩ | ⟨h, _, h2⟩
  · exact absurd ⟨h1, h2⟩ hn
  · exact ⟨h, h2⟩
/-- What a division tells. -/
def QDivs (a b s : ByteArray) (k : Int) : Prop :=
  (k = 0 ∧ GoodQ a ∧ GoodQ b ∧ qnum b ≠ 0 ∧ s = qtxt (qnum a / qnum b)) ∨
  (k ≠ 0 ∧ s = ⟨#[]⟩ ∧ (WrongQ a b k ∨ (GoodQ a ∧ GoodQ b ∧ qnum b = 0 ∧ k = 5)))
theorem QDivs.yes {a b s : ByteArray} {k : Int} (h : QDivs a b s k) (hk : k = 0) : GoodQ a ∧ GoodQ b ∧ qnum b ≠ 0 ∧ s = qtxt (qnum a / qnum b) := by
  rcases h with ⟨_, h⟩ | ⟨h, _⟩
  · exact h
  · exact absurd hk h
theorem QDivs.zero {a b s : ByteArray} {k : Int} (h : QDivs a b s k) (ha : GoodQ a) (hb : GoodQ b) (h0 : qnum b ≠ 0) : k = 0 := by
  rcases h with ⟨h, _⟩ | ⟨_, _, h | ⟨_, _, h, _⟩⟩
  · exact h
  · exact absurd ⟨ha, hb⟩ h.not
  · exact absurd h h0
theorem QDivs.no {a b s : ByteArray} {k : Int} (h : QDivs a b s k) (hk : k ≠ 0) : s = ⟨#[]⟩ ∧ (GoodQ a → GoodQ b → qnum b = 0) := by
  rcases h with ⟨h, _⟩ | ⟨_, hs, h | ⟨_, _, h, _⟩⟩
  · exact absurd h hk
  · exact ⟨hs, fun h1 h2 => absurd ⟨h1, h2⟩ h.not⟩
  · exact ⟨hs, fun _ _ => h⟩
/-- What a comparison tells. -/
def QLess (a b : ByteArray) (t : Bool) (k : Int) : Prop :=
  (k = 0 ∧ GoodQ a ∧ GoodQ b ∧ t = decide (qnum a < qnum b)) ∨ (k ≠ 0 ∧ WrongQ a b k ∧ t = false)
theorem QLess.yes {a b : ByteArray} {t : Bool} {k : Int} (h : QLess a b t k) (hk : k = 0) : GoodQ a ∧ GoodQ b ∧ t = decide (qnum a < qnum b) := by
  rcases h with ⟨_, h⟩ | ⟨h, _⟩
  · exact h
  · exact absurd hk h
theorem QLess.zero {a b : ByteArray} {t : Bool} {k : Int} (h : QLess a b t k) (ha : GoodQ a) (hb : GoodQ b) : k = 0 := by
  rcases h with ⟨h, _⟩ | ⟨_, h, _⟩
  · exact h
  · exact absurd ⟨ha, hb⟩ h.not
theorem QLess.no {a b : ByteArray} {t : Bool} {k : Int} (h : QLess a b t k) (hn : ¬ (GoodQ a ∧ GoodQ b)) : k ≠ 0 ∧ t = false := by
  rcases h with ⟨_, h1, h2, _⟩ | ⟨h, _, h2⟩
  · exact absurd ⟨h1, h2⟩ hn
  · exact ⟨h, h2⟩
/-- What Floor tells. -/
def QFloors (a s : ByteArray) (k : Int) : Prop := (k = 0 ∧ GoodQ a ∧ s = ztxt (qnum a).floor) ∨ (k ≠ 0 ∧ BadQ a k ∧ s = ⟨#[]⟩)
/-- What Make tells. -/
def QMakes (a b s : ByteArray) (k : Int) : Prop :=
  (k = 0 ∧ GoodZ a ∧ GoodZ b ∧ znum b ≠ 0 ∧ s = qtxt (Rat.divInt (znum a) (znum b))) ∨
  (k ≠ 0 ∧ s = ⟨#[]⟩ ∧ (WrongZ a b k ∨ (GoodZ a ∧ GoodZ b ∧ znum b = 0 ∧ k = 5)))
theorem QMakes.yes {a b s : ByteArray} {k : Int} (h : QMakes a b s k) (hk : k = 0) : GoodZ a ∧ GoodZ b ∧ znum b ≠ 0 ∧ s = qtxt (Rat.divInt (znum a) (znum b)) := by
  rcases h with ⟨_, h⟩ | ⟨h, _⟩
  · exact h
  · exact absurd hk h
theorem QMakes.no {a b s : ByteArray} {k : Int} (h : QMakes a b s k) (hk : k ≠ 0) : s = ⟨#[]⟩ := by
  rcases h with ⟨h, _⟩ | ⟨_, h, _⟩
  · exact absurd h hk
  · exact h

theorem floor_lt {a : ByteArray} (h : GoodQ a) : (qnum a).floor.natAbs < 10 ^ 100 := by
  rw [Rat.floor_def]
  exact Nat.lt_of_le_of_lt (natAbs_ediv_le _ _) (qnum_lt h).1
end Go.Proofs.YtkdeopikojgboaaGreatDoor

/-
  PACKAGE ival: an interval in memory.
-/
namespace Go.Proofs.YtkdeopikojgboaaGreatDoor
open Go.RowKit
open Num
set_option linter.unusedVariables false
set_option maxRecDepth 100000
set_option linter.unusedSimpArgs false

/-- A block of eight cells: an interval. -/
def Ibx (w : World) (g : Nat) (s1 : Bool) (p1 : Option Addr) (n1 c1 : Nat) (s2 : Bool) (p2 : Option Addr) (n2 c2 : Nat) (s3 : Bool) (p3 : Option Addr) (n3 c3 : Nat) (s4 : Bool) (p4 : Option Addr) (n4 c4 : Nat) : Prop := w.heap[g]? = some (.cells #[.bool s1, .slice p1 n1 c1, .bool s2, .slice p2 n2 c2, .bool s3, .slice p3 n3 c3, .bool s4, .slice p4 n4 c4] 62 (0, 0))
theorem Ibx.lt {w : World} {g : Nat} {s1 : Bool} {p1 : Option Addr} {n1 c1 : Nat} {s2 : Bool} {p2 : Option Addr} {n2 c2 : Nat} {s3 : Bool} {p3 : Option Addr} {n3 c3 : Nat} {s4 : Bool} {p4 : Option Addr} {n4 c4 : Nat} (h : Ibx w g s1 p1 n1 c1 s2 p2 n2 c2 s3 p3 n3 c3 s4 p4 n4 c4) : g < w.heap.size := lt_of_block h
theorem Ibx.cells {w : World} {g : Nat} {s1 : Bool} {p1 : Option Addr} {n1 c1 : Nat} {s2 : Bool} {p2 : Option Addr} {n2 c2 : Nat} {s3 : Bool} {p3 : Option Addr} {n3 c3 : Nat} {s4 : Bool} {p4 : Option Addr} {n4 c4 : Nat} (h : Ibx w g s1 p1 n1 c1 s2 p2 n2 c2 s3 p3 n3 c3 s4 p4 n4 c4) : w.cell? ⟨g, 0, none⟩ = some (.bool s1) ∧ w.cell? ⟨g, 1, none⟩ = some (.slice p1 n1 c1) ∧ w.cell? ⟨g, 2, none⟩ = some (.bool s2) ∧ w.cell? ⟨g, 3, none⟩ = some (.slice p2 n2 c2) ∧ w.cell? ⟨g, 4, none⟩ = some (.bool s3) ∧ w.cell? ⟨g, 5, none⟩ = some (.slice p3 n3 c3) ∧ w.cell? ⟨g, 6, none⟩ = some (.bool s4) ∧ w.cell? ⟨g, 7, none⟩ = some (.slice p4 n4 c4) := by
  have hh : w.heap[g]? = some (.cells #[.bool s1, .slice p1 n1 c1, .bool s2, .slice p2 n2 c2, .bool s3, .slice p3 n3 c3, .bool s4, .slice p4 n4 c4] 62 (0, 0)) := h
  refine ⟨?_, ?_, ?_, ?_, ?_, ?_, ?_, ?_⟩ <;> simp [World.cell?, hh]
theorem Ibx.free {w : World} {g : Nat} {s1 : Bool} {p1 : Option Addr} {n1 c1 : Nat} {s2 : Bool} {p2 : Option Addr} {n2 c2 : Nat} {s3 : Bool} {p3 : Option Addr} {n3 c3 : Nat} {s4 : Bool} {p4 : Option Addr} {n4 c4 : Nat} (h : Ibx w g s1 p1 n1 c1 s2 p2 n2 c2 s3 p3 n3 c3 s4 p4 n4 c4) (i : Nat) : w.frozen? ⟨g, i, none⟩ = false := by
  have hh : w.heap[g]? = some (.cells #[.bool s1, .slice p1 n1 c1, .bool s2, .slice p2 n2 c2, .bool s3, .slice p3 n3 c3, .bool s4, .slice p4 n4 c4] 62 (0, 0)) := h
  simp [World.frozen?, hh]
theorem Ibx.below {w w' : World} {g K : Nat} {s1 : Bool} {p1 : Option Addr} {n1 c1 : Nat} {s2 : Bool} {p2 : Option Addr} {n2 c2 : Nat} {s3 : Bool} {p3 : Option Addr} {n3 c3 : Nat} {s4 : Bool} {p4 : Option Addr} {n4 c4 : Nat} (h : Ibx w g s1 p1 n1 c1 s2 p2 n2 c2 s3 p3 n3 c3 s4 p4 n4 c4) (hb : Below K w w') (hK : g < K) : Ibx w' g s1 p1 n1 c1 s2 p2 n2 c2 s3 p3 n3 c3 s4 p4 n4 c4 := (hb.block g hK).trans h
theorem Ibx.dr {w : World} {g : Nat} {s1 : Bool} {p1 : Option Addr} {n1 c1 : Nat} {s2 : Bool} {p2 : Option Addr} {n2 c2 : Nat} {s3 : Bool} {p3 : Option Addr} {n3 c3 : Nat} {s4 : Bool} {p4 : Option Addr} {n4 c4 : Nat} (h : Ibx w g s1 p1 n1 c1 s2 p2 n2 c2 s3 p3 n3 c3 s4 p4 n4 c4) : Ibx w.drew g s1 p1 n1 c1 s2 p2 n2 c2 s3 p3 n3 c3 s4 p4 n4 c4 := h
theorem Ibx.new (w : World) (s1 : Bool) (p1 : Option Addr) (n1 c1 : Nat) (s2 : Bool) (p2 : Option Addr) (n2 c2 : Nat) (s3 : Bool) (p3 : Option Addr) (n3 c3 : Nat) (s4 : Bool) (p4 : Option Addr) (n4 c4 : Nat) : Ibx (w.alloc (.cells #[.bool s1, .slice p1 n1 c1, .bool s2, .slice p2 n2 c2, .bool s3, .slice p3 n3 c3, .bool s4, .slice p4 n4 c4] 62)) w.heap.size s1 p1 n1 c1 s2 p2 n2 c2 s3 p3 n3 c3 s4 p4 n4 c4 := by
  show (w.heap.push _)[w.heap.size]? = _
  simp
theorem Ibx.other {w : World} {g g2 : Nat} {s1 : Bool} {p1 : Option Addr} {n1 c1 : Nat} {s2 : Bool} {p2 : Option Addr} {n2 c2 : Nat} {s3 : Bool} {p3 : Option Addr} {n3 c3 : Nat} {s4 : Bool} {p4 : Option Addr} {n4 c4 : Nat} (h : Ibx w g s1 p1 n1 c1 s2 p2 n2 c2 s3 p3 n3 c3 s4 p4 n4 c4) (hne : g ≠ g2) (i : Nat) (v : Value) : Ibx (w.setCell ⟨g2, i, none⟩ v) g s1 p1 n1 c1 s2 p2 n2 c2 s3 p3 n3 c3 s4 p4 n4 c4 := by
  show (w.setCell ⟨g2, i, none⟩ v).heap[g]? = _
  rw [Below.heap_setCell _ _ _ _ (by exact hne)]; exact h
theorem Ibx.set0 {w : World} {g : Nat} {s1 : Bool} {p1 : Option Addr} {n1 c1 : Nat} {s2 : Bool} {p2 : Option Addr} {n2 c2 : Nat} {s3 : Bool} {p3 : Option Addr} {n3 c3 : Nat} {s4 : Bool} {p4 : Option Addr} {n4 c4 : Nat} (h : Ibx w g s1 p1 n1 c1 s2 p2 n2 c2 s3 p3 n3 c3 s4 p4 n4 c4) (x : Bool) : Ibx (w.setCell ⟨g, 0, none⟩ (.bool x)) g x p1 n1 c1 s2 p2 n2 c2 s3 p3 n3 c3 s4 p4 n4 c4 := by
  have hh : w.heap[g]? = some (.cells #[.bool s1, .slice p1 n1 c1, .bool s2, .slice p2 n2 c2, .bool s3, .slice p3 n3 c3, .bool s4, .slice p4 n4 c4] 62 (0, 0)) := h
  show (w.setCell ⟨g, 0, none⟩ (.bool x)).heap[g]? = _
  simp only [World.setCell, Array.getElem?_modify, hh]
  simp
theorem Ibx.set1 {w : World} {g : Nat} {s1 : Bool} {p1 : Option Addr} {n1 c1 : Nat} {s2 : Bool} {p2 : Option Addr} {n2 c2 : Nat} {s3 : Bool} {p3 : Option Addr} {n3 c3 : Nat} {s4 : Bool} {p4 : Option Addr} {n4 c4 : Nat} (h : Ibx w g s1 p1 n1 c1 s2 p2 n2 c2 s3 p3 n3 c3 s4 p4 n4 c4) (q : Option Addr) (m d : Nat) : Ibx (w.setCell ⟨g, 1, none⟩ (.slice q m d)) g s1 q m d s2 p2 n2 c2 s3 p3 n3 c3 s4 p4 n4 c4 := by
  have hh : w.heap[g]? = some (.cells #[.bool s1, .slice p1 n1 c1, .bool s2, .slice p2 n2 c2, .bool s3, .slice p3 n3 c3, .bool s4, .slice p4 n4 c4] 62 (0, 0)) := h
  show (w.setCell ⟨g, 1, none⟩ (.slice q m d)).heap[g]? = _
  simp only [World.setCell, Array.getElem?_modify, hh]
  simp
theorem Ibx.set2 {w : World} {g : Nat} {s1 : Bool} {p1 : Option Addr} {n1 c1 : Nat} {s2 : Bool} {p2 : Option Addr} {n2 c2 : Nat} {s3 : Bool} {p3 : Option Addr} {n3 c3 : Nat} {s4 : Bool} {p4 : Option Addr} {n4 c4 : Nat} (h : Ibx w g s1 p1 n1 c1 s2 p2 n2 c2 s3 p3 n3 c3 s4 p4 n4 c4) (x : Bool) : Ibx (w.setCell ⟨g, 2, none⟩ (.bool x)) g s1 p1 n1 c1 x p2 n2 c2 s3 p3 n3 c3 s4 p4 n4 c4 := by
  have hh : w.heap[g]? = some (.cells #[.bool s1, .slice p1 n1 c1, .bool s2, .slice p2 n2 c2, .bool s3, .slice p3 n3 c3, .bool s4, .slice p4 n4 c4] 62 (0, 0)) := h
  show (w.setCell ⟨g, 2, none⟩ (.bool x)).heap[g]? = _
  simp only [World.setCell, Array.getElem?_modify, hh]
  simp
theorem Ibx.set3 {w : World} {g : Nat} {s1 : Bool} {p1 : Option Addr} {n1 c1 : Nat} {s2 : Bool} {p2 : Option Addr} {n2 c2 : Nat} {s3 : Bool} {p3 : Option Addr} {n3 c3 : Nat} {s4 : Bool} {p4 : Option Addr} {n4 c4 : Nat} (h : Ibx w g s1 p1 n1 c1 s2 p2 n2 c2 s3 p3 n3 c3 s4 p4 n4 c4) (q : Option Addr) (m d : Nat) : Ibx (w.setCell ⟨g, 3, none⟩ (.slice q m d)) g s1 p1 n1 c1 s2 q m d s3 p3 n3 c3 s4 p4 n4 c4 := by
  have hh : w.heap[g]? = some (.cells #[.bool s1, .slice p1 n1 c1, .bool s2, .slice p2 n2 c2, .bool s3, .slice p3 n3 c3, .bool s4, .slice p4 n4 c4] 62 (0, 0)) := h
  show (w.setCell ⟨g, 3, none⟩ (.slice q m d)).heap[g]? = _
  simp only [World.setCell, Array.getElem?_modify, hh]
  simp
theorem Ibx.set4 {w : World} {g : Nat} {s1 : Bool} {p1 : Option Addr} {n1 c1 : Nat} {s2 : Bool} {p2 : Option Addr} {n2 c2 : Nat} {s3 : Bool} {p3 : Option Addr} {n3 c3 : Nat} {s4 : Bool} {p4 : Option Addr} {n4 c4 : Nat} (h : Ibx w g s1 p1 n1 c1 s2 p2 n2 c2 s3 p3 n3 c3 s4 p4 n4 c4) (x : Bool) : Ibx (w.setCell ⟨g, 4, none⟩ (.bool x)) g s1 p1 n1 c1 s2 p2 n2 c2 x p3 n3 c3 s4 p4 n4 c4 := by
  have hh : w.heap[g]? = some (.cells #[.bool s1, .slice p1 n1 c1, .bool s2, .slice p2 n2 c2, .bool s3, .slice p3 n3 c3, .bool s4, .slice p4 n4 c4] 62 (0, 0)) := h
  show (w.setCell ⟨g, 4, none⟩ (.bool x)).heap[g]? = _
  simp only [World.setCell, Array.getElem?_modify, hh]
  simp
theorem Ibx.set5 {w : World} {g : Nat} {s1 : Bool} {p1 : Option Addr} {n1 c1 : Nat} {s2 : Bool} {p2 : Option Addr} {n2 c2 : Nat} {s3 : Bool} {p3 : Option Addr} {n3 c3 : Nat} {s4 : Bool} {p4 : Option Addr} {n4 c4 : Nat} (h : Ibx w g s1 p1 n1 c1 s2 p2 n2 c2 s3 p3 n3 c3 s4 p4 n4 c4) (q : Option Addr) (m d : Nat) : Ibx (w.setCell ⟨g, 5, none⟩ (.slice q m d)) g s1 p1 n1 c1 s2 p2 n2 c2 s3 q m d s4 p4 n4 c4 := by
  have hh : w.heap[g]? = some (.cells #[.bool s1, .slice p1 n1 c1, .bool s2, .slice p2 n2 c2, .bool s3, .slice p3 n3 c3, .bool s4, .slice p4 n4 c4] 62 (0, 0)) := h
  show (w.setCell ⟨g, 5, none⟩ (.slice q m d)).heap[g]? = _
  simp only [World.setCell, Array.getElem?_modify, hh]
  simp
theorem Ibx.set6 {w : World} {g : Nat} {s1 : Bool} {p1 : Option Addr} {n1 c1 : Nat} {s2 : Bool} {p2 : Option Addr} {n2 c2 : Nat} {s3 : Bool} {p3 : Option Addr} {n3 c3 : Nat} {s4 : Bool} {p4 : Option Addr} {n4 c4 : Nat} (h : Ibx w g s1 p1 n1 c1 s2 p2 n2 c2 s3 p3 n3 c3 s4 p4 n4 c4) (x : Bool) : Ibx (w.setCell ⟨g, 6, none⟩ (.bool x)) g s1 p1 n1 c1 s2 p2 n2 c2 s3 p3 n3 c3 x p4 n4 c4 := by
  have hh : w.heap[g]? = some (.cells #[.bool s1, .slice p1 n1 c1, .bool s2, .slice p2 n2 c2, .bool s3, .slice p3 n3 c3, .bool s4, .slice p4 n4 c4] 62 (0, 0)) := h
  show (w.setCell ⟨g, 6, none⟩ (.bool x)).heap[g]? = _
  simp only [World.setCell, Array.getElem?_modify, hh]
  simp
theorem Ibx.set7 {w : World} {g : Nat} {s1 : Bool} {p1 : Option Addr} {n1 c1 : Nat} {s2 : Bool} {p2 : Option Addr} {n2 c2 : Nat} {s3 : Bool} {p3 : Option Addr} {n3 c3 : Nat} {s4 : Bool} {p4 : Option Addr} {n4 c4 : Nat} (h : Ibx w g s1 p1 n1 c1 s2 p2 n2 c2 s3 p3 n3 c3 s4 p4 n4 c4) (q : Option Addr) (m d : Nat) : Ibx (w.setCell ⟨g, 7, none⟩ (.slice q m d)) g s1 p1 n1 c1 s2 p2 n2 c2 s3 p3 n3 c3 s4 q m d := by
  have hh : w.heap[g]? = some (.cells #[.bool s1, .slice p1 n1 c1, .bool s2, .slice p2 n2 c2, .bool s3, .slice p3 n3 c3, .bool s4, .slice p4 n4 c4] 62 (0, 0)) := h
  show (w.setCell ⟨g, 7, none⟩ (.slice q m d)).heap[g]? = _
  simp only [World.setCell, Array.getElem?_modify, hh]
  simp
theorem Ibx.stores {w : World} {g : Nat} {s1 : Bool} {p1 : Option Addr} {n1 c1 : Nat} {s2 : Bool} {p2 : Option Addr} {n2 c2 : Nat} {s3 : Bool} {p3 : Option Addr} {n3 c3 : Nat} {s4 : Bool} {p4 : Option Addr} {n4 c4 : Nat} (h : Ibx w g s1 p1 n1 c1 s2 p2 n2 c2 s3 p3 n3 c3 s4 p4 n4 c4) :
    ((w.cell? ⟨g, 0, none⟩ = some (.bool s1)) ∧ (w.frozen? ⟨g, 0, none⟩ = false)) ∧
    ((∀ x0, (w.setCell ⟨g, 0, none⟩ (.bool x0)).cell? ⟨g, 1, none⟩ = some (.slice p1 n1 c1)) ∧ (∀ x0, (w.setCell ⟨g, 0, none⟩ (.bool x0)).frozen? ⟨g, 1, none⟩ = false)) ∧
    ((∀ x0 x1 y1 z1, ((w.setCell ⟨g, 0, none⟩ (.bool x0)).setCell ⟨g, 1, none⟩ (.slice x1 y1 z1)).cell? ⟨g, 2, none⟩ = some (.bool s2)) ∧ (∀ x0 x1 y1 z1, ((w.setCell ⟨g, 0, none⟩ (.bool x0)).setCell ⟨g, 1, none⟩ (.slice x1 y1 z1)).frozen? ⟨g, 2, none⟩ = false)) ∧
    ((∀ x0 x1 y1 z1 x2, (((w.setCell ⟨g, 0, none⟩ (.bool x0)).setCell ⟨g, 1, none⟩ (.slice x1 y1 z1)).setCell ⟨g, 2, none⟩ (.bool x2)).cell? ⟨g, 3, none⟩ = some (.slice p2 n2 c2)) ∧ (∀ x0 x1 y1 z1 x2, (((w.setCell ⟨g, 0, none⟩ (.bool x0)).setCell ⟨g, 1, none⟩ (.slice x1 y1 z1)).setCell ⟨g, 2, none⟩ (.bool x2)).frozen? ⟨g, 3, none⟩ = false)) ∧
    ((∀ x0 x1 y1 z1 x2 x3 y3 z3, ((((w.setCell ⟨g, 0, none⟩ (.bool x0)).setCell ⟨g, 1, none⟩ (.slice x1 y1 z1)).setCell ⟨g, 2, none⟩ (.bool x2)).setCell ⟨g, 3, none⟩ (.slice x3 y3 z3)).cell? ⟨g, 4, none⟩ = some (.bool s3)) ∧ (∀ x0 x1 y1 z1 x2 x3 y3 z3, ((((w.setCell ⟨g, 0, none⟩ (.bool x0)).setCell ⟨g, 1, none⟩ (.slice x1 y1 z1)).setCell ⟨g, 2, none⟩ (.bool x2)).setCell ⟨g, 3, none⟩ (.slice x3 y3 z3)).frozen? ⟨g, 4, none⟩ = false)) ∧
    ((∀ x0 x1 y1 z1 x2 x3 y3 z3 x4, (((((w.setCell ⟨g, 0, none⟩ (.bool x0)).setCell ⟨g, 1, none⟩ (.slice x1 y1 z1)).setCell ⟨g, 2, none⟩ (.bool x2)).setCell ⟨g, 3, none⟩ (.slice x3 y3 z3)).setCell ⟨g, 4, none⟩ (.bool x4)).cell? ⟨g, 5, none⟩ = some (.slice p3 n3 c3)) ∧ (∀ x0 x1 y1 z1 x2 x3 y3 z3 x4, (((((w.setCell ⟨g, 0, none⟩ (.bool x0)).setCell ⟨g, 1, none⟩ (.slice x1 y1 z1)).setCell ⟨g, 2, none⟩ (.bool x2)).setCell ⟨g, 3, none⟩ (.slice x3 y3 z3)).setCell ⟨g, 4, none⟩ (.bool x4)).frozen? ⟨g, 5, none⟩ = false)) ∧
    ((∀ x0 x1 y1 z1 x2 x3 y3 z3 x4 x5 y5 z5, ((((((w.setCell ⟨g, 0, none⟩ (.bool x0)).setCell ⟨g, 1, none⟩ (.slice x1 y1 z1)).setCell ⟨g, 2, none⟩ (.bool x2)).setCell ⟨g, 3, none⟩ (.slice x3 y3 z3)).setCell ⟨g, 4, none⟩ (.bool x4)).setCell ⟨g, 5, none⟩ (.slice x5 y5 z5)).cell? ⟨g, 6, none⟩ = some (.bool s4)) ∧ (∀ x0 x1 y1 z1 x2 x3 y3 z3 x4 x5 y5 z5, ((((((w.setCell ⟨g, 0, none⟩ (.bool x0)).setCell ⟨g, 1, none⟩ (.slice x1 y1 z1)).setCell ⟨g, 2, none⟩ (.bool x2)).setCell ⟨g, 3, none⟩ (.slice x3 y3 z3)).setCell ⟨g, 4, none⟩ (.bool x4)).setCell ⟨g, 5, none⟩ (.slice x5 y5 z5)).frozen? ⟨g, 6, none⟩ = false)) ∧
    (∀ x0 x1 y1 z1 x2 x3 y3 z3 x4 x5 y5 z5 x6, (((((((w.setCell ⟨g, 0, none⟩ (.bool x0)).setCell ⟨g, 1, none⟩ (.slice x1 y1 z1)).setCell ⟨g, 2, none⟩ (.bool x2)).setCell ⟨g, 3, none⟩ (.slice x3 y3 z3)).setCell ⟨g, 4, none⟩ (.bool x4)).setCell ⟨g, 5, none⟩ (.slice x5 y5 z5)).setCell ⟨g, 6, none⟩ (.bool x6)).cell? ⟨g, 7, none⟩ = some (.slice p4 n4 c4)) ∧
    (∀ x0 x1 y1 z1 x2 x3 y3 z3 x4 x5 y5 z5 x6, (((((((w.setCell ⟨g, 0, none⟩ (.bool x0)).setCell ⟨g, 1, none⟩ (.slice x1 y1 z1)).setCell ⟨g, 2, none⟩ (.bool x2)).setCell ⟨g, 3, none⟩ (.slice x3 y3 z3)).setCell ⟨g, 4, none⟩ (.bool x4)).setCell ⟨g, 5, none⟩ (.slice x5 y5 z5)).setCell ⟨g, 6, none⟩ (.bool x6)).frozen? ⟨g, 7, none⟩ = false) :=
  ⟨⟨h.cells.1, h.free 0⟩,
    ⟨fun x0 => (h.set0 x0).cells.2.1, fun x0 => (h.set0 x0).free 1⟩,
    ⟨fun x0 x1 y1 z1 => ((h.set0 x0).set1 x1 y1 z1).cells.2.2.1, fun x0 x1 y1 z1 => ((h.set0 x0).set1 x1 y1 z1).free 2⟩,
    ⟨fun x0 x1 y1 z1 x2 => (((h.set0 x0).set1 x1 y1 z1).set2 x2).cells.2.2.2.1, fun x0 x1 y1 z1 x2 => (((h.set0 x0).set1 x1 y1 z1).set2 x2).free 3⟩,
    ⟨fun x0 x1 y1 z1 x2 x3 y3 z3 => ((((h.set0 x0).set1 x1 y1 z1).set2 x2).set3 x3 y3 z3).cells.2.2.2.2.1, fun x0 x1 y1 z1 x2 x3 y3 z3 => ((((h.set0 x0).set1 x1 y1 z1).set2 x2).set3 x3 y3 z3).free 4⟩,
    ⟨fun x0 x1 y1 z1 x2 x3 y3 z3 x4 => (((((h.set0 x0).set1 x1 y1 z1).set2 x2).set3 x3 y3 z3).set4 x4).cells.2.2.2.2.2.1, fun x0 x1 y1 z1 x2 x3 y3 z3 x4 => (((((h.set0 x0).set1 x1 y1 z1).set2 x2).set3 x3 y3 z3).set4 x4).free 5⟩,
    ⟨fun x0 x1 y1 z1 x2 x3 y3 z3 x4 x5 y5 z5 => ((((((h.set0 x0).set1 x1 y1 z1).set2 x2).set3 x3 y3 z3).set4 x4).set5 x5 y5 z5).cells.2.2.2.2.2.2.1, fun x0 x1 y1 z1 x2 x3 y3 z3 x4 x5 y5 z5 => ((((((h.set0 x0).set1 x1 y1 z1).set2 x2).set3 x3 y3 z3).set4 x4).set5 x5 y5 z5).free 6⟩,
    fun x0 x1 y1 z1 x2 x3 y3 z3 x4 x5 y5 z5 x6 => (((((((h.set0 x0).set1 x1 y1 z1).set2 x2).set3 x3 y3 z3).set4 x4).set5 x5 y5 z5).set6 x6).cells.2.2.2.2.2.2.2,
    fun x0 x1 y1 z1 x2 x3 y3 z3 x4 x5 y5 z5 x6 => (((((((h.set0 x0).set1 x1 y1 z1).set2 x2).set3 x3 y3 z3).set4 x4).set5 x5 y5 z5).set6 x6).free 7⟩
theorem Lim.ibx {w : World} {v : Value} {xs : List Nat} {g : Nat} {s1 : Bool} {p1 : Option Addr} {n1 c1 : Nat} {s2 : Bool} {p2 : Option Addr} {n2 c2 : Nat} {s3 : Bool} {p3 : Option Addr} {n3 c3 : Nat} {s4 : Bool} {p4 : Option Addr} {n4 c4 : Nat} (h : Lim w v xs) (hx : Ibx w g s1 p1 n1 c1 s2 p2 n2 c2 s3 p3 n3 c3 s4 p4 n4 c4) (i : Nat) (u : Value) : Lim (w.setCell ⟨g, i, none⟩ u) v xs := by
  have hg : w.heap[g]? = some (.cells #[.bool s1, .slice p1 n1 c1, .bool s2, .slice p2 n2 c2, .bool s3, .slice p3 n3 c3, .bool s4, .slice p4 n4 c4] 62 (0, 0)) := hx
  obtain ⟨h1, q, d, h2, h3, h4, h5⟩ := h
  refine ⟨h1, q, d, h2, h3, h4, ?_⟩
  rcases h5 with h5 | ⟨b, off, h6, h7, h8⟩
  · exact .inl h5
  · refine .inr ⟨b, off, h6, by simpa [World.setCell] using h7, fun i hi => ?_⟩
    have h9 := h8 i hi
    by_cases hb : b = g
    · subst hb
      simp only [World.cell?, hg] at h9
      have hh : ∀ k : Nat, (#[Value.bool s1, Value.slice p1 n1 c1, Value.bool s2, Value.slice p2 n2 c2, Value.bool s3, Value.slice p3 n3 c3, Value.bool s4, Value.slice p4 n4 c4] : Array Value)[k]? ≠ some (.int .u32 (dg xs i)) := by
        intro k
        rcases k with _ | _ | _ | _ | _ | _ | _ | _ | k <;> simp
      exact absurd h9 (hh _)
    · rw [← h9]
      exact World.cell?_of_block (Below.heap_setCell _ _ _ _ (by exact hb))
theorem Whl.ibx {w : World} {v : Value} {z : Int} {k g : Nat} {s1 : Bool} {p1 : Option Addr} {n1 c1 : Nat} {s2 : Bool} {p2 : Option Addr} {n2 c2 : Nat} {s3 : Bool} {p3 : Option Addr} {n3 c3 : Nat} {s4 : Bool} {p4 : Option Addr} {n4 c4 : Nat} (h : Whl w v z k) (hx : Ibx w g s1 p1 n1 c1 s2 p2 n2 c2 s3 p3 n3 c3 s4 p4 n4 c4) (i : Nat) (u : Value) : Whl (w.setCell ⟨g, i, none⟩ u) v z k := by
  obtain ⟨s', sv', xs, h1, h2, h3⟩ := h
  exact ⟨s', sv', xs, h1, h2.ibx hx i u, h3⟩
theorem Ibx.last {w0 w : World} {g K : Nat} {s1 : Bool} {p1 : Option Addr} {n1 c1 : Nat} {s2 : Bool} {p2 : Option Addr} {n2 c2 : Nat} {s3 : Bool} {p3 : Option Addr} {n3 c3 : Nat} {s4 : Bool} {p4 : Option Addr} {n4 c4 : Nat} (h : Ibx w g s1 p1 n1 c1 s2 p2 n2 c2 s3 p3 n3 c3 s4 p4 n4 c4) (hb : Below K w0 w) (hg : K ≤ g) (a1 : Bool) (q1 : Option Addr) (m1 d1 : Nat) (a2 : Bool) (q2 : Option Addr) (m2 d2 : Nat) (a3 : Bool) (q3 : Option Addr) (m3 d3 : Nat) (a4 : Bool) (q4 : Option Addr) (m4 d4 : Nat) :
    Ibx ((((((((w.setCell ⟨g, 0, none⟩ (.bool a1)).setCell ⟨g, 1, none⟩ (.slice q1 m1 d1)).setCell ⟨g, 2, none⟩ (.bool a2)).setCell ⟨g, 3, none⟩ (.slice q2 m2 d2)).setCell ⟨g, 4, none⟩ (.bool a3)).setCell ⟨g, 5, none⟩ (.slice q3 m3 d3)).setCell ⟨g, 6, none⟩ (.bool a4)).setCell ⟨g, 7, none⟩ (.slice q4 m4 d4)) g a1 q1 m1 d1 a2 q2 m2 d2 a3 q3 m3 d3 a4 q4 m4 d4 ∧ Below K w0 ((((((((w.setCell ⟨g, 0, none⟩ (.bool a1)).setCell ⟨g, 1, none⟩ (.slice q1 m1 d1)).setCell ⟨g, 2, none⟩ (.bool a2)).setCell ⟨g, 3, none⟩ (.slice q2 m2 d2)).setCell ⟨g, 4, none⟩ (.bool a3)).setCell ⟨g, 5, none⟩ (.slice q3 m3 d3)).setCell ⟨g, 6, none⟩ (.bool a4)).setCell ⟨g, 7, none⟩ (.slice q4 m4 d4)) ∧
    (∀ {v z k}, Whl w v z k → Whl ((((((((w.setCell ⟨g, 0, none⟩ (.bool a1)).setCell ⟨g, 1, none⟩ (.slice q1 m1 d1)).setCell ⟨g, 2, none⟩ (.bool a2)).setCell ⟨g, 3, none⟩ (.slice q2 m2 d2)).setCell ⟨g, 4, none⟩ (.bool a3)).setCell ⟨g, 5, none⟩ (.slice q3 m3 d3)).setCell ⟨g, 6, none⟩ (.bool a4)).setCell ⟨g, 7, none⟩ (.slice q4 m4 d4)) v z k) := by
  have h1 := h.set0 a1
  have h2 := h1.set1 q1 m1 d1
  have h3 := h2.set2 a2
  have h4 := h3.set3 q2 m2 d2
  have h5 := h4.set4 a3
  have h6 := h5.set5 q3 m3 d3
  have h7 := h6.set6 a4
  have h8 := h7.set7 q4 m4 d4
  refine ⟨h8, ((((((((hb.setCell (p := ⟨g, 0, none⟩) hg _).setCell (p := ⟨g, 1, none⟩) hg _).setCell (p := ⟨g, 2, none⟩) hg _).setCell (p := ⟨g, 3, none⟩) hg _).setCell (p := ⟨g, 4, none⟩) hg _).setCell (p := ⟨g, 5, none⟩) hg _).setCell (p := ⟨g, 6, none⟩) hg _).setCell (p := ⟨g, 7, none⟩) hg _), fun hv => ?_⟩
  exact (((((((hv.ibx h 0 _).ibx h1 1 _).ibx h2 2 _).ibx h3 3 _).ibx h4 4 _).ibx h5 5 _).ibx h6 6 _).ibx h7 7 _
theorem load_ivl {w : World} {g : Nat} {s1 : Bool} {p1 : Option Addr} {n1 c1 : Nat} {s2 : Bool} {p2 : Option Addr} {n2 c2 : Nat} {s3 : Bool} {p3 : Option Addr} {n3 c3 : Nat} {s4 : Bool} {p4 : Option Addr} {n4 c4 : Nat} (h : Ibx w g s1 p1 n1 c1 s2 p2 n2 c2 s3 p3 n3 c3 s4 p4 n4 c4) : (loadVar 62 ⟨g, 0, none⟩).run Tryz.prog w = .ok (.agg #[.bool s1, .slice p1 n1 c1, .bool s2, .slice p2 n2 c2, .bool s3, .slice p3 n3 c3, .bool s4, .slice p4 n4 c4]) w := by
  obtain ⟨h0, h1, h2, h3, h4, h5, h6, h7⟩ := h.cells
  simp [go_sem, h0, h1, h2, h3, h4, h5, h6, h7]
theorem res_ivl {fn : Func} {tmps : Array Value} {w : World} {t : Tmp} {g : Nat} {s1 : Bool} {p1 : Option Addr} {n1 c1 : Nat} {s2 : Bool} {p2 : Option Addr} {n2 c2 : Nat} {s3 : Bool} {p3 : Option Addr} {n3 c3 : Nat} {s4 : Bool} {p4 : Option Addr} {n4 c4 : Nat} (hf : fn.results = #[.cell t 62]) (ht : tmps.getD t undef = .pointer (some ⟨g, 0, none⟩)) (h2 : Ibx w g s1 p1 n1 c1 s2 p2 n2 c2 s3 p3 n3 c3 s4 p4 n4 c4) :
    (results fn tmps).run Tryz.prog w = .ok (.agg #[.bool s1, .slice p1 n1 c1, .bool s2, .slice p2 n2 c2, .bool s3, .slice p3 n3 c3, .bool s4, .slice p4 n4 c4]) w := by
  have h1 := at_addr (P := Tryz.prog) (w := w) ht
  have h3 := load_ivl h2
  simp only [Array.getD_eq_getD_getElem?] at h1
  simp [results, hf, Sem.run_bind, h1, h3]
theorem res_ivl_tmp {fn : Func} {tmps : Array Value} {w : World} {t : Tmp} {g : Nat} {s1 : Bool} {p1 : Option Addr} {n1 c1 : Nat} {s2 : Bool} {p2 : Option Addr} {n2 c2 : Nat} {s3 : Bool} {p3 : Option Addr} {n3 c3 : Nat} {s4 : Bool} {p4 : Option Addr} {n4 c4 : Nat} {t' : Tmp} {u : Value} (hf : fn.results = #[.cell t 62, .tmp t']) (ht : tmps.getD t undef = .pointer (some ⟨g, 0, none⟩)) (hu : tmps.getD t' undef = u) (h2 : Ibx w g s1 p1 n1 c1 s2 p2 n2 c2 s3 p3 n3 c3 s4 p4 n4 c4) :
    (results fn tmps).run Tryz.prog w = .ok (.tuple #[.agg #[.bool s1, .slice p1 n1 c1, .bool s2, .slice p2 n2 c2, .bool s3, .slice p3 n3 c3, .bool s4, .slice p4 n4 c4], u]) w := by
  have h1 := at_addr (P := Tryz.prog) (w := w) ht
  have h3 := load_ivl h2
  simp only [Array.getD_eq_getD_getElem?] at h1 hu
  simp [results, hf, Sem.run_bind, h1, h3, hu]
theorem res_ii_tmp {fn : Func} {tmps : Array Value} {w : World} {t : Tmp} {g : Nat} {s1 : Bool} {p1 : Option Addr} {n1 c1 : Nat} {s2 : Bool} {p2 : Option Addr} {n2 c2 : Nat} {s3 : Bool} {p3 : Option Addr} {n3 c3 : Nat} {s4 : Bool} {p4 : Option Addr} {n4 c4 : Nat} {t' t'' : Tmp} {g' : Nat} {s1' : Bool} {p1' : Option Addr} {n1' c1' : Nat} {s2' : Bool} {p2' : Option Addr} {n2' c2' : Nat} {s3' : Bool} {p3' : Option Addr} {n3' c3' : Nat} {s4' : Bool} {p4' : Option Addr} {n4' c4' : Nat} {u : Value} (hf : fn.results = #[.cell t 62, .cell t' 62, .tmp t'']) (ht : tmps.getD t undef = .pointer (some ⟨g, 0, none⟩)) (ht' : tmps.getD t' undef = .pointer (some ⟨g', 0, none⟩)) (hu : tmps.getD t'' undef = u) (h2 : Ibx w g s1 p1 n1 c1 s2 p2 n2 c2 s3 p3 n3 c3 s4 p4 n4 c4) (h2' : Ibx w g' s1' p1' n1' c1' s2' p2' n2' c2' s3' p3' n3' c3' s4' p4' n4' c4') :
    (results fn tmps).run Tryz.prog w = .ok (.tuple #[.agg #[.bool s1, .slice p1 n1 c1, .bool s2, .slice p2 n2 c2, .bool s3, .slice p3 n3 c3, .bool s4, .slice p4 n4 c4], .agg #[.bool s1', .slice p1' n1' c1', .bool s2', .slice p2' n2' c2', .bool s3', .slice p3' n3' c3', .bool s4', .slice p4' n4' c4'], u]) w := by
  have h1 := at_addr (P := Tryz.prog) (w := w) ht
  have h1' := at_addr (P := Tryz.prog) (w := w) ht'
  have h3 := load_ivl h2
  have h3' := load_ivl h2'
  simp only [Array.getD_eq_getD_getElem?] at h1 h1' hu
  simp [results, hf, Sem.run_bind, h1, h3, h1', h3', hu]
theorem ix {w w' : World} {g : Nat} {s1 : Bool} {p1 : Option Addr} {n1 c1 : Nat} {s2 : Bool} {p2 : Option Addr} {n2 c2 : Nat} {s3 : Bool} {p3 : Option Addr} {n3 c3 : Nat} {s4 : Bool} {p4 : Option Addr} {n4 c4 : Nat} (h : Hid (Ibx w g s1 p1 n1 c1 s2 p2 n2 c2 s3 p3 n3 c3 s4 p4 n4 c4)) (hb : Below w.heap.size w w') : Hid (Ibx w' g s1 p1 n1 c1 s2 p2 n2 c2 s3 p3 n3 c3 s4 p4 n4 c4) := hid (h.out.below hb h.out.lt)
/-- A value reads as an interval from p to q, its ends' parts of k limbs or fewer. -/
def Ivl (w : World) (v : Value) (p q : Rat) (k : Nat) : Prop := ∃ (s1 : Bool) (p1 : Option Addr) (n1 c1 : Nat) (s2 : Bool) (p2 : Option Addr) (n2 c2 : Nat) (s3 : Bool) (p3 : Option Addr) (n3 c3 : Nat) (s4 : Bool) (p4 : Option Addr) (n4 c4 : Nat), v = .agg #[.bool s1, .slice p1 n1 c1, .bool s2, .slice p2 n2 c2, .bool s3, .slice p3 n3 c3, .bool s4, .slice p4 n4 c4] ∧ Rtl w (.agg #[.bool s1, .slice p1 n1 c1, .bool s2, .slice p2 n2 c2]) p k ∧ Rtl w (.agg #[.bool s3, .slice p3 n3 c3, .bool s4, .slice p4 n4 c4]) q k
theorem Ivl.opened {w : World} {v : Value} {p q : Rat} {k : Nat} (h : Ivl w v p q k) : ∃ (s1 : Bool) (p1 : Option Addr) (n1 c1 : Nat) (s2 : Bool) (p2 : Option Addr) (n2 c2 : Nat) (s3 : Bool) (p3 : Option Addr) (n3 c3 : Nat) (s4 : Bool) (p4 : Option Addr) (n4 c4 : Nat), v = .agg #[.bool s1, .slice p1 n1 c1, .bool s2, .slice p2 n2 c2, .bool s3, .slice p3 n3 c3, .bool s4, .slice p4 n4 c4] := by
  obtain ⟨s1, p1, n1, c1, s2, p2, n2, c2, s3, p3, n3, c3, s4, p4, n4, c4, h1, _⟩ := h
  exact ⟨s1, p1, n1, c1, s2, p2, n2, c2, s3, p3, n3, c3, s4, p4, n4, c4, h1⟩
theorem Ivl.two {w : World} {p q : Rat} {k : Nat} {s1 : Bool} {p1 : Option Addr} {n1 c1 : Nat} {s2 : Bool} {p2 : Option Addr} {n2 c2 : Nat} {s3 : Bool} {p3 : Option Addr} {n3 c3 : Nat} {s4 : Bool} {p4 : Option Addr} {n4 c4 : Nat} (h : Ivl w (.agg #[.bool s1, .slice p1 n1 c1, .bool s2, .slice p2 n2 c2, .bool s3, .slice p3 n3 c3, .bool s4, .slice p4 n4 c4]) p q k) : Rtl w (.agg #[.bool s1, .slice p1 n1 c1, .bool s2, .slice p2 n2 c2]) p k ∧ Rtl w (.agg #[.bool s3, .slice p3 n3 c3, .bool s4, .slice p4 n4 c4]) q k := by
  obtain ⟨s1', p1', n1', c1', s2', p2', n2', c2', s3', p3', n3', c3', s4', p4', n4', c4', h1, h2, h3⟩ := h
  simp only [Value.agg.injEq, Array.mk.injEq, List.cons.injEq, Value.bool.injEq, Value.slice.injEq, and_true] at h1
  obtain ⟨rfl, ⟨rfl, rfl, rfl⟩, rfl, ⟨rfl, rfl, rfl⟩, rfl, ⟨rfl, rfl, rfl⟩, rfl, rfl, rfl, rfl⟩ := h1
  exact ⟨h2, h3⟩
theorem Ivl.mk2 {w : World} {p q : Rat} {k : Nat} {s1 : Bool} {p1 : Option Addr} {n1 c1 : Nat} {s2 : Bool} {p2 : Option Addr} {n2 c2 : Nat} {s3 : Bool} {p3 : Option Addr} {n3 c3 : Nat} {s4 : Bool} {p4 : Option Addr} {n4 c4 : Nat} (h1 : Rtl w (.agg #[.bool s1, .slice p1 n1 c1, .bool s2, .slice p2 n2 c2]) p k) (h2 : Rtl w (.agg #[.bool s3, .slice p3 n3 c3, .bool s4, .slice p4 n4 c4]) q k) : Ivl w (.agg #[.bool s1, .slice p1 n1 c1, .bool s2, .slice p2 n2 c2, .bool s3, .slice p3 n3 c3, .bool s4, .slice p4 n4 c4]) p q k := ⟨_, _, _, _, _, _, _, _, _, _, _, _, _, _, _, _, rfl, h1, h2⟩
theorem Ivl.on {w w' : World} {v : Value} {p q : Rat} {k : Nat} (h : Ivl w v p q k) (hb : Below w.heap.size w w') : Ivl w' v p q k := by
  obtain ⟨s1, p1, n1, c1, s2, p2, n2, c2, s3, p3, n3, c3, s4, p4, n4, c4, h1, h2, h3⟩ := h
  exact ⟨s1, p1, n1, c1, s2, p2, n2, c2, s3, p3, n3, c3, s4, p4, n4, c4, h1, h2.on hb, h3.on hb⟩
theorem Ivl.mono {w : World} {v : Value} {p q : Rat} {k m : Nat} (h : Ivl w v p q k) (hk : k ≤ m) : Ivl w v p q m := by
  obtain ⟨s1, p1, n1, c1, s2, p2, n2, c2, s3, p3, n3, c3, s4, p4, n4, c4, h1, h2, h3⟩ := h
  exact ⟨s1, p1, n1, c1, s2, p2, n2, c2, s3, p3, n3, c3, s4, p4, n4, c4, h1, h2.mono hk, h3.mono hk⟩

end Go.Proofs.YtkdeopikojgboaaGreatDoor

/-
  PACKAGE ival: read.
-/
namespace Go.Proofs.YtkdeopikojgboaaGreatDoor
open Go.RowKit
open Num
set_option linter.unusedVariables false
set_option maxRecDepth 100000
set_option linter.unusedSimpArgs false

set_option maxHeartbeats 2000000 in
theorem iread_a {a b : ByteArray} {k : Int} (h : BadQ a k) (ha : a.size ≤ maxLen) (w : World) :
    Calls Tryz.prog 24 #[.agg #[.string a, .string b]] w fun e w' => e = .returned (.tuple #[.agg #[.bool false, .slice none 0 0, .bool false, .slice none 0 0, .bool false, .slice none 0 0, .bool false, .slice none 0 0], errno k]) ∧ Below w.heap.size w w' := by
  have hne := errv_neq
  have hgd := errv_guard
  have hkk := errv_some h.ne
  have H1 := hid (fun w => qread_bad h w ha)
  have B := hid (Below.refl w.heap.size w)
  have hb1 := (Below.refl _ _).alloc (Nat.le_refl w.heap.size) (.cells #[.string a, .string b] 23)
  have hx2 := Vbx.new w a b
  replace B := bb B hb1
  have X1 := hid hx2
  have hs3 : (w.alloc (.cells #[.string a, .string b] 23)).heap.size = w.heap.size + 1 := by simp
  clear hb1 hx2
  have hb4 := (Below.refl _ _).alloc (Nat.le_refl (w.alloc (.cells #[.string a, .string b] 23)).heap.size) (.cells #[.bool false, .slice none 0 0, .bool false, .slice none 0 0, .bool false, .slice none 0 0, .bool false, .slice none 0 0] 62)
  have hx5 := Ibx.new (w.alloc (.cells #[.string a, .string b] 23)) false none 0 0 false none 0 0 false none 0 0 false none 0 0
  rw [hs3] at hx5
  replace X1 := vx X1 hb4
  replace B := bb B hb4
  have XV := hid hx5
  have hs6 : ((w.alloc (.cells #[.string a, .string b] 23)).alloc (.cells #[.bool false, .slice none 0 0, .bool false, .slice none 0 0, .bool false, .slice none 0 0, .bool false, .slice none 0 0] 62)).heap.size = w.heap.size + 1 + 1 := by simp [hs3]
  clear hb4 hx5
  clear hs6 h
  go_enter Tryz.func24, Tryz.ntmps24
  obtain ⟨cc7a, cc7b⟩ := X1.out.both
  obtain ⟨cc8a, cc8b, cc8c, cc8d, cc8e, cc8f, cc8g, cc8h⟩ := XV.out.cells
  go_wp2_with fail
  generalize hW : (w.alloc (.cells #[.string a, .string b] 23)).alloc (.cells #[.bool false, .slice none 0 0, .bool false, .slice none 0 0, .bool false, .slice none 0 0, .bool false, .slice none 0 0] 62) = W9 at *
  clear hW
  refine (H1.out _).mono ?_
  rintro e w10 ⟨rfl, hb⟩
  replace X1 := vx X1 hb
  replace XV := ix XV hb
  replace B := bb B hb
  clear cc7a cc7b cc8a cc8b cc8c cc8d cc8e cc8f cc8g cc8h
  clear hb H1
  have hb11 := (Below.refl _ _).alloc (Nat.le_refl w10.heap.size) (.cells #[.bool false, .slice none 0 0, .bool false, .slice none 0 0] 60)
  have hx12 := Nbx.new w10 false false (.slice none 0 0) (.slice none 0 0)
  have L0 := hid XV.out.lt
  replace XV := ix XV hb11
  replace B := bb B hb11
  have XA := hid hx12
  have hs13 : (w10.alloc (.cells #[.bool false, .slice none 0 0, .bool false, .slice none 0 0] 60)).heap.size = w10.heap.size + 1 := by simp
  clear hb11 hx12
  obtain ⟨cc14a, cc14b, cc14c, cc14d, cc14e, cc14f, cc14g, cc14h⟩ := XV.out.cells
  obtain ⟨cc15a, cc15b, cc15c, cc15d⟩ := XA.out.cells
  obtain ⟨⟨cc16a, cc16b⟩, ⟨cc16c, cc16d⟩, ⟨cc16e, cc16f⟩, ⟨cc16g, cc16h⟩, ⟨cc16i, cc16j⟩, ⟨cc16k, cc16l⟩, ⟨cc16m, cc16n⟩, cc16o, cc16p⟩ := XV.out.stores
  obtain ⟨r17a, r17b, r17c⟩ := XV.out.last B.out (by have := L0.out; omega) false none 0 0 false none 0 0 false none 0 0 false none 0 0
  replace XA := hid ((((((((XA.out.other (g2 := w.heap.size + 1) (by have := L0.out; omega) 0 (.bool false)).other (g2 := w.heap.size + 1) (by have := L0.out; omega) 1 (.slice none 0 0)).other (g2 := w.heap.size + 1) (by have := L0.out; omega) 2 (.bool false)).other (g2 := w.heap.size + 1) (by have := L0.out; omega) 3 (.slice none 0 0)).other (g2 := w.heap.size + 1) (by have := L0.out; omega) 4 (.bool false)).other (g2 := w.heap.size + 1) (by have := L0.out; omega) 5 (.slice none 0 0)).other (g2 := w.heap.size + 1) (by have := L0.out; omega) 6 (.bool false)).other (g2 := w.heap.size + 1) (by have := L0.out; omega) 7 (.slice none 0 0))
  replace XV := hid r17a
  replace B := hid r17b
  clear r17a r17b r17c
  obtain ⟨cc18a, cc18b, cc18c, cc18d, cc18e, cc18f, cc18g, cc18h⟩ := XV.out.cells
  obtain ⟨cc19a, cc19b, cc19c, cc19d⟩ := XA.out.cells
  go_wp2_with fail
  refine bodyPost_ret (res_ivl_tmp rfl rfl rfl XV.out) rfl ?_
  exact ⟨rfl, B.out⟩

set_option maxHeartbeats 2000000 in
theorem iread_b {a b : ByteArray} {k : Int} (h1 : GoodQ a) (h2 : BadQ b k) (hb0 : b.size ≤ maxLen) (w : World) :
    Calls Tryz.prog 24 #[.agg #[.string a, .string b]] w fun e w' => e = .returned (.tuple #[.agg #[.bool false, .slice none 0 0, .bool false, .slice none 0 0, .bool false, .slice none 0 0, .bool false, .slice none 0 0], errno k]) ∧ Below w.heap.size w w' := by
  have hne := errv_neq
  have hgd := errv_guard
  have H1 := hid (fun w => qread_good h1 w)
  have hkk := errv_some h2.ne
  have H2 := hid (fun w => qread_bad h2 w hb0)
  have B := hid (Below.refl w.heap.size w)
  have hb1 := (Below.refl _ _).alloc (Nat.le_refl w.heap.size) (.cells #[.string a, .string b] 23)
  have hx2 := Vbx.new w a b
  replace B := bb B hb1
  have X1 := hid hx2
  have hs3 : (w.alloc (.cells #[.string a, .string b] 23)).heap.size = w.heap.size + 1 := by simp
  clear hb1 hx2
  have hb4 := (Below.refl _ _).alloc (Nat.le_refl (w.alloc (.cells #[.string a, .string b] 23)).heap.size) (.cells #[.bool false, .slice none 0 0, .bool false, .slice none 0 0, .bool false, .slice none 0 0, .bool false, .slice none 0 0] 62)
  have hx5 := Ibx.new (w.alloc (.cells #[.string a, .string b] 23)) false none 0 0 false none 0 0 false none 0 0 false none 0 0
  rw [hs3] at hx5
  replace X1 := vx X1 hb4
  replace B := bb B hb4
  have XV := hid hx5
  have hs6 : ((w.alloc (.cells #[.string a, .string b] 23)).alloc (.cells #[.bool false, .slice none 0 0, .bool false, .slice none 0 0, .bool false, .slice none 0 0, .bool false, .slice none 0 0] 62)).heap.size = w.heap.size + 1 + 1 := by simp [hs3]
  clear hb4 hx5
  clear hs6 h1 h2
  go_enter Tryz.func24, Tryz.ntmps24
  obtain ⟨cc7a, cc7b⟩ := X1.out.both
  obtain ⟨cc8a, cc8b, cc8c, cc8d, cc8e, cc8f, cc8g, cc8h⟩ := XV.out.cells
  go_wp2_with fail
  generalize hW : (w.alloc (.cells #[.string a, .string b] 23)).alloc (.cells #[.bool false, .slice none 0 0, .bool false, .slice none 0 0, .bool false, .slice none 0 0, .bool false, .slice none 0 0] 62) = W9 at *
  clear hW
  refine (H1.out _).mono ?_
  rintro e w10 ⟨v, rfl, hv, hb⟩
  obtain ⟨s2a, p2a, n2a, c2a, s2b, p2b, n2b, c2b, rfl⟩ := hv.opened
  obtain ⟨ht2, d2, hu2, hd2⟩ := hv.two
  have HD2 := hid hd2
  replace X1 := vx X1 hb
  replace XV := ix XV hb
  replace B := bb B hb
  clear cc7a cc7b cc8a cc8b cc8c cc8d cc8e cc8f cc8g cc8h
  have HT2 := hid ht2
  have HU2 := hid hu2
  clear hb hv ht2 hu2 hd2 H1
  have hb11 := (Below.refl _ _).alloc (Nat.le_refl w10.heap.size) (.cells #[.bool s2a, .slice p2a n2a c2a, .bool s2b, .slice p2b n2b c2b] 60)
  have hx12 := Nbx.new w10 s2a s2b (.slice p2a n2a c2a) (.slice p2b n2b c2b)
  have L0 := hid XV.out.lt
  replace X1 := vx X1 hb11
  replace XV := ix XV hb11
  replace HT2 := wl HT2 hb11
  replace HU2 := wl HU2 hb11
  replace B := bb B hb11
  have XA := hid hx12
  have hs13 : (w10.alloc (.cells #[.bool s2a, .slice p2a n2a c2a, .bool s2b, .slice p2b n2b c2b] 60)).heap.size = w10.heap.size + 1 := by simp
  clear hb11 hx12
  obtain ⟨cc14a, cc14b⟩ := X1.out.both
  obtain ⟨cc15a, cc15b, cc15c, cc15d, cc15e, cc15f, cc15g, cc15h⟩ := XV.out.cells
  obtain ⟨cc16a, cc16b, cc16c, cc16d⟩ := XA.out.cells
  go_wp2_with fail
  generalize hW : w10.alloc (.cells #[.bool s2a, .slice p2a n2a c2a, .bool s2b, .slice p2b n2b c2b] 60) = W17 at *
  clear hW
  refine (H2.out _).mono ?_
  rintro e w18 ⟨rfl, hb⟩
  replace X1 := vx X1 hb
  replace XV := ix XV hb
  replace XA := nx XA hb
  replace HT2 := wl HT2 hb
  replace HU2 := wl HU2 hb
  replace B := bb B hb
  clear cc14a cc14b cc15a cc15b cc15c cc15d cc15e cc15f cc15g cc15h cc16a cc16b cc16c cc16d
  clear hb H2
  have hb19 := (Below.refl _ _).alloc (Nat.le_refl w18.heap.size) (.cells #[.bool false, .slice none 0 0, .bool false, .slice none 0 0] 60)
  have hx20 := Nbx.new w18 false false (.slice none 0 0) (.slice none 0 0)
  have L1 := hid XA.out.lt
  replace XV := ix XV hb19
  replace XA := nx XA hb19
  replace HT2 := wl HT2 hb19
  replace HU2 := wl HU2 hb19
  replace B := bb B hb19
  have XB := hid hx20
  have hs21 : (w18.alloc (.cells #[.bool false, .slice none 0 0, .bool false, .slice none 0 0] 60)).heap.size = w18.heap.size + 1 := by simp
  clear hb19 hx20
  obtain ⟨cc22a, cc22b, cc22c, cc22d, cc22e, cc22f, cc22g, cc22h⟩ := XV.out.cells
  obtain ⟨cc23a, cc23b, cc23c, cc23d⟩ := XA.out.cells
  obtain ⟨cc24a, cc24b, cc24c, cc24d⟩ := XB.out.cells
  obtain ⟨⟨cc25a, cc25b⟩, ⟨cc25c, cc25d⟩, ⟨cc25e, cc25f⟩, ⟨cc25g, cc25h⟩, ⟨cc25i, cc25j⟩, ⟨cc25k, cc25l⟩, ⟨cc25m, cc25n⟩, cc25o, cc25p⟩ := XV.out.stores
  obtain ⟨r26a, r26b, r26c⟩ := XV.out.last B.out (by have := L0.out; have := L1.out; omega) false none 0 0 false none 0 0 false none 0 0 false none 0 0
  replace XA := hid ((((((((XA.out.other (g2 := w.heap.size + 1) (by have := L0.out; have := L1.out; omega) 0 (.bool false)).other (g2 := w.heap.size + 1) (by have := L0.out; have := L1.out; omega) 1 (.slice none 0 0)).other (g2 := w.heap.size + 1) (by have := L0.out; have := L1.out; omega) 2 (.bool false)).other (g2 := w.heap.size + 1) (by have := L0.out; have := L1.out; omega) 3 (.slice none 0 0)).other (g2 := w.heap.size + 1) (by have := L0.out; have := L1.out; omega) 4 (.bool false)).other (g2 := w.heap.size + 1) (by have := L0.out; have := L1.out; omega) 5 (.slice none 0 0)).other (g2 := w.heap.size + 1) (by have := L0.out; have := L1.out; omega) 6 (.bool false)).other (g2 := w.heap.size + 1) (by have := L0.out; have := L1.out; omega) 7 (.slice none 0 0))
  replace XB := hid ((((((((XB.out.other (g2 := w.heap.size + 1) (by have := L0.out; have := L1.out; omega) 0 (.bool false)).other (g2 := w.heap.size + 1) (by have := L0.out; have := L1.out; omega) 1 (.slice none 0 0)).other (g2 := w.heap.size + 1) (by have := L0.out; have := L1.out; omega) 2 (.bool false)).other (g2 := w.heap.size + 1) (by have := L0.out; have := L1.out; omega) 3 (.slice none 0 0)).other (g2 := w.heap.size + 1) (by have := L0.out; have := L1.out; omega) 4 (.bool false)).other (g2 := w.heap.size + 1) (by have := L0.out; have := L1.out; omega) 5 (.slice none 0 0)).other (g2 := w.heap.size + 1) (by have := L0.out; have := L1.out; omega) 6 (.bool false)).other (g2 := w.heap.size + 1) (by have := L0.out; have := L1.out; omega) 7 (.slice none 0 0))
  replace HT2 := hid (r26c HT2.out)
  replace HU2 := hid (r26c HU2.out)
  replace XV := hid r26a
  replace B := hid r26b
  clear r26a r26b r26c
  obtain ⟨cc27a, cc27b, cc27c, cc27d, cc27e, cc27f, cc27g, cc27h⟩ := XV.out.cells
  obtain ⟨cc28a, cc28b, cc28c, cc28d⟩ := XA.out.cells
  obtain ⟨cc29a, cc29b, cc29c, cc29d⟩ := XB.out.cells
  go_wp2_with fail
  refine bodyPost_ret (res_ivl_tmp rfl rfl rfl XV.out) rfl ?_
  exact ⟨rfl, B.out⟩

set_option maxHeartbeats 2000000 in
theorem iread_c {a b : ByteArray} {k : Int} (h1 : GoodQ a) (h2 : GoodQ b) (h3 : qnum b < qnum a) (w : World) :
    Calls Tryz.prog 24 #[.agg #[.string a, .string b]] w fun e w' => e = .returned (.tuple #[.agg #[.bool false, .slice none 0 0, .bool false, .slice none 0 0, .bool false, .slice none 0 0, .bool false, .slice none 0 0], errno 2]) ∧ Below w.heap.size w w' := by
  have hne := errv_neq
  have hgd := errv_guard
  have H1 := hid (fun w => qread_good h1 w)
  have H2 := hid (fun w => qread_good h2 w)
  have HA := hid (show decide (qnum b < qnum a) = true by simp [h3])
  have B := hid (Below.refl w.heap.size w)
  have hb1 := (Below.refl _ _).alloc (Nat.le_refl w.heap.size) (.cells #[.string a, .string b] 23)
  have hx2 := Vbx.new w a b
  replace B := bb B hb1
  have X1 := hid hx2
  have hs3 : (w.alloc (.cells #[.string a, .string b] 23)).heap.size = w.heap.size + 1 := by simp
  clear hb1 hx2
  have hb4 := (Below.refl _ _).alloc (Nat.le_refl (w.alloc (.cells #[.string a, .string b] 23)).heap.size) (.cells #[.bool false, .slice none 0 0, .bool false, .slice none 0 0, .bool false, .slice none 0 0, .bool false, .slice none 0 0] 62)
  have hx5 := Ibx.new (w.alloc (.cells #[.string a, .string b] 23)) false none 0 0 false none 0 0 false none 0 0 false none 0 0
  rw [hs3] at hx5
  replace X1 := vx X1 hb4
  replace B := bb B hb4
  have XV := hid hx5
  have hs6 : ((w.alloc (.cells #[.string a, .string b] 23)).alloc (.cells #[.bool false, .slice none 0 0, .bool false, .slice none 0 0, .bool false, .slice none 0 0, .bool false, .slice none 0 0] 62)).heap.size = w.heap.size + 1 + 1 := by simp [hs3]
  clear hb4 hx5
  clear hs6 h1 h2 h3
  go_enter Tryz.func24, Tryz.ntmps24
  obtain ⟨cc7a, cc7b⟩ := X1.out.both
  obtain ⟨cc8a, cc8b, cc8c, cc8d, cc8e, cc8f, cc8g, cc8h⟩ := XV.out.cells
  go_wp2_with fail
  generalize hW : (w.alloc (.cells #[.string a, .string b] 23)).alloc (.cells #[.bool false, .slice none 0 0, .bool false, .slice none 0 0, .bool false, .slice none 0 0, .bool false, .slice none 0 0] 62) = W9 at *
  clear hW
  refine (H1.out _).mono ?_
  rintro e w10 ⟨v, rfl, hv, hb⟩
  obtain ⟨s2a, p2a, n2a, c2a, s2b, p2b, n2b, c2b, rfl⟩ := hv.opened
  obtain ⟨ht2, d2, hu2, hd2⟩ := hv.two
  have HD2 := hid hd2
  replace X1 := vx X1 hb
  replace XV := ix XV hb
  replace B := bb B hb
  clear cc7a cc7b cc8a cc8b cc8c cc8d cc8e cc8f cc8g cc8h
  have HT2 := hid ht2
  have HU2 := hid hu2
  clear hb hv ht2 hu2 hd2 H1
  have hb11 := (Below.refl _ _).alloc (Nat.le_refl w10.heap.size) (.cells #[.bool s2a, .slice p2a n2a c2a, .bool s2b, .slice p2b n2b c2b] 60)
  have hx12 := Nbx.new w10 s2a s2b (.slice p2a n2a c2a) (.slice p2b n2b c2b)
  have L0 := hid XV.out.lt
  replace X1 := vx X1 hb11
  replace XV := ix XV hb11
  replace HT2 := wl HT2 hb11
  replace HU2 := wl HU2 hb11
  replace B := bb B hb11
  have XA := hid hx12
  have hs13 : (w10.alloc (.cells #[.bool s2a, .slice p2a n2a c2a, .bool s2b, .slice p2b n2b c2b] 60)).heap.size = w10.heap.size + 1 := by simp
  clear hb11 hx12
  obtain ⟨cc14a, cc14b⟩ := X1.out.both
  obtain ⟨cc15a, cc15b, cc15c, cc15d, cc15e, cc15f, cc15g, cc15h⟩ := XV.out.cells
  obtain ⟨cc16a, cc16b, cc16c, cc16d⟩ := XA.out.cells
  go_wp2_with fail
  generalize hW : w10.alloc (.cells #[.bool s2a, .slice p2a n2a c2a, .bool s2b, .slice p2b n2b c2b] 60) = W17 at *
  clear hW
  refine (H2.out _).mono ?_
  rintro e w18 ⟨v, rfl, hv, hb⟩
  obtain ⟨s3a, p3a, n3a, c3a, s3b, p3b, n3b, c3b, rfl⟩ := hv.opened
  obtain ⟨ht3, d3, hu3, hd3⟩ := hv.two
  have HD3 := hid hd3
  replace X1 := vx X1 hb
  replace XV := ix XV hb
  replace XA := nx XA hb
  replace HT2 := wl HT2 hb
  replace HU2 := wl HU2 hb
  replace B := bb B hb
  clear cc14a cc14b cc15a cc15b cc15c cc15d cc15e cc15f cc15g cc15h cc16a cc16b cc16c cc16d
  have HT3 := hid ht3
  have HU3 := hid hu3
  clear hb hv ht3 hu3 hd3 H2
  have hb19 := (Below.refl _ _).alloc (Nat.le_refl w18.heap.size) (.cells #[.bool s3a, .slice p3a n3a c3a, .bool s3b, .slice p3b n3b c3b] 60)
  have hx20 := Nbx.new w18 s3a s3b (.slice p3a n3a c3a) (.slice p3b n3b c3b)
  have L1 := hid XA.out.lt
  replace X1 := vx X1 hb19
  replace XV := ix XV hb19
  replace XA := nx XA hb19
  replace HT2 := wl HT2 hb19
  replace HU2 := wl HU2 hb19
  replace HT3 := wl HT3 hb19
  replace HU3 := wl HU3 hb19
  replace B := bb B hb19
  have XB := hid hx20
  have hs21 : (w18.alloc (.cells #[.bool s3a, .slice p3a n3a c3a, .bool s3b, .slice p3b n3b c3b] 60)).heap.size = w18.heap.size + 1 := by simp
  clear hb19 hx20
  obtain ⟨cc22a, cc22b⟩ := X1.out.both
  obtain ⟨cc23a, cc23b, cc23c, cc23d, cc23e, cc23f, cc23g, cc23h⟩ := XV.out.cells
  obtain ⟨cc24a, cc24b, cc24c, cc24d⟩ := XA.out.cells
  obtain ⟨cc25a, cc25b, cc25c, cc25d⟩ := XB.out.cells
  go_wp2_with fail
  generalize hW : w18.alloc (.cells #[.bool s3a, .slice p3a n3a c3a, .bool s3b, .slice p3b n3b c3b] 60) = W26 at *
  clear hW
  refine (lessq_rtl (Rtl.mk2 HT3.out HU3.out HD3.out) (Rtl.mk2 HT2.out HU2.out HD2.out) (by decide) (by decide)).mono ?_
  rintro e w27 ⟨rfl, hb⟩
  replace XV := ix XV hb
  replace XA := nx XA hb
  replace XB := nx XB hb
  replace HT2 := wl HT2 hb
  replace HU2 := wl HU2 hb
  replace HT3 := wl HT3 hb
  replace HU3 := wl HU3 hb
  replace B := bb B hb
  clear cc22a cc22b cc23a cc23b cc23c cc23d cc23e cc23f cc23g cc23h cc24a cc24b cc24c cc24d cc25a cc25b cc25c cc25d
  clear hb 
  rw [HA.out]
  obtain ⟨cc28a, cc28b, cc28c, cc28d, cc28e, cc28f, cc28g, cc28h⟩ := XV.out.cells
  obtain ⟨cc29a, cc29b, cc29c, cc29d⟩ := XA.out.cells
  obtain ⟨cc30a, cc30b, cc30c, cc30d⟩ := XB.out.cells
  obtain ⟨⟨cc31a, cc31b⟩, ⟨cc31c, cc31d⟩, ⟨cc31e, cc31f⟩, ⟨cc31g, cc31h⟩, ⟨cc31i, cc31j⟩, ⟨cc31k, cc31l⟩, ⟨cc31m, cc31n⟩, cc31o, cc31p⟩ := XV.out.stores
  obtain ⟨r32a, r32b, r32c⟩ := XV.out.last B.out (by have := L0.out; have := L1.out; omega) false none 0 0 false none 0 0 false none 0 0 false none 0 0
  replace XA := hid ((((((((XA.out.other (g2 := w.heap.size + 1) (by have := L0.out; have := L1.out; omega) 0 (.bool false)).other (g2 := w.heap.size + 1) (by have := L0.out; have := L1.out; omega) 1 (.slice none 0 0)).other (g2 := w.heap.size + 1) (by have := L0.out; have := L1.out; omega) 2 (.bool false)).other (g2 := w.heap.size + 1) (by have := L0.out; have := L1.out; omega) 3 (.slice none 0 0)).other (g2 := w.heap.size + 1) (by have := L0.out; have := L1.out; omega) 4 (.bool false)).other (g2 := w.heap.size + 1) (by have := L0.out; have := L1.out; omega) 5 (.slice none 0 0)).other (g2 := w.heap.size + 1) (by have := L0.out; have := L1.out; omega) 6 (.bool false)).other (g2 := w.heap.size + 1) (by have := L0.out; have := L1.out; omega) 7 (.slice none 0 0))
  replace XB := hid ((((((((XB.out.other (g2 := w.heap.size + 1) (by have := L0.out; have := L1.out; omega) 0 (.bool false)).other (g2 := w.heap.size + 1) (by have := L0.out; have := L1.out; omega) 1 (.slice none 0 0)).other (g2 := w.heap.size + 1) (by have := L0.out; have := L1.out; omega) 2 (.bool false)).other (g2 := w.heap.size + 1) (by have := L0.out; have := L1.out; omega) 3 (.slice none 0 0)).other (g2 := w.heap.size + 1) (by have := L0.out; have := L1.out; omega) 4 (.bool false)).other (g2 := w.heap.size + 1) (by have := L0.out; have := L1.out; omega) 5 (.slice none 0 0)).other (g2 := w.heap.size + 1) (by have := L0.out; have := L1.out; omega) 6 (.bool false)).other (g2 := w.heap.size + 1) (by have := L0.out; have := L1.out; omega) 7 (.slice none 0 0))
  replace HT2 := hid (r32c HT2.out)
  replace HU2 := hid (r32c HU2.out)
  replace HT3 := hid (r32c HT3.out)
  replace HU3 := hid (r32c HU3.out)
  replace XV := hid r32a
  replace B := hid r32b
  clear r32a r32b r32c
  obtain ⟨cc33a, cc33b, cc33c, cc33d, cc33e, cc33f, cc33g, cc33h⟩ := XV.out.cells
  obtain ⟨cc34a, cc34b, cc34c, cc34d⟩ := XA.out.cells
  obtain ⟨cc35a, cc35b, cc35c, cc35d⟩ := XB.out.cells
  go_wp2_with fail
  refine bodyPost_ret (res_ivl_tmp rfl rfl rfl XV.out) rfl ?_
  exact ⟨rfl, B.out⟩

set_option maxHeartbeats 2000000 in
theorem iread_ok {a b : ByteArray} {k : Int} (h1 : GoodQ a) (h2 : GoodQ b) (h3 : ¬ qnum b < qnum a) (w : World) :
    Calls Tryz.prog 24 #[.agg #[.string a, .string b]] w fun e w' => ∃ v, e = .returned (.tuple #[v, .nilIface]) ∧ Ivl w' v (qnum a) (qnum b) 100 ∧ Below w.heap.size w w' := by
  have hne := errv_neq
  have hgd := errv_guard
  have H1 := hid (fun w => qread_good h1 w)
  have H2 := hid (fun w => qread_good h2 w)
  have HA := hid (show decide (qnum b < qnum a) = false by simp [h3])
  have B := hid (Below.refl w.heap.size w)
  have hb1 := (Below.refl _ _).alloc (Nat.le_refl w.heap.size) (.cells #[.string a, .string b] 23)
  have hx2 := Vbx.new w a b
  replace B := bb B hb1
  have X1 := hid hx2
  have hs3 : (w.alloc (.cells #[.string a, .string b] 23)).heap.size = w.heap.size + 1 := by simp
  clear hb1 hx2
  have hb4 := (Below.refl _ _).alloc (Nat.le_refl (w.alloc (.cells #[.string a, .string b] 23)).heap.size) (.cells #[.bool false, .slice none 0 0, .bool false, .slice none 0 0, .bool false, .slice none 0 0, .bool false, .slice none 0 0] 62)
  have hx5 := Ibx.new (w.alloc (.cells #[.string a, .string b] 23)) false none 0 0 false none 0 0 false none 0 0 false none 0 0
  rw [hs3] at hx5
  replace X1 := vx X1 hb4
  replace B := bb B hb4
  have XV := hid hx5
  have hs6 : ((w.alloc (.cells #[.string a, .string b] 23)).alloc (.cells #[.bool false, .slice none 0 0, .bool false, .slice none 0 0, .bool false, .slice none 0 0, .bool false, .slice none 0 0] 62)).heap.size = w.heap.size + 1 + 1 := by simp [hs3]
  clear hb4 hx5
  clear hs6 h1 h2 h3
  go_enter Tryz.func24, Tryz.ntmps24
  obtain ⟨cc7a, cc7b⟩ := X1.out.both
  obtain ⟨cc8a, cc8b, cc8c, cc8d, cc8e, cc8f, cc8g, cc8h⟩ := XV.out.cells
  go_wp2_with fail
  generalize hW : (w.alloc (.cells #[.string a, .string b] 23)).alloc (.cells #[.bool false, .slice none 0 0, .bool false, .slice none 0 0, .bool false, .slice none 0 0, .bool false, .slice none 0 0] 62) = W9 at *
  clear hW
  refine (H1.out _).mono ?_
  rintro e w10 ⟨v, rfl, hv, hb⟩
  obtain ⟨s2a, p2a, n2a, c2a, s2b, p2b, n2b, c2b, rfl⟩ := hv.opened
  obtain ⟨ht2, d2, hu2, hd2⟩ := hv.two
  have HD2 := hid hd2
  replace X1 := vx X1 hb
  replace XV := ix XV hb
  replace B := bb B hb
  clear cc7a cc7b cc8a cc8b cc8c cc8d cc8e cc8f cc8g cc8h
  have HT2 := hid ht2
  have HU2 := hid hu2
  clear hb hv ht2 hu2 hd2 H1
  have hb11 := (Below.refl _ _).alloc (Nat.le_refl w10.heap.size) (.cells #[.bool s2a, .slice p2a n2a c2a, .bool s2b, .slice p2b n2b c2b] 60)
  have hx12 := Nbx.new w10 s2a s2b (.slice p2a n2a c2a) (.slice p2b n2b c2b)
  have L0 := hid XV.out.lt
  replace X1 := vx X1 hb11
  replace XV := ix XV hb11
  replace HT2 := wl HT2 hb11
  replace HU2 := wl HU2 hb11
  replace B := bb B hb11
  have XA := hid hx12
  have hs13 : (w10.alloc (.cells #[.bool s2a, .slice p2a n2a c2a, .bool s2b, .slice p2b n2b c2b] 60)).heap.size = w10.heap.size + 1 := by simp
  clear hb11 hx12
  obtain ⟨cc14a, cc14b⟩ := X1.out.both
  obtain ⟨cc15a, cc15b, cc15c, cc15d, cc15e, cc15f, cc15g, cc15h⟩ := XV.out.cells
  obtain ⟨cc16a, cc16b, cc16c, cc16d⟩ := XA.out.cells
  go_wp2_with fail
  generalize hW : w10.alloc (.cells #[.bool s2a, .slice p2a n2a c2a, .bool s2b, .slice p2b n2b c2b] 60) = W17 at *
  clear hW
  refine (H2.out _).mono ?_
  rintro e w18 ⟨v, rfl, hv, hb⟩
  obtain ⟨s3a, p3a, n3a, c3a, s3b, p3b, n3b, c3b, rfl⟩ := hv.opened
  obtain ⟨ht3, d3, hu3, hd3⟩ := hv.two
  have HD3 := hid hd3
  replace X1 := vx X1 hb
  replace XV := ix XV hb
  replace XA := nx XA hb
  replace HT2 := wl HT2 hb
  replace HU2 := wl HU2 hb
  replace B := bb B hb
  clear cc14a cc14b cc15a cc15b cc15c cc15d cc15e cc15f cc15g cc15h cc16a cc16b cc16c cc16d
  have HT3 := hid ht3
  have HU3 := hid hu3
  clear hb hv ht3 hu3 hd3 H2
  have hb19 := (Below.refl _ _).alloc (Nat.le_refl w18.heap.size) (.cells #[.bool s3a, .slice p3a n3a c3a, .bool s3b, .slice p3b n3b c3b] 60)
  have hx20 := Nbx.new w18 s3a s3b (.slice p3a n3a c3a) (.slice p3b n3b c3b)
  have L1 := hid XA.out.lt
  replace X1 := vx X1 hb19
  replace XV := ix XV hb19
  replace XA := nx XA hb19
  replace HT2 := wl HT2 hb19
  replace HU2 := wl HU2 hb19
  replace HT3 := wl HT3 hb19
  replace HU3 := wl HU3 hb19
  replace B := bb B hb19
  have XB := hid hx20
  have hs21 : (w18.alloc (.cells #[.bool s3a, .slice p3a n3a c3a, .bool s3b, .slice p3b n3b c3b] 60)).heap.size = w18.heap.size + 1 := by simp
  clear hb19 hx20
  obtain ⟨cc22a, cc22b⟩ := X1.out.both
  obtain ⟨cc23a, cc23b, cc23c, cc23d, cc23e, cc23f, cc23g, cc23h⟩ := XV.out.cells
  obtain ⟨cc24a, cc24b, cc24c, cc24d⟩ := XA.out.cells
  obtain ⟨cc25a, cc25b, cc25c, cc25d⟩ := XB.out.cells
  go_wp2_with fail
  generalize hW : w18.alloc (.cells #[.bool s3a, .slice p3a n3a c3a, .bool s3b, .slice p3b n3b c3b] 60) = W26 at *
  clear hW
  refine (lessq_rtl (Rtl.mk2 HT3.out HU3.out HD3.out) (Rtl.mk2 HT2.out HU2.out HD2.out) (by decide) (by decide)).mono ?_
  rintro e w27 ⟨rfl, hb⟩
  replace XV := ix XV hb
  replace XA := nx XA hb
  replace XB := nx XB hb
  replace HT2 := wl HT2 hb
  replace HU2 := wl HU2 hb
  replace HT3 := wl HT3 hb
  replace HU3 := wl HU3 hb
  replace B := bb B hb
  clear cc22a cc22b cc23a cc23b cc23c cc23d cc23e cc23f cc23g cc23h cc24a cc24b cc24c cc24d cc25a cc25b cc25c cc25d
  clear hb 
  rw [HA.out]
  obtain ⟨cc28a, cc28b, cc28c, cc28d, cc28e, cc28f, cc28g, cc28h⟩ := XV.out.cells
  obtain ⟨cc29a, cc29b, cc29c, cc29d⟩ := XA.out.cells
  obtain ⟨cc30a, cc30b, cc30c, cc30d⟩ := XB.out.cells
  obtain ⟨⟨cc31a, cc31b⟩, ⟨cc31c, cc31d⟩, ⟨cc31e, cc31f⟩, ⟨cc31g, cc31h⟩, ⟨cc31i, cc31j⟩, ⟨cc31k, cc31l⟩, ⟨cc31m, cc31n⟩, cc31o, cc31p⟩ := XV.out.stores
  obtain ⟨r32a, r32b, r32c⟩ := XV.out.last B.out (by have := L0.out; have := L1.out; omega) s2a p2a n2a c2a s2b p2b n2b c2b s3a p3a n3a c3a s3b p3b n3b c3b
  replace XA := hid ((((((((XA.out.other (g2 := w.heap.size + 1) (by have := L0.out; have := L1.out; omega) 0 (.bool s2a)).other (g2 := w.heap.size + 1) (by have := L0.out; have := L1.out; omega) 1 (.slice p2a n2a c2a)).other (g2 := w.heap.size + 1) (by have := L0.out; have := L1.out; omega) 2 (.bool s2b)).other (g2 := w.heap.size + 1) (by have := L0.out; have := L1.out; omega) 3 (.slice p2b n2b c2b)).other (g2 := w.heap.size + 1) (by have := L0.out; have := L1.out; omega) 4 (.bool s3a)).other (g2 := w.heap.size + 1) (by have := L0.out; have := L1.out; omega) 5 (.slice p3a n3a c3a)).other (g2 := w.heap.size + 1) (by have := L0.out; have := L1.out; omega) 6 (.bool s3b)).other (g2 := w.heap.size + 1) (by have := L0.out; have := L1.out; omega) 7 (.slice p3b n3b c3b))
  replace XB := hid ((((((((XB.out.other (g2 := w.heap.size + 1) (by have := L0.out; have := L1.out; omega) 0 (.bool s2a)).other (g2 := w.heap.size + 1) (by have := L0.out; have := L1.out; omega) 1 (.slice p2a n2a c2a)).other (g2 := w.heap.size + 1) (by have := L0.out; have := L1.out; omega) 2 (.bool s2b)).other (g2 := w.heap.size + 1) (by have := L0.out; have := L1.out; omega) 3 (.slice p2b n2b c2b)).other (g2 := w.heap.size + 1) (by have := L0.out; have := L1.out; omega) 4 (.bool s3a)).other (g2 := w.heap.size + 1) (by have := L0.out; have := L1.out; omega) 5 (.slice p3a n3a c3a)).other (g2 := w.heap.size + 1) (by have := L0.out; have := L1.out; omega) 6 (.bool s3b)).other (g2 := w.heap.size + 1) (by have := L0.out; have := L1.out; omega) 7 (.slice p3b n3b c3b))
  replace HT2 := hid (r32c HT2.out)
  replace HU2 := hid (r32c HU2.out)
  replace HT3 := hid (r32c HT3.out)
  replace HU3 := hid (r32c HU3.out)
  replace XV := hid r32a
  replace B := hid r32b
  clear r32a r32b r32c
  obtain ⟨cc33a, cc33b, cc33c, cc33d, cc33e, cc33f, cc33g, cc33h⟩ := XV.out.cells
  obtain ⟨cc34a, cc34b, cc34c, cc34d⟩ := XA.out.cells
  obtain ⟨cc35a, cc35b, cc35c, cc35d⟩ := XB.out.cells
  go_wp2_with fail
  refine bodyPost_ret (res_ivl_tmp rfl rfl rfl XV.out) rfl ?_
  exact ⟨_, rfl, Ivl.mk2 (Rtl.mk2 HT2.out HU2.out HD2.out) (Rtl.mk2 HT3.out HU3.out HD3.out), B.out⟩

/-- An interval that may be handed in. -/
def GoodI (a b : ByteArray) : Prop := GoodQ a ∧ GoodQ b ∧ qnum a ≤ qnum b
/-- What is wrong with an interval. -/
def BadI (a b : ByteArray) (k : Int) : Prop := WrongQ a b k ∨ (GoodQ a ∧ GoodQ b ∧ qnum b < qnum a ∧ k = 2)
theorem BadI.ne {a b : ByteArray} {k : Int} (h : BadI a b k) : k ≠ 0 := by
  rcases h with h | ⟨_, _, _, rfl⟩
  · exact h.ne
  · decide
theorem BadI.not {a b : ByteArray} {k : Int} (h : BadI a b k) : ¬ GoodI a b := by
  rintro ⟨h1, h2, h3⟩
  rcases h with h | ⟨_, _, h4, _⟩
  · exact h.not ⟨h1, h2⟩
  · exact absurd h4 (by grind)
theorem goodI_or_bad (a b : ByteArray) : GoodI a b ∨ ∃ k, BadI a b k := by
  rcases rightQ_or_wrong a b with ⟨h1, h2⟩ | ⟨k, h⟩
  · by_cases h3 : qnum b < qnum a
    · exact .inr ⟨2, .inr ⟨h1, h2, h3, rfl⟩⟩
    · exact .inl ⟨h1, h2, by grind⟩
  · exact .inr ⟨k, .inl h⟩
theorem iread_bad {a b : ByteArray} {k : Int} (h : BadI a b k) (ha : a.size ≤ maxLen) (hb0 : b.size ≤ maxLen) (w : World) :
    Calls Tryz.prog 24 #[.agg #[.string a, .string b]] w fun e w' => e = .returned (.tuple #[.agg #[.bool false, .slice none 0 0, .bool false, .slice none 0 0, .bool false, .slice none 0 0, .bool false, .slice none 0 0], errno k]) ∧ Below w.heap.size w w' := by
  rcases h with h | ⟨h1, h2, h3, rfl⟩
  · rcases h with h | ⟨h1, h2⟩
    · exact iread_a h ha w
    · exact iread_b h1 h2 hb0 w
  · exact iread_c (k := 0) h1 h2 h3 w
theorem iread_good {a b : ByteArray} (h : GoodI a b) (w : World) :
    Calls Tryz.prog 24 #[.agg #[.string a, .string b]] w fun e w' => ∃ v, e = .returned (.tuple #[v, .nilIface]) ∧ Ivl w' v (qnum a) (qnum b) 100 ∧ Below w.heap.size w w' :=
  iread_ok (k := 0) h.1 h.2.1 (by have := h.2.2; grind) w

end Go.Proofs.YtkdeopikojgboaaGreatDoor

/-
  ROWS OF NUMBERS, their least and their greatest.
-/
namespace Go.Proofs.YtkdeopikojgboaaGreatDoor
open Go.RowKit
open Num
set_option linter.unusedVariables false
set_option maxRecDepth 100000
set_option linter.unusedSimpArgs false

/-- A Number's four cells. -/
abbrev Nr := Zr × Zr
def ncs (r : Nr) : List Value := zcs r.1 ++ zcs r.2
def nag (r : Nr) : Value := .agg #[.bool r.1.1, .slice r.1.2.1 r.1.2.2.1 r.1.2.2.2, .bool r.2.1, .slice r.2.2.1 r.2.2.2.1 r.2.2.2.2]
def nrat (vs : List Nr) (i : Nat) : Nr := vs[i]?.getD ((false, none, 0, 0), (false, none, 0, 0))
def fln (vs : List Nr) : Array Value := (vs.map ncs).flatten.toArray
theorem ncs_len (vs : List Nr) : ∀ r ∈ vs.map ncs, r.length = 4 := by
  intro r hr
  obtain ⟨x, _, rfl⟩ := List.mem_map.1 hr
  rfl
theorem fln_get (vs : List Nr) (i : Nat) (h : i < vs.length) : (fln vs)[i * 4]? = some (.bool (nrat vs i).1.1) ∧ (fln vs)[i * 4 + 1]? = some (.slice (nrat vs i).1.2.1 (nrat vs i).1.2.2.1 (nrat vs i).1.2.2.2) ∧ (fln vs)[i * 4 + 2]? = some (.bool (nrat vs i).2.1) ∧ (fln vs)[i * 4 + 3]? = some (.slice (nrat vs i).2.2.1 (nrat vs i).2.2.2.1 (nrat vs i).2.2.2.2) := by
  have h0 := flat_get 4 (vs.map ncs) (ncs_len vs) i 0 (by simpa using h) (by omega)
  have h1 := flat_get 4 (vs.map ncs) (ncs_len vs) i 1 (by simpa using h) (by omega)
  have h2 := flat_get 4 (vs.map ncs) (ncs_len vs) i 2 (by simpa using h) (by omega)
  have h3 := flat_get 4 (vs.map ncs) (ncs_len vs) i 3 (by simpa using h) (by omega)
  simp only [Nat.add_zero] at h0
  refine ⟨?_, ?_, ?_, ?_⟩
  · rw [fln, List.getElem?_toArray, h0]; simp [nrat, h, ncs, zcs]
  · rw [fln, List.getElem?_toArray, h1]; simp [nrat, h, ncs, zcs]
  · rw [fln, List.getElem?_toArray, h2]; simp [nrat, h, ncs, zcs]
  · rw [fln, List.getElem?_toArray, h3]; simp [nrat, h, ncs, zcs]
/-- Block b holds m Numbers, that read as these. -/
def Nrw (w : World) (b m : Nat) (qf : Nat → Rat) (k : Nat) : Prop := ∃ (vs : List Nr) (T : TypeId) (fr : Nat × Nat), w.heap[b]? = some (.cells (fln vs) T fr) ∧ vs.length = m ∧ ∀ i, i < m → Rtl w (nag (nrat vs i)) (qf i) k
theorem Nrw.lt {w : World} {b m : Nat} {qf : Nat → Rat} {k : Nat} (h : Nrw w b m qf k) : b < w.heap.size := by
  obtain ⟨vs, T, fr, h1, _⟩ := h
  exact (Array.getElem?_eq_some_iff.1 h1).1
theorem Nrw.on {w w' : World} {b m : Nat} {qf : Nat → Rat} {k : Nat} (h : Nrw w b m qf k) (hb : Below w.heap.size w w') : Nrw w' b m qf k := by
  have hl := h.lt
  obtain ⟨vs, T, fr, h1, h2, h3⟩ := h
  exact ⟨vs, T, fr, (hb.block b hl).trans h1, h2, fun i hi => (h3 i hi).on hb⟩
theorem Nrw.moved {w w' : World} {b m : Nat} {qf : Nat → Rat} {k : Nat} (h : Nrw w b m qf k) (he : w'.heap[b]? = w.heap[b]?) (hm : ∀ v z k, Whl w v z k → Whl w' v z k) : Nrw w' b m qf k := by
  obtain ⟨vs, T, fr, h1, h2, h3⟩ := h
  exact ⟨vs, T, fr, he.trans h1, h2, fun i hi => (h3 i hi).moved hm⟩
theorem Nrw.mono {w : World} {b m : Nat} {qf : Nat → Rat} {k l : Nat} (h : Nrw w b m qf k) (hk : k ≤ l) : Nrw w b m qf l := by
  obtain ⟨vs, T, fr, h1, h2, h3⟩ := h
  exact ⟨vs, T, fr, h1, h2, fun i hi => (h3 i hi).mono hk⟩
theorem Nrw.at {w : World} {b m : Nat} {qf : Nat → Rat} {k : Nat} (h : Nrw w b m qf k) {i : Nat} (hi : i < m) : ∃ (s1 : Bool) (p1 : Option Addr) (n1 c1 : Nat) (s2 : Bool) (p2 : Option Addr) (n2 c2 : Nat),
    w.cell? ⟨b, i * 4, none⟩ = some (.bool s1) ∧ w.cell? ⟨b, i * 4 + 1, none⟩ = some (.slice p1 n1 c1) ∧ w.cell? ⟨b, i * 4 + 2, none⟩ = some (.bool s2) ∧ w.cell? ⟨b, i * 4 + 3, none⟩ = some (.slice p2 n2 c2) ∧ Rtl w (.agg #[.bool s1, .slice p1 n1 c1, .bool s2, .slice p2 n2 c2]) (qf i) k := by
  obtain ⟨vs, T, fr, h1, h2, h3⟩ := h
  obtain ⟨g0, g1, g2, g3⟩ := fln_get vs i (by omega)
  refine ⟨_, _, _, _, _, _, _, _, ?_, ?_, ?_, ?_, h3 i hi⟩ <;> simp [World.cell?, h1, g0, g1, g2, g3]
theorem heap4 {w : World} {b g : Nat} (hne : b ≠ g) (x0 x1 x2 x3 : Value) : ((((w.setCell ⟨g, 0, none⟩ x0).setCell ⟨g, 1, none⟩ x1).setCell ⟨g, 2, none⟩ x2).setCell ⟨g, 3, none⟩ x3).heap[b]? = w.heap[b]? := by
  rw [Below.heap_setCell _ _ _ _ (by exact hne), Below.heap_setCell _ _ _ _ (by exact hne), Below.heap_setCell _ _ _ _ (by exact hne), Below.heap_setCell _ _ _ _ (by exact hne)]
/-- Two, and four, in a new block. -/
def sel2 (a b : Rat) : Nat → Rat | 0 => a | _ => b
def sel4 (a b c d : Rat) : Nat → Rat | 0 => a | 1 => b | 2 => c | _ => d
/-- Least and greatest, one after the other. -/
def lofN (f : Nat → Rat) : Nat → Rat | 0 => f 0 | n + 1 => mn (lofN f n) (f (n + 1))
def hifN (f : Nat → Rat) : Nat → Rat | 0 => f 0 | n + 1 => mx (hifN f n) (f (n + 1))
theorem lof_step (f : Nat → Rat) {t : Nat} (h : 1 ≤ t) : lofN f t = mn (lofN f (t - 1)) (f t) := by
  obtain ⟨j, rfl⟩ : ∃ j, t = j + 1 := ⟨t - 1, by omega⟩
  rfl
theorem hif_step (f : Nat → Rat) {t : Nat} (h : 1 ≤ t) : hifN f t = mx (hifN f (t - 1)) (f t) := by
  obtain ⟨j, rfl⟩ : ∃ j, t = j + 1 := ⟨t - 1, by omega⟩
  rfl
theorem lof2 (a b : Rat) : lofN (sel2 a b) 1 = mn a b := rfl
theorem hif2 (a b : Rat) : hifN (sel2 a b) 1 = mx a b := rfl
theorem lof4 (a b c d : Rat) : lofN (sel4 a b c d) 3 = lo4 a b c d := rfl
theorem hif4 (a b c d : Rat) : hifN (sel4 a b c d) 3 = hi4 a b c d := rfl

theorem row_new2 {w : World} {k : Nat} {a b : Rat} {s0a : Bool} {p0a : Option Addr} {n0a c0a : Nat} {s0b : Bool} {p0b : Option Addr} {n0b c0b : Nat} {s1a : Bool} {p1a : Option Addr} {n1a c1a : Nat} {s1b : Bool} {p1b : Option Addr} {n1b c1b : Nat} (h0 : Rtl w (.agg #[.bool s0a, .slice p0a n0a c0a, .bool s0b, .slice p0b n0b c0b]) a k) (h1 : Rtl w (.agg #[.bool s1a, .slice p1a n1a c1a, .bool s1b, .slice p1b n1b c1b]) b k) : Nrw (w.alloc (.cells #[.bool s0a, .slice p0a n0a c0a, .bool s0b, .slice p0b n0b c0b, .bool s1a, .slice p1a n1a c1a, .bool s1b, .slice p1b n1b c1b] 60)) w.heap.size 2 (sel2 a b) k := by
  have hb := (Below.refl w.heap.size w).alloc (Nat.le_refl _) (.cells #[.bool s0a, .slice p0a n0a c0a, .bool s0b, .slice p0b n0b c0b, .bool s1a, .slice p1a n1a c1a, .bool s1b, .slice p1b n1b c1b] 60)
  refine ⟨[((s0a, p0a, n0a, c0a), (s0b, p0b, n0b, c0b)), ((s1a, p1a, n1a, c1a), (s1b, p1b, n1b, c1b))], 60, (0, 0), ?_, rfl, fun i hi => ?_⟩
  · show (w.heap.push _)[w.heap.size]? = _
    simp [fln, ncs, zcs]
  · rcases i with _ | _ | i
    · exact h0.on hb
    · exact h1.on hb
    · omega

theorem row_new4 {w : World} {k : Nat} {a b c d : Rat} {s0a : Bool} {p0a : Option Addr} {n0a c0a : Nat} {s0b : Bool} {p0b : Option Addr} {n0b c0b : Nat} {s1a : Bool} {p1a : Option Addr} {n1a c1a : Nat} {s1b : Bool} {p1b : Option Addr} {n1b c1b : Nat} {s2a : Bool} {p2a : Option Addr} {n2a c2a : Nat} {s2b : Bool} {p2b : Option Addr} {n2b c2b : Nat} {s3a : Bool} {p3a : Option Addr} {n3a c3a : Nat} {s3b : Bool} {p3b : Option Addr} {n3b c3b : Nat} (h0 : Rtl w (.agg #[.bool s0a, .slice p0a n0a c0a, .bool s0b, .slice p0b n0b c0b]) a k) (h1 : Rtl w (.agg #[.bool s1a, .slice p1a n1a c1a, .bool s1b, .slice p1b n1b c1b]) b k) (h2 : Rtl w (.agg #[.bool s2a, .slice p2a n2a c2a, .bool s2b, .slice p2b n2b c2b]) c k) (h3 : Rtl w (.agg #[.bool s3a, .slice p3a n3a c3a, .bool s3b, .slice p3b n3b c3b]) d k) : Nrw (w.alloc (.cells #[.bool s0a, .slice p0a n0a c0a, .bool s0b, .slice p0b n0b c0b, .bool s1a, .slice p1a n1a c1a, .bool s1b, .slice p1b n1b c1b, .bool s2a, .slice p2a n2a c2a, .bool s2b, .slice p2b n2b c2b, .bool s3a, .slice p3a n3a c3a, .bool s3b, .slice p3b n3b c3b] 60)) w.heap.size 4 (sel4 a b c d) k := by
  have hb := (Below.refl w.heap.size w).alloc (Nat.le_refl _) (.cells #[.bool s0a, .slice p0a n0a c0a, .bool s0b, .slice p0b n0b c0b, .bool s1a, .slice p1a n1a c1a, .bool s1b, .slice p1b n1b c1b, .bool s2a, .slice p2a n2a c2a, .bool s2b, .slice p2b n2b c2b, .bool s3a, .slice p3a n3a c3a, .bool s3b, .slice p3b n3b c3b] 60)
  refine ⟨[((s0a, p0a, n0a, c0a), (s0b, p0b, n0b, c0b)), ((s1a, p1a, n1a, c1a), (s1b, p1b, n1b, c1b)), ((s2a, p2a, n2a, c2a), (s2b, p2b, n2b, c2b)), ((s3a, p3a, n3a, c3a), (s3b, p3b, n3b, c3b))], 60, (0, 0), ?_, rfl, fun i hi => ?_⟩
  · show (w.heap.push _)[w.heap.size]? = _
    simp [fln, ncs, zcs]
  · rcases i with _ | _ | _ | _ | i
    · exact h0.on hb
    · exact h1.on hb
    · exact h2.on hb
    · exact h3.on hb
    · omega

end Go.Proofs.YtkdeopikojgboaaGreatDoor

/-
  slices.MinFunc, slices.MaxFunc over Numbers.
-/
namespace Go.Proofs.YtkdeopikojgboaaGreatDoor
open Go.RowKit
open Num
set_option linter.unusedVariables false
set_option maxRecDepth 100000
set_option linter.unusedSimpArgs false

set_option maxHeartbeats 4000000 in
theorem minfunc_rtl {w : World} {b m : Nat} {qf : Nat → Rat} {k : Nat} (h : Nrw w b m qf k) (hm1 : 1 ≤ m) (hm : m ≤ 100) (hk1 : 1 ≤ k) (hk : k ≤ 68719476736) :
    Calls Tryz.prog 74 #[.slice (some ⟨b, 0, none⟩) m m, .func (.func 68) #[] #[]] w fun e w' => ∃ v, e = .returned v ∧ Rtl w' v (lofN qf (m - 1)) k ∧ Below w.heap.size w w' := by
  have HR := hid h
  have HK := hid hk
  have HK1 := hid hk1
  have hbl := h.lt
  have HBL := hid hbl
  obtain ⟨s0a, p0a, n0a, c0a, s0b, p0b, n0b, c0b, y0, y1, y2, y3, hr⟩ := h.at (i := 0) (by omega)
  simp only [Nat.zero_mul, Nat.zero_add] at y0 y1 y2 y3
  obtain ⟨ht0, d0, hu0, hd0⟩ := hr.two
  have HD0 := hid hd0
  have hn1 : ¬ (m : Int) < 1 := by omega
  have hn2 : (0 : Int) < (m : Int) := by omega
  have HY := hid (fun (o : Obj) (j : Nat) => World.cell?_of_block (a := ⟨b, j, none⟩) (((Below.refl w.heap.size w).alloc (Nat.le_refl _) o).block b hbl))
  have z0 := (HY.out (.cells #[.bool false, .slice none 0 0, .bool false, .slice none 0 0] 60) 0).trans y0
  have z1 := (HY.out (.cells #[.bool false, .slice none 0 0, .bool false, .slice none 0 0] 60) 1).trans y1
  have z2 := (HY.out (.cells #[.bool false, .slice none 0 0, .bool false, .slice none 0 0] 60) 2).trans y2
  have z3 := (HY.out (.cells #[.bool false, .slice none 0 0, .bool false, .slice none 0 0] 60) 3).trans y3
  have B := hid (Below.refl w.heap.size w)
  have HT0 := hid ht0
  have HU0 := hid hu0
  have hb1 := (Below.refl _ _).alloc (Nat.le_refl w.heap.size) (.cells #[.bool false, .slice none 0 0, .bool false, .slice none 0 0] 60)
  have hx2 := Nbx.new w false false (.slice none 0 0) (.slice none 0 0)
  replace HT0 := wl HT0 hb1
  replace HU0 := wl HU0 hb1
  replace B := bb B hb1
  replace HR := hid (HR.out.on hb1)
  have XQ := hid hx2
  have hs3 : (w.alloc (.cells #[.bool false, .slice none 0 0, .bool false, .slice none 0 0] 60)).heap.size = w.heap.size + 1 := by simp
  clear hb1 hx2
  have hb4 := (Below.refl _ _).alloc (Nat.le_refl (w.alloc (.cells #[.bool false, .slice none 0 0, .bool false, .slice none 0 0] 60)).heap.size) (.cells #[.bool s0a, .slice p0a n0a c0a, .bool s0b, .slice p0b n0b c0b] 60)
  have hx5 := Nbx.new (w.alloc (.cells #[.bool false, .slice none 0 0, .bool false, .slice none 0 0] 60)) s0a s0b (.slice p0a n0a c0a) (.slice p0b n0b c0b)
  rw [hs3] at hx5
  replace XQ := nx XQ hb4
  replace HT0 := wl HT0 hb4
  replace HU0 := wl HU0 hb4
  replace B := bb B hb4
  replace HR := hid (HR.out.on hb4)
  have XM := hid hx5
  have hs6 : ((w.alloc (.cells #[.bool false, .slice none 0 0, .bool false, .slice none 0 0] 60)).alloc (.cells #[.bool s0a, .slice p0a n0a c0a, .bool s0b, .slice p0b n0b c0b] 60)).heap.size = w.heap.size + 1 + 1 := by simp [hs3]
  clear hb4 hx5
  clear hs6 h hr ht0 hu0 hd0 hk hk1 y0 y1 y2 y3 HY hbl
  go_enter Tryz.func74, Tryz.ntmps74
  obtain ⟨cc7a, cc7b, cc7c, cc7d⟩ := XQ.out.cells
  obtain ⟨cc8a, cc8b, cc8c, cc8d⟩ := XM.out.cells
  go_wp2_with fail
  generalize hW : (w.alloc (.cells #[.bool false, .slice none 0 0, .bool false, .slice none 0 0] 60)).alloc (.cells #[.bool s0a, .slice p0a n0a c0a, .bool s0b, .slice p0b n0b c0b] 60) = W9 at *
  clear hW
  clear z0 z1 z2 z3 cc7a cc7b cc7c cc7d cc8a cc8b cc8c cc8d
  obtain ⟨G, hG⟩ : ∃ G, G = w.heap.size + 1 := ⟨_, rfl⟩
  rw [← hG] at XM
  have LG := hid (show w.heap.size < G by omega)
  rw [← hG]
  clear hG
  go_loopw [6] (fun i wr => ∃ (t : Nat) (sa : Bool) (pa : Option Addr) (na ca : Nat) (sb : Bool) (pb : Option Addr) (nb cb : Nat), 1 ≤ t ∧ t ≤ m ∧ i = .int .i64 t ∧ Hid (Nbx wr w.heap.size false (.slice none 0 0) false (.slice none 0 0)) ∧ Hid (Nbx wr G sa (.slice pa na ca) sb (.slice pb nb cb)) ∧ Hid (Rtl wr (.agg #[.bool sa, .slice pa na ca, .bool sb, .slice pb nb cb]) (lofN qf (t - 1)) k) ∧ Hid (Nrw wr b m qf k) ∧ Hid (Below w.heap.size w wr)) (fun i _ => m - (intOf i).toNat)
  case atStart => exact ⟨1, _, _, _, _, _, _, _, _, Nat.le_refl _, hm1, rfl, XQ, XM, hid (Rtl.mk2 HT0.out HU0.out HD0.out), HR, B⟩
  case round =>
    clear XQ XM HT0 HU0 HD0 HR B
    obtain ⟨t, sa, pa, na, ca, sb, pb, nb, cb, ht1, htm, rfl, XQ, XM, HM, HR, B⟩ := hrel
    by_cases hlt : t < m
    · have hltz : (t : Int) < (m : Int) := by omega
      have hz0 : (0 : Int) ≤ (t : Int) := by omega
      obtain ⟨ht, da, hu, hda⟩ := HM.out.two
      have HT := hid ht
      have HU := hid hu
      have HDA := hid hda
      clear ht hu hda
      obtain ⟨s9a, p9a, n9a, c9a, s9b, p9b, n9b, c9b, y0, y1, y2, y3, hr9⟩ := HR.out.at hlt
      obtain ⟨ht9, d9, hu9, hd9⟩ := hr9.two
      have HT9 := hid ht9
      have HU9 := hid hu9
      have HD9 := hid hd9
      clear hr9 ht9 hu9 hd9
      have hst := lof_step qf ht1
      by_cases hc : qf t < lofN qf (t - 1)
      · have hcz : cmpi (qf t) (lofN qf (t - 1)) < 0 := (cmpi_lt _ _).2 hc
        rw [mn, if_pos hc] at hst
        obtain ⟨cc301a, cc301b, cc301c, cc301d⟩ := XM.out.cells
        go_wp2_with fail
        obtain ⟨cc302a, cc302b, cc302c, cc302d⟩ := XM.out.cells
        replace XQ := hid XQ.out.dr
        replace XM := hid XM.out.dr
        replace HT := hid HT.out.drew
        replace HU := hid HU.out.drew
        replace HT9 := hid HT9.out.drew
        replace HU9 := hid HU9.out.drew
        replace B := hid (Below.drew B.out)
        replace HR := hid (HR.out.on (Below.drew (Below.refl _ _)))
        obtain ⟨cc303a, cc303b, cc303c, cc303d⟩ := XM.out.cells
        have y0 := (show wr.drew.cell? ⟨b, t * 4, none⟩ = some (.bool s9a) from y0)
        have y1 := (show wr.drew.cell? ⟨b, t * 4 + 1, none⟩ = some (.slice p9a n9a c9a) from y1)
        have y2 := (show wr.drew.cell? ⟨b, t * 4 + 2, none⟩ = some (.bool s9b) from y2)
        have y3 := (show wr.drew.cell? ⟨b, t * 4 + 3, none⟩ = some (.slice p9b n9b c9b) from y3)
        go_region_held3 (fun w' => w'.cell? ⟨b, t * 4, none⟩ = some (.bool s9a) ∧ w'.cell? ⟨b, t * 4 + 1, none⟩ = some (.slice p9a n9a c9a) ∧ w'.cell? ⟨b, t * 4 + 2, none⟩ = some (.bool s9b) ∧ w'.cell? ⟨b, t * 4 + 3, none⟩ = some (.slice p9b n9b c9b) ∧ w'.cell? ⟨G, 0, none⟩ = some (.bool sa) ∧ w'.cell? ⟨G, 1, none⟩ = some (.slice pa na ca) ∧ w'.cell? ⟨G, 2, none⟩ = some (.bool sb) ∧ w'.cell? ⟨G, 3, none⟩ = some (.slice pb nb cb)) (go_keep) (first
          | (go_at_call 68; refine (cmpq_rtl (Rtl.mk2 HT9.out HU9.out HD9.out) (Rtl.mk2 HT.out HU.out HDA.out) HK1.out HK.out).mono ?_; rintro e w305 ⟨rfl, hb⟩; have hbb := HR.out.lt; replace y0 := (World.cell?_of_block (a := ⟨b, t * 4, none⟩) (hb.block b hbb)).trans y0; replace y1 := (World.cell?_of_block (a := ⟨b, t * 4 + 1, none⟩) (hb.block b hbb)).trans y1; replace y2 := (World.cell?_of_block (a := ⟨b, t * 4 + 2, none⟩) (hb.block b hbb)).trans y2; replace y3 := (World.cell?_of_block (a := ⟨b, t * 4 + 3, none⟩) (hb.block b hbb)).trans y3; replace XQ := nx XQ hb; replace XM := nx XM hb; replace HT := wl HT hb; replace HU := wl HU hb; replace HT9 := wl HT9 hb; replace HU9 := wl HU9 hb; replace B := bb B hb; replace HR := hid (HR.out.on hb); clear cc301a cc301b cc301c cc301d cc302a cc302b cc302c cc302d cc303a cc303b cc303c cc303d; clear hb hbb; obtain ⟨cc306a, cc306b, cc306c, cc306d⟩ := XM.out.cells; have mk304_0 := hid True.intro))
        obtain ⟨⟨cc307a, cc307b⟩, ⟨cc307c, cc307d⟩, ⟨cc307e, cc307f⟩, cc307g, cc307h⟩ := XM.out.stores
        obtain ⟨r308a, r308b, r308c⟩ := XM.out.last B.out (by have := LG.out; omega) s9a s9b p9a p9b n9a n9b c9a c9b
        replace HR := hid (HR.out.moved (heap4 (by have := HBL.out; have := LG.out; omega) _ _ _ _) (fun v z k h => r308c h))
        replace XQ := hid ((((XQ.out.other (g2 := G) (by have := LG.out; omega) 0 (.bool s9a)).other (g2 := G) (by have := LG.out; omega) 1 (.slice p9a n9a c9a)).other (g2 := G) (by have := LG.out; omega) 2 (.bool s9b)).other (g2 := G) (by have := LG.out; omega) 3 (.slice p9b n9b c9b))
        replace HT9 := hid (r308c HT9.out)
        replace HU9 := hid (r308c HU9.out)
        replace XM := hid r308a
        replace B := hid r308b
        clear r308a r308b r308c
        obtain ⟨cc309a, cc309b, cc309c, cc309d⟩ := XQ.out.cells
        obtain ⟨cc310a, cc310b, cc310c, cc310d⟩ := XM.out.cells
        go_wp2_with fail
        go_roundw
        case rel => exact ⟨t + 1, _, _, _, _, _, _, _, _, by omega, by omega, by go_num, XQ, XM, hid (by rw [Nat.add_sub_cancel, hst]; exact Rtl.mk2 HT9.out HU9.out HD9.out), HR, B⟩
        case measure => simp [intOf]; omega
      · have hcz : ¬ cmpi (qf t) (lofN qf (t - 1)) < 0 := fun e => hc ((cmpi_lt _ _).1 e)
        rw [mn, if_neg hc] at hst
        obtain ⟨cc401a, cc401b, cc401c, cc401d⟩ := XM.out.cells
        go_wp2_with fail
        obtain ⟨cc402a, cc402b, cc402c, cc402d⟩ := XM.out.cells
        replace XQ := hid XQ.out.dr
        replace XM := hid XM.out.dr
        replace HT := hid HT.out.drew
        replace HU := hid HU.out.drew
        replace HT9 := hid HT9.out.drew
        replace HU9 := hid HU9.out.drew
        replace B := hid (Below.drew B.out)
        replace HR := hid (HR.out.on (Below.drew (Below.refl _ _)))
        obtain ⟨cc403a, cc403b, cc403c, cc403d⟩ := XM.out.cells
        have y0 := (show wr.drew.cell? ⟨b, t * 4, none⟩ = some (.bool s9a) from y0)
        have y1 := (show wr.drew.cell? ⟨b, t * 4 + 1, none⟩ = some (.slice p9a n9a c9a) from y1)
        have y2 := (show wr.drew.cell? ⟨b, t * 4 + 2, none⟩ = some (.bool s9b) from y2)
        have y3 := (show wr.drew.cell? ⟨b, t * 4 + 3, none⟩ = some (.slice p9b n9b c9b) from y3)
        go_region_held3 (fun w' => w'.cell? ⟨b, t * 4, none⟩ = some (.bool s9a) ∧ w'.cell? ⟨b, t * 4 + 1, none⟩ = some (.slice p9a n9a c9a) ∧ w'.cell? ⟨b, t * 4 + 2, none⟩ = some (.bool s9b) ∧ w'.cell? ⟨b, t * 4 + 3, none⟩ = some (.slice p9b n9b c9b) ∧ w'.cell? ⟨G, 0, none⟩ = some (.bool sa) ∧ w'.cell? ⟨G, 1, none⟩ = some (.slice pa na ca) ∧ w'.cell? ⟨G, 2, none⟩ = some (.bool sb) ∧ w'.cell? ⟨G, 3, none⟩ = some (.slice pb nb cb)) (go_keep) (first
          | (go_at_call 68; refine (cmpq_rtl (Rtl.mk2 HT9.out HU9.out HD9.out) (Rtl.mk2 HT.out HU.out HDA.out) HK1.out HK.out).mono ?_; rintro e w405 ⟨rfl, hb⟩; have hbb := HR.out.lt; replace y0 := (World.cell?_of_block (a := ⟨b, t * 4, none⟩) (hb.block b hbb)).trans y0; replace y1 := (World.cell?_of_block (a := ⟨b, t * 4 + 1, none⟩) (hb.block b hbb)).trans y1; replace y2 := (World.cell?_of_block (a := ⟨b, t * 4 + 2, none⟩) (hb.block b hbb)).trans y2; replace y3 := (World.cell?_of_block (a := ⟨b, t * 4 + 3, none⟩) (hb.block b hbb)).trans y3; replace XQ := nx XQ hb; replace XM := nx XM hb; replace HT := wl HT hb; replace HU := wl HU hb; replace HT9 := wl HT9 hb; replace HU9 := wl HU9 hb; replace B := bb B hb; replace HR := hid (HR.out.on hb); clear cc401a cc401b cc401c cc401d cc402a cc402b cc402c cc402d cc403a cc403b cc403c cc403d; clear hb hbb; obtain ⟨cc406a, cc406b, cc406c, cc406d⟩ := XM.out.cells; have mk404_0 := hid True.intro))
        go_wp2_with fail
        go_roundw
        case rel => exact ⟨t + 1, _, _, _, _, _, _, _, _, by omega, by omega, by go_num, XQ, XM, hid (by rw [Nat.add_sub_cancel, hst]; exact Rtl.mk2 HT.out HU.out HDA.out), HR, B⟩
        case measure => simp [intOf]; omega
    · obtain rfl : t = m := by omega
      obtain ⟨ht, da, hu, hda⟩ := HM.out.two
      have HT := hid ht
      have HU := hid hu
      have HDA := hid hda
      clear ht hu hda
      obtain ⟨cc501a, cc501b, cc501c, cc501d⟩ := XQ.out.cells
      obtain ⟨cc502a, cc502b, cc502c, cc502d⟩ := XM.out.cells
      obtain ⟨⟨cc503a, cc503b⟩, ⟨cc503c, cc503d⟩, ⟨cc503e, cc503f⟩, cc503g, cc503h⟩ := XQ.out.stores
      obtain ⟨r504a, r504b, r504c⟩ := XQ.out.last B.out (by have := LG.out; omega) sa sb pa pb na nb ca cb
      replace XM := hid ((((XM.out.other (g2 := w.heap.size) (by have := LG.out; omega) 0 (.bool sa)).other (g2 := w.heap.size) (by have := LG.out; omega) 1 (.slice pa na ca)).other (g2 := w.heap.size) (by have := LG.out; omega) 2 (.bool sb)).other (g2 := w.heap.size) (by have := LG.out; omega) 3 (.slice pb nb cb))
      replace HT := hid (r504c HT.out)
      replace HU := hid (r504c HU.out)
      replace XQ := hid r504a
      replace B := hid r504b
      clear r504a r504b r504c
      go_wp2_with fail
      refine bodyPost_ret (res_num rfl rfl XQ.out) rfl ?_
      exact ⟨_, rfl, Rtl.mk2 HT.out HU.out HDA.out, B.out⟩

set_option maxHeartbeats 4000000 in
theorem maxfunc_rtl {w : World} {b m : Nat} {qf : Nat → Rat} {k : Nat} (h : Nrw w b m qf k) (hm1 : 1 ≤ m) (hm : m ≤ 100) (hk1 : 1 ≤ k) (hk : k ≤ 68719476736) :
    Calls Tryz.prog 75 #[.slice (some ⟨b, 0, none⟩) m m, .func (.func 68) #[] #[]] w fun e w' => ∃ v, e = .returned v ∧ Rtl w' v (hifN qf (m - 1)) k ∧ Below w.heap.size w w' := by
  have HR := hid h
  have HK := hid hk
  have HK1 := hid hk1
  have hbl := h.lt
  have HBL := hid hbl
  obtain ⟨s0a, p0a, n0a, c0a, s0b, p0b, n0b, c0b, y0, y1, y2, y3, hr⟩ := h.at (i := 0) (by omega)
  simp only [Nat.zero_mul, Nat.zero_add] at y0 y1 y2 y3
  obtain ⟨ht0, d0, hu0, hd0⟩ := hr.two
  have HD0 := hid hd0
  have hn1 : ¬ (m : Int) < 1 := by omega
  have hn2 : (0 : Int) < (m : Int) := by omega
  have HY := hid (fun (o : Obj) (j : Nat) => World.cell?_of_block (a := ⟨b, j, none⟩) (((Below.refl w.heap.size w).alloc (Nat.le_refl _) o).block b hbl))
  have z0 := (HY.out (.cells #[.bool false, .slice none 0 0, .bool false, .slice none 0 0] 60) 0).trans y0
  have z1 := (HY.out (.cells #[.bool false, .slice none 0 0, .bool false, .slice none 0 0] 60) 1).trans y1
  have z2 := (HY.out (.cells #[.bool false, .slice none 0 0, .bool false, .slice none 0 0] 60) 2).trans y2
  have z3 := (HY.out (.cells #[.bool false, .slice none 0 0, .bool false, .slice none 0 0] 60) 3).trans y3
  have B := hid (Below.refl w.heap.size w)
  have HT0 := hid ht0
  have HU0 := hid hu0
  have hb1 := (Below.refl _ _).alloc (Nat.le_refl w.heap.size) (.cells #[.bool false, .slice none 0 0, .bool false, .slice none 0 0] 60)
  have hx2 := Nbx.new w false false (.slice none 0 0) (.slice none 0 0)
  replace HT0 := wl HT0 hb1
  replace HU0 := wl HU0 hb1
  replace B := bb B hb1
  replace HR := hid (HR.out.on hb1)
  have XQ := hid hx2
  have hs3 : (w.alloc (.cells #[.bool false, .slice none 0 0, .bool false, .slice none 0 0] 60)).heap.size = w.heap.size + 1 := by simp
  clear hb1 hx2
  have hb4 := (Below.refl _ _).alloc (Nat.le_refl (w.alloc (.cells #[.bool false, .slice none 0 0, .bool false, .slice none 0 0] 60)).heap.size) (.cells #[.bool s0a, .slice p0a n0a c0a, .bool s0b, .slice p0b n0b c0b] 60)
  have hx5 := Nbx.new (w.alloc (.cells #[.bool false, .slice none 0 0, .bool false, .slice none 0 0] 60)) s0a s0b (.slice p0a n0a c0a) (.slice p0b n0b c0b)
  rw [hs3] at hx5
  replace XQ := nx XQ hb4
  replace HT0 := wl HT0 hb4
  replace HU0 := wl HU0 hb4
  replace B := bb B hb4
  replace HR := hid (HR.out.on hb4)
  have XM := hid hx5
  have hs6 : ((w.alloc (.cells #[.bool false, .slice none 0 0, .bool false, .slice none 0 0] 60)).alloc (.cells #[.bool s0a, .slice p0a n0a c0a, .bool s0b, .slice p0b n0b c0b] 60)).heap.size = w.heap.size + 1 + 1 := by simp [hs3]
  clear hb4 hx5
  clear hs6 h hr ht0 hu0 hd0 hk hk1 y0 y1 y2 y3 HY hbl
  go_enter Tryz.func75, Tryz.ntmps75
  obtain ⟨cc7a, cc7b, cc7c, cc7d⟩ := XQ.out.cells
  obtain ⟨cc8a, cc8b, cc8c, cc8d⟩ := XM.out.cells
  go_wp2_with fail
  generalize hW : (w.alloc (.cells #[.bool false, .slice none 0 0, .bool false, .slice none 0 0] 60)).alloc (.cells #[.bool s0a, .slice p0a n0a c0a, .bool s0b, .slice p0b n0b c0b] 60) = W9 at *
  clear hW
  clear z0 z1 z2 z3 cc7a cc7b cc7c cc7d cc8a cc8b cc8c cc8d
  obtain ⟨G, hG⟩ : ∃ G, G = w.heap.size + 1 := ⟨_, rfl⟩
  rw [← hG] at XM
  have LG := hid (show w.heap.size < G by omega)
  rw [← hG]
  clear hG
  go_loopw [6] (fun i wr => ∃ (t : Nat) (sa : Bool) (pa : Option Addr) (na ca : Nat) (sb : Bool) (pb : Option Addr) (nb cb : Nat), 1 ≤ t ∧ t ≤ m ∧ i = .int .i64 t ∧ Hid (Nbx wr w.heap.size false (.slice none 0 0) false (.slice none 0 0)) ∧ Hid (Nbx wr G sa (.slice pa na ca) sb (.slice pb nb cb)) ∧ Hid (Rtl wr (.agg #[.bool sa, .slice pa na ca, .bool sb, .slice pb nb cb]) (hifN qf (t - 1)) k) ∧ Hid (Nrw wr b m qf k) ∧ Hid (Below w.heap.size w wr)) (fun i _ => m - (intOf i).toNat)
  case atStart => exact ⟨1, _, _, _, _, _, _, _, _, Nat.le_refl _, hm1, rfl, XQ, XM, hid (Rtl.mk2 HT0.out HU0.out HD0.out), HR, B⟩
  case round =>
    clear XQ XM HT0 HU0 HD0 HR B
    obtain ⟨t, sa, pa, na, ca, sb, pb, nb, cb, ht1, htm, rfl, XQ, XM, HM, HR, B⟩ := hrel
    by_cases hlt : t < m
    · have hltz : (t : Int) < (m : Int) := by omega
      have hz0 : (0 : Int) ≤ (t : Int) := by omega
      obtain ⟨ht, da, hu, hda⟩ := HM.out.two
      have HT := hid ht
      have HU := hid hu
      have HDA := hid hda
      clear ht hu hda
      obtain ⟨s9a, p9a, n9a, c9a, s9b, p9b, n9b, c9b, y0, y1, y2, y3, hr9⟩ := HR.out.at hlt
      obtain ⟨ht9, d9, hu9, hd9⟩ := hr9.two
      have HT9 := hid ht9
      have HU9 := hid hu9
      have HD9 := hid hd9
      clear hr9 ht9 hu9 hd9
      have hst := hif_step qf ht1
      by_cases hc : hifN qf (t - 1) < qf t
      · have hcz : 0 < cmpi (qf t) (hifN qf (t - 1)) := (cmpi_gt _ _).2 hc
        rw [mx, if_pos hc] at hst
        obtain ⟨cc301a, cc301b, cc301c, cc301d⟩ := XM.out.cells
        go_wp2_with fail
        obtain ⟨cc302a, cc302b, cc302c, cc302d⟩ := XM.out.cells
        replace XQ := hid XQ.out.dr
        replace XM := hid XM.out.dr
        replace HT := hid HT.out.drew
        replace HU := hid HU.out.drew
        replace HT9 := hid HT9.out.drew
        replace HU9 := hid HU9.out.drew
        replace B := hid (Below.drew B.out)
        replace HR := hid (HR.out.on (Below.drew (Below.refl _ _)))
        obtain ⟨cc303a, cc303b, cc303c, cc303d⟩ := XM.out.cells
        have y0 := (show wr.drew.cell? ⟨b, t * 4, none⟩ = some (.bool s9a) from y0)
        have y1 := (show wr.drew.cell? ⟨b, t * 4 + 1, none⟩ = some (.slice p9a n9a c9a) from y1)
        have y2 := (show wr.drew.cell? ⟨b, t * 4 + 2, none⟩ = some (.bool s9b) from y2)
        have y3 := (show wr.drew.cell? ⟨b, t * 4 + 3, none⟩ = some (.slice p9b n9b c9b) from y3)
        go_region_held3 (fun w' => w'.cell? ⟨b, t * 4, none⟩ = some (.bool s9a) ∧ w'.cell? ⟨b, t * 4 + 1, none⟩ = some (.slice p9a n9a c9a) ∧ w'.cell? ⟨b, t * 4 + 2, none⟩ = some (.bool s9b) ∧ w'.cell? ⟨b, t * 4 + 3, none⟩ = some (.slice p9b n9b c9b) ∧ w'.cell? ⟨G, 0, none⟩ = some (.bool sa) ∧ w'.cell? ⟨G, 1, none⟩ = some (.slice pa na ca) ∧ w'.cell? ⟨G, 2, none⟩ = some (.bool sb) ∧ w'.cell? ⟨G, 3, none⟩ = some (.slice pb nb cb)) (go_keep) (first
          | (go_at_call 68; refine (cmpq_rtl (Rtl.mk2 HT9.out HU9.out HD9.out) (Rtl.mk2 HT.out HU.out HDA.out) HK1.out HK.out).mono ?_; rintro e w305 ⟨rfl, hb⟩; have hbb := HR.out.lt; replace y0 := (World.cell?_of_block (a := ⟨b, t * 4, none⟩) (hb.block b hbb)).trans y0; replace y1 := (World.cell?_of_block (a := ⟨b, t * 4 + 1, none⟩) (hb.block b hbb)).trans y1; replace y2 := (World.cell?_of_block (a := ⟨b, t * 4 + 2, none⟩) (hb.block b hbb)).trans y2; replace y3 := (World.cell?_of_block (a := ⟨b, t * 4 + 3, none⟩) (hb.block b hbb)).trans y3; replace XQ := nx XQ hb; replace XM := nx XM hb; replace HT := wl HT hb; replace HU := wl HU hb; replace HT9 := wl HT9 hb; replace HU9 := wl HU9 hb; replace B := bb B hb; replace HR := hid (HR.out.on hb); clear cc301a cc301b cc301c cc301d cc302a cc302b cc302c cc302d cc303a cc303b cc303c cc303d; clear hb hbb; obtain ⟨cc306a, cc306b, cc306c, cc306d⟩ := XM.out.cells; have mk304_0 := hid True.intro))
        obtain ⟨⟨cc307a, cc307b⟩, ⟨cc307c, cc307d⟩, ⟨cc307e, cc307f⟩, cc307g, cc307h⟩ := XM.out.stores
        obtain ⟨r308a, r308b, r308c⟩ := XM.out.last B.out (by have := LG.out; omega) s9a s9b p9a p9b n9a n9b c9a c9b
        replace HR := hid (HR.out.moved (heap4 (by have := HBL.out; have := LG.out; omega) _ _ _ _) (fun v z k h => r308c h))
        replace XQ := hid ((((XQ.out.other (g2 := G) (by have := LG.out; omega) 0 (.bool s9a)).other (g2 := G) (by have := LG.out; omega) 1 (.slice p9a n9a c9a)).other (g2 := G) (by have := LG.out; omega) 2 (.bool s9b)).other (g2 := G) (by have := LG.out; omega) 3 (.slice p9b n9b c9b))
        replace HT9 := hid (r308c HT9.out)
        replace HU9 := hid (r308c HU9.out)
        replace XM := hid r308a
        replace B := hid r308b
        clear r308a r308b r308c
        obtain ⟨cc309a, cc309b, cc309c, cc309d⟩ := XQ.out.cells
        obtain ⟨cc310a, cc310b, cc310c, cc310d⟩ := XM.out.cells
        go_wp2_with fail
        go_roundw
        case rel => exact ⟨t + 1, _, _, _, _, _, _, _, _, by omega, by omega, by go_num, XQ, XM, hid (by rw [Nat.add_sub_cancel, hst]; exact Rtl.mk2 HT9.out HU9.out HD9.out), HR, B⟩
        case measure => simp [intOf]; omega
      · have hcz : ¬ 0 < cmpi (qf t) (hifN qf (t - 1)) := fun e => hc ((cmpi_gt _ _).1 e)
        rw [mx, if_neg hc] at hst
        obtain ⟨cc401a, cc401b, cc401c, cc401d⟩ := XM.out.cells
        go_wp2_with fail
        obtain ⟨cc402a, cc402b, cc402c, cc402d⟩ := XM.out.cells
        replace XQ := hid XQ.out.dr
        replace XM := hid XM.out.dr
        replace HT := hid HT.out.drew
        replace HU := hid HU.out.drew
        replace HT9 := hid HT9.out.drew
        replace HU9 := hid HU9.out.drew
        replace B := hid (Below.drew B.out)
        replace HR := hid (HR.out.on (Below.drew (Below.refl _ _)))
        obtain ⟨cc403a, cc403b, cc403c, cc403d⟩ := XM.out.cells
        have y0 := (show wr.drew.cell? ⟨b, t * 4, none⟩ = some (.bool s9a) from y0)
        have y1 := (show wr.drew.cell? ⟨b, t * 4 + 1, none⟩ = some (.slice p9a n9a c9a) from y1)
        have y2 := (show wr.drew.cell? ⟨b, t * 4 + 2, none⟩ = some (.bool s9b) from y2)
        have y3 := (show wr.drew.cell? ⟨b, t * 4 + 3, none⟩ = some (.slice p9b n9b c9b) from y3)
        go_region_held3 (fun w' => w'.cell? ⟨b, t * 4, none⟩ = some (.bool s9a) ∧ w'.cell? ⟨b, t * 4 + 1, none⟩ = some (.slice p9a n9a c9a) ∧ w'.cell? ⟨b, t * 4 + 2, none⟩ = some (.bool s9b) ∧ w'.cell? ⟨b, t * 4 + 3, none⟩ = some (.slice p9b n9b c9b) ∧ w'.cell? ⟨G, 0, none⟩ = some (.bool sa) ∧ w'.cell? ⟨G, 1, none⟩ = some (.slice pa na ca) ∧ w'.cell? ⟨G, 2, none⟩ = some (.bool sb) ∧ w'.cell? ⟨G, 3, none⟩ = some (.slice pb nb cb)) (go_keep) (first
          | (go_at_call 68; refine (cmpq_rtl (Rtl.mk2 HT9.out HU9.out HD9.out) (Rtl.mk2 HT.out HU.out HDA.out) HK1.out HK.out).mono ?_; rintro e w405 ⟨rfl, hb⟩; have hbb := HR.out.lt; replace y0 := (World.cell?_of_block (a := ⟨b, t * 4, none⟩) (hb.block b hbb)).trans y0; replace y1 := (World.cell?_of_block (a := ⟨b, t * 4 + 1, none⟩) (hb.block b hbb)).trans y1; replace y2 := (World.cell?_of_block (a := ⟨b, t * 4 + 2, none⟩) (hb.block b hbb)).trans y2; replace y3 := (World.cell?_of_block (a := ⟨b, t * 4 + 3, none⟩) (hb.block b hbb)).trans y3; replace XQ := nx XQ hb; replace XM := nx XM hb; replace HT := wl HT hb; replace HU := wl HU hb; replace HT9 := wl HT9 hb; replace HU9 := wl HU9 hb; replace B := bb B hb; replace HR := hid (HR.out.on hb); clear cc401a cc401b cc401c cc401d cc402a cc402b cc402c cc402d cc403a cc403b cc403c cc403d; clear hb hbb; obtain ⟨cc406a, cc406b, cc406c, cc406d⟩ := XM.out.cells; have mk404_0 := hid True.intro))
        go_wp2_with fail
        go_roundw
        case rel => exact ⟨t + 1, _, _, _, _, _, _, _, _, by omega, by omega, by go_num, XQ, XM, hid (by rw [Nat.add_sub_cancel, hst]; exact Rtl.mk2 HT.out HU.out HDA.out), HR, B⟩
        case measure => simp [intOf]; omega
    · obtain rfl : t = m := by omega
      obtain ⟨ht, da, hu, hda⟩ := HM.out.two
      have HT := hid ht
      have HU := hid hu
      have HDA := hid hda
      clear ht hu hda
      obtain ⟨cc501a, cc501b, cc501c, cc501d⟩ := XQ.out.cells
      obtain ⟨cc502a, cc502b, cc502c, cc502d⟩ := XM.out.cells
      obtain ⟨⟨cc503a, cc503b⟩, ⟨cc503c, cc503d⟩, ⟨cc503e, cc503f⟩, cc503g, cc503h⟩ := XQ.out.stores
      obtain ⟨r504a, r504b, r504c⟩ := XQ.out.last B.out (by have := LG.out; omega) sa sb pa pb na nb ca cb
      replace XM := hid ((((XM.out.other (g2 := w.heap.size) (by have := LG.out; omega) 0 (.bool sa)).other (g2 := w.heap.size) (by have := LG.out; omega) 1 (.slice pa na ca)).other (g2 := w.heap.size) (by have := LG.out; omega) 2 (.bool sb)).other (g2 := w.heap.size) (by have := LG.out; omega) 3 (.slice pb nb cb))
      replace HT := hid (r504c HT.out)
      replace HU := hid (r504c HU.out)
      replace XQ := hid r504a
      replace B := hid r504b
      clear r504a r504b r504c
      go_wp2_with fail
      refine bodyPost_ret (res_num rfl rfl XQ.out) rfl ?_
      exact ⟨_, rfl, Rtl.mk2 HT.out HU.out HDA.out, B.out⟩

end Go.Proofs.YtkdeopikojgboaaGreatDoor

/-
  PACKAGE rat: Whole.
-/
namespace Go.Proofs.YtkdeopikojgboaaGreatDoor
open Go.RowKit
open Num
set_option linter.unusedVariables false
set_option maxRecDepth 100000
set_option linter.unusedSimpArgs false

set_option maxHeartbeats 400000 in
theorem wholeq {w : World} {v : Value} {z : Int} {k : Nat} (h : Whl w v z k) :
    Calls Tryz.prog 60 #[v] w fun e w' => ∃ v, e = .returned v ∧ Rtl w' v (z : Rat) k ∧ Below w.heap.size w w' := by
  obtain ⟨s1, p1, n1, c1, rfl⟩ := h.opened
  have B := hid (Below.refl w.heap.size w)
  have HZ := hid h
  have hb1 := (Below.refl _ _).alloc (Nat.le_refl w.heap.size) (.cells #[.bool s1, .slice p1 n1 c1] 58)
  have hx2 := Box.new w s1 p1 n1 c1
  replace HZ := wl HZ hb1
  replace B := bb B hb1
  have X1 := hid hx2
  have hs3 : (w.alloc (.cells #[.bool s1, .slice p1 n1 c1] 58)).heap.size = w.heap.size + 1 := by simp
  clear hb1 hx2
  have hb4 := (Below.refl _ _).alloc (Nat.le_refl (w.alloc (.cells #[.bool s1, .slice p1 n1 c1] 58)).heap.size) (.cells #[.bool s1, .slice p1 n1 c1, .bool false, .slice none 0 0] 60)
  have hx5 := Nbx.new (w.alloc (.cells #[.bool s1, .slice p1 n1 c1] 58)) s1 false (.slice p1 n1 c1) (.slice none 0 0)
  rw [hs3] at hx5
  replace X1 := bx X1 hb4
  replace HZ := wl HZ hb4
  replace B := bb B hb4
  have XQ := hid hx5
  have hs6 : ((w.alloc (.cells #[.bool s1, .slice p1 n1 c1] 58)).alloc (.cells #[.bool s1, .slice p1 n1 c1, .bool false, .slice none 0 0] 60)).heap.size = w.heap.size + 1 + 1 := by simp [hs3]
  clear hb4 hx5
  clear hs6 h
  go_enter Tryz.func60, Tryz.ntmps60
  obtain ⟨cc7a, cc7b⟩ := X1.out.both
  obtain ⟨cc8a, cc8b, cc8c, cc8d⟩ := XQ.out.cells
  go_wp2_with fail
  refine bodyPost_ret (res_num rfl rfl XQ.out) rfl ?_
  exact ⟨_, rfl, Rtl.mk2 (by rw [Rat.num_intCast]; exact HZ.out) (cells_whl_zero _ k) (.inr ⟨rfl, Rat.den_intCast z⟩), B.out⟩

end Go.Proofs.YtkdeopikojgboaaGreatDoor
