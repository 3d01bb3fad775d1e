/-
  PACKAGE rat: Parse.
-/
import Derived.Test.YtjeeepcnaaadmaaRatStr
import Derived.Test.YtjeeepcnaaadmaaCut
namespace Go.Proofs.Ytjeeepcnaaadmaa
open Go.RowKit
open Num
set_option linter.unusedVariables false
set_option maxRecDepth 100000
set_option linter.unusedSimpArgs false

/-- A fraction that may be handed in. -/
def GoodQ (s : ByteArray) : Prop := s.size ≤ 100 ∧ isRat s.data.toList = true
/-- What is wrong with a text. -/
def BadQ (s : ByteArray) (k : Int) : Prop := (100 < s.size ∧ k = 4) ∨ (s.size ≤ 100 ∧ isRat s.data.toList = false ∧ k = 1)
theorem goodQ_or_bad (s : ByteArray) : GoodQ s ∨ ∃ k, BadQ s k := by
  by_cases h : s.size ≤ 100
  · cases hn : isRat s.data.toList with
    | true => exact .inl ⟨h, hn⟩
    | false => exact .inr ⟨1, .inr ⟨h, hn, rfl⟩⟩
  · exact .inr ⟨4, .inl ⟨by omega, rfl⟩⟩
/-- The fraction of a text. -/
def qnum (s : ByteArray) : Rat := ratOf s.data.toList
/-- The error of two texts. -/
def WrongQ (a b : ByteArray) (k : Int) : Prop := BadQ a k ∨ (GoodQ a ∧ BadQ b k)
theorem rightQ_or_wrong (a b : ByteArray) : (GoodQ a ∧ GoodQ b) ∨ ∃ k, WrongQ a b k := by
  rcases goodQ_or_bad a with ha | ⟨k, ha⟩
  · rcases goodQ_or_bad b with hb | ⟨k, hb⟩
    · exact .inl ⟨ha, hb⟩
    · exact .inr ⟨k, .inr ⟨ha, hb⟩⟩
  · exact .inr ⟨k, .inl ha⟩
theorem divInt_coprime {n d : Int} (hd : 1 < d) (hg : Int.gcd n d = 1) : (Rat.divInt n d).num = n ∧ ((Rat.divInt n d).den : Int) = d := by
  have h := divInt_parts n d (by omega)
  rw [if_neg (by omega), hg] at h
  simpa using h
theorem res_nn_tmp {fn : Func} {t t' t'' : Tmp} {tmps : Array Value} {w : World} {g g' : Nat} {s s' a a' : Bool} {sv sv' av av' u : Value} (hf : fn.results = #[.cell t 51, .cell t' 51, .tmp t'']) (ht : tmps.getD t undef = .pointer (some ⟨g, 0, none⟩)) (ht' : tmps.getD t' undef = .pointer (some ⟨g', 0, none⟩)) (hu : tmps.getD t'' undef = u) (h2 : Nbx w g s sv s' sv') (h2' : Nbx w g' a av a' av') :
    (results fn tmps).run Try.prog w = .ok (.tuple #[.agg #[.bool s, sv, .bool s', sv'], .agg #[.bool a, av, .bool a', av'], u]) w := by
  have h1 := at_addr (P := Try.prog) (w := w) ht
  have h1' := at_addr (P := Try.prog) (w := w) ht'
  have h3 := load_num h2
  have h3' := load_num h2'
  simp only [Array.getD_eq_getD_getElem?] at h1 h1' hu
  simp [results, hf, Sem.run_bind, h1, h3, h1', h3', hu]

set_option maxHeartbeats 2000000 in
theorem qparseA (s : ByteArray) (w : World) (hs : s.size ≤ 68719476736) (hA : isWhl (cutB s.data.toList) = false) :
    Calls Try.prog 65 #[.string s] w fun e w' => e = .returned (.tuple #[.agg #[.bool false, .slice none 0 0, .bool false, .slice none 0 0], errno 1]) ∧ Below w.heap.size w w' := by
  have HA := hid hA
  have HS := hid hs
  have B := hid (Below.refl w.heap.size w)
  have hb1 := (Below.refl _ _).alloc (Nat.le_refl w.heap.size) (.cells #[.bool false, .slice none 0 0, .bool false, .slice none 0 0] 51)
  have hx2 := Nbx.new w false false (.slice none 0 0) (.slice none 0 0)
  replace B := bb B hb1
  have XQ := hid hx2
  have hs3 : (w.alloc (.cells #[.bool false, .slice none 0 0, .bool false, .slice none 0 0] 51)).heap.size = w.heap.size + 1 := by simp
  clear hb1 hx2
  clear hs3 hs hA
  go_enter Try.func65, Try.ntmps65
  obtain ⟨cc4a, cc4b, cc4c, cc4d⟩ := XQ.out.cells
  go_wp2_with fail
  generalize hW : w.alloc (.cells #[.bool false, .slice none 0 0, .bool false, .slice none 0 0] 51) = W5 at *
  clear hW
  have HC := cut_slash s W5 (by have := HS.out; unfold maxLen; omega)
  refine (HC).mono ?_
  rintro e w6 ⟨a, b, rfl, ha, hbb, hsa, hsb, hb⟩
  have HAL := hid ha
  have HBL := hid hbb
  have HSA := hid hsa
  have HSB := hid hsb
  replace XQ := nx XQ hb
  replace B := bb B hb
  clear cc4a cc4b cc4c cc4d
  clear hb HC ha hbb hsa hsb
  obtain ⟨cc7a, cc7b, cc7c, cc7d⟩ := XQ.out.cells
  generalize hasSl s.data.toList = sl at *
  go_wp2_with fail
  refine (zparse_no a _ (by have := HS.out; have := HSA.out; omega) (by rw [HAL.out]; exact HA.out)).mono ?_
  rintro e w8 ⟨rfl, hb⟩
  replace XQ := nx XQ hb
  replace B := bb B hb
  clear cc7a cc7b cc7c cc7d
  clear hb 
  have hb9 := (Below.refl _ _).alloc (Nat.le_refl w8.heap.size) (.cells #[.bool false, .slice none 0 0] 49)
  have hx10 := Box.new w8 false none 0 0
  have L0 := hid XQ.out.lt
  replace XQ := nx XQ hb9
  replace B := bb B hb9
  have X7 := hid hx10
  have hs11 : (w8.alloc (.cells #[.bool false, .slice none 0 0] 49)).heap.size = w8.heap.size + 1 := by simp
  clear hb9 hx10
  obtain ⟨cc12a, cc12b, cc12c, cc12d⟩ := XQ.out.cells
  obtain ⟨cc13a, cc13b⟩ := X7.out.both
  obtain ⟨⟨cc14a, cc14b⟩, ⟨cc14c, cc14d⟩, ⟨cc14e, cc14f⟩, cc14g, cc14h⟩ := XQ.out.stores
  obtain ⟨r15a, r15b, r15c⟩ := XQ.out.last B.out (by have := L0.out; omega) false false none none 0 0 0 0
  replace X7 := hid ((((X7.out.other (g2 := w.heap.size) (by have := L0.out; omega) 0 (.bool false)).other (g2 := w.heap.size) (by have := L0.out; omega) 1 (.slice none 0 0)).other (g2 := w.heap.size) (by have := L0.out; omega) 2 (.bool false)).other (g2 := w.heap.size) (by have := L0.out; omega) 3 (.slice none 0 0))
  replace XQ := hid r15a
  replace B := hid r15b
  clear r15a r15b r15c
  go_wp2_with fail
  refine bodyPost_ret (res_num_tmp rfl rfl rfl XQ.out) rfl ?_
  exact ⟨rfl, B.out⟩

set_option maxHeartbeats 2000000 in
theorem qparseB (s : ByteArray) (w : World) (hs : s.size ≤ 68719476736) (hsl : hasSl s.data.toList = false) (hA : isWhl (cutB s.data.toList) = true) :
    Calls Try.prog 65 #[.string s] w fun e w' => ∃ v, e = .returned (.tuple #[v, .nilIface]) ∧ Rtl w' v (ratOf s.data.toList) s.size ∧ Below w.heap.size w w' := by
  have HSL := hid hsl
  have HA := hid hA
  have HS := hid hs
  have B := hid (Below.refl w.heap.size w)
  have hb1 := (Below.refl _ _).alloc (Nat.le_refl w.heap.size) (.cells #[.bool false, .slice none 0 0, .bool false, .slice none 0 0] 51)
  have hx2 := Nbx.new w false false (.slice none 0 0) (.slice none 0 0)
  replace B := bb B hb1
  have XQ := hid hx2
  have hs3 : (w.alloc (.cells #[.bool false, .slice none 0 0, .bool false, .slice none 0 0] 51)).heap.size = w.heap.size + 1 := by simp
  clear hb1 hx2
  clear hs3 hs hsl hA
  go_enter Try.func65, Try.ntmps65
  obtain ⟨cc4a, cc4b, cc4c, cc4d⟩ := XQ.out.cells
  go_wp2_with fail
  generalize hW : w.alloc (.cells #[.bool false, .slice none 0 0, .bool false, .slice none 0 0] 51) = W5 at *
  clear hW
  have HC := cut_slash s W5 (by have := HS.out; unfold maxLen; omega)
  rw [HSL.out] at HC
  refine (HC).mono ?_
  rintro e w6 ⟨a, b, rfl, ha, hbb, hsa, hsb, hb⟩
  have HAL := hid ha
  have HBL := hid hbb
  have HSA := hid hsa
  have HSB := hid hsb
  replace XQ := nx XQ hb
  replace B := bb B hb
  clear cc4a cc4b cc4c cc4d
  clear hb HC ha hbb hsa hsb
  obtain ⟨cc7a, cc7b, cc7c, cc7d⟩ := XQ.out.cells
  go_wp2_with fail
  refine (zparse_yes a _ (by have := HS.out; have := HSA.out; omega) (by rw [HAL.out]; exact HA.out)).mono ?_
  rintro e w8 ⟨v, rfl, hv, hb⟩
  rw [HAL.out] at hv
  replace hv := hv.mono HSA.out
  obtain ⟨s5, p5, n5, c5, rfl⟩ := hv.opened
  replace XQ := nx XQ hb
  replace B := bb B hb
  clear cc7a cc7b cc7c cc7d
  have HT := hid hv
  clear hb hv
  have hb9 := (Below.refl _ _).alloc (Nat.le_refl w8.heap.size) (.cells #[.bool s5, .slice p5 n5 c5] 49)
  have hx10 := Box.new w8 s5 p5 n5 c5
  have L0 := hid XQ.out.lt
  replace XQ := nx XQ hb9
  replace HT := wl HT hb9
  replace B := bb B hb9
  have X7 := hid hx10
  have hs11 : (w8.alloc (.cells #[.bool s5, .slice p5 n5 c5] 49)).heap.size = w8.heap.size + 1 := by simp
  clear hb9 hx10
  obtain ⟨cc12a, cc12b, cc12c, cc12d⟩ := XQ.out.cells
  obtain ⟨cc13a, cc13b⟩ := X7.out.both
  obtain ⟨⟨cc14a, cc14b⟩, ⟨cc14c, cc14d⟩, ⟨cc14e, cc14f⟩, cc14g, cc14h⟩ := XQ.out.stores
  obtain ⟨r15a, r15b, r15c⟩ := XQ.out.last B.out (by have := L0.out; omega) s5 false p5 none n5 0 c5 0
  replace X7 := hid ((((X7.out.other (g2 := w.heap.size) (by have := L0.out; omega) 0 (.bool s5)).other (g2 := w.heap.size) (by have := L0.out; omega) 1 (.slice p5 n5 c5)).other (g2 := w.heap.size) (by have := L0.out; omega) 2 (.bool false)).other (g2 := w.heap.size) (by have := L0.out; omega) 3 (.slice none 0 0))
  replace HT := hid (r15c HT.out)
  replace XQ := hid r15a
  replace B := hid r15b
  clear r15a r15b r15c
  go_wp2_with fail
  refine bodyPost_ret (res_num_tmp rfl rfl rfl XQ.out) rfl ?_
  refine ⟨_, rfl, Rtl.mk2 (d := 0) ?_ (Whl.nil _ _) (.inr ⟨rfl, ?_⟩), B.out⟩
  · rw [ratOf, if_neg (by rw [HSL.out]; decide), Rat.num_intCast]
    have h := HT.out
    have e : cutB s.data.toList = s.data.toList := by rcases index_cut s.data.toList with ⟨_, _, e⟩ | ⟨e, _⟩; exact e; rw [HSL.out] at e; exact absurd e (by decide)
    rw [e] at h; exact h
  · rw [ratOf, if_neg (by rw [HSL.out]; decide), Rat.den_intCast]

set_option maxHeartbeats 2000000 in
theorem qparseC (s : ByteArray) (w : World) (hs : s.size ≤ 68719476736) (hsl : hasSl s.data.toList = true) (hA : isWhl (cutB s.data.toList) = true) (hB : isWhl (cutA s.data.toList) = false) :
    Calls Try.prog 65 #[.string s] w fun e w' => e = .returned (.tuple #[.agg #[.bool false, .slice none 0 0, .bool false, .slice none 0 0], errno 1]) ∧ Below w.heap.size w w' := by
  have HSL := hid hsl
  have HA := hid hA
  have HB := hid hB
  have HS := hid hs
  have B := hid (Below.refl w.heap.size w)
  have hb1 := (Below.refl _ _).alloc (Nat.le_refl w.heap.size) (.cells #[.bool false, .slice none 0 0, .bool false, .slice none 0 0] 51)
  have hx2 := Nbx.new w false false (.slice none 0 0) (.slice none 0 0)
  replace B := bb B hb1
  have XQ := hid hx2
  have hs3 : (w.alloc (.cells #[.bool false, .slice none 0 0, .bool false, .slice none 0 0] 51)).heap.size = w.heap.size + 1 := by simp
  clear hb1 hx2
  clear hs3 hs hsl hA hB
  go_enter Try.func65, Try.ntmps65
  obtain ⟨cc4a, cc4b, cc4c, cc4d⟩ := XQ.out.cells
  go_wp2_with fail
  generalize hW : w.alloc (.cells #[.bool false, .slice none 0 0, .bool false, .slice none 0 0] 51) = W5 at *
  clear hW
  have HC := cut_slash s W5 (by have := HS.out; unfold maxLen; omega)
  rw [HSL.out] at HC
  refine (HC).mono ?_
  rintro e w6 ⟨a, b, rfl, ha, hbb, hsa, hsb, hb⟩
  have HAL := hid ha
  have HBL := hid hbb
  have HSA := hid hsa
  have HSB := hid hsb
  replace XQ := nx XQ hb
  replace B := bb B hb
  clear cc4a cc4b cc4c cc4d
  clear hb HC ha hbb hsa hsb
  obtain ⟨cc7a, cc7b, cc7c, cc7d⟩ := XQ.out.cells
  go_wp2_with fail
  refine (zparse_yes a _ (by have := HS.out; have := HSA.out; omega) (by rw [HAL.out]; exact HA.out)).mono ?_
  rintro e w8 ⟨v, rfl, hv, hb⟩
  rw [HAL.out] at hv
  replace hv := hv.mono HSA.out
  obtain ⟨s5, p5, n5, c5, rfl⟩ := hv.opened
  replace XQ := nx XQ hb
  replace B := bb B hb
  clear cc7a cc7b cc7c cc7d
  have HT := hid hv
  clear hb hv
  have hb9 := (Below.refl _ _).alloc (Nat.le_refl w8.heap.size) (.cells #[.bool s5, .slice p5 n5 c5] 49)
  have hx10 := Box.new w8 s5 p5 n5 c5
  have L0 := hid XQ.out.lt
  replace XQ := nx XQ hb9
  replace HT := wl HT hb9
  replace B := bb B hb9
  have X7 := hid hx10
  have hs11 : (w8.alloc (.cells #[.bool s5, .slice p5 n5 c5] 49)).heap.size = w8.heap.size + 1 := by simp
  clear hb9 hx10
  obtain ⟨cc12a, cc12b, cc12c, cc12d⟩ := XQ.out.cells
  obtain ⟨cc13a, cc13b⟩ := X7.out.both
  go_wp2_with fail
  generalize hW : w8.alloc (.cells #[.bool s5, .slice p5 n5 c5] 49) = W14 at *
  clear hW
  have HBL := hid (HBL.out (by first | rfl | trivial))
  refine (zparse_no b _ (by have := HS.out; have := HSB.out; omega) (by rw [HBL.out]; exact HB.out)).mono ?_
  rintro e w15 ⟨rfl, hb⟩
  replace XQ := nx XQ hb
  replace X7 := bx X7 hb
  replace HT := wl HT hb
  replace B := bb B hb
  clear cc12a cc12b cc12c cc12d cc13a cc13b
  clear hb 
  have hb16 := (Below.refl _ _).alloc (Nat.le_refl w15.heap.size) (.cells #[.bool false, .slice none 0 0] 49)
  have hx17 := Box.new w15 false none 0 0
  have L1 := hid X7.out.lt
  replace XQ := nx XQ hb16
  replace X7 := bx X7 hb16
  replace HT := wl HT hb16
  replace B := bb B hb16
  have X9 := hid hx17
  have hs18 : (w15.alloc (.cells #[.bool false, .slice none 0 0] 49)).heap.size = w15.heap.size + 1 := by simp
  clear hb16 hx17
  obtain ⟨cc19a, cc19b, cc19c, cc19d⟩ := XQ.out.cells
  obtain ⟨cc20a, cc20b⟩ := X7.out.both
  obtain ⟨cc21a, cc21b⟩ := X9.out.both
  obtain ⟨⟨cc22a, cc22b⟩, ⟨cc22c, cc22d⟩, ⟨cc22e, cc22f⟩, cc22g, cc22h⟩ := XQ.out.stores
  obtain ⟨r23a, r23b, r23c⟩ := XQ.out.last B.out (by have := L0.out; have := L1.out; omega) false false none none 0 0 0 0
  replace X7 := hid ((((X7.out.other (g2 := w.heap.size) (by have := L0.out; have := L1.out; omega) 0 (.bool false)).other (g2 := w.heap.size) (by have := L0.out; have := L1.out; omega) 1 (.slice none 0 0)).other (g2 := w.heap.size) (by have := L0.out; have := L1.out; omega) 2 (.bool false)).other (g2 := w.heap.size) (by have := L0.out; have := L1.out; omega) 3 (.slice none 0 0))
  replace X9 := hid ((((X9.out.other (g2 := w.heap.size) (by have := L0.out; have := L1.out; omega) 0 (.bool false)).other (g2 := w.heap.size) (by have := L0.out; have := L1.out; omega) 1 (.slice none 0 0)).other (g2 := w.heap.size) (by have := L0.out; have := L1.out; omega) 2 (.bool false)).other (g2 := w.heap.size) (by have := L0.out; have := L1.out; omega) 3 (.slice none 0 0))
  replace HT := hid (r23c HT.out)
  replace XQ := hid r23a
  replace B := hid r23b
  clear r23a r23b r23c
  go_wp2_with fail
  refine bodyPost_ret (res_num_tmp rfl rfl rfl XQ.out) rfl ?_
  exact ⟨rfl, B.out⟩

set_option maxHeartbeats 2000000 in
theorem qparseD (s : ByteArray) (w : World) (hs : s.size ≤ 68719476736) (hsl : hasSl s.data.toList = true) (hA : isWhl (cutB s.data.toList) = true) (hB : isWhl (cutA s.data.toList) = true) (hD : ¬ 1 < whlOf (cutA s.data.toList)) :
    Calls Try.prog 65 #[.string s] w fun e w' => e = .returned (.tuple #[.agg #[.bool false, .slice none 0 0, .bool false, .slice none 0 0], errno 1]) ∧ Below w.heap.size w w' := by
  have HSL := hid hsl
  have HA := hid hA
  have HB := hid hB
  have HD := hid hD
  have HS := hid hs
  have B := hid (Below.refl w.heap.size w)
  have hb1 := (Below.refl _ _).alloc (Nat.le_refl w.heap.size) (.cells #[.bool false, .slice none 0 0, .bool false, .slice none 0 0] 51)
  have hx2 := Nbx.new w false false (.slice none 0 0) (.slice none 0 0)
  replace B := bb B hb1
  have XQ := hid hx2
  have hs3 : (w.alloc (.cells #[.bool false, .slice none 0 0, .bool false, .slice none 0 0] 51)).heap.size = w.heap.size + 1 := by simp
  clear hb1 hx2
  clear hs3 hs hsl hA hB hD
  go_enter Try.func65, Try.ntmps65
  obtain ⟨cc4a, cc4b, cc4c, cc4d⟩ := XQ.out.cells
  go_wp2_with fail
  generalize hW : w.alloc (.cells #[.bool false, .slice none 0 0, .bool false, .slice none 0 0] 51) = W5 at *
  clear hW
  have HC := cut_slash s W5 (by have := HS.out; unfold maxLen; omega)
  rw [HSL.out] at HC
  refine (HC).mono ?_
  rintro e w6 ⟨a, b, rfl, ha, hbb, hsa, hsb, hb⟩
  have HAL := hid ha
  have HBL := hid hbb
  have HSA := hid hsa
  have HSB := hid hsb
  replace XQ := nx XQ hb
  replace B := bb B hb
  clear cc4a cc4b cc4c cc4d
  clear hb HC ha hbb hsa hsb
  obtain ⟨cc7a, cc7b, cc7c, cc7d⟩ := XQ.out.cells
  go_wp2_with fail
  refine (zparse_yes a _ (by have := HS.out; have := HSA.out; omega) (by rw [HAL.out]; exact HA.out)).mono ?_
  rintro e w8 ⟨v, rfl, hv, hb⟩
  rw [HAL.out] at hv
  replace hv := hv.mono HSA.out
  obtain ⟨s5, p5, n5, c5, rfl⟩ := hv.opened
  replace XQ := nx XQ hb
  replace B := bb B hb
  clear cc7a cc7b cc7c cc7d
  have HT := hid hv
  clear hb hv
  have hb9 := (Below.refl _ _).alloc (Nat.le_refl w8.heap.size) (.cells #[.bool s5, .slice p5 n5 c5] 49)
  have hx10 := Box.new w8 s5 p5 n5 c5
  have L0 := hid XQ.out.lt
  replace XQ := nx XQ hb9
  replace HT := wl HT hb9
  replace B := bb B hb9
  have X7 := hid hx10
  have hs11 : (w8.alloc (.cells #[.bool s5, .slice p5 n5 c5] 49)).heap.size = w8.heap.size + 1 := by simp
  clear hb9 hx10
  obtain ⟨cc12a, cc12b, cc12c, cc12d⟩ := XQ.out.cells
  obtain ⟨cc13a, cc13b⟩ := X7.out.both
  go_wp2_with fail
  generalize hW : w8.alloc (.cells #[.bool s5, .slice p5 n5 c5] 49) = W14 at *
  clear hW
  have HBL := hid (HBL.out (by first | rfl | trivial))
  refine (zparse_yes b _ (by have := HS.out; have := HSB.out; omega) (by rw [HBL.out]; exact HB.out)).mono ?_
  rintro e w15 ⟨v, rfl, hv, hb⟩
  rw [HBL.out] at hv
  replace hv := hv.mono HSB.out
  obtain ⟨s6, p6, n6, c6, rfl⟩ := hv.opened
  replace XQ := nx XQ hb
  replace X7 := bx X7 hb
  replace HT := wl HT hb
  replace B := bb B hb
  clear cc12a cc12b cc12c cc12d cc13a cc13b
  have HU := hid hv
  clear hb hv
  have hb16 := (Below.refl _ _).alloc (Nat.le_refl w15.heap.size) (.cells #[.bool s6, .slice p6 n6 c6] 49)
  have hx17 := Box.new w15 s6 p6 n6 c6
  have L1 := hid X7.out.lt
  replace XQ := nx XQ hb16
  replace X7 := bx X7 hb16
  replace HT := wl HT hb16
  replace HU := wl HU hb16
  replace B := bb B hb16
  have X9 := hid hx17
  have hs18 : (w15.alloc (.cells #[.bool s6, .slice p6 n6 c6] 49)).heap.size = w15.heap.size + 1 := by simp
  clear hb16 hx17
  obtain ⟨cc19a, cc19b, cc19c, cc19d⟩ := XQ.out.cells
  obtain ⟨cc20a, cc20b⟩ := X7.out.both
  obtain ⟨cc21a, cc21b⟩ := X9.out.both
  go_wp2_with fail
  generalize hW : w15.alloc (.cells #[.bool s6, .slice p6 n6 c6] 49) = W22 at *
  clear hW
  have HM := more_whl HU.out (by have := HS.out; omega)
  rw [decide_eq_false (by have h := HD.out; omega)] at HM
  refine (HM).mono ?_
  rintro e w23 ⟨rfl, hb⟩
  replace XQ := nx XQ hb
  replace X7 := bx X7 hb
  replace X9 := bx X9 hb
  replace HT := wl HT hb
  replace HU := wl HU hb
  replace B := bb B hb
  clear cc19a cc19b cc19c cc19d cc20a cc20b cc21a cc21b
  clear hb HM
  obtain ⟨cc24a, cc24b, cc24c, cc24d⟩ := XQ.out.cells
  obtain ⟨cc25a, cc25b⟩ := X7.out.both
  obtain ⟨cc26a, cc26b⟩ := X9.out.both
  obtain ⟨⟨cc27a, cc27b⟩, ⟨cc27c, cc27d⟩, ⟨cc27e, cc27f⟩, cc27g, cc27h⟩ := XQ.out.stores
  obtain ⟨r28a, r28b, r28c⟩ := XQ.out.last B.out (by have := L0.out; have := L1.out; omega) false false none none 0 0 0 0
  replace X7 := hid ((((X7.out.other (g2 := w.heap.size) (by have := L0.out; have := L1.out; omega) 0 (.bool false)).other (g2 := w.heap.size) (by have := L0.out; have := L1.out; omega) 1 (.slice none 0 0)).other (g2 := w.heap.size) (by have := L0.out; have := L1.out; omega) 2 (.bool false)).other (g2 := w.heap.size) (by have := L0.out; have := L1.out; omega) 3 (.slice none 0 0))
  replace X9 := hid ((((X9.out.other (g2 := w.heap.size) (by have := L0.out; have := L1.out; omega) 0 (.bool false)).other (g2 := w.heap.size) (by have := L0.out; have := L1.out; omega) 1 (.slice none 0 0)).other (g2 := w.heap.size) (by have := L0.out; have := L1.out; omega) 2 (.bool false)).other (g2 := w.heap.size) (by have := L0.out; have := L1.out; omega) 3 (.slice none 0 0))
  replace HT := hid (r28c HT.out)
  replace HU := hid (r28c HU.out)
  replace XQ := hid r28a
  replace B := hid r28b
  clear r28a r28b r28c
  go_wp2_with fail
  refine bodyPost_ret (res_num_tmp rfl rfl rfl XQ.out) rfl ?_
  exact ⟨rfl, B.out⟩

set_option maxHeartbeats 2000000 in
theorem qparseE (s : ByteArray) (w : World) (hs : s.size ≤ 68719476736) (hsl : hasSl s.data.toList = true) (hA : isWhl (cutB s.data.toList) = true) (hB : isWhl (cutA s.data.toList) = true) (hD : 1 < whlOf (cutA s.data.toList)) (hG : ¬ Int.gcd (whlOf (cutB s.data.toList)) (whlOf (cutA s.data.toList)) = 1) :
    Calls Try.prog 65 #[.string s] w fun e w' => e = .returned (.tuple #[.agg #[.bool false, .slice none 0 0, .bool false, .slice none 0 0], errno 1]) ∧ Below w.heap.size w w' := by
  have HSL := hid hsl
  have HA := hid hA
  have HB := hid hB
  have HD := hid hD
  have HG := hid hG
  have HS := hid hs
  have B := hid (Below.refl w.heap.size w)
  have hb1 := (Below.refl _ _).alloc (Nat.le_refl w.heap.size) (.cells #[.bool false, .slice none 0 0, .bool false, .slice none 0 0] 51)
  have hx2 := Nbx.new w false false (.slice none 0 0) (.slice none 0 0)
  replace B := bb B hb1
  have XQ := hid hx2
  have hs3 : (w.alloc (.cells #[.bool false, .slice none 0 0, .bool false, .slice none 0 0] 51)).heap.size = w.heap.size + 1 := by simp
  clear hb1 hx2
  clear hs3 hs hsl hA hB hD hG
  go_enter Try.func65, Try.ntmps65
  obtain ⟨cc4a, cc4b, cc4c, cc4d⟩ := XQ.out.cells
  go_wp2_with fail
  generalize hW : w.alloc (.cells #[.bool false, .slice none 0 0, .bool false, .slice none 0 0] 51) = W5 at *
  clear hW
  have HC := cut_slash s W5 (by have := HS.out; unfold maxLen; omega)
  rw [HSL.out] at HC
  refine (HC).mono ?_
  rintro e w6 ⟨a, b, rfl, ha, hbb, hsa, hsb, hb⟩
  have HAL := hid ha
  have HBL := hid hbb
  have HSA := hid hsa
  have HSB := hid hsb
  replace XQ := nx XQ hb
  replace B := bb B hb
  clear cc4a cc4b cc4c cc4d
  clear hb HC ha hbb hsa hsb
  obtain ⟨cc7a, cc7b, cc7c, cc7d⟩ := XQ.out.cells
  go_wp2_with fail
  refine (zparse_yes a _ (by have := HS.out; have := HSA.out; omega) (by rw [HAL.out]; exact HA.out)).mono ?_
  rintro e w8 ⟨v, rfl, hv, hb⟩
  rw [HAL.out] at hv
  replace hv := hv.mono HSA.out
  obtain ⟨s5, p5, n5, c5, rfl⟩ := hv.opened
  replace XQ := nx XQ hb
  replace B := bb B hb
  clear cc7a cc7b cc7c cc7d
  have HT := hid hv
  clear hb hv
  have hb9 := (Below.refl _ _).alloc (Nat.le_refl w8.heap.size) (.cells #[.bool s5, .slice p5 n5 c5] 49)
  have hx10 := Box.new w8 s5 p5 n5 c5
  have L0 := hid XQ.out.lt
  replace XQ := nx XQ hb9
  replace HT := wl HT hb9
  replace B := bb B hb9
  have X7 := hid hx10
  have hs11 : (w8.alloc (.cells #[.bool s5, .slice p5 n5 c5] 49)).heap.size = w8.heap.size + 1 := by simp
  clear hb9 hx10
  obtain ⟨cc12a, cc12b, cc12c, cc12d⟩ := XQ.out.cells
  obtain ⟨cc13a, cc13b⟩ := X7.out.both
  go_wp2_with fail
  generalize hW : w8.alloc (.cells #[.bool s5, .slice p5 n5 c5] 49) = W14 at *
  clear hW
  have HBL := hid (HBL.out (by first | rfl | trivial))
  refine (zparse_yes b _ (by have := HS.out; have := HSB.out; omega) (by rw [HBL.out]; exact HB.out)).mono ?_
  rintro e w15 ⟨v, rfl, hv, hb⟩
  rw [HBL.out] at hv
  replace hv := hv.mono HSB.out
  obtain ⟨s6, p6, n6, c6, rfl⟩ := hv.opened
  replace XQ := nx XQ hb
  replace X7 := bx X7 hb
  replace HT := wl HT hb
  replace B := bb B hb
  clear cc12a cc12b cc12c cc12d cc13a cc13b
  have HU := hid hv
  clear hb hv
  have hb16 := (Below.refl _ _).alloc (Nat.le_refl w15.heap.size) (.cells #[.bool s6, .slice p6 n6 c6] 49)
  have hx17 := Box.new w15 s6 p6 n6 c6
  have L1 := hid X7.out.lt
  replace XQ := nx XQ hb16
  replace X7 := bx X7 hb16
  replace HT := wl HT hb16
  replace HU := wl HU hb16
  replace B := bb B hb16
  have X9 := hid hx17
  have hs18 : (w15.alloc (.cells #[.bool s6, .slice p6 n6 c6] 49)).heap.size = w15.heap.size + 1 := by simp
  clear hb16 hx17
  obtain ⟨cc19a, cc19b, cc19c, cc19d⟩ := XQ.out.cells
  obtain ⟨cc20a, cc20b⟩ := X7.out.both
  obtain ⟨cc21a, cc21b⟩ := X9.out.both
  go_wp2_with fail
  generalize hW : w15.alloc (.cells #[.bool s6, .slice p6 n6 c6] 49) = W22 at *
  clear hW
  have HM := more_whl HU.out (by have := HS.out; omega)
  rw [decide_eq_true (by have h := HD.out; omega)] at HM
  refine (HM).mono ?_
  rintro e w23 ⟨rfl, hb⟩
  replace XQ := nx XQ hb
  replace X7 := bx X7 hb
  replace X9 := bx X9 hb
  replace HT := wl HT hb
  replace HU := wl HU hb
  replace B := bb B hb
  clear cc19a cc19b cc19c cc19d cc20a cc20b cc21a cc21b
  clear hb HM
  obtain ⟨cc24a, cc24b, cc24c, cc24d⟩ := XQ.out.cells
  obtain ⟨cc25a, cc25b⟩ := X7.out.both
  obtain ⟨cc26a, cc26b⟩ := X9.out.both
  go_wp2_with fail
  refine (zgcd_whl HT.out HU.out (by have := HS.out; omega)).mono ?_
  rintro e w27 ⟨v, rfl, hv, hb⟩
  obtain ⟨s7, p7, n7, c7, rfl⟩ := hv.opened
  replace XQ := nx XQ hb
  replace X7 := bx X7 hb
  replace X9 := bx X9 hb
  replace HT := wl HT hb
  replace HU := wl HU hb
  replace B := bb B hb
  clear cc24a cc24b cc24c cc24d cc25a cc25b cc26a cc26b
  have HV := hid hv
  clear hb hv
  obtain ⟨cc28a, cc28b, cc28c, cc28d⟩ := XQ.out.cells
  obtain ⟨cc29a, cc29b⟩ := X7.out.both
  obtain ⟨cc30a, cc30b⟩ := X9.out.both
  go_wp2_with fail
  have HM := more_whl HV.out (by have := HS.out; omega)
  rw [decide_eq_true (by have h1 := HG.out; have h2 := HD.out; have h3 := Int.gcd_pos_of_ne_zero_right (whlOf (cutB s.data.toList)) (show whlOf (cutA s.data.toList) ≠ 0 by omega); omega)] at HM
  refine (HM).mono ?_
  rintro e w31 ⟨rfl, hb⟩
  replace XQ := nx XQ hb
  replace X7 := bx X7 hb
  replace X9 := bx X9 hb
  replace HT := wl HT hb
  replace HU := wl HU hb
  replace HV := wl HV hb
  replace B := bb B hb
  clear cc28a cc28b cc28c cc28d cc29a cc29b cc30a cc30b
  clear hb HM
  obtain ⟨cc32a, cc32b, cc32c, cc32d⟩ := XQ.out.cells
  obtain ⟨cc33a, cc33b⟩ := X7.out.both
  obtain ⟨cc34a, cc34b⟩ := X9.out.both
  obtain ⟨⟨cc35a, cc35b⟩, ⟨cc35c, cc35d⟩, ⟨cc35e, cc35f⟩, cc35g, cc35h⟩ := XQ.out.stores
  obtain ⟨r36a, r36b, r36c⟩ := XQ.out.last B.out (by have := L0.out; have := L1.out; omega) false false none none 0 0 0 0
  replace X7 := hid ((((X7.out.other (g2 := w.heap.size) (by have := L0.out; have := L1.out; omega) 0 (.bool false)).other (g2 := w.heap.size) (by have := L0.out; have := L1.out; omega) 1 (.slice none 0 0)).other (g2 := w.heap.size) (by have := L0.out; have := L1.out; omega) 2 (.bool false)).other (g2 := w.heap.size) (by have := L0.out; have := L1.out; omega) 3 (.slice none 0 0))
  replace X9 := hid ((((X9.out.other (g2 := w.heap.size) (by have := L0.out; have := L1.out; omega) 0 (.bool false)).other (g2 := w.heap.size) (by have := L0.out; have := L1.out; omega) 1 (.slice none 0 0)).other (g2 := w.heap.size) (by have := L0.out; have := L1.out; omega) 2 (.bool false)).other (g2 := w.heap.size) (by have := L0.out; have := L1.out; omega) 3 (.slice none 0 0))
  replace HT := hid (r36c HT.out)
  replace HU := hid (r36c HU.out)
  replace HV := hid (r36c HV.out)
  replace XQ := hid r36a
  replace B := hid r36b
  clear r36a r36b r36c
  go_wp2_with fail
  refine bodyPost_ret (res_num_tmp rfl rfl rfl XQ.out) rfl ?_
  exact ⟨rfl, B.out⟩

set_option maxHeartbeats 2000000 in
theorem qparseF (s : ByteArray) (w : World) (hs : s.size ≤ 68719476736) (hsl : hasSl s.data.toList = true) (hA : isWhl (cutB s.data.toList) = true) (hB : isWhl (cutA s.data.toList) = true) (hD : 1 < whlOf (cutA s.data.toList)) (hG : Int.gcd (whlOf (cutB s.data.toList)) (whlOf (cutA s.data.toList)) = 1) :
    Calls Try.prog 65 #[.string s] w fun e w' => ∃ v, e = .returned (.tuple #[v, .nilIface]) ∧ Rtl w' v (ratOf s.data.toList) s.size ∧ Below w.heap.size w w' := by
  have HSL := hid hsl
  have HA := hid hA
  have HB := hid hB
  have HD := hid hD
  have HG := hid hG
  have HS := hid hs
  have B := hid (Below.refl w.heap.size w)
  have hb1 := (Below.refl _ _).alloc (Nat.le_refl w.heap.size) (.cells #[.bool false, .slice none 0 0, .bool false, .slice none 0 0] 51)
  have hx2 := Nbx.new w false false (.slice none 0 0) (.slice none 0 0)
  replace B := bb B hb1
  have XQ := hid hx2
  have hs3 : (w.alloc (.cells #[.bool false, .slice none 0 0, .bool false, .slice none 0 0] 51)).heap.size = w.heap.size + 1 := by simp
  clear hb1 hx2
  clear hs3 hs hsl hA hB hD hG
  go_enter Try.func65, Try.ntmps65
  obtain ⟨cc4a, cc4b, cc4c, cc4d⟩ := XQ.out.cells
  go_wp2_with fail
  generalize hW : w.alloc (.cells #[.bool false, .slice none 0 0, .bool false, .slice none 0 0] 51) = W5 at *
  clear hW
  have HC := cut_slash s W5 (by have := HS.out; unfold maxLen; omega)
  rw [HSL.out] at HC
  refine (HC).mono ?_
  rintro e w6 ⟨a, b, rfl, ha, hbb, hsa, hsb, hb⟩
  have HAL := hid ha
  have HBL := hid hbb
  have HSA := hid hsa
  have HSB := hid hsb
  replace XQ := nx XQ hb
  replace B := bb B hb
  clear cc4a cc4b cc4c cc4d
  clear hb HC ha hbb hsa hsb
  obtain ⟨cc7a, cc7b, cc7c, cc7d⟩ := XQ.out.cells
  go_wp2_with fail
  refine (zparse_yes a _ (by have := HS.out; have := HSA.out; omega) (by rw [HAL.out]; exact HA.out)).mono ?_
  rintro e w8 ⟨v, rfl, hv, hb⟩
  rw [HAL.out] at hv
  replace hv := hv.mono HSA.out
  obtain ⟨s5, p5, n5, c5, rfl⟩ := hv.opened
  replace XQ := nx XQ hb
  replace B := bb B hb
  clear cc7a cc7b cc7c cc7d
  have HT := hid hv
  clear hb hv
  have hb9 := (Below.refl _ _).alloc (Nat.le_refl w8.heap.size) (.cells #[.bool s5, .slice p5 n5 c5] 49)
  have hx10 := Box.new w8 s5 p5 n5 c5
  have L0 := hid XQ.out.lt
  replace XQ := nx XQ hb9
  replace HT := wl HT hb9
  replace B := bb B hb9
  have X7 := hid hx10
  have hs11 : (w8.alloc (.cells #[.bool s5, .slice p5 n5 c5] 49)).heap.size = w8.heap.size + 1 := by simp
  clear hb9 hx10
  obtain ⟨cc12a, cc12b, cc12c, cc12d⟩ := XQ.out.cells
  obtain ⟨cc13a, cc13b⟩ := X7.out.both
  go_wp2_with fail
  generalize hW : w8.alloc (.cells #[.bool s5, .slice p5 n5 c5] 49) = W14 at *
  clear hW
  have HBL := hid (HBL.out (by first | rfl | trivial))
  refine (zparse_yes b _ (by have := HS.out; have := HSB.out; omega) (by rw [HBL.out]; exact HB.out)).mono ?_
  rintro e w15 ⟨v, rfl, hv, hb⟩
  rw [HBL.out] at hv
  replace hv := hv.mono HSB.out
  obtain ⟨s6, p6, n6, c6, rfl⟩ := hv.opened
  replace XQ := nx XQ hb
  replace X7 := bx X7 hb
  replace HT := wl HT hb
  replace B := bb B hb
  clear cc12a cc12b cc12c cc12d cc13a cc13b
  have HU := hid hv
  clear hb hv
  have hb16 := (Below.refl _ _).alloc (Nat.le_refl w15.heap.size) (.cells #[.bool s6, .slice p6 n6 c6] 49)
  have hx17 := Box.new w15 s6 p6 n6 c6
  have L1 := hid X7.out.lt
  replace XQ := nx XQ hb16
  replace X7 := bx X7 hb16
  replace HT := wl HT hb16
  replace HU := wl HU hb16
  replace B := bb B hb16
  have X9 := hid hx17
  have hs18 : (w15.alloc (.cells #[.bool s6, .slice p6 n6 c6] 49)).heap.size = w15.heap.size + 1 := by simp
  clear hb16 hx17
  obtain ⟨cc19a, cc19b, cc19c, cc19d⟩ := XQ.out.cells
  obtain ⟨cc20a, cc20b⟩ := X7.out.both
  obtain ⟨cc21a, cc21b⟩ := X9.out.both
  go_wp2_with fail
  generalize hW : w15.alloc (.cells #[.bool s6, .slice p6 n6 c6] 49) = W22 at *
  clear hW
  have HM := more_whl HU.out (by have := HS.out; omega)
  rw [decide_eq_true (by have h := HD.out; omega)] at HM
  refine (HM).mono ?_
  rintro e w23 ⟨rfl, hb⟩
  replace XQ := nx XQ hb
  replace X7 := bx X7 hb
  replace X9 := bx X9 hb
  replace HT := wl HT hb
  replace HU := wl HU hb
  replace B := bb B hb
  clear cc19a cc19b cc19c cc19d cc20a cc20b cc21a cc21b
  clear hb HM
  obtain ⟨cc24a, cc24b, cc24c, cc24d⟩ := XQ.out.cells
  obtain ⟨cc25a, cc25b⟩ := X7.out.both
  obtain ⟨cc26a, cc26b⟩ := X9.out.both
  go_wp2_with fail
  refine (zgcd_whl HT.out HU.out (by have := HS.out; omega)).mono ?_
  rintro e w27 ⟨v, rfl, hv, hb⟩
  obtain ⟨s7, p7, n7, c7, rfl⟩ := hv.opened
  replace XQ := nx XQ hb
  replace X7 := bx X7 hb
  replace X9 := bx X9 hb
  replace HT := wl HT hb
  replace HU := wl HU hb
  replace B := bb B hb
  clear cc24a cc24b cc24c cc24d cc25a cc25b cc26a cc26b
  have HV := hid hv
  clear hb hv
  obtain ⟨cc28a, cc28b, cc28c, cc28d⟩ := XQ.out.cells
  obtain ⟨cc29a, cc29b⟩ := X7.out.both
  obtain ⟨cc30a, cc30b⟩ := X9.out.both
  go_wp2_with fail
  have HM := more_whl HV.out (by have := HS.out; omega)
  rw [decide_eq_false (by have h1 := HG.out; omega)] at HM
  refine (HM).mono ?_
  rintro e w31 ⟨rfl, hb⟩
  replace XQ := nx XQ hb
  replace X7 := bx X7 hb
  replace X9 := bx X9 hb
  replace HT := wl HT hb
  replace HU := wl HU hb
  replace HV := wl HV hb
  replace B := bb B hb
  clear cc28a cc28b cc28c cc28d cc29a cc29b cc30a cc30b
  clear hb HM
  obtain ⟨cc32a, cc32b, cc32c, cc32d⟩ := XQ.out.cells
  obtain ⟨cc33a, cc33b⟩ := X7.out.both
  obtain ⟨cc34a, cc34b⟩ := X9.out.both
  obtain ⟨⟨cc35a, cc35b⟩, ⟨cc35c, cc35d⟩, ⟨cc35e, cc35f⟩, cc35g, cc35h⟩ := XQ.out.stores
  obtain ⟨r36a, r36b, r36c⟩ := XQ.out.last B.out (by have := L0.out; have := L1.out; omega) s5 s6 p5 p6 n5 n6 c5 c6
  replace X7 := hid ((((X7.out.other (g2 := w.heap.size) (by have := L0.out; have := L1.out; omega) 0 (.bool s5)).other (g2 := w.heap.size) (by have := L0.out; have := L1.out; omega) 1 (.slice p5 n5 c5)).other (g2 := w.heap.size) (by have := L0.out; have := L1.out; omega) 2 (.bool s6)).other (g2 := w.heap.size) (by have := L0.out; have := L1.out; omega) 3 (.slice p6 n6 c6))
  replace X9 := hid ((((X9.out.other (g2 := w.heap.size) (by have := L0.out; have := L1.out; omega) 0 (.bool s5)).other (g2 := w.heap.size) (by have := L0.out; have := L1.out; omega) 1 (.slice p5 n5 c5)).other (g2 := w.heap.size) (by have := L0.out; have := L1.out; omega) 2 (.bool s6)).other (g2 := w.heap.size) (by have := L0.out; have := L1.out; omega) 3 (.slice p6 n6 c6))
  replace HT := hid (r36c HT.out)
  replace HU := hid (r36c HU.out)
  replace HV := hid (r36c HV.out)
  replace XQ := hid r36a
  replace B := hid r36b
  clear r36a r36b r36c
  go_wp2_with fail
  refine bodyPost_ret (res_num_tmp rfl rfl rfl XQ.out) rfl ?_
  obtain ⟨e1, e2⟩ := divInt_coprime HD.out HG.out
  refine ⟨_, rfl, ?_, B.out⟩
  rw [ratOf, if_pos HSL.out]
  exact Rtl.mk2 (by rw [e1]; exact HT.out) HU.out (.inl e2.symm)

theorem qparse_yes (s : ByteArray) (w : World) (hs : s.size ≤ 68719476736) (hn : isRat s.data.toList = true) :
    Calls Try.prog 65 #[.string s] w fun e w' => ∃ v, e = .returned (.tuple #[v, .nilIface]) ∧ Rtl w' v (ratOf s.data.toList) s.size ∧ Below w.heap.size w w' := by
  unfold isRat at hn
  cases hsl : hasSl s.data.toList
  · rw [hsl] at hn
    have e : cutB s.data.toList = s.data.toList := by
      rcases index_cut s.data.toList with ⟨_, _, e⟩ | ⟨e, _⟩
      · exact e
      · rw [hsl] at e; exact absurd e (by decide)
    exact qparseB s w hs hsl (by rw [e]; simpa using hn)
  · rw [hsl] at hn
    simp only [if_true, Bool.and_eq_true, decide_eq_true_eq] at hn
    obtain ⟨⟨⟨h1, h2⟩, h3⟩, h4⟩ := hn
    exact qparseF s w hs hsl h1 h2 h3 h4
theorem qparse_no (s : ByteArray) (w : World) (hs : s.size ≤ 68719476736) (hn : isRat s.data.toList = false) :
    Calls Try.prog 65 #[.string s] w fun e w' => e = .returned (.tuple #[.agg #[.bool false, .slice none 0 0, .bool false, .slice none 0 0], errno 1]) ∧ Below w.heap.size w w' := by
  unfold isRat at hn
  cases h1 : isWhl (cutB s.data.toList)
  · exact qparseA s w hs h1
  · cases hsl : hasSl s.data.toList
    · rw [hsl] at hn
      have e : cutB s.data.toList = s.data.toList := by
        rcases index_cut s.data.toList with ⟨_, _, e⟩ | ⟨e, _⟩
        · exact e
        · rw [hsl] at e; exact absurd e (by decide)
      rw [e] at h1
      rw [h1] at hn
      simp at hn
    · rw [hsl] at hn
      cases h2 : isWhl (cutA s.data.toList)
      · exact qparseC s w hs hsl h1 h2
      · by_cases h3 : 1 < whlOf (cutA s.data.toList)
        · by_cases h4 : Int.gcd (whlOf (cutB s.data.toList)) (whlOf (cutA s.data.toList)) = 1
          · simp [h1, h2, h3, h4] at hn
          · exact qparseE s w hs hsl h1 h2 h3 h4
        · exact qparseD s w hs hsl h1 h2 h3

end Go.Proofs.Ytjeeepcnaaadmaa

