import Derived.Test.YtkenlaikhnoldaaBunProofPgcdYun12
import Derived.Test.YtkenlaikhnoldaaBunProofPgcdYun11
import Derived.Deep.RegionHeld3
import Derived.Test.YtkenlaikhnoldaaBunProofPgcdYun1
import Derived.Test.YtkenlaikhnoldaaBunProofPgcdYun10
import Derived.Test.YtkenlaikhnoldaaBunProofPgcdYun4
import Derived.WideShapes
/-
  PACKAGE rat: Parse.
-/
namespace Go.Proofs.Ytkenlaikhnoldaa
open Go.RowKit
open Num
set_option linter.unusedVariables false
set_option maxRecDepth 100000
set_option linter.unusedSimpArgs false

/-- A fraction that may be handed in. -/
def GoodQ (s : ByteArray) : Prop := s.size ≤ 100 ∧ isRat s.data.toList = true
/-- What is wrong with a text. -/
def BadQ (s : ByteArray) (k : Int) : Prop := (100 < s.size ∧ k = 4) ∨ (s.size ≤ 100 ∧ isRat s.data.toList = false ∧ k = 1)
theorem goodQ_or_bad (s : ByteArray) : GoodQ s ∨ ∃ k, BadQ s k := by
  by_cases h : s.size ≤ 100
  · cases hn : isRat s.data.toList with
    | true => exact .inl ⟨h, hn⟩
    | false => exact .inr ⟨1, .inr ⟨h, hn, rfl⟩⟩
  · exact .inr ⟨4, .inl ⟨by omega, rfl⟩⟩
/-- The fraction of a text. -/
def qnum (s : ByteArray) : Rat := ratOf s.data.toList
/-- The error of two texts. -/
def WrongQ (a b : ByteArray) (k : Int) : Prop := BadQ a k ∨ (GoodQ a ∧ BadQ b k)
theorem divInt_coprime {n d : Int} (hd : 1 < d) (hg : Int.gcd n d = 1) : (Rat.divInt n d).num = n ∧ ((Rat.divInt n d).den : Int) = d := by
  have h := divInt_parts n d (by omega)
  rw [if_neg (by omega), hg] at h
  simpa using h
set_option maxHeartbeats 2000000 in
theorem qparseA (s : ByteArray) (w : World) (hs : s.size ≤ 68719476736) (hA : isWhl (cutB s.data.toList) = false) :
    Calls Try.prog 35 #[.string s] w fun e w' => e = .returned (.tuple #[.agg #[.bool false, .slice none 0 0, .bool false, .slice none 0 0], errno 1]) ∧ Below w.heap.size w w' := by
  have HA := hid hA
  have HS := hid hs
  have B := hid (Below.refl w.heap.size w)
  obtain ⟨hb1, hx2, hs3⟩ := Nbx.made w false false (.slice none 0 0) (.slice none 0 0)
  replace B := bb B hb1
  have XQ := hid hx2
  clear hb1 hx2
  clear hs3 hs hA
  go_enter Try.func35, Try.ntmps35
  have cc4 := XQ.out.cells
  go_wp2_with fail
  generalize hW : w.alloc (.cells #[.bool false, .slice none 0 0, .bool false, .slice none 0 0] 52) = W5 at *
  clear hW
  have HC := cut_slash s W5 (by have := HS.out; unfold maxLen; omega)
  refine (HC).mono ?_
  rintro e w6 ⟨a, b, rfl, ha, hbb, hsa, hsb, hb⟩
  have HAL := hid ha
  have HBL := hid hbb
  have HSA := hid hsa
  have HSB := hid hsb
  replace XQ := nx XQ hb
  replace B := bb B hb
  clear cc4
  clear hb HC ha hbb hsa hsb
  have cc7 := XQ.out.cells
  generalize hasSl s.data.toList = sl at *
  go_wp2_with fail
  refine (zparse_no a _ (by have := HS.out; have := HSA.out; omega) (by rw [HAL.out]; exact HA.out)).mono ?_
  rintro e w8 ⟨rfl, hb⟩
  replace XQ := nx XQ hb
  replace B := bb B hb
  clear cc7
  clear hb 
  obtain ⟨hb9, hx10, hs11⟩ := Box.made w8 false none 0 0
  have L0 := hid XQ.out.lt
  replace XQ := nx XQ hb9
  replace B := bb B hb9
  have X7 := hid hx10
  clear hb9 hx10
  have cc12 := XQ.out.cells
  have cc13 := X7.out.both
  have cc14 := XQ.out.stores
  obtain ⟨r15a, r15b, r15c⟩ := XQ.out.last B.out (by have := L0.out; omega) false false none none 0 0 0 0
  replace X7 := hid (X7.out.kept (heap4 (g := w.heap.size) (by have := L0.out; omega) (.bool false) (.slice none 0 0) (.bool false) (.slice none 0 0)))
  replace XQ := hid r15a
  replace B := hid r15b
  clear r15a r15b r15c
  go_wp2_with fail
  refine bodyPost_ret (res_num_tmp rfl rfl rfl XQ.out) rfl ?_
  exact ⟨rfl, B.out⟩

set_option maxHeartbeats 2000000 in
theorem qparseB (s : ByteArray) (w : World) (hs : s.size ≤ 68719476736) (hsl : hasSl s.data.toList = false) (hA : isWhl (cutB s.data.toList) = true) :
    Calls Try.prog 35 #[.string s] w fun e w' => ∃ v, e = .returned (.tuple #[v, .nilIface]) ∧ Rtl w' v (ratOf s.data.toList) s.size ∧ Below w.heap.size w w' := by
  have HSL := hid hsl
  have HA := hid hA
  have HS := hid hs
  have B := hid (Below.refl w.heap.size w)
  obtain ⟨hb1, hx2, hs3⟩ := Nbx.made w false false (.slice none 0 0) (.slice none 0 0)
  replace B := bb B hb1
  have XQ := hid hx2
  clear hb1 hx2
  clear hs3 hs hsl hA
  go_enter Try.func35, Try.ntmps35
  have cc4 := XQ.out.cells
  go_wp2_with fail
  generalize hW : w.alloc (.cells #[.bool false, .slice none 0 0, .bool false, .slice none 0 0] 52) = W5 at *
  clear hW
  have HC := cut_slash s W5 (by have := HS.out; unfold maxLen; omega)
  rw [HSL.out] at HC
  refine (HC).mono ?_
  rintro e w6 ⟨a, b, rfl, ha, hbb, hsa, hsb, hb⟩
  have HAL := hid ha
  have HBL := hid hbb
  have HSA := hid hsa
  have HSB := hid hsb
  replace XQ := nx XQ hb
  replace B := bb B hb
  clear cc4
  clear hb HC ha hbb hsa hsb
  have cc7 := XQ.out.cells
  go_wp2_with fail
  refine (zparse_yes a _ (by have := HS.out; have := HSA.out; omega) (by rw [HAL.out]; exact HA.out)).mono ?_
  rintro e w8 ⟨v, rfl, hv, hb⟩
  rw [HAL.out] at hv
  replace hv := hv.mono HSA.out
  obtain ⟨s5, p5, n5, c5, rfl⟩ := hv.opened
  replace XQ := nx XQ hb
  replace B := bb B hb
  clear cc7
  have HT := hid hv
  clear hb hv
  obtain ⟨hb9, hx10, hs11⟩ := Box.made w8 s5 p5 n5 c5
  have L0 := hid XQ.out.lt
  replace XQ := nx XQ hb9
  replace HT := wl HT hb9
  replace B := bb B hb9
  have X7 := hid hx10
  clear hb9 hx10
  have cc12 := XQ.out.cells
  have cc13 := X7.out.both
  have cc14 := XQ.out.stores
  obtain ⟨r15a, r15b, r15c⟩ := XQ.out.last B.out (by have := L0.out; omega) s5 false p5 none n5 0 c5 0
  replace X7 := hid (X7.out.kept (heap4 (g := w.heap.size) (by have := L0.out; omega) (.bool s5) (.slice p5 n5 c5) (.bool false) (.slice none 0 0)))
  replace HT := hid (r15c HT.out)
  replace XQ := hid r15a
  replace B := hid r15b
  clear r15a r15b r15c
  go_wp2_with fail
  refine bodyPost_ret (res_num_tmp rfl rfl rfl XQ.out) rfl ?_
  refine ⟨_, rfl, Rtl.mk2 (d := 0) ?_ (Whl.nil _ _) (.inr ⟨rfl, ?_⟩), B.out⟩
  · rw [ratOf, if_neg (by rw [HSL.out]; decide), Rat.num_intCast]
    have h := HT.out
    have e : cutB s.data.toList = s.data.toList := by rcases index_cut s.data.toList with ⟨_, _, e⟩ | ⟨e, _⟩; exact e; rw [HSL.out] at e; exact absurd e (by decide)
    rw [e] at h; exact h
  · rw [ratOf, if_neg (by rw [HSL.out]; decide), Rat.den_intCast]

set_option maxHeartbeats 2000000 in
theorem qparseC (s : ByteArray) (w : World) (hs : s.size ≤ 68719476736) (hsl : hasSl s.data.toList = true) (hA : isWhl (cutB s.data.toList) = true) (hB : isWhl (cutA s.data.toList) = false) :
    Calls Try.prog 35 #[.string s] w fun e w' => e = .returned (.tuple #[.agg #[.bool false, .slice none 0 0, .bool false, .slice none 0 0], errno 1]) ∧ Below w.heap.size w w' := by
  have HSL := hid hsl
  have HA := hid hA
  have HB := hid hB
  have HS := hid hs
  have B := hid (Below.refl w.heap.size w)
  obtain ⟨hb1, hx2, hs3⟩ := Nbx.made w false false (.slice none 0 0) (.slice none 0 0)
  replace B := bb B hb1
  have XQ := hid hx2
  clear hb1 hx2
  clear hs3 hs hsl hA hB
  go_enter Try.func35, Try.ntmps35
  have cc4 := XQ.out.cells
  go_wp2_with fail
  generalize hW : w.alloc (.cells #[.bool false, .slice none 0 0, .bool false, .slice none 0 0] 52) = W5 at *
  clear hW
  have HC := cut_slash s W5 (by have := HS.out; unfold maxLen; omega)
  rw [HSL.out] at HC
  refine (HC).mono ?_
  rintro e w6 ⟨a, b, rfl, ha, hbb, hsa, hsb, hb⟩
  have HAL := hid ha
  have HBL := hid hbb
  have HSA := hid hsa
  have HSB := hid hsb
  replace XQ := nx XQ hb
  replace B := bb B hb
  clear cc4
  clear hb HC ha hbb hsa hsb
  have cc7 := XQ.out.cells
  go_wp2_with fail
  refine (zparse_yes a _ (by have := HS.out; have := HSA.out; omega) (by rw [HAL.out]; exact HA.out)).mono ?_
  rintro e w8 ⟨v, rfl, hv, hb⟩
  rw [HAL.out] at hv
  replace hv := hv.mono HSA.out
  obtain ⟨s5, p5, n5, c5, rfl⟩ := hv.opened
  replace XQ := nx XQ hb
  replace B := bb B hb
  clear cc7
  have HT := hid hv
  clear hb hv
  obtain ⟨hb9, hx10, hs11⟩ := Box.made w8 s5 p5 n5 c5
  have L0 := hid XQ.out.lt
  replace XQ := nx XQ hb9
  replace HT := wl HT hb9
  replace B := bb B hb9
  have X7 := hid hx10
  clear hb9 hx10
  have cc12 := XQ.out.cells
  have cc13 := X7.out.both
  go_wp2_with fail
  generalize hW : w8.alloc (.cells #[.bool s5, .slice p5 n5 c5] 50) = W14 at *
  clear hW
  have HBL := hid (HBL.out (by first | rfl | trivial))
  refine (zparse_no b _ (by have := HS.out; have := HSB.out; omega) (by rw [HBL.out]; exact HB.out)).mono ?_
  rintro e w15 ⟨rfl, hb⟩
  replace XQ := nx XQ hb
  replace X7 := bx X7 hb
  replace HT := wl HT hb
  replace B := bb B hb
  clear cc12 cc13
  clear hb 
  obtain ⟨hb16, hx17, hs18⟩ := Box.made w15 false none 0 0
  have L1 := hid X7.out.lt
  replace XQ := nx XQ hb16
  replace X7 := bx X7 hb16
  replace HT := wl HT hb16
  replace B := bb B hb16
  have X9 := hid hx17
  clear hb16 hx17
  have cc19 := XQ.out.cells
  have cc20 := X7.out.both
  have cc21 := X9.out.both
  have cc22 := XQ.out.stores
  obtain ⟨r23a, r23b, r23c⟩ := XQ.out.last B.out (by have := L0.out; have := L1.out; omega) false false none none 0 0 0 0
  replace X7 := hid (X7.out.kept (heap4 (g := w.heap.size) (by have := L0.out; have := L1.out; omega) (.bool false) (.slice none 0 0) (.bool false) (.slice none 0 0)))
  replace X9 := hid (X9.out.kept (heap4 (g := w.heap.size) (by have := L0.out; have := L1.out; omega) (.bool false) (.slice none 0 0) (.bool false) (.slice none 0 0)))
  replace HT := hid (r23c HT.out)
  replace XQ := hid r23a
  replace B := hid r23b
  clear r23a r23b r23c
  go_wp2_with fail
  refine bodyPost_ret (res_num_tmp rfl rfl rfl XQ.out) rfl ?_
  exact ⟨rfl, B.out⟩

set_option maxHeartbeats 2000000 in
theorem qparseD (s : ByteArray) (w : World) (hs : s.size ≤ 68719476736) (hsl : hasSl s.data.toList = true) (hA : isWhl (cutB s.data.toList) = true) (hB : isWhl (cutA s.data.toList) = true) (hD : ¬ 1 < whlOf (cutA s.data.toList)) :
    Calls Try.prog 35 #[.string s] w fun e w' => e = .returned (.tuple #[.agg #[.bool false, .slice none 0 0, .bool false, .slice none 0 0], errno 1]) ∧ Below w.heap.size w w' := by
  have HSL := hid hsl
  have HA := hid hA
  have HB := hid hB
  have HD := hid hD
  have HS := hid hs
  have B := hid (Below.refl w.heap.size w)
  obtain ⟨hb1, hx2, hs3⟩ := Nbx.made w false false (.slice none 0 0) (.slice none 0 0)
  replace B := bb B hb1
  have XQ := hid hx2
  clear hb1 hx2
  clear hs3 hs hsl hA hB hD
  go_enter Try.func35, Try.ntmps35
  have cc4 := XQ.out.cells
  go_wp2_with fail
  generalize hW : w.alloc (.cells #[.bool false, .slice none 0 0, .bool false, .slice none 0 0] 52) = W5 at *
  clear hW
  have HC := cut_slash s W5 (by have := HS.out; unfold maxLen; omega)
  rw [HSL.out] at HC
  refine (HC).mono ?_
  rintro e w6 ⟨a, b, rfl, ha, hbb, hsa, hsb, hb⟩
  have HAL := hid ha
  have HBL := hid hbb
  have HSA := hid hsa
  have HSB := hid hsb
  replace XQ := nx XQ hb
  replace B := bb B hb
  clear cc4
  clear hb HC ha hbb hsa hsb
  have cc7 := XQ.out.cells
  go_wp2_with fail
  refine (zparse_yes a _ (by have := HS.out; have := HSA.out; omega) (by rw [HAL.out]; exact HA.out)).mono ?_
  rintro e w8 ⟨v, rfl, hv, hb⟩
  rw [HAL.out] at hv
  replace hv := hv.mono HSA.out
  obtain ⟨s5, p5, n5, c5, rfl⟩ := hv.opened
  replace XQ := nx XQ hb
  replace B := bb B hb
  clear cc7
  have HT := hid hv
  clear hb hv
  obtain ⟨hb9, hx10, hs11⟩ := Box.made w8 s5 p5 n5 c5
  have L0 := hid XQ.out.lt
  replace XQ := nx XQ hb9
  replace HT := wl HT hb9
  replace B := bb B hb9
  have X7 := hid hx10
  clear hb9 hx10
  have cc12 := XQ.out.cells
  have cc13 := X7.out.both
  go_wp2_with fail
  generalize hW : w8.alloc (.cells #[.bool s5, .slice p5 n5 c5] 50) = W14 at *
  clear hW
  have HBL := hid (HBL.out (by first | rfl | trivial))
  refine (zparse_yes b _ (by have := HS.out; have := HSB.out; omega) (by rw [HBL.out]; exact HB.out)).mono ?_
  rintro e w15 ⟨v, rfl, hv, hb⟩
  rw [HBL.out] at hv
  replace hv := hv.mono HSB.out
  obtain ⟨s6, p6, n6, c6, rfl⟩ := hv.opened
  replace XQ := nx XQ hb
  replace X7 := bx X7 hb
  replace HT := wl HT hb
  replace B := bb B hb
  clear cc12 cc13
  have HU := hid hv
  clear hb hv
  obtain ⟨hb16, hx17, hs18⟩ := Box.made w15 s6 p6 n6 c6
  have L1 := hid X7.out.lt
  replace XQ := nx XQ hb16
  replace X7 := bx X7 hb16
  replace HT := wl HT hb16
  replace HU := wl HU hb16
  replace B := bb B hb16
  have X9 := hid hx17
  clear hb16 hx17
  have cc19 := XQ.out.cells
  have cc20 := X7.out.both
  have cc21 := X9.out.both
  go_wp2_with fail
  generalize hW : w15.alloc (.cells #[.bool s6, .slice p6 n6 c6] 50) = W22 at *
  clear hW
  have HM := more_whl HU.out (by have := HS.out; omega)
  rw [decide_eq_false (by have h := HD.out; omega)] at HM
  refine (HM).mono ?_
  rintro e w23 ⟨rfl, hb⟩
  replace XQ := nx XQ hb
  replace X7 := bx X7 hb
  replace X9 := bx X9 hb
  replace HT := wl HT hb
  replace HU := wl HU hb
  replace B := bb B hb
  clear cc19 cc20 cc21
  clear hb HM
  have cc24 := XQ.out.cells
  have cc25 := X7.out.both
  have cc26 := X9.out.both
  have cc27 := XQ.out.stores
  obtain ⟨r28a, r28b, r28c⟩ := XQ.out.last B.out (by have := L0.out; have := L1.out; omega) false false none none 0 0 0 0
  replace X7 := hid (X7.out.kept (heap4 (g := w.heap.size) (by have := L0.out; have := L1.out; omega) (.bool false) (.slice none 0 0) (.bool false) (.slice none 0 0)))
  replace X9 := hid (X9.out.kept (heap4 (g := w.heap.size) (by have := L0.out; have := L1.out; omega) (.bool false) (.slice none 0 0) (.bool false) (.slice none 0 0)))
  replace HT := hid (r28c HT.out)
  replace HU := hid (r28c HU.out)
  replace XQ := hid r28a
  replace B := hid r28b
  clear r28a r28b r28c
  go_wp2_with fail
  refine bodyPost_ret (res_num_tmp rfl rfl rfl XQ.out) rfl ?_
  exact ⟨rfl, B.out⟩

set_option maxHeartbeats 2000000 in
theorem qparseE (s : ByteArray) (w : World) (hs : s.size ≤ 68719476736) (hsl : hasSl s.data.toList = true) (hA : isWhl (cutB s.data.toList) = true) (hB : isWhl (cutA s.data.toList) = true) (hD : 1 < whlOf (cutA s.data.toList)) (hG : ¬ Int.gcd (whlOf (cutB s.data.toList)) (whlOf (cutA s.data.toList)) = 1) :
    Calls Try.prog 35 #[.string s] w fun e w' => e = .returned (.tuple #[.agg #[.bool false, .slice none 0 0, .bool false, .slice none 0 0], errno 1]) ∧ Below w.heap.size w w' := by
  have HSL := hid hsl
  have HA := hid hA
  have HB := hid hB
  have HD := hid hD
  have HG := hid hG
  have HS := hid hs
  have B := hid (Below.refl w.heap.size w)
  obtain ⟨hb1, hx2, hs3⟩ := Nbx.made w false false (.slice none 0 0) (.slice none 0 0)
  replace B := bb B hb1
  have XQ := hid hx2
  clear hb1 hx2
  clear hs3 hs hsl hA hB hD hG
  go_enter Try.func35, Try.ntmps35
  have cc4 := XQ.out.cells
  go_wp2_with fail
  generalize hW : w.alloc (.cells #[.bool false, .slice none 0 0, .bool false, .slice none 0 0] 52) = W5 at *
  clear hW
  have HC := cut_slash s W5 (by have := HS.out; unfold maxLen; omega)
  rw [HSL.out] at HC
  refine (HC).mono ?_
  rintro e w6 ⟨a, b, rfl, ha, hbb, hsa, hsb, hb⟩
  have HAL := hid ha
  have HBL := hid hbb
  have HSA := hid hsa
  have HSB := hid hsb
  replace XQ := nx XQ hb
  replace B := bb B hb
  clear cc4
  clear hb HC ha hbb hsa hsb
  have cc7 := XQ.out.cells
  go_wp2_with fail
  refine (zparse_yes a _ (by have := HS.out; have := HSA.out; omega) (by rw [HAL.out]; exact HA.out)).mono ?_
  rintro e w8 ⟨v, rfl, hv, hb⟩
  rw [HAL.out] at hv
  replace hv := hv.mono HSA.out
  obtain ⟨s5, p5, n5, c5, rfl⟩ := hv.opened
  replace XQ := nx XQ hb
  replace B := bb B hb
  clear cc7
  have HT := hid hv
  clear hb hv
  obtain ⟨hb9, hx10, hs11⟩ := Box.made w8 s5 p5 n5 c5
  have L0 := hid XQ.out.lt
  replace XQ := nx XQ hb9
  replace HT := wl HT hb9
  replace B := bb B hb9
  have X7 := hid hx10
  clear hb9 hx10
  have cc12 := XQ.out.cells
  have cc13 := X7.out.both
  go_wp2_with fail
  generalize hW : w8.alloc (.cells #[.bool s5, .slice p5 n5 c5] 50) = W14 at *
  clear hW
  have HBL := hid (HBL.out (by first | rfl | trivial))
  refine (zparse_yes b _ (by have := HS.out; have := HSB.out; omega) (by rw [HBL.out]; exact HB.out)).mono ?_
  rintro e w15 ⟨v, rfl, hv, hb⟩
  rw [HBL.out] at hv
  replace hv := hv.mono HSB.out
  obtain ⟨s6, p6, n6, c6, rfl⟩ := hv.opened
  replace XQ := nx XQ hb
  replace X7 := bx X7 hb
  replace HT := wl HT hb
  replace B := bb B hb
  clear cc12 cc13
  have HU := hid hv
  clear hb hv
  obtain ⟨hb16, hx17, hs18⟩ := Box.made w15 s6 p6 n6 c6
  have L1 := hid X7.out.lt
  replace XQ := nx XQ hb16
  replace X7 := bx X7 hb16
  replace HT := wl HT hb16
  replace HU := wl HU hb16
  replace B := bb B hb16
  have X9 := hid hx17
  clear hb16 hx17
  have cc19 := XQ.out.cells
  have cc20 := X7.out.both
  have cc21 := X9.out.both
  go_wp2_with fail
  generalize hW : w15.alloc (.cells #[.bool s6, .slice p6 n6 c6] 50) = W22 at *
  clear hW
  have HM := more_whl HU.out (by have := HS.out; omega)
  rw [decide_eq_true (by have h := HD.out; omega)] at HM
  refine (HM).mono ?_
  rintro e w23 ⟨rfl, hb⟩
  replace XQ := nx XQ hb
  replace X7 := bx X7 hb
  replace X9 := bx X9 hb
  replace HT := wl HT hb
  replace HU := wl HU hb
  replace B := bb B hb
  clear cc19 cc20 cc21
  clear hb HM
  have cc24 := XQ.out.cells
  have cc25 := X7.out.both
  have cc26 := X9.out.both
  go_wp2_with fail
  refine (zgcd_whl HT.out HU.out (by have := HS.out; omega)).mono ?_
  rintro e w27 ⟨v, rfl, hv, hb⟩
  obtain ⟨s7, p7, n7, c7, rfl⟩ := hv.opened
  replace XQ := nx XQ hb
  replace X7 := bx X7 hb
  replace X9 := bx X9 hb
  replace HT := wl HT hb
  replace HU := wl HU hb
  replace B := bb B hb
  clear cc24 cc25 cc26
  have HV := hid hv
  clear hb hv
  have cc28 := XQ.out.cells
  have cc29 := X7.out.both
  have cc30 := X9.out.both
  go_wp2_with fail
  have HM := more_whl HV.out (by have := HS.out; omega)
  rw [decide_eq_true (by have h1 := HG.out; have h2 := HD.out; have h3 := Int.gcd_pos_of_ne_zero_right (whlOf (cutB s.data.toList)) (show whlOf (cutA s.data.toList) ≠ 0 by omega); omega)] at HM
  refine (HM).mono ?_
  rintro e w31 ⟨rfl, hb⟩
  replace XQ := nx XQ hb
  replace X7 := bx X7 hb
  replace X9 := bx X9 hb
  replace HT := wl HT hb
  replace HU := wl HU hb
  replace HV := wl HV hb
  replace B := bb B hb
  clear cc28 cc29 cc30
  clear hb HM
  have cc32 := XQ.out.cells
  have cc33 := X7.out.both
  have cc34 := X9.out.both
  have cc35 := XQ.out.stores
  obtain ⟨r36a, r36b, r36c⟩ := XQ.out.last B.out (by have := L0.out; have := L1.out; omega) false false none none 0 0 0 0
  replace X7 := hid (X7.out.kept (heap4 (g := w.heap.size) (by have := L0.out; have := L1.out; omega) (.bool false) (.slice none 0 0) (.bool false) (.slice none 0 0)))
  replace X9 := hid (X9.out.kept (heap4 (g := w.heap.size) (by have := L0.out; have := L1.out; omega) (.bool false) (.slice none 0 0) (.bool false) (.slice none 0 0)))
  replace HT := hid (r36c HT.out)
  replace HU := hid (r36c HU.out)
  replace HV := hid (r36c HV.out)
  replace XQ := hid r36a
  replace B := hid r36b
  clear r36a r36b r36c
  go_wp2_with fail
  refine bodyPost_ret (res_num_tmp rfl rfl rfl XQ.out) rfl ?_
  exact ⟨rfl, B.out⟩

set_option maxHeartbeats 2000000 in
theorem qparseF (s : ByteArray) (w : World) (hs : s.size ≤ 68719476736) (hsl : hasSl s.data.toList = true) (hA : isWhl (cutB s.data.toList) = true) (hB : isWhl (cutA s.data.toList) = true) (hD : 1 < whlOf (cutA s.data.toList)) (hG : Int.gcd (whlOf (cutB s.data.toList)) (whlOf (cutA s.data.toList)) = 1) :
    Calls Try.prog 35 #[.string s] w fun e w' => ∃ v, e = .returned (.tuple #[v, .nilIface]) ∧ Rtl w' v (ratOf s.data.toList) s.size ∧ Below w.heap.size w w' := by
  have HSL := hid hsl
  have HA := hid hA
  have HB := hid hB
  have HD := hid hD
  have HG := hid hG
  have HS := hid hs
  have B := hid (Below.refl w.heap.size w)
  obtain ⟨hb1, hx2, hs3⟩ := Nbx.made w false false (.slice none 0 0) (.slice none 0 0)
  replace B := bb B hb1
  have XQ := hid hx2
  clear hb1 hx2
  clear hs3 hs hsl hA hB hD hG
  go_enter Try.func35, Try.ntmps35
  have cc4 := XQ.out.cells
  go_wp2_with fail
  generalize hW : w.alloc (.cells #[.bool false, .slice none 0 0, .bool false, .slice none 0 0] 52) = W5 at *
  clear hW
  have HC := cut_slash s W5 (by have := HS.out; unfold maxLen; omega)
  rw [HSL.out] at HC
  refine (HC).mono ?_
  rintro e w6 ⟨a, b, rfl, ha, hbb, hsa, hsb, hb⟩
  have HAL := hid ha
  have HBL := hid hbb
  have HSA := hid hsa
  have HSB := hid hsb
  replace XQ := nx XQ hb
  replace B := bb B hb
  clear cc4
  clear hb HC ha hbb hsa hsb
  have cc7 := XQ.out.cells
  go_wp2_with fail
  refine (zparse_yes a _ (by have := HS.out; have := HSA.out; omega) (by rw [HAL.out]; exact HA.out)).mono ?_
  rintro e w8 ⟨v, rfl, hv, hb⟩
  rw [HAL.out] at hv
  replace hv := hv.mono HSA.out
  obtain ⟨s5, p5, n5, c5, rfl⟩ := hv.opened
  replace XQ := nx XQ hb
  replace B := bb B hb
  clear cc7
  have HT := hid hv
  clear hb hv
  obtain ⟨hb9, hx10, hs11⟩ := Box.made w8 s5 p5 n5 c5
  have L0 := hid XQ.out.lt
  replace XQ := nx XQ hb9
  replace HT := wl HT hb9
  replace B := bb B hb9
  have X7 := hid hx10
  clear hb9 hx10
  have cc12 := XQ.out.cells
  have cc13 := X7.out.both
  go_wp2_with fail
  generalize hW : w8.alloc (.cells #[.bool s5, .slice p5 n5 c5] 50) = W14 at *
  clear hW
  have HBL := hid (HBL.out (by first | rfl | trivial))
  refine (zparse_yes b _ (by have := HS.out; have := HSB.out; omega) (by rw [HBL.out]; exact HB.out)).mono ?_
  rintro e w15 ⟨v, rfl, hv, hb⟩
  rw [HBL.out] at hv
  replace hv := hv.mono HSB.out
  obtain ⟨s6, p6, n6, c6, rfl⟩ := hv.opened
  replace XQ := nx XQ hb
  replace X7 := bx X7 hb
  replace HT := wl HT hb
  replace B := bb B hb
  clear cc12 cc13
  have HU := hid hv
  clear hb hv
  obtain ⟨hb16, hx17, hs18⟩ := Box.made w15 s6 p6 n6 c6
  have L1 := hid X7.out.lt
  replace XQ := nx XQ hb16
  replace X7 := bx X7 hb16
  replace HT := wl HT hb16
  replace HU := wl HU hb16
  replace B := bb B hb16
  have X9 := hid hx17
  clear hb16 hx17
  have cc19 := XQ.out.cells
  have cc20 := X7.out.both
  have cc21 := X9.out.both
  go_wp2_with fail
  generalize hW : w15.alloc (.cells #[.bool s6, .slice p6 n6 c6] 50) = W22 at *
  clear hW
  have HM := more_whl HU.out (by have := HS.out; omega)
  rw [decide_eq_true (by have h := HD.out; omega)] at HM
  refine (HM).mono ?_
  rintro e w23 ⟨rfl, hb⟩
  replace XQ := nx XQ hb
  replace X7 := bx X7 hb
  replace X9 := bx X9 hb
  replace HT := wl HT hb
  replace HU := wl HU hb
  replace B := bb B hb
  clear cc19 cc20 cc21
  clear hb HM
  have cc24 := XQ.out.cells
  have cc25 := X7.out.both
  have cc26 := X9.out.both
  go_wp2_with fail
  refine (zgcd_whl HT.out HU.out (by have := HS.out; omega)).mono ?_
  rintro e w27 ⟨v, rfl, hv, hb⟩
  obtain ⟨s7, p7, n7, c7, rfl⟩ := hv.opened
  replace XQ := nx XQ hb
  replace X7 := bx X7 hb
  replace X9 := bx X9 hb
  replace HT := wl HT hb
  replace HU := wl HU hb
  replace B := bb B hb
  clear cc24 cc25 cc26
  have HV := hid hv
  clear hb hv
  have cc28 := XQ.out.cells
  have cc29 := X7.out.both
  have cc30 := X9.out.both
  go_wp2_with fail
  have HM := more_whl HV.out (by have := HS.out; omega)
  rw [decide_eq_false (by have h1 := HG.out; omega)] at HM
  refine (HM).mono ?_
  rintro e w31 ⟨rfl, hb⟩
  replace XQ := nx XQ hb
  replace X7 := bx X7 hb
  replace X9 := bx X9 hb
  replace HT := wl HT hb
  replace HU := wl HU hb
  replace HV := wl HV hb
  replace B := bb B hb
  clear cc28 cc29 cc30
  clear hb HM
  have cc32 := XQ.out.cells
  have cc33 := X7.out.both
  have cc34 := X9.out.both
  have cc35 := XQ.out.stores
  obtain ⟨r36a, r36b, r36c⟩ := XQ.out.last B.out (by have := L0.out; have := L1.out; omega) s5 s6 p5 p6 n5 n6 c5 c6
  replace X7 := hid (X7.out.kept (heap4 (g := w.heap.size) (by have := L0.out; have := L1.out; omega) (.bool s5) (.slice p5 n5 c5) (.bool s6) (.slice p6 n6 c6)))
  replace X9 := hid (X9.out.kept (heap4 (g := w.heap.size) (by have := L0.out; have := L1.out; omega) (.bool s5) (.slice p5 n5 c5) (.bool s6) (.slice p6 n6 c6)))
  replace HT := hid (r36c HT.out)
  replace HU := hid (r36c HU.out)
  replace HV := hid (r36c HV.out)
  replace XQ := hid r36a
  replace B := hid r36b
  clear r36a r36b r36c
  go_wp2_with fail
  refine bodyPost_ret (res_num_tmp rfl rfl rfl XQ.out) rfl ?_
  obtain ⟨e1, e2⟩ := divInt_coprime HD.out HG.out
  refine ⟨_, rfl, ?_, B.out⟩
  rw [ratOf, if_pos HSL.out]
  exact Rtl.mk2 (by rw [e1]; exact HT.out) HU.out (.inl e2.symm)

theorem qparse_yes (s : ByteArray) (w : World) (hs : s.size ≤ 68719476736) (hn : isRat s.data.toList = true) :
    Calls Try.prog 35 #[.string s] w fun e w' => ∃ v, e = .returned (.tuple #[v, .nilIface]) ∧ Rtl w' v (ratOf s.data.toList) s.size ∧ Below w.heap.size w w' := by
  unfold isRat at hn
  cases hsl : hasSl s.data.toList
  · rw [hsl] at hn
    have e : cutB s.data.toList = s.data.toList := by
      rcases index_cut s.data.toList with ⟨_, _, e⟩ | ⟨e, _⟩
      · exact e
      · rw [hsl] at e; exact absurd e (by decide)
    exact qparseB s w hs hsl (by rw [e]; simpa using hn)
  · rw [hsl] at hn
    simp only [if_true, Bool.and_eq_true, decide_eq_true_eq] at hn
    obtain ⟨⟨⟨h1, h2⟩, h3⟩, h4⟩ := hn
    exact qparseF s w hs hsl h1 h2 h3 h4
theorem qparse_no (s : ByteArray) (w : World) (hs : s.size ≤ 68719476736) (hn : isRat s.data.toList = false) :
    Calls Try.prog 35 #[.string s] w fun e w' => e = .returned (.tuple #[.agg #[.bool false, .slice none 0 0, .bool false, .slice none 0 0], errno 1]) ∧ Below w.heap.size w w' := by
  unfold isRat at hn
  cases h1 : isWhl (cutB s.data.toList)
  · exact qparseA s w hs h1
  · cases hsl : hasSl s.data.toList
    · rw [hsl] at hn
      have e : cutB s.data.toList = s.data.toList := by
        rcases index_cut s.data.toList with ⟨_, _, e⟩ | ⟨e, _⟩
        · exact e
        · rw [hsl] at e; exact absurd e (by decide)
      rw [e] at h1
      rw [h1] at hn
      simp at hn
    · rw [hsl] at hn
      cases h2 : isWhl (cutA s.data.toList)
      · exact qparseC s w hs hsl h1 h2
      · by_cases h3 : 1 < whlOf (cutA s.data.toList)
        · by_cases h4 : Int.gcd (whlOf (cutB s.data.toList)) (whlOf (cutA s.data.toList)) = 1
          · simp [h1, h2, h3, h4] at hn
          · exact qparseE s w hs hsl h1 h2 h3 h4
        · exact qparseD s w hs hsl h1 h2 h3

end Go.Proofs.Ytkenlaikhnoldaa

/-
  PACKAGE rat: Read, readBoth.
-/
namespace Go.Proofs.Ytkenlaikhnoldaa
open Go.RowKit
open Num
set_option linter.unusedVariables false
set_option maxRecDepth 100000
set_option linter.unusedSimpArgs false

set_option maxHeartbeats 1000000 in
theorem qread_long {s : ByteArray} (h : 100 < s.size) (w : World) (hs : s.size ≤ maxLen) :
    Calls Try.prog 20 #[.string s] w fun e w' => e = .returned (.tuple #[.agg #[.bool false, .slice none 0 0, .bool false, .slice none 0 0], errno 4]) ∧ Below w.heap.size w w' := by
  have h' : (100 : Int) < (s.size : Int) := by omega
  unfold maxLen at hs
  have B := hid (Below.refl w.heap.size w)
  obtain ⟨hb1, hx2, hs3⟩ := Nbx.made w false false (.slice none 0 0) (.slice none 0 0)
  replace B := bb B hb1
  have XQ := hid hx2
  clear hb1 hx2
  clear hs3 h
  go_enter Try.func20, Try.ntmps20
  go_wp2_with fail
  refine bodyPost_ret (res_num_tmp rfl rfl rfl XQ.out) rfl ?_
  exact ⟨rfl, B.out⟩

set_option maxHeartbeats 1000000 in
theorem qread_form {s : ByteArray} (h : s.size ≤ 100) (hn : isRat s.data.toList = false) (w : World) :
    Calls Try.prog 20 #[.string s] w fun e w' => e = .returned (.tuple #[.agg #[.bool false, .slice none 0 0, .bool false, .slice none 0 0], errno 1]) ∧ Below w.heap.size w w' := by
  have h' : (s.size : Int) ≤ 100 := by omega
  have HN := hid hn
  have HS := hid h
  have B := hid (Below.refl w.heap.size w)
  obtain ⟨hb1, hx2, hs3⟩ := Nbx.made w false false (.slice none 0 0) (.slice none 0 0)
  replace B := bb B hb1
  have XQ := hid hx2
  clear hb1 hx2
  clear hs3 h hn
  go_enter Try.func20, Try.ntmps20
  have cc4 := XQ.out.cells
  go_wp2_with fail
  generalize hW : w.alloc (.cells #[.bool false, .slice none 0 0, .bool false, .slice none 0 0] 52) = W5 at *
  clear hW
  refine (qparse_no s _ (by have := HS.out; omega) HN.out).mono ?_
  rintro e w6 ⟨rfl, hb⟩
  replace XQ := nx XQ hb
  replace B := bb B hb
  clear cc4
  clear hb 
  have cc7 := XQ.out.cells
  have cc8 := XQ.out.stores
  obtain ⟨r9a, r9b, r9c⟩ := XQ.out.last B.out (by omega) false false none none 0 0 0 0
  replace XQ := hid r9a
  replace B := hid r9b
  clear r9a r9b r9c
  go_wp2_with fail
  refine bodyPost_ret (res_num_tmp rfl rfl rfl XQ.out) rfl ?_
  exact ⟨rfl, B.out⟩

theorem qread_bad {s : ByteArray} {k : Int} (h : BadQ s k) (w : World) (hs : s.size ≤ maxLen) :
    Calls Try.prog 20 #[.string s] w fun e w' => e = .returned (.tuple #[.agg #[.bool false, .slice none 0 0, .bool false, .slice none 0 0], errno k]) ∧ Below w.heap.size w w' := by
  rcases h with ⟨h, rfl⟩ | ⟨h, hn, rfl⟩
  · exact qread_long h w hs
  · exact qread_form h hn w

set_option maxHeartbeats 1000000 in
theorem qread_good {s : ByteArray} (h : GoodQ s) (w : World) :
    Calls Try.prog 20 #[.string s] w fun e w' => ∃ v, e = .returned (.tuple #[v, .nilIface]) ∧ Rtl w' v (qnum s) 100 ∧ Below w.heap.size w w' := by
  obtain ⟨h, hn⟩ := h
  have h' : (s.size : Int) ≤ 100 := by omega
  have HN := hid hn
  have HS := hid h
  have B := hid (Below.refl w.heap.size w)
  obtain ⟨hb1, hx2, hs3⟩ := Nbx.made w false false (.slice none 0 0) (.slice none 0 0)
  replace B := bb B hb1
  have XQ := hid hx2
  clear hb1 hx2
  clear hs3 h hn
  go_enter Try.func20, Try.ntmps20
  have cc4 := XQ.out.cells
  go_wp2_with fail
  generalize hW : w.alloc (.cells #[.bool false, .slice none 0 0, .bool false, .slice none 0 0] 52) = W5 at *
  clear hW
  refine (qparse_yes s _ (by have := HS.out; omega) HN.out).mono ?_
  rintro e w6 ⟨v, rfl, hv, hb⟩
  replace hv := hv.mono HS.out
  obtain ⟨s9a, p9a, n9a, c9a, s9b, p9b, n9b, c9b, rfl⟩ := hv.opened
  obtain ⟨ht9, d9, hu9, hd9⟩ := hv.two
  have HD9 := hid hd9
  replace XQ := nx XQ hb
  replace B := bb B hb
  clear cc4
  have HT9 := hid ht9
  have HU9 := hid hu9
  clear hb hv ht9 hu9 hd9
  have cc7 := XQ.out.cells
  have cc8 := XQ.out.stores
  obtain ⟨r9a, r9b, r9c⟩ := XQ.out.last B.out (by omega) s9a s9b p9a p9b n9a n9b c9a c9b
  replace HT9 := hid (r9c HT9.out)
  replace HU9 := hid (r9c HU9.out)
  replace XQ := hid r9a
  replace B := hid r9b
  clear r9a r9b r9c
  go_wp2_with fail
  refine bodyPost_ret (res_num_tmp rfl rfl rfl XQ.out) rfl ?_
  exact ⟨_, rfl, Rtl.mk2 HT9.out HU9.out HD9.out, B.out⟩

end Go.Proofs.Ytkenlaikhnoldaa

/-
  PACKAGE rat: ITS FUNCTIONS OF TEXTS.
-/
namespace Go.Proofs.Ytkenlaikhnoldaa
open Go.RowKit
open Num
set_option linter.unusedVariables false
set_option maxRecDepth 100000
set_option linter.unusedSimpArgs false

end Go.Proofs.Ytkenlaikhnoldaa

/-
  PACKAGE rat: TEXTS OF FRACTIONS; EACH FUNCTION AT WHATEVER TEXTS.
-/
namespace Go.Proofs.Ytkenlaikhnoldaa
open Go.RowKit
open Num
set_option linter.unusedVariables false
set_option maxRecDepth 100000
set_option linter.unusedSimpArgs false

theorem cells_whl_zero (w : World) (k : Nat) : Whl w (.agg #[.bool false, .slice none 0 0]) 0 k := ⟨false, _, [], rfl, Lim.nil w, .inl rfl, Nat.zero_le _, by simp, rfl⟩
theorem ba_ext {a b : ByteArray} (h : a.data.toList = b.data.toList) : a = b := by
  obtain ⟨⟨l⟩⟩ := a
  obtain ⟨⟨m⟩⟩ := b
  simp only at h
  rw [h]
theorem app_list (a b : ByteArray) : (a ++ b).data.toList = a.data.toList ++ b.data.toList := by
  rw [ByteArray.data_append, Array.toList_append]
theorem no_slash {l : List UInt8} (h : ∀ c ∈ l, c ≠ 47) : hasSl l = false ∧ cutB l = l := by
  induction l with
  | nil => exact ⟨rfl, rfl⟩
  | cons b l ih =>
    have h1 : (b != 47) = true := by simpa using h b (List.mem_cons_self ..)
    obtain ⟨i1, i2⟩ := ih fun c hc => h c (List.mem_cons_of_mem _ hc)
    exact ⟨by rw [← i1]; simp [hasSl, List.dropWhile_cons, h1], by rw [cutB, List.takeWhile_cons, if_pos h1]; exact congrArg _ i2⟩
theorem at_slash {l m : List UInt8} (h : ∀ c ∈ l, c ≠ 47) : hasSl (l ++ 47 :: m) = true ∧ cutB (l ++ 47 :: m) = l ∧ cutA (l ++ 47 :: m) = m := by
  have h' : ∀ c ∈ l, (c != 47) = true := fun c hc => by simpa using h c hc
  refine ⟨?_, ?_, ?_⟩
  · rw [hasSl, List.dropWhile_append_of_pos h']; simp
  · rw [cutB, List.takeWhile_append_of_pos h']; simp
  · rw [cutA, List.dropWhile_append_of_pos h']; simp
theorem slash_split {l : List UInt8} (h : hasSl l = true) : l = cutB l ++ 47 :: cutA l := by
  induction l with
  | nil => exact absurd h (by decide)
  | cons b l ih =>
    by_cases hb : b = 47
    · subst hb
      simp [cutB, cutA]
    · have h1 : (b != 47) = true := by simpa using hb
      have e1 : hasSl (b :: l) = hasSl l := by simp [hasSl, List.dropWhile_cons, h1]
      have e2 : cutB (b :: l) = b :: cutB l := by simp [cutB, List.takeWhile_cons, h1]
      have e3 : cutA (b :: l) = cutA l := by simp [cutA, List.dropWhile_cons, h1]
      rw [e1] at h
      rw [e2, e3, List.cons_append, ← ih h]
theorem dig_ne {c : UInt8} (h : isDig c = true) : c ≠ 47 := by
  intro e; subst e; exact absurd h (by decide)
theorem ztxt_ne (z : Int) : ∀ c ∈ (ztxt z).data.toList, c ≠ 47 := by
  have hd : ∀ n, ∀ c ∈ dtext n, c ≠ 47 := fun n c hc => dig_ne (List.all_eq_true.1 (dtext_all n) c hc)
  rw [ztxt_list]
  split
  · intro c hc
    rcases List.mem_cons.1 hc with rfl | hc
    · decide
    · exact hd _ c hc
  · exact hd _
theorem whlOf_ztxt (z : Int) : whlOf (ztxt z).data.toList = z := znum_ztxt z
theorem ztxt_whlOf {l : List UInt8} (h : isWhl l = true) : (ztxt (whlOf l)).data.toList = l := by
  have := ztxt_znum (s := ⟨l.toArray⟩) (by simpa using h)
  have e : znum ⟨l.toArray⟩ = whlOf l := by simp [znum]
  rw [e] at this
  rw [this]
theorem qtxt_one {q : Rat} (h : q.den = 1) : qtxt q = ztxt q.num := by rw [qtxt, if_pos h]
theorem qtxt_two {q : Rat} (h : q.den ≠ 1) : (qtxt q).data.toList = (ztxt q.num).data.toList ++ 47 :: (ztxt q.den).data.toList := by
  rw [qtxt, if_neg h, app_list, app_list]
  simp
theorem rat_of_one {q : Rat} (h : q.den = 1) : (q.num : Rat) = q := by
  apply Rat.ext
  · rw [Rat.num_intCast]
  · rw [Rat.den_intCast, h]
theorem qnum_qtxt (q : Rat) : qnum (qtxt q) = q := by
  unfold qnum
  by_cases h : q.den = 1
  · rw [qtxt_one h, ratOf, if_neg (by rw [(no_slash (ztxt_ne _)).1]; decide), whlOf_ztxt]
    exact rat_of_one h
  · obtain ⟨e1, e2, e3⟩ := at_slash (m := (ztxt (q.den : Int)).data.toList) (ztxt_ne q.num)
    rw [qtxt_two h, ratOf, if_pos e1, e2, e3, whlOf_ztxt, whlOf_ztxt, Rat.num_divInt_den]
theorem qtxt_qnum {s : ByteArray} (h : isRat s.data.toList = true) : qtxt (qnum s) = s := by
  apply ba_ext
  unfold qnum
  cases hs : hasSl s.data.toList
  · rw [isRat, hs] at h
    rw [ratOf, hs, if_neg (by decide), qtxt_one (Rat.den_intCast _), Rat.num_intCast]
    exact ztxt_whlOf (by simpa using h)
  · rw [isRat, hs] at h
    simp only [if_true, Bool.and_eq_true, decide_eq_true_eq] at h
    obtain ⟨⟨⟨h1, h2⟩, h3⟩, h4⟩ := h
    obtain ⟨e1, e2⟩ := divInt_coprime h3 h4
    rw [ratOf, hs, if_pos rfl, qtxt_two (by omega), e1, e2, ztxt_whlOf h1, ztxt_whlOf h2]
    exact (slash_split hs).symm
theorem qtxt_good {s : ByteArray} (h : GoodQ s) : qtxt (qnum s) = s := qtxt_qnum h.2
theorem whl_lt {l : List UInt8} (h : isWhl l = true) : (whlOf l).natAbs < 10 ^ l.length := by
  cases hb : (l.head? == some 45)
  · have h3 : isNat l = true := by rw [isWhl, hb] at h; simpa using h
    have h4 : whlOf l = (dval l : Int) := by rw [whlOf, hb]; rfl
    rw [h4]
    simpa using dval_lt' h3
  · have h3 : isNat l.tail = true := by rw [isWhl, hb] at h; simp at h; exact h.1
    have h4 : whlOf l = -(dval l.tail : Int) := by rw [whlOf, hb]; rfl
    rw [h4]
    exact Nat.lt_of_lt_of_le (by simpa using dval_lt' h3) (Nat.pow_le_pow_right (by omega) (by simp))
theorem qnum_lt {s : ByteArray} (h : GoodQ s) : (qnum s).num.natAbs < 10 ^ 100 ∧ (qnum s).den < 10 ^ 100 := by
  obtain ⟨hl, h⟩ := h
  have hsz : s.data.toList.length = s.size := rfl
  have h1 : (1 : Nat) < 10 ^ 100 := by decide +kernel
  have up : ∀ {l : List UInt8}, isWhl l = true → l.length ≤ 100 → (whlOf l).natAbs < 10 ^ 100 := fun hw hl => Nat.lt_of_lt_of_le (whl_lt hw) (Nat.pow_le_pow_right (by omega) hl)
  unfold qnum
  cases hs : hasSl s.data.toList
  · rw [isRat, hs] at h
    rw [ratOf, hs, if_neg (by decide), Rat.num_intCast, Rat.den_intCast]
    exact ⟨up (by simpa using h) (by omega), h1⟩
  · rw [isRat, hs] at h
    simp only [if_true, Bool.and_eq_true, decide_eq_true_eq] at h
    obtain ⟨⟨⟨h1', h2⟩, h3⟩, h4⟩ := h
    obtain ⟨e1, e2⟩ := divInt_coprime h3 h4
    have hlen := congrArg List.length (slash_split hs)
    rw [List.length_append, List.length_cons] at hlen
    rw [ratOf, hs, if_pos rfl, e1]
    refine ⟨up h1' (by omega), ?_⟩
    have := up h2 (by omega)
    omega
theorem divInt_le (z y : Int) : (Rat.divInt z y).num.natAbs ≤ z.natAbs ∧ (Rat.divInt z y).den ≤ max y.natAbs 1 := by
  by_cases h : y = 0
  · subst h; rw [Rat.divInt_zero]; simp
  · obtain ⟨e1, e2⟩ := divInt_parts z y h
    refine ⟨by rw [e1]; exact natAbs_ediv_le _ _, ?_⟩
    have h1 := natAbs_ediv_le y (if y < 0 then -(Int.gcd z y : Int) else (Int.gcd z y : Int))
    rw [← e2] at h1
    have : ((Rat.divInt z y).den : Int).natAbs = (Rat.divInt z y).den := by simp
    omega
theorem size_qtxt {q : Rat} (k : Nat) (hk : 0 < k) (hn : q.num.natAbs < 10 ^ k) (hd : q.den < 10 ^ k) : (qtxt q).size ≤ 2 * k + 3 := by
  have h1 := size_ztxt_le hn hk
  have h2 := size_ztxt_le (z := (q.den : Int)) (k := k) (by simpa using hd) hk
  unfold qtxt
  split
  · omega
  · rw [ByteArray.size_append, ByteArray.size_append]
    have : (⟨#[47]⟩ : ByteArray).size = 1 := rfl
    omega
theorem BadQ.ne {s : ByteArray} {k : Int} (h : BadQ s k) : k ≠ 0 := by
  rcases h with ⟨_, rfl⟩ | ⟨_, _, rfl⟩ <;> decide
theorem WrongQ.ne {a b : ByteArray} {k : Int} (h : WrongQ a b k) : k ≠ 0 := by
  rcases h with h | ⟨_, h⟩ <;> exact h.ne
theorem BadQ.not {s : ByteArray} {k : Int} (h : BadQ s k) : ¬ GoodQ s := by
  rintro ⟨h1, h2⟩
  rcases h with ⟨h, _⟩ | ⟨_, h, _⟩
  · omega
  · rw [h] at h2; cases h2
theorem WrongQ.not {a b : ByteArray} {k : Int} (h : WrongQ a b k) : ¬ (GoodQ a ∧ GoodQ b) := by
  rintro ⟨h1, h2⟩
  rcases h with h | ⟨_, h⟩
  · exact h.not h1
  · exact h.not h2

/-- What a function of two fractions tells: the text of f, or nothing and an error. -/
def QTells (f : Rat → Rat → Rat) (a b s : ByteArray) (k : Int) : Prop :=
  (k = 0 ∧ GoodQ a ∧ GoodQ b ∧ s = qtxt (f (qnum a) (qnum b))) ∨ (k ≠ 0 ∧ WrongQ a b k ∧ s = ⟨#[]⟩)
theorem QTells.yes {f : Rat → Rat → Rat} {a b s : ByteArray} {k : Int} (h : QTells f a b s k) (hk : k = 0) : GoodQ a ∧ GoodQ b ∧ s = qtxt (f (qnum a) (qnum b)) := by
  rcases h with ⟨_, h⟩ | ⟨h, _⟩
  · exact h
  · exact absurd hk h
theorem QTells.zero {f : Rat → Rat → Rat} {a b s : ByteArray} {k : Int} (h : QTells f a b s k) (ha : GoodQ a) (hb : GoodQ b) : k = 0 := by
  rcases h with ⟨h, _⟩ | ⟨_, h, _⟩
  · exact h
  · exact absurd ⟨ha, hb⟩ h.not
theorem QTells.no {f : Rat → Rat → Rat} {a b s : ByteArray} {k : Int} (h : QTells f a b s k) (hn : ¬ (GoodQ a ∧ GoodQ b)) : k ≠ 0 ∧ s = ⟨#[]⟩ := by
  rcases h with ⟨_, h1, h2, _⟩ | ⟨h, _, h2⟩
  · exact absurd ⟨h1, h2⟩ hn
  · exact ⟨h, h2⟩
/-- What a division tells. -/
def QDivs (a b s : ByteArray) (k : Int) : Prop :=
  (k = 0 ∧ GoodQ a ∧ GoodQ b ∧ qnum b ≠ 0 ∧ s = qtxt (qnum a / qnum b)) ∨
  (k ≠ 0 ∧ s = ⟨#[]⟩ ∧ (WrongQ a b k ∨ (GoodQ a ∧ GoodQ b ∧ qnum b = 0 ∧ k = 5)))
theorem QDivs.yes {a b s : ByteArray} {k : Int} (h : QDivs a b s k) (hk : k = 0) : GoodQ a ∧ GoodQ b ∧ qnum b ≠ 0 ∧ s = qtxt (qnum a / qnum b) := by
  rcases h with ⟨_, h⟩ | ⟨h, _⟩
  · exact h
  · exact absurd hk h
theorem QDivs.zero {a b s : ByteArray} {k : Int} (h : QDivs a b s k) (ha : GoodQ a) (hb : GoodQ b) (h0 : qnum b ≠ 0) : k = 0 := by
  rcases h with ⟨h, _⟩ | ⟨_, _, h | ⟨_, _, h, _⟩⟩
  · exact h
  · exact absurd ⟨ha, hb⟩ h.not
  · exact absurd h h0
theorem QDivs.no {a b s : ByteArray} {k : Int} (h : QDivs a b s k) (hk : k ≠ 0) : s = ⟨#[]⟩ ∧ (GoodQ a → GoodQ b → qnum b = 0) := by
  rcases h with ⟨h, _⟩ | ⟨_, hs, h | ⟨_, _, h, _⟩⟩
  · exact absurd h hk
  · exact ⟨hs, fun h1 h2 => absurd ⟨h1, h2⟩ h.not⟩
  · exact ⟨hs, fun _ _ => h⟩
/-- What a comparison tells. -/
def QLess (a b : ByteArray) (t : Bool) (k : Int) : Prop :=
  (k = 0 ∧ GoodQ a ∧ GoodQ b ∧ t = decide (qnum a < qnum b)) ∨ (k ≠ 0 ∧ WrongQ a b k ∧ t = false)
theorem QLess.yes {a b : ByteArray} {t : Bool} {k : Int} (h : QLess a b t k) (hk : k = 0) : GoodQ a ∧ GoodQ b ∧ t = decide (qnum a < qnum b) := by
  rcases h with ⟨_, h⟩ | ⟨h, _⟩
  · exact h
  · exact absurd hk h
theorem QLess.zero {a b : ByteArray} {t : Bool} {k : Int} (h : QLess a b t k) (ha : GoodQ a) (hb : GoodQ b) : k = 0 := by
  rcases h with ⟨h, _⟩ | ⟨_, h, _⟩
  · exact h
  · exact absurd ⟨ha, hb⟩ h.not
theorem QLess.no {a b : ByteArray} {t : Bool} {k : Int} (h : QLess a b t k) (hn : ¬ (GoodQ a ∧ GoodQ b)) : k ≠ 0 ∧ t = false := by
  rcases h with ⟨_, h1, h2, _⟩ | ⟨h, _, h2⟩
  · exact absurd ⟨h1, h2⟩ hn
  · exact ⟨h, h2⟩
/-- What Make tells. -/
def QMakes (a b s : ByteArray) (k : Int) : Prop :=
  (k = 0 ∧ GoodZ a ∧ GoodZ b ∧ znum b ≠ 0 ∧ s = qtxt (Rat.divInt (znum a) (znum b))) ∨
  (k ≠ 0 ∧ s = ⟨#[]⟩ ∧ (WrongZ a b k ∨ (GoodZ a ∧ GoodZ b ∧ znum b = 0 ∧ k = 5)))
theorem QMakes.yes {a b s : ByteArray} {k : Int} (h : QMakes a b s k) (hk : k = 0) : GoodZ a ∧ GoodZ b ∧ znum b ≠ 0 ∧ s = qtxt (Rat.divInt (znum a) (znum b)) := by
  rcases h with ⟨_, h⟩ | ⟨h, _⟩
  · exact h
  · exact absurd hk h
theorem QMakes.no {a b s : ByteArray} {k : Int} (h : QMakes a b s k) (hk : k ≠ 0) : s = ⟨#[]⟩ := by
  rcases h with ⟨h, _⟩ | ⟨_, h, _⟩
  · exact absurd h hk
  · exact h

end Go.Proofs.Ytkenlaikhnoldaa

/-
  FRACTIONS BY THEIR SIZE; a Number, its size apart.
-/
namespace Go.Proofs.Ytkenlaikhnoldaa
open Go.RowKit
open Num4
open Num (dg isNat dval)
set_option linter.unusedVariables false
set_option maxRecDepth 100000
set_option linter.unusedSimpArgs false

/-- Both parts have so many limbs or fewer. -/
def Sm (q : Rat) (m : Nat) : Prop := q.num.natAbs < B ^ m ∧ q.den < B ^ m
theorem Sm.mono {q : Rat} {m n : Nat} (h : Sm q m) (hn : m ≤ n) : Sm q n :=
  ⟨Nat.lt_of_lt_of_le h.1 (Nat.pow_le_pow_right (by decide) hn), Nat.lt_of_lt_of_le h.2 (Nat.pow_le_pow_right (by decide) hn)⟩
theorem Sm.pos {q : Rat} {m : Nat} (h : Sm q m) : 1 ≤ m := by
  rcases Nat.eq_zero_or_pos m with rfl | h1
  · have := h.2
    have := q.den_pos
    simp at *
    omega
  · exact h1
theorem Sm.mul {q r : Rat} {m n : Nat} (h : Sm q m) (h' : Sm r n) : Sm (q * r) (m + n) := by
  have e : q * r = Rat.divInt (q.num * r.num) (q.den * r.den) := by
    conv => lhs; rw [← Rat.num_divInt_den q, ← Rat.num_divInt_den r]
    rw [Rat.divInt_mul_divInt]
  obtain ⟨d1, d2⟩ := divInt_le (q.num * r.num) (q.den * r.den)
  rw [← e] at d1 d2
  rw [Int.natAbs_mul] at d1
  have h3 : ((q.den : Int) * (r.den : Int)).natAbs = q.den * r.den := by rw [Int.natAbs_mul]; rfl
  rw [h3] at d2
  have h4 : 0 < q.den * r.den := Nat.mul_pos q.den_pos r.den_pos
  refine ⟨?_, ?_⟩
  · rw [Nat.pow_add]; exact Nat.lt_of_le_of_lt d1 (Nat.mul_lt_mul'' h.1 h'.1)
  · rw [Nat.pow_add]; exact Nat.lt_of_le_of_lt (by omega) (Nat.mul_lt_mul'' h.2 h'.2)
theorem Sm.add {q r : Rat} {m n : Nat} (h : Sm q m) (h' : Sm r n) : Sm (q + r) (m + n + 1) := by
  have e : q + r = Rat.divInt (q.num * r.den + r.num * q.den) (q.den * r.den) := by
    conv => lhs; rw [← Rat.num_divInt_den q, ← Rat.num_divInt_den r]
    rw [Rat.divInt_add_divInt _ _ (by have := q.den_pos; omega) (by have := r.den_pos; omega)]
  obtain ⟨d1, d2⟩ := divInt_le (q.num * r.den + r.num * q.den) (q.den * r.den)
  rw [← e] at d1 d2
  have h3 : ((q.den : Int) * (r.den : Int)).natAbs = q.den * r.den := by rw [Int.natAbs_mul]; rfl
  rw [h3] at d2
  have h4 : 0 < q.den * r.den := Nat.mul_pos q.den_pos r.den_pos
  have h5 : (q.num * (r.den : Int) + r.num * (q.den : Int)).natAbs ≤ q.num.natAbs * r.den + r.num.natAbs * q.den := by
    refine Nat.le_trans (Int.natAbs_add_le _ _) ?_
    rw [Int.natAbs_mul, Int.natAbs_mul]
    exact Nat.le_refl _
  have h6 := Nat.mul_lt_mul'' h.1 h'.2
  have h7 := Nat.mul_lt_mul'' h'.1 h.2
  have h8 := Nat.mul_lt_mul'' h.2 h'.2
  rw [Nat.mul_comm (B ^ n)] at h7
  rw [← Nat.pow_add] at h6 h7 h8
  have h9 : B ^ (m + n + 1) = B ^ (m + n) * 10000 := rfl
  refine ⟨?_, ?_⟩ <;> rw [h9] <;> generalize B ^ (m + n) = M at * <;> omega
theorem Sm.inv {q : Rat} {m : Nat} (h : Sm q m) : Sm q⁻¹ m := by
  have hp := h.pos
  have h1 : 1 < B ^ m := Nat.one_lt_pow (by omega) (by decide)
  rw [Rat.inv_def]
  obtain ⟨d1, d2⟩ := divInt_le q.den q.num
  refine ⟨Nat.lt_of_le_of_lt d1 (by simpa using h.2), Nat.lt_of_le_of_lt d2 ?_⟩
  have := h.1
  omega
theorem Sm.div {q r : Rat} {m n : Nat} (h : Sm q m) (h' : Sm r n) : Sm (q / r) (m + n) := by
  rw [Rat.div_def]; exact h.mul h'.inv
theorem Sm.int {z : Int} {m : Nat} (h : z.natAbs < B ^ m) (hm : 1 ≤ m) : Sm (z : Rat) m := by
  refine ⟨by rw [Rat.num_intCast]; exact h, ?_⟩
  rw [Rat.den_intCast]
  exact Nat.one_lt_pow (by omega) (by decide)
theorem Sm.zero {m : Nat} (hm : 1 ≤ m) : Sm 0 m := by
  have h1 : 1 < B ^ m := Nat.one_lt_pow (by omega) (by decide)
  exact ⟨by show (0 : Int).natAbs < _; simp; omega, h1⟩
theorem Sm.good {s : ByteArray} (h : GoodQ s) : Sm (qnum s) 25 := by
  obtain ⟨h1, h2⟩ := qnum_lt h
  exact ⟨Nat.lt_of_lt_of_le h1 (by decide +kernel), Nat.lt_of_lt_of_le h2 (by decide +kernel)⟩
theorem Sm.neg {q : Rat} {m : Nat} (h : Sm q m) : Sm (-q) m := by
  refine ⟨?_, ?_⟩
  · rw [Rat.neg_num, Int.natAbs_neg]; exact h.1
  · rw [Rat.neg_den]; exact h.2
theorem Sm.sub {q r : Rat} {m n : Nat} (h : Sm q m) (h' : Sm r n) : Sm (q - r) (m + n + 1) := by
  rw [show q - r = q + -r by grind]; exact h.add h'.neg
/-- A value reads as a Number, its size apart. -/
def NF (w : World) (v : Value) (q : Rat) : Prop := ∃ k, Rtl w v q k
theorem Rtl.nf {w : World} {v : Value} {q : Rat} {k : Nat} (h : Rtl w v q k) : NF w v q := ⟨k, h⟩
theorem pow_up (m : Nat) : B ^ m ≤ Num.B ^ m := Nat.pow_le_pow_left (by decide) m
theorem NF.sm {w : World} {v : Value} {q : Rat} {m : Nat} (h : NF w v q) (hs : Sm q m) : Rtl w v q m := by
  obtain ⟨k, s, p, n, c, s', p', n', c', h1, h2, d, h3, h4⟩ := h
  refine ⟨s, p, n, c, s', p', n', c', h1, h2.fit m (Nat.lt_of_lt_of_le hs.1 (pow_up m)), d, h3.fit m ?_, h4⟩
  have := Nat.lt_of_lt_of_le hs.2 (pow_up m)
  rcases h4 with rfl | ⟨rfl, _⟩
  · simpa using this
  · simp; omega
theorem NF.on {w w' : World} {v : Value} {q : Rat} (h : NF w v q) (hb : Below w.heap.size w w') : NF w' v q := by
  obtain ⟨k, h⟩ := h
  exact ⟨k, h.on hb⟩
theorem NF.opened {w : World} {v : Value} {q : Rat} (h : NF w v q) : ∃ s p n c s' p' n' c', v = .agg #[.bool s, .slice p n c, .bool s', .slice p' n' c'] := by
  obtain ⟨k, h⟩ := h
  exact h.opened
theorem NF.moved {w w' : World} {v : Value} {q : Rat} (h : NF w v q) (hm : ∀ v z k, Whl w v z k → Whl w' v z k) : NF w' v q := by
  obtain ⟨k, s, p, n, c, s', p', n', c', h1, h2, d, h3, h4⟩ := h
  exact ⟨k, s, p, n, c, s', p', n', c', h1, hm _ _ _ h2, d, hm _ _ _ h3, h4⟩
theorem NF.drew {w : World} {v : Value} {q : Rat} (h : NF w v q) : NF w.drew v q := h.on (Below.drew (Below.refl _ _))
theorem NF.cast {w : World} {v : Value} {q r : Rat} (h : NF w v q) (e : q = r) : NF w v r := by rw [← e]; exact h
theorem nf {w w' : World} {v : Value} {q : Rat} (h : Hid (NF w v q)) (hb : Below w.heap.size w w') : Hid (NF w' v q) := hid (h.out.on hb)
theorem nadd_f {w : World} {v u : Value} {q r : Rat} {m n : Nat} (h : NF w v q) (h' : NF w u r) (hq : Sm q m) (hr : Sm r n) (hm : m ≤ 68719476736) (hn : n ≤ 68719476736) :
    Calls Try.prog 28 #[v, u] w fun e w' => ∃ v, e = .returned v ∧ NF w' v (q + r) ∧ Below w.heap.size w w' := by
  refine (addq_rtl ((h.sm hq).mono (Nat.le_max_left m n)) ((h'.sm hr).mono (Nat.le_max_right m n)) (by have := hq.pos; omega) (by omega)).mono ?_
  rintro e w' ⟨v, rfl, hv, hb⟩
  exact ⟨v, rfl, hv.nf, hb⟩
theorem nmul_f {w : World} {v u : Value} {q r : Rat} {m n : Nat} (h : NF w v q) (h' : NF w u r) (hq : Sm q m) (hr : Sm r n) (hm : m ≤ 68719476736) (hn : n ≤ 68719476736) :
    Calls Try.prog 29 #[v, u] w fun e w' => ∃ v, e = .returned v ∧ NF w' v (q * r) ∧ Below w.heap.size w w' := by
  refine (mulq_rtl ((h.sm hq).mono (Nat.le_max_left m n)) ((h'.sm hr).mono (Nat.le_max_right m n)) (by have := hq.pos; omega) (by omega)).mono ?_
  rintro e w' ⟨v, rfl, hv, hb⟩
  exact ⟨v, rfl, hv.nf, hb⟩
theorem sgn_eq_zero (q : Rat) : q.num.sign = 0 ↔ q = 0 := by rw [Int.sign_eq_zero_iff_zero, Rat.num_eq_zero]


end Go.Proofs.Ytkenlaikhnoldaa

/-
  POLYNOMIALS BY THEIR SIZE. Nothing of a program.
-/
namespace Go.Proofs.Ytkenlaikhnoldaa
open Go.RowKit
open Num4
open Num (dg isNat dval)
set_option linter.unusedVariables false
set_option maxRecDepth 100000
set_option linter.unusedSimpArgs false

theorem co_lt {l : List Rat} {i : Nat} (h : i < l.length) : co l i = l[i] := by simp [co, h]
theorem co_take {l : List Rat} {m i : Nat} (h : i < m) : co (l.take m) i = co l i := by
  unfold co
  rw [List.getElem?_take, if_pos h]
/-- Each coefficient has so many limbs or fewer. -/
def Sml (l : List Rat) (m : Nat) : Prop := 1 ≤ m ∧ ∀ i, Sm (co l i) m
theorem Sml.mono {l : List Rat} {m n : Nat} (h : Sml l m) (hn : m ≤ n) : Sml l n := ⟨by have := h.1; omega, fun i => (h.2 i).mono hn⟩
theorem Sml.nil {m : Nat} (hm : 1 ≤ m) : Sml [] m := ⟨hm, fun i => by rw [co_nil]; exact Sm.zero hm⟩
theorem Sml.trim {l : List Rat} {m : Nat} (h : Sml l m) : Sml (trimQ l) m := ⟨h.1, fun i => by rw [co_trim]; exact h.2 i⟩
theorem Sml.one {c : Rat} {m : Nat} (h : Sm c m) : Sml [c] m := ⟨h.pos, fun i => by
  cases i with
  | zero => exact h
  | succ i => rw [co_succ, co_nil]; exact Sm.zero h.pos⟩
theorem Sml.cons {c : Rat} {l : List Rat} {m : Nat} (h : Sm c m) (h' : Sml l m) : Sml (c :: l) m := ⟨h.pos, fun i => by
  cases i with
  | zero => exact h
  | succ i => rw [co_succ]; exact h'.2 i⟩
theorem Sml.take {l : List Rat} {m : Nat} (h : Sml l m) (n : Nat) : Sml (l.take n) m := ⟨h.1, fun i => by
  by_cases hi : i < n
  · rw [co_take hi]; exact h.2 i
  · rw [co_ge (by rw [List.length_take]; omega)]; exact Sm.zero h.1⟩
theorem Sml.sum {l r : List Rat} {m n : Nat} (h : Sml l m) (h' : Sml r n) : Sml (addp l r) (m + n + 1) := ⟨by omega, fun i => by rw [co_addp]; exact (h.2 i).add (h'.2 i)⟩
/-- Sums of products, so far. -/
theorem Sml.part {l r : List Rat} {m n : Nat} (h : Sml l m) (h' : Sml r n) (i : Nat) : ∀ k, Sm (sumN (fun j => co l j * co r (i - j)) k) (k * (m + n + 1) + 1) := by
  intro k
  induction k with
  | zero => exact Sm.zero (by omega)
  | succ k ih =>
    show Sm (sumN _ k + co l k * co r (i - k)) _
    exact (ih.add ((h.2 k).mul (h'.2 (i - k)))).mono (by rw [Nat.succ_mul]; omega)
/-- No more terms than the first list has. -/
theorem cnv_few (l r : List Rat) (i : Nat) : ∃ k, k ≤ l.length ∧ cnv l r i = sumN (fun j => co l j * co r (i - j)) k := by
  by_cases h : i + 1 ≤ l.length
  · exact ⟨i + 1, h, rfl⟩
  · refine ⟨l.length, Nat.le_refl _, ?_⟩
    exact sumN_more _ (by omega) fun k h1 h2 => by
      show co l k * _ = 0
      rw [co_ge h1]; grind
theorem Sml.prod {l r : List Rat} {m n : Nat} (h : Sml l m) (h' : Sml r n) : Sml (mulp l r) (l.length * (m + n + 1) + 1) := ⟨by omega, fun i => by
  rw [co_mulp]
  obtain ⟨k, hk, e⟩ := cnv_few l r i
  rw [e]
  exact (h.part h' i k).mono (by have := Nat.mul_le_mul_right (m + n + 1) hk; omega)⟩
theorem Sml.step {p q : List Rat} {m n : Nat} (h : Sml p m) (h' : Sml q n) : Sml (stepp p q) (m + m + n + n + 1) := ⟨by omega, fun i => by
  rw [co_stepp]
  have h1 : Sm (top p / top q) (m + n) := (h.2 _).div (h'.2 _)
  split
  · exact ((h.2 i).sub (h1.mul (h'.2 _))).mono (by omega)
  · exact ((h.2 i).sub (Sm.zero (m := 1) (by decide))).mono (by have := h.1; have := h'.1; omega)⟩
theorem Sm.pow {x : Rat} {n : Nat} (h : Sm x n) : ∀ k : Nat, Sm (x ^ k) (k * n + 1) := by
  intro k
  induction k with
  | zero =>
    rw [Rat.pow_zero]
    exact (Sm.int (z := 1) (m := 1) (by decide) (by decide)).mono (by omega)
  | succ k ih => rw [pow_nat_succ]; exact (ih.mul h).mono (by rw [Nat.succ_mul]; omega)
/-- The value so far. -/
theorem Sml.value {l : List Rat} {x : Rat} {m n : Nat} (h : Sml l m) (hx : Sm x n) : ∀ k, Sm (sumN (fun i => co l i * x ^ i) k) (k * (m + k * n + 2) + 1) := by
  have key : ∀ K k, k ≤ K → Sm (sumN (fun i => co l i * x ^ i) k) (k * (m + K * n + 2) + 1) := by
    intro K k
    induction k with
    | zero => intro _; exact Sm.zero (by omega)
    | succ k ih =>
      intro hk
      show Sm (sumN _ k + co l k * x ^ k) _
      have h1 := (h.2 k).mul (hx.pow k)
      have h2 := Nat.mul_le_mul_right n (show k ≤ K by omega)
      exact ((ih (by omega)).add h1).mono (by rw [Nat.succ_mul]; omega)
  exact fun k => key k k (Nat.le_refl _)

end Go.Proofs.Ytkenlaikhnoldaa

/-
  POLYNOMIALS IN MEMORY: rows of Numbers.
-/
namespace Go.Proofs.Ytkenlaikhnoldaa
open Go.RowKit
open Num
set_option linter.unusedVariables false
set_option maxRecDepth 100000
set_option linter.unusedSimpArgs false

theorem infoN : (Try.prog.info? 52).map (fun i => (i.zero, i.size, i.bytes)) = some (some (.agg #[.bool false, .slice none 0 0, .bool false, .slice none 0 0]), 4, 64) := by kernel_rfl
/-- No number at all. -/
def Nz : Nr := ((false, none, 0, 0), (false, none, 0, 0))
/-- Four cells, of an array and of a world. -/
def C4 (cur : Array Value) (j : Nat) (r : Nr) : Prop := cur[j]? = some (.bool r.1.1) ∧ cur[j + 1]? = some (.slice r.1.2.1 r.1.2.2.1 r.1.2.2.2) ∧ cur[j + 2]? = some (.bool r.2.1) ∧ cur[j + 3]? = some (.slice r.2.2.1 r.2.2.2.1 r.2.2.2.2)
def At4 (w : World) (b j : Nat) (r : Nr) : Prop := w.cell? ⟨b, j, none⟩ = some (.bool r.1.1) ∧ w.cell? ⟨b, j + 1, none⟩ = some (.slice r.1.2.1 r.1.2.2.1 r.1.2.2.2) ∧ w.cell? ⟨b, j + 2, none⟩ = some (.bool r.2.1) ∧ w.cell? ⟨b, j + 3, none⟩ = some (.slice r.2.2.1 r.2.2.2.1 r.2.2.2.2)
theorem At4.of {w : World} {b j : Nat} {cur : Array Value} {T : TypeId} {f : Nat × Nat} {r : Nr} (h : w.heap[b]? = some (.cells cur T f)) (hc : C4 cur j r) : At4 w b j r := by
  obtain ⟨h0, h1, h2, h3⟩ := hc
  refine ⟨?_, ?_, ?_, ?_⟩ <;> simp [World.cell?, h, h0, h1, h2, h3]
theorem At4.kept {w w' : World} {b j : Nat} {r : Nr} (h : At4 w b j r) (e : w'.heap[b]? = w.heap[b]?) : At4 w' b j r := by
  obtain ⟨h0, h1, h2, h3⟩ := h
  exact ⟨(World.cell?_of_block e).trans h0, (World.cell?_of_block e).trans h1, (World.cell?_of_block e).trans h2, (World.cell?_of_block e).trans h3⟩
theorem cells_kept {w w' : World} {b o : Nat} {v0 v1 v2 v3 : Value} (h : w.cell? ⟨b, o, none⟩ = some v0 ∧ w.cell? ⟨b, o + 1, none⟩ = some v1 ∧ w.cell? ⟨b, o + 2, none⟩ = some v2 ∧ w.cell? ⟨b, o + 3, none⟩ = some v3) (e : w'.heap[b]? = w.heap[b]?) : w'.cell? ⟨b, o, none⟩ = some v0 ∧ w'.cell? ⟨b, o + 1, none⟩ = some v1 ∧ w'.cell? ⟨b, o + 2, none⟩ = some v2 ∧ w'.cell? ⟨b, o + 3, none⟩ = some v3 :=
  ⟨(World.cell?_of_block e).trans h.1, (World.cell?_of_block e).trans h.2.1, (World.cell?_of_block e).trans h.2.2.1, (World.cell?_of_block e).trans h.2.2.2⟩
theorem C4.other {cur : Array Value} {j k : Nat} {r : Nr} (h : C4 cur j r) (hk : k < j ∨ j + 3 < k) (x : Value) : C4 (cur.setIfInBounds k x) j r := by
  obtain ⟨h0, h1, h2, h3⟩ := h
  refine ⟨?_, ?_, ?_, ?_⟩
  · rw [Array.getElem?_setIfInBounds_ne (by omega)]; exact h0
  · rw [Array.getElem?_setIfInBounds_ne (by omega)]; exact h1
  · rw [Array.getElem?_setIfInBounds_ne (by omega)]; exact h2
  · rw [Array.getElem?_setIfInBounds_ne (by omega)]; exact h3
def put4 (cur : Array Value) (j : Nat) (r : Nr) : Array Value := (((cur.setIfInBounds j (.bool r.1.1)).setIfInBounds (j + 1) (.slice r.1.2.1 r.1.2.2.1 r.1.2.2.2)).setIfInBounds (j + 2) (.bool r.2.1)).setIfInBounds (j + 3) (.slice r.2.2.1 r.2.2.2.1 r.2.2.2.2)
theorem C4.self (cur : Array Value) {j : Nat} (h : j + 3 < cur.size) (r : Nr) : C4 (put4 cur j r) j r := by
  unfold put4
  refine ⟨?_, ?_, ?_, ?_⟩
  · rw [Array.getElem?_setIfInBounds_ne (by omega), Array.getElem?_setIfInBounds_ne (by omega), Array.getElem?_setIfInBounds_ne (by omega), Array.getElem?_setIfInBounds_self_of_lt (by omega)]
  · rw [Array.getElem?_setIfInBounds_ne (by omega), Array.getElem?_setIfInBounds_ne (by omega), Array.getElem?_setIfInBounds_self_of_lt (by simp; omega)]
  · rw [Array.getElem?_setIfInBounds_ne (by omega), Array.getElem?_setIfInBounds_self_of_lt (by simp; omega)]
  · rw [Array.getElem?_setIfInBounds_self_of_lt (by simp; omega)]
theorem C4.far {cur : Array Value} {i j : Nat} {r s : Nr} (h : C4 cur (i * 4) r) (hne : i ≠ j) : C4 (put4 cur (j * 4) s) (i * 4) r :=
  (((h.other (by omega) _).other (by omega) _).other (by omega) _).other (by omega) _
theorem size_put4 (cur : Array Value) (j : Nat) (r : Nr) : (put4 cur j r).size = cur.size := by simp [put4]
theorem mem_set {cur : Array Value} {k : Nat} {x u : Value} (h : u ∈ (cur.setIfInBounds k x).toList) : u ∈ cur.toList ∨ u = x := by
  rw [Array.toList_setIfInBounds] at h
  exact List.mem_or_eq_of_mem_set h
theorem ni_put4 {cur : Array Value} (h : ∀ u ∈ cur.toList, NI u) (j : Nat) (r : Nr) : ∀ u ∈ (put4 cur j r).toList, NI u := by
  intro u hu
  unfold put4 at hu
  rcases mem_set hu with hu | rfl
  · rcases mem_set hu with hu | rfl
    · rcases mem_set hu with hu | rfl
      · rcases mem_set hu with hu | rfl
        · exact h u hu
        · exact NI.bool _
      · exact NI.slc _ _ _
    · exact NI.bool _
  · exact NI.slc _ _ _
theorem heap_set {w : World} {b k : Nat} {cur : Array Value} {T : TypeId} {f : Nat × Nat} (h : w.heap[b]? = some (.cells cur T f)) (x : Value) : (w.setCell ⟨b, k, none⟩ x).heap[b]? = some (.cells (cur.setIfInBounds k x) T f) := by
  simp only [World.setCell, Array.getElem?_modify, h]
  simp
/-- Another one at a place. -/
def upd (rs : Nat → Nr) (i : Nat) (r : Nr) : Nat → Nr := fun k => if k = i then r else rs k
theorem upd_self (rs : Nat → Nr) (i : Nat) (r : Nr) : upd rs i r i = r := if_pos rfl
theorem upd_ne (rs : Nat → Nr) {i k : Nat} (r : Nr) (h : k ≠ i) : upd rs i r k = rs k := if_neg h
/-- Block b begins with n Numbers, may be written, and holds no numbers of its own. -/
def NRw (w : World) (b n : Nat) (rs : Nat → Nr) : Prop := ∃ cur, w.heap[b]? = some (.cells cur 52 (0, 0)) ∧ n * 4 ≤ cur.size ∧ (∀ i, i < n → C4 cur (i * 4) (rs i)) ∧ ∀ u ∈ cur.toList, NI u
theorem NRw.lt {w : World} {b n : Nat} {rs : Nat → Nr} (h : NRw w b n rs) : b < w.heap.size := by
  obtain ⟨cur, h, _⟩ := h
  exact (Array.getElem?_eq_some_iff.1 h).1
theorem NRw.kept {w w' : World} {b n : Nat} {rs : Nat → Nr} (h : NRw w b n rs) (e : w'.heap[b]? = w.heap[b]?) : NRw w' b n rs := by
  obtain ⟨cur, h, h2⟩ := h
  exact ⟨cur, e.trans h, h2⟩
theorem NRw.on {w w' : World} {b n : Nat} {rs : Nat → Nr} (h : NRw w b n rs) (hb : Below w.heap.size w w') : NRw w' b n rs := h.kept (hb.block b h.lt)
theorem NRw.at {w : World} {b n : Nat} {rs : Nat → Nr} (h : NRw w b n rs) {i : Nat} (hi : i < n) : At4 w b (i * 4) (rs i) := by
  obtain ⟨cur, h, _, h2, _⟩ := h
  exact At4.of h (h2 i hi)
theorem NRw.cells {w : World} {b n : Nat} {rs : Nat → Nr} (h : NRw w b n rs) {i : Nat} (hi : i < n) : w.cell? ⟨b, i * 4, none⟩ = some (.bool (rs i).1.1) ∧ w.cell? ⟨b, i * 4 + 1, none⟩ = some (.slice (rs i).1.2.1 (rs i).1.2.2.1 (rs i).1.2.2.2) ∧ w.cell? ⟨b, i * 4 + 2, none⟩ = some (.bool (rs i).2.1) ∧ w.cell? ⟨b, i * 4 + 3, none⟩ = some (.slice (rs i).2.2.1 (rs i).2.2.2.1 (rs i).2.2.2.2) := h.at hi
theorem NRw.noint {w : World} {b n : Nat} {rs : Nat → Nr} (h : NRw w b n rs) : NoInt w b := by
  obtain ⟨cur, h, _, _, h2⟩ := h
  intro cur' T f e u hu
  rw [h] at e
  cases e
  exact h2 u hu
theorem NRw.less {w : World} {b n m : Nat} {rs : Nat → Nr} (h : NRw w b n rs) (hm : m ≤ n) : NRw w b m rs := by
  obtain ⟨cur, h, h1, h2, h3⟩ := h
  exact ⟨cur, h, by omega, fun i hi => h2 i (by omega), h3⟩
/-- What a walk needs to write the i-th one. -/
theorem NRw.stores {w : World} {b n : Nat} {rs : Nat → Nr} (h : NRw w b n rs) {i : Nat} (hi : i < n) :
    (w.cell? ⟨b, i * 4, none⟩ = some (.bool (rs i).1.1) ∧ w.frozen? ⟨b, i * 4, none⟩ = false) ∧
    ((∀ x, (w.setCell ⟨b, i * 4, none⟩ x).cell? ⟨b, i * 4 + 1, none⟩ = some (.slice (rs i).1.2.1 (rs i).1.2.2.1 (rs i).1.2.2.2)) ∧ (∀ x, (w.setCell ⟨b, i * 4, none⟩ x).frozen? ⟨b, i * 4 + 1, none⟩ = false)) ∧
    ((∀ x y, ((w.setCell ⟨b, i * 4, none⟩ x).setCell ⟨b, i * 4 + 1, none⟩ y).cell? ⟨b, i * 4 + 2, none⟩ = some (.bool (rs i).2.1)) ∧ (∀ x y, ((w.setCell ⟨b, i * 4, none⟩ x).setCell ⟨b, i * 4 + 1, none⟩ y).frozen? ⟨b, i * 4 + 2, none⟩ = false)) ∧
    ((∀ x y z, (((w.setCell ⟨b, i * 4, none⟩ x).setCell ⟨b, i * 4 + 1, none⟩ y).setCell ⟨b, i * 4 + 2, none⟩ z).cell? ⟨b, i * 4 + 3, none⟩ = some (.slice (rs i).2.2.1 (rs i).2.2.2.1 (rs i).2.2.2.2)) ∧ (∀ x y z, (((w.setCell ⟨b, i * 4, none⟩ x).setCell ⟨b, i * 4 + 1, none⟩ y).setCell ⟨b, i * 4 + 2, none⟩ z).frozen? ⟨b, i * 4 + 3, none⟩ = false)) := by
  obtain ⟨cur, h, hs, h2, _⟩ := h
  obtain ⟨c0, c1, c2, c3⟩ := h2 i hi
  have fr : ∀ {w : World} {cur : Array Value} {k : Nat}, w.heap[b]? = some (.cells cur 52 (0, 0)) → w.frozen? ⟨b, k, none⟩ = false := by
    intro w cur k h
    simp [World.frozen?, h]
  refine ⟨⟨by simp [World.cell?, h, c0], fr h⟩, ⟨fun x => ?_, fun x => fr (heap_set h x)⟩, ⟨fun x y => ?_, fun x y => fr (heap_set (heap_set h x) y)⟩, fun x y z => ?_, fun x y z => fr (heap_set (heap_set (heap_set h x) y) z)⟩
  · simp only [World.cell?, heap_set h x]
    rw [Array.getElem?_setIfInBounds_ne (by omega)]; exact c1
  · simp only [World.cell?, heap_set (heap_set h x) y]
    rw [Array.getElem?_setIfInBounds_ne (by omega), Array.getElem?_setIfInBounds_ne (by omega)]; exact c2
  · simp only [World.cell?, heap_set (heap_set (heap_set h x) y) z]
    rw [Array.getElem?_setIfInBounds_ne (by omega), Array.getElem?_setIfInBounds_ne (by omega), Array.getElem?_setIfInBounds_ne (by omega)]; exact c3
theorem set4_grown (w : World) (b i : Nat) (s1 : Bool) (p1 : Option Addr) (n1 c1 : Nat) (s2 : Bool) (p2 : Option Addr) (n2 c2 : Nat) : w.grownBy ((((w.setCell ⟨b, i * 4, none⟩ (.bool s1)).setCell ⟨b, i * 4 + 1, none⟩ (.slice p1 n1 c1)).setCell ⟨b, i * 4 + 2, none⟩ (.bool s2)).setCell ⟨b, i * 4 + 3, none⟩ (.slice p2 n2 c2)) (some b) :=
  ⟨rfl, rfl, rfl, by simp [World.setCell], fun k _ hk => by
    rw [Below.heap_setCell _ _ _ _ (by intro e; exact hk (congrArg some e)), Below.heap_setCell _ _ _ _ (by intro e; exact hk (congrArg some e)), Below.heap_setCell _ _ _ _ (by intro e; exact hk (congrArg some e)), Below.heap_setCell _ _ _ _ (by intro e; exact hk (congrArg some e))]⟩
theorem NRw.put {w : World} {b n : Nat} {rs : Nat → Nr} (h : NRw w b n rs) {i : Nat} (hi : i < n) (s1 : Bool) (p1 : Option Addr) (n1 c1 : Nat) (s2 : Bool) (p2 : Option Addr) (n2 c2 : Nat) :
    NRw ((((w.setCell ⟨b, i * 4, none⟩ (.bool s1)).setCell ⟨b, i * 4 + 1, none⟩ (.slice p1 n1 c1)).setCell ⟨b, i * 4 + 2, none⟩ (.bool s2)).setCell ⟨b, i * 4 + 3, none⟩ (.slice p2 n2 c2)) b n (upd rs i ((s1, p1, n1, c1), (s2, p2, n2, c2))) := by
  obtain ⟨cur, h, hs, h2, h3⟩ := h
  refine ⟨put4 cur (i * 4) ((s1, p1, n1, c1), (s2, p2, n2, c2)), ?_, by rw [size_put4]; exact hs, fun k hk => ?_, ni_put4 h3 _ _⟩
  · exact heap_set (heap_set (heap_set (heap_set h _) _) _) _
  · by_cases hki : k = i
    · subst hki
      rw [upd_self]
      exact C4.self cur (by omega) _
    · rw [upd_ne _ _ hki]
      exact (h2 k hk).far hki
theorem NRw.far {w : World} {b n g : Nat} {rs : Nat → Nr} (h : NRw w b n rs) (i : Nat) (hne : g ≠ b) (s1 : Bool) (p1 : Option Addr) (n1 c1 : Nat) (s2 : Bool) (p2 : Option Addr) (n2 c2 : Nat) : ((((w.setCell ⟨b, i * 4, none⟩ (.bool s1)).setCell ⟨b, i * 4 + 1, none⟩ (.slice p1 n1 c1)).setCell ⟨b, i * 4 + 2, none⟩ (.bool s2)).setCell ⟨b, i * 4 + 3, none⟩ (.slice p2 n2 c2)).heap[g]? = w.heap[g]? := by
  rw [Below.heap_setCell _ _ _ _ (by exact hne), Below.heap_setCell _ _ _ _ (by exact hne), Below.heap_setCell _ _ _ _ (by exact hne), Below.heap_setCell _ _ _ _ (by exact hne)]
theorem NRw.below {w0 w : World} {K b n : Nat} {rs : Nat → Nr} (h : NRw w b n rs) (hb : Below K w0 w) (i : Nat) (hK : K ≤ b) (s1 : Bool) (p1 : Option Addr) (n1 c1 : Nat) (s2 : Bool) (p2 : Option Addr) (n2 c2 : Nat) : Below K w0 ((((w.setCell ⟨b, i * 4, none⟩ (.bool s1)).setCell ⟨b, i * 4 + 1, none⟩ (.slice p1 n1 c1)).setCell ⟨b, i * 4 + 2, none⟩ (.bool s2)).setCell ⟨b, i * 4 + 3, none⟩ (.slice p2 n2 c2)) :=
  (((hb.setCell (p := ⟨b, i * 4, none⟩) hK _).setCell (p := ⟨b, i * 4 + 1, none⟩) hK _).setCell (p := ⟨b, i * 4 + 2, none⟩) hK _).setCell (p := ⟨b, i * 4 + 3, none⟩) hK _
theorem NRw.dr {w : World} {b n : Nat} {rs : Nat → Nr} (h : NRw w b n rs) : NRw w.drew b n rs := h
theorem rwo {w w' : World} {b n : Nat} {rs : Nat → Nr} (h : Hid (NRw w b n rs)) (hb : Below w.heap.size w w') : Hid (NRw w' b n rs) := hid (h.out.on hb)
theorem NF.grown {w w' : World} {v : Value} {q : Rat} {g : Nat} (h : NF w v q) (hn : NoInt w g) (hg : w.grownBy w' (some g)) : NF w' v q := h.moved fun _ _ _ hv => by
  obtain ⟨s, sv, xs, h1, h2, h3⟩ := hv
  exact ⟨s, sv, xs, h1, h2.grown hn hg, h3⟩
theorem NF.put {w : World} {v : Value} {q : Rat} {b n : Nat} {rs : Nat → Nr} (h : NF w v q) (hr : NRw w b n rs) (i : Nat) (s1 : Bool) (p1 : Option Addr) (n1 c1 : Nat) (s2 : Bool) (p2 : Option Addr) (n2 c2 : Nat) : NF ((((w.setCell ⟨b, i * 4, none⟩ (.bool s1)).setCell ⟨b, i * 4 + 1, none⟩ (.slice p1 n1 c1)).setCell ⟨b, i * 4 + 2, none⟩ (.bool s2)).setCell ⟨b, i * 4 + 3, none⟩ (.slice p2 n2 c2)) v q := h.grown hr.noint (set4_grown w b i s1 p1 n1 c1 s2 p2 n2 c2)
theorem NF.zero (w : World) : NF w (nag Nz) 0 := ⟨1, _, _, _, _, _, _, _, _, rfl, cells_whl_zero w 1, 0, cells_whl_zero w 1, .inr ⟨rfl, rfl⟩⟩
/-! The same, where the walk writes the place otherwise. -/
theorem NRw.cellsO {w : World} {b n : Nat} {rs : Nat → Nr} (h : NRw w b n rs) {i : Nat} (hi : i < n) {o : Nat} (ho : o = i * 4) : w.cell? ⟨b, o, none⟩ = some (.bool (rs i).1.1) ∧ w.cell? ⟨b, o + 1, none⟩ = some (.slice (rs i).1.2.1 (rs i).1.2.2.1 (rs i).1.2.2.2) ∧ w.cell? ⟨b, o + 2, none⟩ = some (.bool (rs i).2.1) ∧ w.cell? ⟨b, o + 3, none⟩ = some (.slice (rs i).2.2.1 (rs i).2.2.2.1 (rs i).2.2.2.2) := by subst ho; exact h.cells hi
theorem NRw.storesO {w : World} {b n : Nat} {rs : Nat → Nr} (h : NRw w b n rs) {i : Nat} (hi : i < n) {o : Nat} (ho : o = i * 4) :
    (w.cell? ⟨b, o, none⟩ = some (.bool (rs i).1.1) ∧ w.frozen? ⟨b, o, none⟩ = false) ∧
    ((∀ x, (w.setCell ⟨b, o, none⟩ x).cell? ⟨b, o + 1, none⟩ = some (.slice (rs i).1.2.1 (rs i).1.2.2.1 (rs i).1.2.2.2)) ∧ (∀ x, (w.setCell ⟨b, o, none⟩ x).frozen? ⟨b, o + 1, none⟩ = false)) ∧
    ((∀ x y, ((w.setCell ⟨b, o, none⟩ x).setCell ⟨b, o + 1, none⟩ y).cell? ⟨b, o + 2, none⟩ = some (.bool (rs i).2.1)) ∧ (∀ x y, ((w.setCell ⟨b, o, none⟩ x).setCell ⟨b, o + 1, none⟩ y).frozen? ⟨b, o + 2, none⟩ = false)) ∧
    ((∀ x y z, (((w.setCell ⟨b, o, none⟩ x).setCell ⟨b, o + 1, none⟩ y).setCell ⟨b, o + 2, none⟩ z).cell? ⟨b, o + 3, none⟩ = some (.slice (rs i).2.2.1 (rs i).2.2.2.1 (rs i).2.2.2.2)) ∧ (∀ x y z, (((w.setCell ⟨b, o, none⟩ x).setCell ⟨b, o + 1, none⟩ y).setCell ⟨b, o + 2, none⟩ z).frozen? ⟨b, o + 3, none⟩ = false)) := by subst ho; exact h.stores hi
theorem set4_grownO (w : World) (b i : Nat) {o : Nat} (ho : o = i * 4) (s1 : Bool) (p1 : Option Addr) (n1 c1 : Nat) (s2 : Bool) (p2 : Option Addr) (n2 c2 : Nat) : w.grownBy ((((w.setCell ⟨b, o, none⟩ (.bool s1)).setCell ⟨b, o + 1, none⟩ (.slice p1 n1 c1)).setCell ⟨b, o + 2, none⟩ (.bool s2)).setCell ⟨b, o + 3, none⟩ (.slice p2 n2 c2)) (some b) := by subst ho; exact set4_grown w b i s1 p1 n1 c1 s2 p2 n2 c2
theorem NRw.putO {w : World} {b n : Nat} {rs : Nat → Nr} (h : NRw w b n rs) {i : Nat} (hi : i < n) {o : Nat} (ho : o = i * 4) (s1 : Bool) (p1 : Option Addr) (n1 c1 : Nat) (s2 : Bool) (p2 : Option Addr) (n2 c2 : Nat) :
    NRw ((((w.setCell ⟨b, o, none⟩ (.bool s1)).setCell ⟨b, o + 1, none⟩ (.slice p1 n1 c1)).setCell ⟨b, o + 2, none⟩ (.bool s2)).setCell ⟨b, o + 3, none⟩ (.slice p2 n2 c2)) b n (upd rs i ((s1, p1, n1, c1), (s2, p2, n2, c2))) := by subst ho; exact h.put hi s1 p1 n1 c1 s2 p2 n2 c2
theorem NRw.farO {w : World} {b n g : Nat} {rs : Nat → Nr} (h : NRw w b n rs) (i : Nat) (hne : g ≠ b) {o : Nat} (ho : o = i * 4) (s1 : Bool) (p1 : Option Addr) (n1 c1 : Nat) (s2 : Bool) (p2 : Option Addr) (n2 c2 : Nat) : ((((w.setCell ⟨b, o, none⟩ (.bool s1)).setCell ⟨b, o + 1, none⟩ (.slice p1 n1 c1)).setCell ⟨b, o + 2, none⟩ (.bool s2)).setCell ⟨b, o + 3, none⟩ (.slice p2 n2 c2)).heap[g]? = w.heap[g]? := by subst ho; exact h.far i hne s1 p1 n1 c1 s2 p2 n2 c2
theorem NRw.belowO {w0 w : World} {K b n : Nat} {rs : Nat → Nr} (h : NRw w b n rs) (hb : Below K w0 w) (i : Nat) (hK : K ≤ b) {o : Nat} (ho : o = i * 4) (s1 : Bool) (p1 : Option Addr) (n1 c1 : Nat) (s2 : Bool) (p2 : Option Addr) (n2 c2 : Nat) : Below K w0 ((((w.setCell ⟨b, o, none⟩ (.bool s1)).setCell ⟨b, o + 1, none⟩ (.slice p1 n1 c1)).setCell ⟨b, o + 2, none⟩ (.bool s2)).setCell ⟨b, o + 3, none⟩ (.slice p2 n2 c2)) := by subst ho; exact h.below hb i hK s1 p1 n1 c1 s2 p2 n2 c2
theorem NF.putO {w : World} {v : Value} {q : Rat} {b n : Nat} {rs : Nat → Nr} (h : NF w v q) (hr : NRw w b n rs) (i : Nat) {o : Nat} (ho : o = i * 4) (s1 : Bool) (p1 : Option Addr) (n1 c1 : Nat) (s2 : Bool) (p2 : Option Addr) (n2 c2 : Nat) : NF ((((w.setCell ⟨b, o, none⟩ (.bool s1)).setCell ⟨b, o + 1, none⟩ (.slice p1 n1 c1)).setCell ⟨b, o + 2, none⟩ (.bool s2)).setCell ⟨b, o + 3, none⟩ (.slice p2 n2 c2)) v q := by subst ho; exact h.put hr i s1 p1 n1 c1 s2 p2 n2 c2
/-! All blocks but one. -/
theorem gby_refl (w : World) (row : Option Nat) : w.grownBy w row := ⟨rfl, rfl, rfl, Nat.le_refl _, fun _ _ _ => rfl⟩
theorem gby_tr {w0 w w' : World} {row : Option Nat} (h : w0.grownBy w row) (h2 : w.grownBy w' row) : w0.grownBy w' row :=
  ⟨h2.os.trans h.os, h2.tape.trans h.tape, h2.output.trans h.output, Nat.le_trans h.size h2.size, fun k hk hne => (h2.block k (Nat.lt_of_lt_of_le hk h.size) hne).trans (h.block k hk hne)⟩
theorem gby_on {w0 w w' : World} {row : Option Nat} (h : Hid (w0.grownBy w row)) (hb : Below w.heap.size w w') : Hid (w0.grownBy w' row) :=
  hid ⟨hb.os.trans h.out.os, hb.tape.trans h.out.tape, hb.output.trans h.out.output, Nat.le_trans h.out.size hb.size, fun k hk hne => (hb.block k (Nat.lt_of_lt_of_le hk h.out.size)).trans (h.out.block k hk hne)⟩
theorem gby_set4 {w0 w : World} {row : Option Nat} {g : Nat} (h : w0.grownBy w row) (hg : w0.heap.size ≤ g) (x0 x1 x2 x3 : Value) : w0.grownBy ((((w.setCell ⟨g, 0, none⟩ x0).setCell ⟨g, 1, none⟩ x1).setCell ⟨g, 2, none⟩ x2).setCell ⟨g, 3, none⟩ x3) row :=
  ⟨h.os, h.tape, h.output, by simpa [World.setCell] using h.size, fun k hk hne => (heap4 (by omega) x0 x1 x2 x3).trans (h.block k hk hne)⟩
/-- A slice value reads as these fractions. -/
def PN (w : World) (v : Value) (l : List Rat) : Prop := ∃ (a : Option Addr) (c : Nat) (rs : Nat → Nr), v = .slice a l.length c ∧ l.length ≤ c ∧ c ≤ maxLen ∧ ∀ i, i < l.length → ∃ b, a = some ⟨b, 0, none⟩ ∧ b < w.heap.size ∧ At4 w b (i * 4) (rs i) ∧ NF w (nag (rs i)) (co l i)
theorem PN.on {w w' : World} {v : Value} {l : List Rat} (h : PN w v l) (hb : Below w.heap.size w w') : PN w' v l := by
  obtain ⟨a, c, rs, h1, h2, h3, h4⟩ := h
  refine ⟨a, c, rs, h1, h2, h3, fun i hi => ?_⟩
  obtain ⟨b, e, hl, ha, hq⟩ := h4 i hi
  exact ⟨b, e, Nat.lt_of_lt_of_le hl hb.size, ha.kept (hb.block b hl), hq.on hb⟩
theorem PN.opened {w : World} {v : Value} {l : List Rat} (h : PN w v l) : ∃ a c, v = .slice a l.length c ∧ l.length ≤ c ∧ c ≤ maxLen := by
  obtain ⟨a, c, rs, h1, h2, h3, _⟩ := h
  exact ⟨a, c, h1, h2, h3⟩
theorem PN.nil (w : World) {a : Option Addr} {c : Nat} (hc : c ≤ maxLen) : PN w (.slice a 0 c) [] := ⟨a, c, fun _ => Nz, rfl, Nat.zero_le _, hc, fun i hi => absurd hi (Nat.not_lt_zero _)⟩
theorem PN.take {w : World} {l : List Rat} {a : Option Addr} {n c m : Nat} (h : PN w (.slice a n c) l) (hm : m ≤ l.length) : PN w (.slice a m c) (l.take m) := by
  obtain ⟨a', c', rs, h1, h2, h3, h4⟩ := h
  obtain ⟨rfl, rfl, rfl⟩ := Value.slice.inj h1
  have hl : (l.take m).length = m := by rw [List.length_take]; omega
  refine ⟨a, c, rs, by rw [hl], by omega, h3, fun i hi => ?_⟩
  rw [hl] at hi
  rw [co_take hi]
  exact h4 i (by omega)
theorem NRw.pn {w : World} {b n c : Nat} {rs : Nat → Nr} {l : List Rat} (h : NRw w b n rs) (hl : l.length = n) (hn : n ≤ c) (hc : c ≤ maxLen) (hq : ∀ i, i < n → NF w (nag (rs i)) (co l i)) : PN w (.slice (some ⟨b, 0, none⟩) n c) l :=
  ⟨_, c, rs, by rw [hl], by omega, hc, fun i hi => ⟨b, rfl, h.lt, h.at (by omega), hq i (by omega)⟩⟩
theorem made4 {z : Array Value} (hz : z.size = 4) {n i k : Nat} (hi : i < n) (hk : k < 4) : (madeCells z (n * 4))[i * 4 + k]? = z[k]? := by
  have h : i * 4 + k < n * 4 := by omega
  have hm : (i * 4 + k) % 4 = k := by omega
  simp [madeCells, h, hz, hm, hk]
/-- 'make(Polynomial, n)'. -/
theorem wpList_make_ns (w : World) {ops : Array Oper} {rest : List Oper} {o : Oper} {a : Act} {Q : Exit → Act → World → Prop}
    (hg : o.guard = none) (l c : Operand) (t : TypeId) (hop : o.op = Op.makeSlice t l c) (h1 : Try.prog.underlying t = some (.slice 52))
    (n : Nat) (hl : a.eval l = .int .i64 n) (hc : a.eval c = .int .i64 n) (hb : n ≤ 1000000000000)
    (hK : ∀ w', NRw w' w.heap.size n (fun _ => Nz) → Below w.heap.size w w' → w'.heap.size = w.heap.size + 1 → wpList Try.prog ops Q rest (a.put o.dst (.slice (some ⟨w.heap.size, 0, none⟩) n n)) w') :
    wpList Try.prog ops Q (o :: rest) a w := by
  obtain ⟨i, hi, hz0, hz1, hz2⟩ := info_parts infoN
  refine wpList_plain hg fun K hK' => ?_
  have hr := run_make (P := Try.prog) w t _ i _ h1 hi hz0 .i64 .i64 (n : Int) (n : Int) (by omega) (by omega) (by rw [hz2]; omega) (by omega)
  simp only [Int.toNat_natCast] at hr
  unfold Oper.wp
  simp [execOp, hop, hl, hc, hr, Result.andThen]
  rw [hz1]
  have hcs : (Value.agg #[.bool false, .slice none 0 0, .bool false, .slice none 0 0]).cells = #[.bool false, .slice none 0 0, .bool false, .slice none 0 0] := by simp [Value.cells]
  rw [hcs]
  refine hK' _ _ (hK _ ⟨_, by show (w.heap.push _)[w.heap.size]? = _; simp; rfl, by simp [madeCells], fun j hj => ?_, fun u hu => ?_⟩ ((Below.refl _ _).alloc (Nat.le_refl _) _) (by simp))
  · refine ⟨?_, ?_, ?_, ?_⟩
    · exact made4 (k := 0) rfl hj (by decide)
    · exact made4 (k := 1) rfl hj (by decide)
    · exact made4 (k := 2) rfl hj (by decide)
    · exact made4 (k := 3) rfl hj (by decide)
  · simp only [madeCells, List.mem_map, Array.toList_map, Array.toList_range] at hu
    simp at hu
    obtain ⟨j, hj, rfl⟩ := hu
    have hm := Nat.mod_lt j (show 0 < 4 by omega)
    rcases (show j % 4 = 0 ∨ j % 4 = 1 ∨ j % 4 = 2 ∨ j % 4 = 3 by omega) with h | h | h | h <;> rw [h]
    · exact NI.bool _
    · exact NI.slc _ _ _
    · exact NI.bool _
    · exact NI.slc _ _ _

end Go.Proofs.Ytkenlaikhnoldaa

/-
  POLYNOMIALS WITH WHOLE COEFFICIENTS, IN MEMORY: rows of Integers.
-/
namespace Go.Proofs.Ytkenlaikhnoldaa
open Go.RowKit
open Num
set_option linter.unusedVariables false
set_option maxRecDepth 100000
set_option linter.unusedSimpArgs false

theorem infoI : (Try.prog.info? 50).map (fun i => (i.zero, i.size, i.bytes)) = some (some (.agg #[.bool false, .slice none 0 0]), 2, 32) := by kernel_rfl
/-- A value reads as an integer, its size apart. -/
def ZF (w : World) (v : Value) (z : Int) : Prop := ∃ k, Whl w v z k
theorem Whl.zf {w : World} {v : Value} {z : Int} {k : Nat} (h : Whl w v z k) : ZF w v z := ⟨k, h⟩
/-- So many limbs of the reference's are enough. -/
def Zm (z : Int) (m : Nat) : Prop := z.natAbs < Num4.B ^ m
theorem Zm.mono {z : Int} {m n : Nat} (h : Zm z m) (hn : m ≤ n) : Zm z n := Nat.lt_of_lt_of_le h (Nat.pow_le_pow_right (by decide) hn)
theorem Zm.mul {z y : Int} {m n : Nat} (h : Zm z m) (h' : Zm y n) : Zm (z * y) (m + n) := by
  unfold Zm
  rw [Int.natAbs_mul, Nat.pow_add]
  exact Nat.mul_lt_mul'' h h'
theorem Zm.one : Zm 1 1 := by unfold Zm; decide
theorem Zm.pow {z : Int} {m : Nat} (h : Zm z m) : ∀ n : Nat, Zm (z ^ n) (n * m + 1)
  | 0 => by rw [Int.pow_zero, Nat.zero_mul]; exact Zm.one
  | n + 1 => by rw [Int.pow_succ, show (n + 1) * m + 1 = (n * m + 1) + m by rw [Nat.succ_mul]; omega]; exact (Zm.pow h n).mul h
theorem Zm.sub {z y : Int} {m : Nat} (h : Zm z m) (h' : Zm y m) : Zm (z - y) (m + 1) := by
  unfold Zm at *
  have e : Num4.B ^ (m + 1) = Num4.B ^ m * 10000 := rfl
  rw [e]; omega
theorem Zm.le {z y : Int} {m : Nat} (h : Zm z m) (hy : y.natAbs ≤ z.natAbs) : Zm y m := Nat.lt_of_le_of_lt hy h
theorem ZF.whl {w : World} {v : Value} {z : Int} {m : Nat} (h : ZF w v z) (hs : Zm z m) : Whl w v z m := by
  obtain ⟨k, h⟩ := h
  exact h.fit m (Nat.lt_of_lt_of_le hs (pow_up m))
theorem ZF.on {w w' : World} {v : Value} {z : Int} (h : ZF w v z) (hb : Below w.heap.size w w') : ZF w' v z := by
  obtain ⟨k, h⟩ := h
  exact ⟨k, h.on hb⟩
theorem zf {w w' : World} {v : Value} {z : Int} (h : Hid (ZF w v z)) (hb : Below w.heap.size w w') : Hid (ZF w' v z) := hid (h.out.on hb)
theorem ZF.opened {w : World} {v : Value} {z : Int} (h : ZF w v z) : ∃ s p n c, v = .agg #[.bool s, .slice p n c] := by
  obtain ⟨k, h⟩ := h
  exact h.opened
theorem ZF.moved {w w' : World} {v : Value} {z : Int} (h : ZF w v z) (hm : ∀ v z k, Whl w v z k → Whl w' v z k) : ZF w' v z := by
  obtain ⟨k, h⟩ := h
  exact ⟨k, hm _ _ _ h⟩
theorem ZF.drew {w : World} {v : Value} {z : Int} (h : ZF w v z) : ZF w.drew v z := h.on (Below.drew (Below.refl _ _))
theorem ZF.cast {w : World} {v : Value} {z y : Int} (h : ZF w v z) (e : z = y) : ZF w v y := by rw [← e]; exact h
theorem ZF.zero (w : World) : ZF w (.agg #[.bool false, .slice none 0 0]) 0 := ⟨1, cells_whl_zero w 1⟩
theorem zmul_f {w : World} {v u : Value} {z y : Int} {m n : Nat} (h : ZF w v z) (h' : ZF w u y) (hz : Zm z m) (hy : Zm y n) (hm : m ≤ 68719476736) (hn : n ≤ 68719476736) :
    Calls Try.prog 43 #[v, u] w fun e w' => ∃ v, e = .returned v ∧ ZF w' v (z * y) ∧ Below w.heap.size w w' := by
  refine (mul_whl (h.whl hz) (h'.whl hy) (by omega) (by omega)).mono ?_
  rintro e w' ⟨v, rfl, hv, hb⟩
  exact ⟨v, rfl, hv.zf, hb⟩
theorem zsub_f {w : World} {v u : Value} {z y : Int} {m n : Nat} (h : ZF w v z) (h' : ZF w u y) (hz : Zm z m) (hy : Zm y n) (hm : m ≤ 68719476736) (hn : n ≤ 68719476736) :
    Calls Try.prog 70 #[v, u] w fun e w' => ∃ v, e = .returned v ∧ ZF w' v (z - y) ∧ Below w.heap.size w w' := by
  refine (sub_whl (h.whl hz) (h'.whl hy) (by omega) (by omega)).mono ?_
  rintro e w' ⟨v, rfl, hv, hb⟩
  exact ⟨v, rfl, hv.zf, hb⟩
theorem zdiv_f {w : World} {v u : Value} {z y : Int} {m n : Nat} (h : ZF w v z) (h' : ZF w u y) (h0 : y ≠ 0) (hz : Zm z m) (hy : Zm y n) (hm : m ≤ 68719476736) (hn : n ≤ 68719476736) :
    Calls Try.prog 63 #[v, u] w fun e w' => ∃ v u, e = .returned (.tuple #[v, u, .nilIface]) ∧ ZF w' v (z / y) ∧ ZF w' u (z % y) ∧ Below w.heap.size w w' := by
  refine (div_whl (h.whl hz) (h'.whl hy) h0 (by omega) (by omega)).mono ?_
  rintro e w' ⟨v, u, rfl, hv, hu, hb⟩
  exact ⟨v, u, rfl, hv.zf, hu.zf, hb⟩
theorem zgcd_f {w : World} {v u : Value} {z y : Int} {m : Nat} (h : ZF w v z) (h' : ZF w u y) (hz : Zm z m) (hy : Zm y m) (hm : m ≤ 68719476736) :
    Calls Try.prog 48 #[v, u] w fun e w' => ∃ v, e = .returned v ∧ ZF w' v (Int.gcd z y) ∧ Below w.heap.size w w' := by
  refine (zgcd_whl (h.whl hz) (h'.whl hy) (by omega)).mono ?_
  rintro e w' ⟨v, rfl, hv, hb⟩
  exact ⟨v, rfl, hv.zf, hb⟩
theorem zsgn_f {w : World} {v : Value} {z y : Int} (h : ZF w v z) (hy : z.sign = y) :
    Calls Try.prog 55 #[v] w fun e w' => e = .returned (.int .i64 y) ∧ Below w.heap.size w w' := by
  rw [← hy]
  obtain ⟨k, h⟩ := h
  exact sgn_whl h
/-! Rows. -/
def iag (r : Zr) : Value := .agg #[.bool r.1, .slice r.2.1 r.2.2.1 r.2.2.2]
def Iz : Zr := (false, none, 0, 0)
def C2 (cur : Array Value) (j : Nat) (r : Zr) : Prop := cur[j]? = some (.bool r.1) ∧ cur[j + 1]? = some (.slice r.2.1 r.2.2.1 r.2.2.2)
def At2 (w : World) (b j : Nat) (r : Zr) : Prop := w.cell? ⟨b, j, none⟩ = some (.bool r.1) ∧ w.cell? ⟨b, j + 1, none⟩ = some (.slice r.2.1 r.2.2.1 r.2.2.2)
theorem At2.of {w : World} {b j : Nat} {cur : Array Value} {T : TypeId} {f : Nat × Nat} {r : Zr} (h : w.heap[b]? = some (.cells cur T f)) (hc : C2 cur j r) : At2 w b j r := by
  obtain ⟨h0, h1⟩ := hc
  refine ⟨?_, ?_⟩ <;> simp [World.cell?, h, h0, h1]
theorem At2.kept {w w' : World} {b j : Nat} {r : Zr} (h : At2 w b j r) (e : w'.heap[b]? = w.heap[b]?) : At2 w' b j r := by
  obtain ⟨h0, h1⟩ := h
  exact ⟨(World.cell?_of_block e).trans h0, (World.cell?_of_block e).trans h1⟩
theorem C2.other {cur : Array Value} {j k : Nat} {r : Zr} (h : C2 cur j r) (hk : k < j ∨ j + 1 < k) (x : Value) : C2 (cur.setIfInBounds k x) j r := by
  obtain ⟨h0, h1⟩ := h
  refine ⟨?_, ?_⟩
  · rw [Array.getElem?_setIfInBounds_ne (by omega)]; exact h0
  · rw [Array.getElem?_setIfInBounds_ne (by omega)]; exact h1
def put2 (cur : Array Value) (j : Nat) (r : Zr) : Array Value := (cur.setIfInBounds j (.bool r.1)).setIfInBounds (j + 1) (.slice r.2.1 r.2.2.1 r.2.2.2)
theorem C2.self (cur : Array Value) {j : Nat} (h : j + 1 < cur.size) (r : Zr) : C2 (put2 cur j r) j r := by
  unfold put2
  refine ⟨?_, ?_⟩
  · rw [Array.getElem?_setIfInBounds_ne (by omega), Array.getElem?_setIfInBounds_self_of_lt (by omega)]
  · rw [Array.getElem?_setIfInBounds_self_of_lt (by simp; omega)]
theorem C2.far {cur : Array Value} {i j : Nat} {r s : Zr} (h : C2 cur (i * 2) r) (hne : i ≠ j) : C2 (put2 cur (j * 2) s) (i * 2) r := (h.other (by omega) _).other (by omega) _
theorem size_put2 (cur : Array Value) (j : Nat) (r : Zr) : (put2 cur j r).size = cur.size := by simp [put2]
theorem ni_put2 {cur : Array Value} (h : ∀ u ∈ cur.toList, NI u) (j : Nat) (r : Zr) : ∀ u ∈ (put2 cur j r).toList, NI u := by
  intro u hu
  unfold put2 at hu
  rcases mem_set hu with hu | rfl
  · rcases mem_set hu with hu | rfl
    · exact h u hu
    · exact NI.bool _
  · exact NI.slc _ _ _
/-- Another one at a place. -/
def upi (rs : Nat → Zr) (i : Nat) (r : Zr) : Nat → Zr := fun k => if k = i then r else rs k
theorem upi_self (rs : Nat → Zr) (i : Nat) (r : Zr) : upi rs i r i = r := if_pos rfl
theorem upi_ne (rs : Nat → Zr) {i k : Nat} (r : Zr) (h : k ≠ i) : upi rs i r k = rs k := if_neg h
/-- Block b begins with n Integers, may be written, and holds no numbers of its own. -/
def IRw (w : World) (b n : Nat) (rs : Nat → Zr) : Prop := ∃ cur, w.heap[b]? = some (.cells cur 50 (0, 0)) ∧ n * 2 ≤ cur.size ∧ (∀ i, i < n → C2 cur (i * 2) (rs i)) ∧ ∀ u ∈ cur.toList, NI u
theorem IRw.lt {w : World} {b n : Nat} {rs : Nat → Zr} (h : IRw w b n rs) : b < w.heap.size := by
  obtain ⟨cur, h, _⟩ := h
  exact (Array.getElem?_eq_some_iff.1 h).1
theorem IRw.kept {w w' : World} {b n : Nat} {rs : Nat → Zr} (h : IRw w b n rs) (e : w'.heap[b]? = w.heap[b]?) : IRw w' b n rs := by
  obtain ⟨cur, h, h2⟩ := h
  exact ⟨cur, e.trans h, h2⟩
theorem IRw.on {w w' : World} {b n : Nat} {rs : Nat → Zr} (h : IRw w b n rs) (hb : Below w.heap.size w w') : IRw w' b n rs := h.kept (hb.block b h.lt)
theorem IRw.at {w : World} {b n : Nat} {rs : Nat → Zr} (h : IRw w b n rs) {i : Nat} (hi : i < n) : At2 w b (i * 2) (rs i) := by
  obtain ⟨cur, h, _, h2, _⟩ := h
  exact At2.of h (h2 i hi)
theorem IRw.cells {w : World} {b n : Nat} {rs : Nat → Zr} (h : IRw w b n rs) {i : Nat} (hi : i < n) : w.cell? ⟨b, i * 2, none⟩ = some (.bool (rs i).1) ∧ w.cell? ⟨b, i * 2 + 1, none⟩ = some (.slice (rs i).2.1 (rs i).2.2.1 (rs i).2.2.2) := h.at hi
theorem IRw.noint {w : World} {b n : Nat} {rs : Nat → Zr} (h : IRw w b n rs) : NoInt w b := by
  obtain ⟨cur, h, _, _, h2⟩ := h
  intro cur' T f e u hu
  rw [h] at e
  cases e
  exact h2 u hu
theorem IRw.less {w : World} {b n m : Nat} {rs : Nat → Zr} (h : IRw w b n rs) (hm : m ≤ n) : IRw w b m rs := by
  obtain ⟨cur, h, h1, h2, h3⟩ := h
  exact ⟨cur, h, by omega, fun i hi => h2 i (by omega), h3⟩
/-- What a walk needs to write the i-th one. -/
theorem IRw.stores {w : World} {b n : Nat} {rs : Nat → Zr} (h : IRw w b n rs) {i : Nat} (hi : i < n) :
    (w.cell? ⟨b, i * 2, none⟩ = some (.bool (rs i).1) ∧ w.frozen? ⟨b, i * 2, none⟩ = false) ∧
    ((∀ x, (w.setCell ⟨b, i * 2, none⟩ x).cell? ⟨b, i * 2 + 1, none⟩ = some (.slice (rs i).2.1 (rs i).2.2.1 (rs i).2.2.2)) ∧ (∀ x, (w.setCell ⟨b, i * 2, none⟩ x).frozen? ⟨b, i * 2 + 1, none⟩ = false)) := by
  obtain ⟨cur, h, hs, h2, _⟩ := h
  obtain ⟨c0, c1⟩ := h2 i hi
  have fr : ∀ {w : World} {cur : Array Value} {k : Nat}, w.heap[b]? = some (.cells cur 50 (0, 0)) → w.frozen? ⟨b, k, none⟩ = false := by
    intro w cur k h
    simp [World.frozen?, h]
  refine ⟨⟨by simp [World.cell?, h, c0], fr h⟩, fun x => ?_, fun x => fr (heap_set h x)⟩
  simp only [World.cell?, heap_set h x]
  rw [Array.getElem?_setIfInBounds_ne (by omega)]; exact c1
theorem set2_grown (w : World) (b i : Nat) (s : Bool) (p : Option Addr) (n c : Nat) : w.grownBy ((w.setCell ⟨b, i * 2, none⟩ (.bool s)).setCell ⟨b, i * 2 + 1, none⟩ (.slice p n c)) (some b) :=
  ⟨rfl, rfl, rfl, by simp [World.setCell], fun k _ hk => by
    rw [Below.heap_setCell _ _ _ _ (by intro e; exact hk (congrArg some e)), Below.heap_setCell _ _ _ _ (by intro e; exact hk (congrArg some e))]⟩
theorem IRw.put {w : World} {b m : Nat} {rs : Nat → Zr} (h : IRw w b m rs) {i : Nat} (hi : i < m) (s : Bool) (p : Option Addr) (n c : Nat) :
    IRw ((w.setCell ⟨b, i * 2, none⟩ (.bool s)).setCell ⟨b, i * 2 + 1, none⟩ (.slice p n c)) b m (upi rs i (s, p, n, c)) := by
  obtain ⟨cur, h, hs, h2, h3⟩ := h
  refine ⟨put2 cur (i * 2) (s, p, n, c), ?_, by rw [size_put2]; exact hs, fun k hk => ?_, ni_put2 h3 _ _⟩
  · exact heap_set (heap_set h _) _
  · by_cases hki : k = i
    · subst hki
      rw [upi_self]
      exact C2.self cur (by omega) _
    · rw [upi_ne _ _ hki]
      exact (h2 k hk).far hki
theorem IRw.far {w : World} {b m g : Nat} {rs : Nat → Zr} (h : IRw w b m rs) (i : Nat) (hne : g ≠ b) (s : Bool) (p : Option Addr) (n c : Nat) : ((w.setCell ⟨b, i * 2, none⟩ (.bool s)).setCell ⟨b, i * 2 + 1, none⟩ (.slice p n c)).heap[g]? = w.heap[g]? := by
  rw [Below.heap_setCell _ _ _ _ (by exact hne), Below.heap_setCell _ _ _ _ (by exact hne)]
theorem IRw.below {w0 w : World} {K b m : Nat} {rs : Nat → Zr} (h : IRw w b m rs) (hb : Below K w0 w) (i : Nat) (hK : K ≤ b) (s : Bool) (p : Option Addr) (n c : Nat) : Below K w0 ((w.setCell ⟨b, i * 2, none⟩ (.bool s)).setCell ⟨b, i * 2 + 1, none⟩ (.slice p n c)) :=
  (hb.setCell (p := ⟨b, i * 2, none⟩) hK _).setCell (p := ⟨b, i * 2 + 1, none⟩) hK _
theorem IRw.dr {w : World} {b n : Nat} {rs : Nat → Zr} (h : IRw w b n rs) : IRw w.drew b n rs := h
theorem rwi {w w' : World} {b n : Nat} {rs : Nat → Zr} (h : Hid (IRw w b n rs)) (hb : Below w.heap.size w w') : Hid (IRw w' b n rs) := hid (h.out.on hb)
theorem ZF.grown {w w' : World} {v : Value} {z : Int} {g : Nat} (h : ZF w v z) (hn : NoInt w g) (hg : w.grownBy w' (some g)) : ZF w' v z := h.moved fun _ _ _ hv => by
  obtain ⟨s, sv, xs, h1, h2, h3⟩ := hv
  exact ⟨s, sv, xs, h1, h2.grown hn hg, h3⟩
theorem ZF.iput {w : World} {v : Value} {z : Int} {b m : Nat} {rs : Nat → Zr} (h : ZF w v z) (hr : IRw w b m rs) (i : Nat) (s : Bool) (p : Option Addr) (n c : Nat) : ZF ((w.setCell ⟨b, i * 2, none⟩ (.bool s)).setCell ⟨b, i * 2 + 1, none⟩ (.slice p n c)) v z := h.grown hr.noint (set2_grown w b i s p n c)
theorem NF.iput {w : World} {v : Value} {z : Rat} {b m : Nat} {rs : Nat → Zr} (h : NF w v z) (hr : IRw w b m rs) (i : Nat) (s : Bool) (p : Option Addr) (n c : Nat) : NF ((w.setCell ⟨b, i * 2, none⟩ (.bool s)).setCell ⟨b, i * 2 + 1, none⟩ (.slice p n c)) v z := h.grown hr.noint (set2_grown w b i s p n c)
theorem ZF.put {w : World} {v : Value} {z : Int} {b n : Nat} {rs : Nat → Nr} (h : ZF w v z) (hr : NRw w b n rs) (i : Nat) (s1 : Bool) (p1 : Option Addr) (n1 c1 : Nat) (s2 : Bool) (p2 : Option Addr) (n2 c2 : Nat) : ZF ((((w.setCell ⟨b, i * 4, none⟩ (.bool s1)).setCell ⟨b, i * 4 + 1, none⟩ (.slice p1 n1 c1)).setCell ⟨b, i * 4 + 2, none⟩ (.bool s2)).setCell ⟨b, i * 4 + 3, none⟩ (.slice p2 n2 c2)) v z := h.grown hr.noint (set4_grown w b i s1 p1 n1 c1 s2 p2 n2 c2)
/-! The same, where the walk writes the place otherwise. -/
theorem IRw.cellsO {w : World} {b n : Nat} {rs : Nat → Zr} (h : IRw w b n rs) {i : Nat} (hi : i < n) {o : Nat} (ho : o = i * 2) : w.cell? ⟨b, o, none⟩ = some (.bool (rs i).1) ∧ w.cell? ⟨b, o + 1, none⟩ = some (.slice (rs i).2.1 (rs i).2.2.1 (rs i).2.2.2) := by subst ho; exact h.cells hi
theorem IRw.storesO {w : World} {b n : Nat} {rs : Nat → Zr} (h : IRw w b n rs) {i : Nat} (hi : i < n) {o : Nat} (ho : o = i * 2) :
    (w.cell? ⟨b, o, none⟩ = some (.bool (rs i).1) ∧ w.frozen? ⟨b, o, none⟩ = false) ∧
    ((∀ x, (w.setCell ⟨b, o, none⟩ x).cell? ⟨b, o + 1, none⟩ = some (.slice (rs i).2.1 (rs i).2.2.1 (rs i).2.2.2)) ∧ (∀ x, (w.setCell ⟨b, o, none⟩ x).frozen? ⟨b, o + 1, none⟩ = false)) := by subst ho; exact h.stores hi
theorem IRw.putO {w : World} {b m : Nat} {rs : Nat → Zr} (h : IRw w b m rs) {i : Nat} (hi : i < m) {o : Nat} (ho : o = i * 2) (s : Bool) (p : Option Addr) (n c : Nat) :
    IRw ((w.setCell ⟨b, o, none⟩ (.bool s)).setCell ⟨b, o + 1, none⟩ (.slice p n c)) b m (upi rs i (s, p, n, c)) := by subst ho; exact h.put hi s p n c
theorem IRw.farO {w : World} {b m g : Nat} {rs : Nat → Zr} (h : IRw w b m rs) (i : Nat) (hne : g ≠ b) {o : Nat} (ho : o = i * 2) (s : Bool) (p : Option Addr) (n c : Nat) : ((w.setCell ⟨b, o, none⟩ (.bool s)).setCell ⟨b, o + 1, none⟩ (.slice p n c)).heap[g]? = w.heap[g]? := by subst ho; exact h.far i hne s p n c
theorem IRw.belowO {w0 w : World} {K b m : Nat} {rs : Nat → Zr} (h : IRw w b m rs) (hb : Below K w0 w) (i : Nat) (hK : K ≤ b) {o : Nat} (ho : o = i * 2) (s : Bool) (p : Option Addr) (n c : Nat) : Below K w0 ((w.setCell ⟨b, o, none⟩ (.bool s)).setCell ⟨b, o + 1, none⟩ (.slice p n c)) := by subst ho; exact h.below hb i hK s p n c
/-- A slice value reads as these integers. -/
def IN (w : World) (v : Value) (l : List Int) : Prop := ∃ (a : Option Addr) (c : Nat) (rs : Nat → Zr), v = .slice a l.length c ∧ l.length ≤ c ∧ c ≤ maxLen ∧ ∀ i, i < l.length → ∃ b, a = some ⟨b, 0, none⟩ ∧ b < w.heap.size ∧ At2 w b (i * 2) (rs i) ∧ ZF w (iag (rs i)) (zc l i)
theorem IN.on {w w' : World} {v : Value} {l : List Int} (h : IN w v l) (hb : Below w.heap.size w w') : IN w' v l := by
  obtain ⟨a, c, rs, h1, h2, h3, h4⟩ := h
  refine ⟨a, c, rs, h1, h2, h3, fun i hi => ?_⟩
  obtain ⟨b, e, hl, ha, hq⟩ := h4 i hi
  exact ⟨b, e, Nat.lt_of_lt_of_le hl hb.size, ha.kept (hb.block b hl), hq.on hb⟩
theorem IN.opened {w : World} {v : Value} {l : List Int} (h : IN w v l) : ∃ a c, v = .slice a l.length c ∧ l.length ≤ c ∧ c ≤ maxLen := by
  obtain ⟨a, c, rs, h1, h2, h3, _⟩ := h
  exact ⟨a, c, h1, h2, h3⟩
theorem IN.nil (w : World) {a : Option Addr} {c : Nat} (hc : c ≤ maxLen) : IN w (.slice a 0 c) [] := ⟨a, c, fun _ => Iz, rfl, Nat.zero_le _, hc, fun i hi => absurd hi (Nat.not_lt_zero _)⟩
theorem zc_take {l : List Int} {i n : Nat} (h : i < n) : zc (l.take n) i = zc l i := by simp [zc, List.getElem?_take, h]
theorem IN.take {w : World} {l : List Int} {a : Option Addr} {n c m : Nat} (h : IN w (.slice a n c) l) (hm : m ≤ l.length) : IN w (.slice a m c) (l.take m) := by
  obtain ⟨a', c', rs, h1, h2, h3, h4⟩ := h
  obtain ⟨rfl, rfl, rfl⟩ := Value.slice.inj h1
  have hl : (l.take m).length = m := by rw [List.length_take]; omega
  refine ⟨a, c, rs, by rw [hl], by omega, h3, fun i hi => ?_⟩
  rw [hl] at hi
  rw [zc_take hi]
  exact h4 i (by omega)
theorem IRw.inn {w : World} {b n c : Nat} {rs : Nat → Zr} {l : List Int} (h : IRw w b n rs) (hl : l.length = n) (hn : n ≤ c) (hc : c ≤ maxLen) (hq : ∀ i, i < n → ZF w (iag (rs i)) (zc l i)) : IN w (.slice (some ⟨b, 0, none⟩) n c) l :=
  ⟨_, c, rs, by rw [hl], by omega, hc, fun i hi => ⟨b, rfl, h.lt, h.at (by omega), hq i (by omega)⟩⟩
theorem made2 {z : Array Value} (hz : z.size = 2) {n i k : Nat} (hi : i < n) (hk : k < 2) : (madeCells z (n * 2))[i * 2 + k]? = z[k]? := by
  have h : i * 2 + k < n * 2 := by omega
  have hm : (i * 2 + k) % 2 = k := by omega
  simp [madeCells, h, hz, hm, hk]
/-- 'make(integral, n)'. -/
theorem wpList_make_is (w : World) {ops : Array Oper} {rest : List Oper} {o : Oper} {a : Act} {Q : Exit → Act → World → Prop}
    (hg : o.guard = none) (l c : Operand) (t : TypeId) (hop : o.op = Op.makeSlice t l c) (h1 : Try.prog.underlying t = some (.slice 50))
    (n : Nat) (hl : a.eval l = .int .i64 n) (hc : a.eval c = .int .i64 n) (hb : n ≤ 1000000000000)
    (hK : ∀ w', IRw w' w.heap.size n (fun _ => Iz) → Below w.heap.size w w' → w'.heap.size = w.heap.size + 1 → wpList Try.prog ops Q rest (a.put o.dst (.slice (some ⟨w.heap.size, 0, none⟩) n n)) w') :
    wpList Try.prog ops Q (o :: rest) a w := by
  obtain ⟨i, hi, hz0, hz1, hz2⟩ := info_parts infoI
  refine wpList_plain hg fun K hK' => ?_
  have hr := run_make (P := Try.prog) w t _ i _ h1 hi hz0 .i64 .i64 (n : Int) (n : Int) (by omega) (by omega) (by rw [hz2]; omega) (by omega)
  simp only [Int.toNat_natCast] at hr
  unfold Oper.wp
  simp [execOp, hop, hl, hc, hr, Result.andThen]
  rw [hz1]
  have hcs : (Value.agg #[.bool false, .slice none 0 0]).cells = #[.bool false, .slice none 0 0] := by simp [Value.cells]
  rw [hcs]
  refine hK' _ _ (hK _ ⟨_, by show (w.heap.push _)[w.heap.size]? = _; simp; rfl, by simp [madeCells], fun j hj => ?_, fun u hu => ?_⟩ ((Below.refl _ _).alloc (Nat.le_refl _) _) (by simp))
  · exact ⟨made2 (k := 0) rfl hj (by decide), made2 (k := 1) rfl hj (by decide)⟩
  · simp only [madeCells, List.mem_map, Array.toList_map, Array.toList_range] at hu
    simp at hu
    obtain ⟨j, hj, rfl⟩ := hu
    have hm := Nat.mod_lt j (show 0 < 2 by omega)
    rcases (show j % 2 = 0 ∨ j % 2 = 1 by omega) with h | h <;> rw [h]
    · exact NI.bool _
    · exact NI.slc _ _ _
/-- One of them, at a later world. -/
theorem in_at {w w' : World} {l : List Int} {a : Option Addr} {n c : Nat} (h : IN w (.slice a n c) l) (hb : Below w.heap.size w w') {i : Nat} (hi : i < l.length) :
    ∃ b s p n c, a = some ⟨b, 0, none⟩ ∧ b < w.heap.size ∧ (w'.cell? ⟨b, i * 2, none⟩ = some (.bool s) ∧ w'.cell? ⟨b, i * 2 + 1, none⟩ = some (.slice p n c)) ∧ ZF w' (.agg #[.bool s, .slice p n c]) (zc l i) := by
  obtain ⟨a', c', rs, h1, h2, h3, h4⟩ := h
  obtain ⟨rfl, rfl, rfl⟩ := Value.slice.inj h1
  obtain ⟨b, e, hl, hA, hq⟩ := h4 i hi
  exact ⟨b, _, _, _, _, e, hl, hA.kept (hb.block b hl), hq.on hb⟩

end Go.Proofs.Ytkenlaikhnoldaa

/-
  PACKAGE pgcd: slices.Clone.
-/
namespace Go.Proofs.Ytkenlaikhnoldaa
open Go.RowKit
open Num
set_option linter.unusedVariables false
set_option maxRecDepth 100000
set_option linter.unusedSimpArgs false

/-- The k-th cell of an Integer. -/
def icell (r : Zr) (k : Nat) : Value := if k = 0 then .bool r.1 else .slice r.2.1 r.2.2.1 r.2.2.2
theorem icell_one (r : Zr) (k : Nat) : (icell r k).oneCell' = true ∧ NI (icell r k) := by
  unfold icell
  split
  · exact ⟨rfl, NI.bool _⟩
  · exact ⟨rfl, NI.slc _ _ _⟩
theorem At2.cell {w : World} {b i : Nat} {r : Zr} (h : At2 w b (i * 2) r) {j : Nat} (h1 : i * 2 ≤ j) (h2 : j < i * 2 + 2) : w.cell? ⟨b, j, none⟩ = some (icell r (j - i * 2)) := by
  obtain ⟨c0, c1⟩ := h
  rcases (show j = i * 2 ∨ j = i * 2 + 1 by omega) with h | h
  · rw [h, c0]; simp [icell]
  · rw [h, c1]; simp [icell]
def irow (rs : Nat → Zr) (n : Nat) : List Value := (List.range (n * 2)).map fun j => icell (rs (j / 2)) (j % 2)
theorem irow_len (rs : Nat → Zr) (n : Nat) : (irow rs n).length = n * 2 := by simp [irow]
theorem irow_get {rs : Nat → Zr} {n j : Nat} {u : Value} (h : (irow rs n)[j]? = some u) : j < n * 2 ∧ u = icell (rs (j / 2)) (j % 2) := by
  unfold irow at h
  rw [List.getElem?_map] at h
  obtain ⟨k, hk, rfl⟩ := Option.map_eq_some_iff.1 h
  obtain ⟨h1, h2⟩ := List.getElem?_eq_some_iff.1 hk
  simp at h1 h2
  subst h2
  exact ⟨h1, rfl⟩
theorem irow_at (rs : Nat → Zr) {n i k : Nat} (hi : i < n) (hk : k < 2) : (irow rs n)[i * 2 + k]? = some (icell (rs i) k) := by
  unfold irow
  rw [List.getElem?_map, List.getElem?_range (by omega)]
  simp only [Option.map_some]
  rw [show (i * 2 + k) / 2 = i by omega, show (i * 2 + k) % 2 = k by omega]

set_option maxHeartbeats 1000000 in
theorem zclone_at {w : World} {b n c : Nat} {rs : Nat → Zr} {q : Nat → Int} (hb : b < w.heap.size) (hA : ∀ i, i < n → At2 w b (i * 2) (rs i)) (hq : ∀ i, i < n → ZF w (iag (rs i)) (q i)) (hn0 : 1 ≤ n) (hn : n ≤ 1000000) :
    Calls Try.prog 69 #[.slice (some ⟨b, 0, none⟩) n c] w fun e w' => ∃ b' c', e = .returned (.slice (some ⟨b', 0, none⟩) n c') ∧ w.heap.size ≤ b' ∧ IRw w' b' n rs ∧ n ≤ c' ∧ c' ≤ maxLen ∧ (∀ i, i < n → ZF w' (iag (rs i)) (q i)) ∧ Below w.heap.size w w' := by
  obtain ⟨i0, hi, hz0, hz1, hz2⟩ := info_parts infoI
  have hb0 := (Below.refl w.heap.size w).alloc (Nat.le_refl _) (.cells #[] 50)
  have hnews : ∀ j u, (irow rs n)[j]? = some u → (w.alloc (.cells #[] 50)).cell? (Addr.add ⟨b, 0, none⟩ j) = some u := by
    intro j u hj
    obtain ⟨h1, rfl⟩ := irow_get hj
    rw [World.cell?_alloc_lt _ _ _ (by rw [Go.WideShapes.add_plain]; exact hb)]
    have h2 := (hA (j / 2) (by omega)).cell (j := j) (by omega) (by omega)
    rw [show j - j / 2 * 2 = j % 2 by omega] at h2
    rw [Go.WideShapes.add_plain, Nat.zero_add]
    exact h2
  have HNEWS := hid hnews
  have HNI : ∀ g, (Value.slice (some ⟨w.heap.size, 0, none⟩) 0 0).ownBlock = some g → NoInt (w.alloc (.cells #[] 50)) g := by
    intro g hg
    simp [Value.ownBlock] at hg
    subst hg
    exact NoInt.new w _ _ fun u hu => by simp at hu
  have HNI := hid HNI
  have hown := World.ownsRow_made (base := w.heap.size) (e := 50) (size := 2) w #[] 0 (Nat.le_refl _) (by unfold maxLen; omega) rfl
  have HO := hid hown
  have HQ := hid hq
  have HB := hid hb0
  clear hnews hown hA hq hb0
  have hq := eql_slice_nil 63 _ Try.underlying63
  go_enter Try.func69, Try.ntmps69
  go_wp2_with (at_builtin; refine wpList_append_ni rfl _ _ 63 rfl w.heap.size 50 i0 _ 2 32 Try.underlying63 hi hz0 hz1 hz2 rfl (by decide) _ _ _ rfl HO.out HNI.out ?c7 ⟨b, 0, none⟩ n c (irow rs n) rfl ?c0 ?c1 ?c2 ?c8 ?c3 ?c4 ?c5 ?_)
  case c7 =>
    intro u hu
    simp [Value.cells] at hu
    rcases hu with rfl | rfl <;> first | exact NI.bool _ | exact NI.slc _ _ _
  case c0 => exact irow_len rs n
  case c1 => exact HNEWS.out
  case c2 =>
    intro u hu
    obtain ⟨j, hj⟩ := List.getElem?_of_mem hu
    obtain ⟨_, rfl⟩ := irow_get hj
    exact (icell_one _ _).1
  case c8 =>
    intro u hu
    obtain ⟨j, hj⟩ := List.getElem?_of_mem hu
    obtain ⟨_, rfl⟩ := irow_get hj
    exact (icell_one _ _).2
  case c3 => unfold maxLen; omega
  case c4 => omega
  case c5 => simp
  intro v' w1 hown' hgrow hni
  have HO' := hid hown'
  have HN' := hid hni
  have hb2 : Below w.heap.size w w1 := HB.out.grown hgrow (by simp) (fun g hg => by simp [Value.ownBlock] at hg; omega)
  have HB2 := hid hb2
  clear hown' hgrow hni hb2
  go_wp2
  go_ret
  have ho := HO'.out
  have hbw := HB2.out
  rcases ho.2 with ⟨_, h0⟩ | ⟨g, cap, cur, rfl, hK, h1, h2, h3, h4, h5⟩
  · omega
  · refine ⟨g, cap, rfl, hK, ⟨cur, h1, by omega, fun i hi => ?_, HN'.out g rfl cur _ _ h1⟩, h2, h3, fun i hi => (HQ.out i hi).on hbw, hbw⟩
    have hc : ∀ k, k < 2 → cur[i * 2 + k]? = some (icell (rs i) k) := by
      intro k hk
      have h6 := irow_at rs hi hk
      rw [← h5, List.getElem?_take, if_pos (by omega), Array.getElem?_toList] at h6
      exact h6
    exact ⟨hc 0 (by decide), hc 1 (by decide)⟩
/-- A copy, in memory of its own. -/
theorem zclone {w : World} {v : Value} {l : List Int} (h : IN w v l) (h0 : l ≠ []) (hl : l.length ≤ 1000000) :
    Calls Try.prog 69 #[v] w fun e w' => ∃ b c rs, e = .returned (.slice (some ⟨b, 0, none⟩) l.length c) ∧ w.heap.size ≤ b ∧ IRw w' b l.length rs ∧ l.length ≤ c ∧ c ≤ maxLen ∧ (∀ i, i < l.length → ZF w' (iag (rs i)) (zc l i)) ∧ Below w.heap.size w w' := by
  obtain ⟨a, c, rs, rfl, hn, hc, hA⟩ := h
  have hp := List.length_pos_iff.2 h0
  obtain ⟨b, rfl, hb, _, _⟩ := hA 0 (by omega)
  refine (zclone_at (q := zc l) (rs := rs) hb (fun i hi => ?_) (fun i hi => ?_) (by omega) hl).mono ?_
  · obtain ⟨b', e, _, h1, _⟩ := hA i hi; cases e; exact h1
  · obtain ⟨b', e, _, _, h1⟩ := hA i hi; exact h1
  · rintro e w' ⟨b', c', rfl, h1, h2, h3, h4, h5, h6⟩
    exact ⟨b', c', rs, rfl, h1, h2, h3, h4, h5, h6⟩

end Go.Proofs.Ytkenlaikhnoldaa

/-
  PACKAGE pgcd: trim.
-/
namespace Go.Proofs.Ytkenlaikhnoldaa
open Go.RowKit
open Num
set_option linter.unusedVariables false
set_option maxRecDepth 100000
set_option linter.unusedSimpArgs false

/-- None is longer. -/
def Zl (l : List Int) (m : Nat) : Prop := ∀ i, Zm (zc l i) m
set_option maxHeartbeats 1000000 in
/-- Without noughts at the end. -/
theorem ztrim_in {w : World} {a : Option Addr} {n c : Nat} {l : List Int} (h : IN w (.slice a n c) l) :
    Calls Try.prog 49 #[.slice a n c] w fun e w' => ∃ k : Nat, e = .returned (.slice a k c) ∧ k ≤ n ∧ (∀ j, k ≤ j → zc l j = 0) ∧ (k = 0 ∨ zc l (k - 1) ≠ 0) ∧ Below w.heap.size w w' := by
  have HP := hid h
  obtain ⟨a', c', h1, hn, hc⟩ := h.opened
  obtain ⟨rfl, rfl, rfl⟩ := Value.slice.inj h1
  obtain ⟨n, hN⟩ : ∃ n, l.length = n := ⟨_, rfl⟩
  rw [hN] at hn HP ⊢
  have HN := hid hN
  unfold maxLen at hc
  clear hN h1 h
  go_enter Try.func49, Try.ntmps49
  go_wp2_with fail
  go_loopw [3] (fun i wr => ∃ k : Nat, k ≤ n ∧ i = .int .i64 k ∧ Hid (∀ j, k ≤ j → zc l j = 0) ∧ Hid (Below w.heap.size w wr)) (fun i _ => (intOf i).toNat)
  case atStart => exact ⟨n, Nat.le_refl _, rfl, hid (fun j hj => by have := HN.out; simp [zc, show l.length ≤ j by omega]), hid (Below.refl _ _)⟩
  case round =>
    obtain ⟨k, hk, rfl, HZ, B⟩ := hrel
    rcases k with _ | j
    · go_wp2_with fail
      go_ret
      exact ⟨0, rfl, Nat.zero_le _, HZ.out, .inl rfl, B.out⟩
    · obtain ⟨b, s1, p1, n1, c1, rfl, hb, cc, hq⟩ := in_at HP.out B.out (i := j) (by rw [HN.out]; omega)
      have HQ := hid hq
      clear hq hb
      by_cases h0 : zc l j = 0
      · have HZ2 : Hid (∀ i, j ≤ i → zc l i = 0) := hid (fun i hi => if h : i = j then h ▸ h0 else HZ.out i (by omega))
        have hs : (zc l j).sign = 0 := by rw [h0]; rfl
        clear h0
        go_wp2_with fail
        refine (zsgn_f HQ.out hs).mono ?_
        rintro e w1 ⟨rfl, hb1⟩
        replace B := bb B hb1
        clear hb1 hs
        go_wp2_with fail
        go_roundw
        case rel => exact ⟨j, by omega, by go_num, HZ2, B⟩
        case measure => simp [intOf]
      · have HE := hid h0
        obtain ⟨z, hz⟩ : ∃ z, (zc l j).sign = z := ⟨_, rfl⟩
        have hne : (z == 0) = false := by rw [beq_eq_false_iff_ne]; rintro rfl; exact h0 (Int.sign_eq_zero_iff_zero.1 hz)
        have HS := hid hz
        clear h0 hz
        go_wp2_with fail
        refine (zsgn_f HQ.out HS.out).mono ?_
        rintro e w1 ⟨rfl, hb1⟩
        replace B := bb B hb1
        clear hb1
        go_wp2_with fail
        go_ret
        exact ⟨j + 1, rfl, hk, HZ.out, .inr (by simpa using HE.out), B.out⟩

end Go.Proofs.Ytkenlaikhnoldaa

/-
  PACKAGE pgcd: divided.
-/
namespace Go.Proofs.Ytkenlaikhnoldaa
open Go.RowKit
open Num
set_option linter.unusedVariables false
set_option maxRecDepth 100000
set_option linter.unusedSimpArgs false

set_option maxHeartbeats 1000000 in
/-- How often one goes into another one. -/
theorem zdivd_f {w : World} {v u : Value} {z y : Int} {m n : Nat} (h : ZF w v z) (h' : ZF w u y) (h0 : y ≠ 0) (hz : Zm z m) (hy : Zm y n) (hm : m ≤ 68719476736) (hn : n ≤ 68719476736) :
    Calls Try.prog 47 #[v, u] w fun e w' => ∃ v, e = .returned v ∧ ZF w' v (z / y) ∧ Below w.heap.size w w' := by
  obtain ⟨s1, p1, n1, c1, rfl⟩ := h.opened
  obtain ⟨s2, p2, n2, c2, rfl⟩ := h'.opened
  have H0 := hid h0
  have HZ := hid hz
  have HY := hid hy
  have HM := hid hm
  have HN := hid hn
  have HA := hid h
  have HB := hid h'
  have B := hid (Below.refl w.heap.size w)
  obtain ⟨hb1, hx2, hs3⟩ := Box.made w s1 p1 n1 c1
  replace HA := zf HA hb1
  replace HB := zf HB hb1
  replace B := bb B hb1
  have X1 := hid hx2
  clear hb1 hx2
  obtain ⟨hb4, hx5, hs6⟩ := Box.made (w.alloc (.cells #[.bool s1, .slice p1 n1 c1] 50)) s2 p2 n2 c2
  rw [hs3] at hx5 hs6
  replace X1 := bx X1 hb4
  replace HA := zf HA hb4
  replace HB := zf HB hb4
  replace B := bb B hb4
  have X2 := hid hx5
  clear hb4 hx5
  obtain ⟨hb7, hx8, hs9⟩ := Box.made ((w.alloc (.cells #[.bool s1, .slice p1 n1 c1] 50)).alloc (.cells #[.bool s2, .slice p2 n2 c2] 50)) false none 0 0
  rw [hs6] at hx8 hs9
  replace X1 := bx X1 hb7
  replace X2 := bx X2 hb7
  replace HA := zf HA hb7
  replace HB := zf HB hb7
  replace B := bb B hb7
  have XQ := hid hx8
  clear hb7 hx8
  clear hs9 h h' h0 hz hy hm hn
  go_enter Try.func47, Try.ntmps47
  have cc10 := X1.out.both
  have cc11 := X2.out.both
  have cc12 := XQ.out.both
  go_wp2_with fail
  generalize hW : ((w.alloc (.cells #[.bool s1, .slice p1 n1 c1] 50)).alloc (.cells #[.bool s2, .slice p2 n2 c2] 50)).alloc (.cells #[.bool false, .slice none 0 0] 50) = W13 at *
  clear hW
  refine (zdiv_f HA.out HB.out H0.out HZ.out HY.out HM.out HN.out).mono ?_
  rintro e w14 ⟨v, u, rfl, hv, hu, hb⟩
  obtain ⟨s3, p3, n3, c3, rfl⟩ := hv.opened
  obtain ⟨s4, p4, n4, c4, rfl⟩ := hu.opened
  replace X1 := bx X1 hb
  replace X2 := bx X2 hb
  replace XQ := bx XQ hb
  replace HA := zf HA hb
  replace HB := zf HB hb
  replace B := bb B hb
  clear cc10 cc11 cc12
  have HV := hid hv
  clear hb hv hu
  obtain ⟨hb15, hx16, hs17⟩ := Box.made w14 s3 p3 n3 c3
  have L0 := hid XQ.out.lt
  replace X1 := bx X1 hb15
  replace X2 := bx X2 hb15
  replace XQ := bx XQ hb15
  replace HA := zf HA hb15
  replace HB := zf HB hb15
  replace HV := zf HV hb15
  replace B := bb B hb15
  have X5 := hid hx16
  clear hb15 hx16
  obtain ⟨hb18, hx19, hs20⟩ := Box.made (w14.alloc (.cells #[.bool s3, .slice p3 n3 c3] 50)) s4 p4 n4 c4
  rw [hs17] at hx19 hs20
  replace X1 := bx X1 hb18
  replace X2 := bx X2 hb18
  replace XQ := bx XQ hb18
  replace X5 := bx X5 hb18
  replace HA := zf HA hb18
  replace HB := zf HB hb18
  replace HV := zf HV hb18
  replace B := bb B hb18
  have X6 := hid hx19
  clear hb18 hx19
  have cc21 := X1.out.both
  have cc22 := X2.out.both
  have cc23 := XQ.out.both
  have cc24 := X5.out.both
  have cc25 := X6.out.both
  have cc26 := XQ.out.stores
  obtain ⟨r27a, r27b, r27c⟩ := XQ.out.last B.out (by have := L0.out; omega) s3 p3 n3 c3
  replace X1 := hid (X1.out.kept (heap2 (g := w.heap.size + 1 + 1) (by have := L0.out; omega) (.bool s3) (.slice p3 n3 c3)))
  replace X2 := hid (X2.out.kept (heap2 (g := w.heap.size + 1 + 1) (by have := L0.out; omega) (.bool s3) (.slice p3 n3 c3)))
  replace X5 := hid (X5.out.kept (heap2 (g := w.heap.size + 1 + 1) (by have := L0.out; omega) (.bool s3) (.slice p3 n3 c3)))
  replace X6 := hid (X6.out.kept (heap2 (g := w.heap.size + 1 + 1) (by have := L0.out; omega) (.bool s3) (.slice p3 n3 c3)))
  replace HA := hid (HA.out.moved fun _ _ _ hv => r27c hv)
  replace HB := hid (HB.out.moved fun _ _ _ hv => r27c hv)
  replace HV := hid (HV.out.moved fun _ _ _ hv => r27c hv)
  replace XQ := hid r27a
  replace B := hid r27b
  clear r27a r27b r27c
  go_wp2_with fail
  refine bodyPost_ret (res_one rfl rfl XQ.out) rfl ?_
  exact ⟨_, rfl, HV.out, B.out⟩

end Go.Proofs.Ytkenlaikhnoldaa

/-
  PACKAGE rat: Whole.
-/
namespace Go.Proofs.Ytkenlaikhnoldaa
open Go.RowKit
open Num
set_option linter.unusedVariables false
set_option maxRecDepth 100000
set_option linter.unusedSimpArgs false

set_option maxHeartbeats 400000 in
theorem wholeq {w : World} {v : Value} {z : Int} {k : Nat} (h : Whl w v z k) :
    Calls Try.prog 30 #[v] w fun e w' => ∃ v, e = .returned v ∧ Rtl w' v (z : Rat) k ∧ Below w.heap.size w w' := by
  obtain ⟨s1, p1, n1, c1, rfl⟩ := h.opened
  have B := hid (Below.refl w.heap.size w)
  have HZ := hid h
  obtain ⟨hb1, hx2, hs3⟩ := Box.made w s1 p1 n1 c1
  replace HZ := wl HZ hb1
  replace B := bb B hb1
  have X1 := hid hx2
  clear hb1 hx2
  obtain ⟨hb4, hx5, hs6⟩ := Nbx.made (w.alloc (.cells #[.bool s1, .slice p1 n1 c1] 50)) s1 false (.slice p1 n1 c1) (.slice none 0 0)
  rw [hs3] at hx5 hs6
  replace X1 := bx X1 hb4
  replace HZ := wl HZ hb4
  replace B := bb B hb4
  have XQ := hid hx5
  clear hb4 hx5
  clear hs6 h
  go_enter Try.func30, Try.ntmps30
  have cc7 := X1.out.both
  have cc8 := XQ.out.cells
  go_wp2_with fail
  refine bodyPost_ret (res_num rfl rfl XQ.out) rfl ?_
  exact ⟨_, rfl, Rtl.mk2 (by rw [Rat.num_intCast]; exact HZ.out) (cells_whl_zero _ k) (.inr ⟨rfl, Rat.den_intCast z⟩), B.out⟩

end Go.Proofs.Ytkenlaikhnoldaa

/-
  PACKAGE pgcd: over, polynomial.
-/
namespace Go.Proofs.Ytkenlaikhnoldaa
open Go.RowKit
open Num
set_option linter.unusedVariables false
set_option maxRecDepth 100000
set_option linter.unusedSimpArgs false

theorem zc_map (f : Int → Int) (h : f 0 = 0) (l : List Int) (i : Nat) : zc (l.map f) i = f (zc l i) := by
  unfold zc
  rw [List.getElem?_map]
  cases l[i]? <;> simp [h]
theorem zwhole_f {w : World} {v : Value} {z : Int} (h : ZF w v z) :
    Calls Try.prog 30 #[v] w fun e w' => ∃ v, e = .returned v ∧ NF w' v (z : Rat) ∧ Below w.heap.size w w' := by
  obtain ⟨k, h⟩ := h
  refine (wholeq h).mono ?_
  rintro e w' ⟨v, rfl, hv, hb⟩
  exact ⟨v, rfl, hv.nf, hb⟩

set_option maxHeartbeats 2000000 in
/-- Each of them divided. -/
theorem zover_p {w : World} {v u : Value} {l : List Int} {d : Int} {m n : Nat} (h : IN w v l) (hd : ZF w u d) (h0 : d ≠ 0) (hs : Zl l m) (hd' : Zm d n) (hm : m ≤ 68719476736) (hn : n ≤ 68719476736) (hl : l.length ≤ 1000000) :
    Calls Try.prog 51 #[v, u] w fun e w' => ∃ v', e = .returned v' ∧ IN w' v' (l.map (· / d)) ∧ (∀ g, v'.ownBlock = some g → w.heap.size ≤ g) ∧ Below w.heap.size w w' := by
  obtain ⟨a, c, rfl, hn1, hc1⟩ := h.opened
  obtain ⟨s1, p1, n1, c1, rfl⟩ := hd.opened
  have HP := hid h
  have HD := hid hd
  have H0 := hid h0
  have SL := hid hs
  have SD := hid hd'
  have HM := hid hm
  have HN := hid hn
  obtain ⟨nl, hNL⟩ : ∃ nl, l.length = nl := ⟨_, rfl⟩
  have NL := hid hNL
  rw [hNL] at hn1 hl HP ⊢
  unfold maxLen at hc1
  have B := hid (Below.refl w.heap.size w)
  obtain ⟨hb1, hx2, hs3⟩ := Box.made w s1 p1 n1 c1
  replace HD := zf HD hb1
  replace B := bb B hb1
  have X3 := hid hx2
  clear hb1 hx2
  have HSZ := hid hs3
  clear hs3 h hd h0 hs hd' hm hn hNL
  go_enter Try.func51, Try.ntmps51
  have cc4 := X3.out.both
  have HB := hid B.out.size
  have LX := hid X3.out.lt
  go_wp2_with (refine wpList_make_is _ rfl _ _ _ rfl Try.underlying63 nl rfl rfl (by omega) ?_)
  intro w0 hrow hb0 hs0
  generalize hW : w.alloc (.cells #[.bool s1, .slice p1 n1 c1] 50) = W5 at *
  clear hW
  rw [← HSZ.out] at hrow hb0 hs0 ⊢
  clear HSZ
  replace X3 := bx X3 hb0
  replace HD := zf HD hb0
  replace B := bb B hb0
  have ROW := hid hrow
  clear hrow hb0 hs0 cc4
  generalize W5.heap.size = b0 at *
  have cc := X3.out.both
  go_wp2_with fail
  clear cc
  have W0 : ∃ rs : Nat → Zr, Hid (IRw w0 b0 nl rs) := ⟨_, ROW⟩
  clear ROW
  obtain ⟨rs0, ROW⟩ := W0
  go_loopw [13] (fun x wr => ∃ (i : Nat) (rs : Nat → Zr), i ≤ nl ∧ x = .int .i64 i ∧ Hid (IRw wr b0 nl rs) ∧ Hid (∀ t, t < i → ZF wr (iag (rs t)) (zc l t / d)) ∧ Hid (Box wr w.heap.size s1 (.slice p1 n1 c1)) ∧ Hid (ZF wr (.agg #[.bool s1, .slice p1 n1 c1]) d) ∧ Hid (Below w.heap.size w wr)) (fun x _ => nl - (intOf x).toNat)
  case atStart => exact ⟨0, rs0, by omega, rfl, ROW, hid (fun t ht => by omega), X3, HD, B⟩
  case round =>
    clear ROW X3 HD B
    obtain ⟨i, rs, hi, rfl, ROW, HW, X3, HD, B⟩ := hrel
    by_cases hlt : i < nl
    · obtain ⟨b5, s5, p5, n5, c5, rfl, hb5, cd5, hq5⟩ := in_at HP.out B.out (i := i) (by rw [NL.out]; exact hlt)
      have HQ := hid hq5
      clear hq5
      have LB := hid ROW.out.lt
      obtain ⟨hb201, hx202, hs203⟩ := Box.made wr s5 p5 n5 c5
      have L3 := hid X3.out.lt
      replace X3 := bx X3 hb201
      replace HQ := zf HQ hb201
      replace HD := zf HD hb201
      replace ROW := rwi ROW hb201
      replace HW := hid (fun q_ hq_ => (HW.out q_ hq_).on hb201)
      replace B := bb B hb201
      have X7 := hid hx202
      clear hb201 hx202
      have cc204 := X3.out.both
      have cc205 := X7.out.both
      go_wp2_with fail
      refine (zdivd_f HQ.out HD.out H0.out (SL.out i) SD.out HM.out HN.out).mono ?_
      rintro e w206 ⟨v, rfl, hv, hb⟩
      obtain ⟨s8, p8, n8, c8, rfl⟩ := hv.opened
      replace X3 := bx X3 hb
      replace X7 := bx X7 hb
      replace HQ := zf HQ hb
      replace HD := zf HD hb
      replace ROW := rwi ROW hb
      replace HW := hid (fun q_ hq_ => (HW.out q_ hq_).on hb)
      replace B := bb B hb
      clear cc204 cc205
      have HX := hid hv
      clear hb hv cd5
      have cc207 := ROW.out.stores hlt
      replace X3 := hid (X3.out.kept (ROW.out.far i (by have := HB.out; have := LX.out; have := LB.out; have := L3.out; omega) s8 p8 n8 c8))
      replace X7 := hid (X7.out.kept (ROW.out.far i (by have := HB.out; have := LX.out; have := LB.out; have := L3.out; omega) s8 p8 n8 c8))
      replace HQ := hid (HQ.out.iput ROW.out i s8 p8 n8 c8)
      replace HD := hid (HD.out.iput ROW.out i s8 p8 n8 c8)
      replace HX := hid (HX.out.iput ROW.out i s8 p8 n8 c8)
      replace HW := hid (fun q_ hq_ => (HW.out q_ hq_).iput ROW.out i s8 p8 n8 c8)
      replace B := hid (ROW.out.below B.out i (by have := HB.out; have := LX.out; have := LB.out; have := L3.out; omega) s8 p8 n8 c8)
      replace ROW := hid (ROW.out.put hlt s8 p8 n8 c8)
      go_wp2_with fail
      go_roundw
      case rel => exact ⟨i + 1, _, by omega, by go_num, ROW, hid (fun t ht => by
          by_cases e : t = i
          · subst e; rw [upi_self]; exact HX.out
          · rw [upi_ne _ _ e]; exact HW.out t (by omega)), X3, HD, B⟩
      case measure => simp [intOf]; omega
    · obtain rfl : i = nl := by omega
      have HP2 : Hid (IN wr (.slice (some ⟨b0, 0, none⟩) i i) (l.map (· / d))) := hid (ROW.out.inn (by rw [List.length_map]; exact NL.out) (Nat.le_refl _) (by unfold maxLen; omega) (fun t ht => (HW.out t ht).cast (zc_map (· / d) (Int.zero_ediv d) l t).symm))
      go_wp2_with fail
      go_ret
      exact ⟨_, rfl, HP2.out, fun g hg => by simp [Value.ownBlock] at hg; have := HB.out; omega, B.out⟩

set_option maxHeartbeats 2000000 in
/-- With fractions. -/
theorem zpoly_p {w : World} {v : Value} {l : List Int} (h : IN w v l) (hl : l.length ≤ 1000000) :
    Calls Try.prog 34 #[v] w fun e w' => ∃ v', e = .returned v' ∧ PN w' v' (zq l) ∧ Below w.heap.size w w' := by
  obtain ⟨a, c, rfl, hn1, hc1⟩ := h.opened
  have HP := hid h
  obtain ⟨nl, hNL⟩ : ∃ nl, l.length = nl := ⟨_, rfl⟩
  have NL := hid hNL
  rw [hNL] at hn1 hl HP ⊢
  unfold maxLen at hc1
  clear h hNL
  go_enter Try.func34, Try.ntmps34
  go_wp2_with (refine wpList_make_ns _ rfl _ _ _ rfl Try.underlying36 nl rfl rfl (by omega) ?_)
  intro w0 hrow hb0 hs0
  have B := hid hb0
  have ROW := hid hrow
  clear hrow hb0 hs0
  go_wp2_with fail
  obtain ⟨b0, hb0⟩ : ∃ b0, b0 = w.heap.size := ⟨_, rfl⟩
  have HB := hid (show w.heap.size ≤ b0 by omega)
  rw [← hb0] at ROW ⊢
  clear hb0
  have W0 : ∃ rs : Nat → Nr, Hid (NRw w0 b0 nl rs) := ⟨_, ROW⟩
  clear ROW
  obtain ⟨rs0, ROW⟩ := W0
  go_loopw [11] (fun x wr => ∃ (i : Nat) (rs : Nat → Nr), i ≤ nl ∧ x = .int .i64 i ∧ Hid (NRw wr b0 nl rs) ∧ Hid (∀ t, t < i → NF wr (nag (rs t)) ((zc l t : Int) : Rat)) ∧ Hid (Below w.heap.size w wr)) (fun x _ => nl - (intOf x).toNat)
  case atStart => exact ⟨0, rs0, by omega, rfl, ROW, hid (fun t ht => by omega), B⟩
  case round =>
    clear ROW B
    obtain ⟨i, rs, hi, rfl, ROW, HW, B⟩ := hrel
    by_cases hlt : i < nl
    · obtain ⟨b5, s5, p5, n5, c5, rfl, hb5, cd5, hq5⟩ := in_at HP.out B.out (i := i) (by rw [NL.out]; exact hlt)
      have HQ := hid hq5
      clear hq5
      have LB := hid ROW.out.lt
      obtain ⟨hb201, hx202, hs203⟩ := Box.made wr s5 p5 n5 c5
      replace HQ := zf HQ hb201
      replace ROW := rwo ROW hb201
      replace HW := hid (fun q_ hq_ => (HW.out q_ hq_).on hb201)
      replace B := bb B hb201
      have X7 := hid hx202
      clear hb201 hx202
      have cc204 := X7.out.both
      go_wp2_with fail
      refine (zwhole_f HQ.out).mono ?_
      rintro e w205 ⟨v, rfl, hv, hb⟩
      obtain ⟨s8a, p8a, n8a, c8a, s8b, p8b, n8b, c8b, rfl⟩ := hv.opened
      replace X7 := bx X7 hb
      replace HQ := zf HQ hb
      replace ROW := rwo ROW hb
      replace HW := hid (fun q_ hq_ => (HW.out q_ hq_).on hb)
      replace B := bb B hb
      clear cc204
      have HX := hid hv
      clear hb hv cd5
      have cc206 := ROW.out.stores hlt
      replace X7 := hid (X7.out.kept (ROW.out.far i (by have := HB.out; have := LB.out; omega) s8a p8a n8a c8a s8b p8b n8b c8b))
      replace HX := hid (HX.out.put ROW.out i s8a p8a n8a c8a s8b p8b n8b c8b)
      replace HQ := hid (HQ.out.put ROW.out i s8a p8a n8a c8a s8b p8b n8b c8b)
      replace HW := hid (fun q_ hq_ => (HW.out q_ hq_).put ROW.out i s8a p8a n8a c8a s8b p8b n8b c8b)
      replace B := hid (ROW.out.below B.out i (by have := HB.out; have := LB.out; omega) s8a p8a n8a c8a s8b p8b n8b c8b)
      replace ROW := hid (ROW.out.put hlt s8a p8a n8a c8a s8b p8b n8b c8b)
      go_wp2_with fail
      go_roundw
      case rel => exact ⟨i + 1, _, by omega, by go_num, ROW, hid (fun t ht => by
          by_cases e : t = i
          · subst e; rw [upd_self]; exact HX.out
          · rw [upd_ne _ _ e]; exact HW.out t (by omega)), B⟩
      case measure => simp [intOf]; omega
    · obtain rfl : i = nl := by omega
      have HP2 : Hid (PN wr (.slice (some ⟨b0, 0, none⟩) i i) (zq l)) := hid (ROW.out.pn (by rw [zq_len]; exact NL.out) (Nat.le_refl _) (by unfold maxLen; omega) (fun t ht => (HW.out t ht).cast (co_zq l t).symm))
      go_wp2_with fail
      go_ret
      exact ⟨_, rfl, HP2.out, B.out⟩

end Go.Proofs.Ytkenlaikhnoldaa

/-
  PACKAGE pgcd: power.
-/
namespace Go.Proofs.Ytkenlaikhnoldaa
open Go.RowKit
open Num
set_option linter.unusedVariables false
set_option maxRecDepth 100000
set_option linter.unusedSimpArgs false

set_option maxHeartbeats 1000000 in
/-- So often, times. -/
theorem zpow_f {w : World} {v : Value} {z : Int} {m n : Nat} (h : ZF w v z) (hz : Zm z m) (hm : n * m + 1 + m ≤ 68719476736) (hn : n ≤ 1000000) :
    Calls Try.prog 52 #[v, .int .i64 n] w fun e w' => ∃ v, e = .returned v ∧ ZF w' v (z ^ n) ∧ Below w.heap.size w w' := by
  obtain ⟨s1, p1, n1, c1, rfl⟩ := h.opened
  have HZ := hid hz
  have HM := hid hm
  have HA := hid h
  have B := hid (Below.refl w.heap.size w)
  obtain ⟨hb1, hx2, hs3⟩ := Box.made w s1 p1 n1 c1
  replace HA := zf HA hb1
  replace B := bb B hb1
  have X2 := hid hx2
  clear hb1 hx2
  obtain ⟨hb4, hx5, hs6⟩ := Box.made (w.alloc (.cells #[.bool s1, .slice p1 n1 c1] 50)) false none 0 0
  rw [hs3] at hx5 hs6
  replace X2 := bx X2 hb4
  replace HA := zf HA hb4
  replace B := bb B hb4
  have X4 := hid hx5
  clear hb4 hx5
  clear hs6 h hz hm
  go_enter Try.func52, Try.ntmps52
  have cc7 := X2.out.both
  have cc8 := X4.out.both
  go_wp2_with fail
  generalize hW : (w.alloc (.cells #[.bool s1, .slice p1 n1 c1] 50)).alloc (.cells #[.bool false, .slice none 0 0] 50) = W9 at *
  clear hW
  refine (of_small 1 (by decide) _).mono ?_
  rintro e w10 ⟨v, rfl, hv, hb⟩
  obtain ⟨s3, p3, n3, c3, rfl⟩ := hv.opened
  replace X2 := bx X2 hb
  replace X4 := bx X4 hb
  replace HA := zf HA hb
  replace B := bb B hb
  clear cc7 cc8
  have HV := hid hv.zf
  clear hb hv
  obtain ⟨hb11, hx12, hs13⟩ := Box.made w10 s3 p3 n3 c3
  have L0 := hid X4.out.lt
  replace X2 := bx X2 hb11
  replace X4 := bx X4 hb11
  replace HA := zf HA hb11
  replace HV := zf HV hb11
  replace B := bb B hb11
  have X5 := hid hx12
  clear hb11 hx12
  have cc14 := X2.out.both
  have cc15 := X4.out.both
  have cc16 := X5.out.both
  go_wp2_with fail
  generalize hW : w10.alloc (.cells #[.bool s3, .slice p3 n3 c3] 50) = W17 at *
  clear hW
  obtain ⟨g5, hg5⟩ : ∃ g5, g5 = w10.heap.size := ⟨_, rfl⟩
  rw [← hg5] at X5 L0 ⊢
  clear hg5 cc14 cc15 cc16
  replace HV : Hid (ZF W17 (.agg #[.bool s3, .slice p3 n3 c3]) (z ^ 0)) := hid (HV.out.cast (by rw [Int.pow_zero]))
  go_loopw [8] (fun x wr => ∃ (k : Nat) (s5 : Bool) (p5 : Option Addr) (n5 c5 : Nat), k ≤ n ∧ x = .int .i64 k ∧ Hid (Box wr w.heap.size s1 (.slice p1 n1 c1)) ∧ Hid (Box wr (w.heap.size + 1) false (.slice none 0 0)) ∧ Hid (Box wr g5 s5 (.slice p5 n5 c5)) ∧ Hid (ZF wr (.agg #[.bool s1, .slice p1 n1 c1]) z) ∧ Hid (ZF wr (.agg #[.bool s5, .slice p5 n5 c5]) (z ^ k)) ∧ Hid (Below w.heap.size w wr)) (fun x _ => n - (intOf x).toNat)
  case atStart => exact ⟨0, _, _, _, _, by omega, rfl, X2, X4, X5, HA, HV, B⟩
  case round =>
    clear X2 X4 X5 HA HV B
    obtain ⟨k, s5, p5, n5, c5, hk, rfl, X2, X4, X5, HA, HV, B⟩ := hrel
    have hmm := HM.out
    by_cases hlt : k < n
    · have hp := HZ.out.pow k
      have HP := hid hp
      have hk2 : k * m ≤ n * m := Nat.mul_le_mul_right m hk
      clear hp
      have cc201 := X2.out.both
      have cc202 := X4.out.both
      have cc203 := X5.out.both
      go_wp2_with fail
      refine (zmul_f HV.out HA.out HP.out HZ.out (by omega) (by omega)).mono ?_
      rintro e w204 ⟨v, rfl, hv, hb⟩
      obtain ⟨s6, p6, n6, c6, rfl⟩ := hv.opened
      replace X2 := bx X2 hb
      replace X4 := bx X4 hb
      replace X5 := bx X5 hb
      replace HA := zf HA hb
      replace HV := zf HV hb
      replace B := bb B hb
      clear cc201 cc202 cc203
      have HX := hid hv
      clear hb hv
      have cc205 := X2.out.both
      have cc206 := X4.out.both
      have cc207 := X5.out.both
      have cc208 := X5.out.stores
      obtain ⟨r209a, r209b, r209c⟩ := X5.out.last B.out (by have := L0.out; omega) s6 p6 n6 c6
      replace X2 := hid (X2.out.kept (heap2 (g := g5) (by have := L0.out; omega) (.bool s6) (.slice p6 n6 c6)))
      replace X4 := hid (X4.out.kept (heap2 (g := g5) (by have := L0.out; omega) (.bool s6) (.slice p6 n6 c6)))
      replace HA := hid (HA.out.moved fun _ _ _ hv => r209c hv)
      replace HV := hid (HV.out.moved fun _ _ _ hv => r209c hv)
      replace HX := hid (HX.out.moved fun _ _ _ hv => r209c hv)
      replace X5 := hid r209a
      replace B := hid r209b
      clear r209a r209b r209c
      go_wp2_with fail
      go_roundw
      case rel => exact ⟨k + 1, _, _, _, _, by omega, by go_num, X2, X4, X5, HA, hid (HX.out.cast (Int.pow_succ z k).symm), B⟩
      case measure => simp [intOf]; omega
    · obtain rfl : k = n := by omega
      have cc401 := X2.out.both
      have cc402 := X4.out.both
      have cc403 := X5.out.both
      have cc404 := X4.out.stores
      obtain ⟨r405a, r405b, r405c⟩ := X4.out.last B.out (by have := L0.out; omega) s5 p5 n5 c5
      replace X2 := hid (X2.out.kept (heap2 (g := w.heap.size + 1) (by have := L0.out; omega) (.bool s5) (.slice p5 n5 c5)))
      replace X5 := hid (X5.out.kept (heap2 (g := w.heap.size + 1) (by have := L0.out; omega) (.bool s5) (.slice p5 n5 c5)))
      replace HA := hid (HA.out.moved fun _ _ _ hv => r405c hv)
      replace HV := hid (HV.out.moved fun _ _ _ hv => r405c hv)
      replace X4 := hid r405a
      replace B := hid r405b
      clear r405a r405b r405c
      go_wp2_with fail
      refine bodyPost_ret (res_one rfl rfl X4.out) rfl ?_
      exact ⟨_, rfl, HV.out, B.out⟩

end Go.Proofs.Ytkenlaikhnoldaa

/-
  PACKAGE pgcd: what holds in each round of gcd. Nothing of a program.
-/
namespace Go.Proofs.Ytkenlaikhnoldaa
open Go.RowKit
open Num
set_option linter.unusedVariables false
/-- How long what is left may be, by how many rounds there were. -/
def psA : Nat → Nat
  | 0 => 1
  | 1 => 1
  | n + 2 => psA n + 2 * psA (n + 1)
theorem psA_step : ∀ i s, 2 ≤ s → i + s ≤ 10 → psA i + s * psA (i + 1) ≤ psA (i + s) := by
  intro i s h1 h2
  have : ∀ i, i ≤ 10 → ∀ s, s ≤ 10 → 2 ≤ s → i + s ≤ 10 → psA i + s * psA (i + 1) ≤ psA (i + s) := by decide +kernel
  exact this i (by omega) s (by omega) h1 h2
theorem psA_mono {i j : Nat} (h : i ≤ j) (hj : j ≤ 10) : psA i ≤ psA j := by
  have : ∀ j, j ≤ 10 → ∀ i, i ≤ j → psA i ≤ psA j := by decide +kernel
  exact this j hj i h
theorem psA_self {n : Nat} (h1 : 1 ≤ n) (hn : n ≤ 10) : n ≤ psA n := by
  have : ∀ n, n ≤ 10 → 1 ≤ n → n ≤ psA n := by decide +kernel
  exact this n hn h1
def Szp (m : Nat) (p q : List Int) : Prop := ∃ a b, Zl p a ∧ Zl q b ∧ ((q.length < p.length ∧ a + 1 ≤ psA (10 - p.length) * (m + 1) ∧ b + 1 ≤ psA (11 - p.length) * (m + 1)) ∨ (q.length ≤ p.length ∧ a ≤ m ∧ b ≤ m))
theorem Szp.next {m : Nat} {p q : List Int} (h : Szp m p q) (h0 : q ≠ []) (hl : p.length ≤ 9) : ∃ a b, Zl p a ∧ Zl q b ∧ a + (p.length - q.length + 1) * (b + 1) + 1 ≤ 3363 * (m + 1) ∧ b + 1 ≤ 3363 * (m + 1) ∧ ∀ c : List Int, c.length < q.length → Zl c (a + (p.length - q.length + 1) * (b + 1)) → Szp m q c := by
  have hq := List.length_pos_iff.2 h0
  have e10 : psA 10 = 3363 := by decide
  obtain ⟨a, b, h1, h2, h3⟩ := h
  have key : a + (p.length - q.length + 1) * (b + 1) + 1 ≤ psA (11 - q.length) * (m + 1) ∧ b + 1 ≤ psA (10 - q.length) * (m + 1) := by
    rcases h3 with ⟨h3, h4, h5⟩ | ⟨h3, h4, h5⟩
    · have k1 := psA_step (10 - p.length) (p.length - q.length + 1) (by omega) (by omega)
      rw [show 10 - p.length + (p.length - q.length + 1) = 11 - q.length by omega, show 10 - p.length + 1 = 11 - p.length by omega] at k1
      have k2 := Nat.mul_le_mul_right (m + 1) k1
      have k3 := Nat.mul_le_mul_left (p.length - q.length + 1) h5
      have k4 := psA_mono (i := 11 - p.length) (j := 10 - q.length) (by omega) (by omega)
      have k5 := Nat.mul_le_mul_right (m + 1) k4
      rw [Nat.add_mul, Nat.mul_assoc] at k2
      omega
    · have k1 := psA_self (n := 11 - q.length) (by omega) (by omega)
      have k2 := Nat.mul_le_mul_right (m + 1) (show p.length - q.length + 1 + 1 ≤ psA (11 - q.length) by omega)
      have k3 := Nat.mul_le_mul_left (p.length - q.length + 1) (show b + 1 ≤ m + 1 by omega)
      have k4 := psA_self (n := 10 - q.length) (by omega) (by omega)
      have k5 := Nat.mul_le_mul_right (m + 1) (show 1 ≤ psA (10 - q.length) by omega)
      rw [Nat.add_mul] at k2
      omega
  have b1 := Nat.mul_le_mul_right (m + 1) (psA_mono (i := 11 - q.length) (j := 10) (by omega) (by omega))
  have b2 := Nat.mul_le_mul_right (m + 1) (psA_mono (i := 10 - q.length) (j := 10) (by omega) (by omega))
  rw [e10] at b1 b2
  refine ⟨a, b, h1, h2, by omega, by omega, fun c hc hz => ⟨b, _, h2, hz, .inl ⟨hc, key.2, key.1⟩⟩⟩
/-- A round's state. -/
def Gst (m : Nat) (lp lq p q : List Int) (g h : Int) : Prop := (Ztr p ∧ Ztr q ∧ p.length ≤ 9 ∧ q.length ≤ p.length) ∧ Szp m p q ∧ (g ≠ 0 ∧ h ≠ 0 ∧ Zm g (3363 * (m + 1)) ∧ Zm h (30000 * (m + 1))) ∧ gcdp (zq lp) (zq lq) = gcdp (zq p) (zq q) ∧ (q ≠ [] → SInv g h (zc p) (zc q) (p.length - 1) (q.length - 1))
theorem Gst.start {m : Nat} {p q : List Int} (hp : Ztr p) (hq : Ztr q) (hs : Zl p m) (hs' : Zl q m) (hl : p.length ≤ 9) (hle : q.length ≤ p.length) : Gst m p q p q 1 1 :=
  ⟨⟨hp, hq, hl, hle⟩, ⟨m, m, hs, hs', .inr ⟨hle, Nat.le_refl _, Nat.le_refl _⟩⟩, ⟨by decide, by decide, Zm.one.mono (by omega), Zm.one.mono (by omega)⟩, rfl, fun _ => SInv.start _ _ _ _⟩
theorem over_exact {r : List Int} {K : Int} (hK : K ≠ 0) (hd : ∀ i, K ∣ zc r i) (ht : Ztr r) : Ztr (r.map (· / K)) ∧ ∀ i, zc r i = K * zc (r.map (· / K)) i := by
  have e : ∀ i, zc r i = K * zc (r.map (· / K)) i := fun i => by
    rw [show zc (r.map (· / K)) i = zc r i / K from by
      unfold zc
      rw [List.getElem?_map]
      cases r[i]? <;> simp]
    exact (Int.mul_ediv_cancel' (hd i)).symm
  refine ⟨?_, e⟩
  rcases ht with rfl | ht
  · exact .inl rfl
  · refine .inr fun h => ht ?_
    rw [List.length_map] at h
    rw [e, h]; exact Int.mul_zero _
theorem Zl.over {r : List Int} {K : Int} {a : Nat} (h : Zl r a) : Zl (r.map (· / K)) a := fun i => by
  rw [show zc (r.map (· / K)) i = zc r i / K from by
    unfold zc
    rw [List.getElem?_map]
    cases r[i]? <;> simp]
  exact (h i).le (Int.natAbs_ediv_le_natAbs _ _)
theorem Gst.next {m d a b : Nat} {lp lq p q r : List Int} {g h : Int} (H : Gst m lp lq p q g h) (hd : q.length = d + 1) (hr : Ztr r) (hl : r.length ≤ d)
    (hS : SRed (zc q) (zc q d) (p.length - q.length) (p.length - q.length + 1) (zc p) (zc r)) (hb : Zl q b) (hbm : b + 1 ≤ 3363 * (m + 1)) (hz : Zl r (a + (p.length - q.length + 1) * (b + 1)))
    (hn : ∀ c : List Int, c.length < q.length → Zl c (a + (p.length - q.length + 1) * (b + 1)) → Szp m q c) :
    g * h ^ (p.length - q.length) ≠ 0 ∧ (∀ h', (q.length < p.length → h' = zc q d ^ (p.length - q.length) / h ^ (p.length - q.length - 1)) → (q.length = p.length → h' = h) → Gst m lp lq q (r.map (· / (g * h ^ (p.length - q.length)))) (zc q d) h') := by
  obtain ⟨⟨hp, hq, hl9, hle⟩, _, ⟨hg, hh, hgm, hhm⟩, he, hi⟩ := H
  have h0 : q ≠ [] := by rintro rfl; simp at hd
  have hi := hi h0
  have hd' : d = q.length - 1 := by omega
  have hdv := ig_rest hi hq h0 hle (by rw [hd'] at hS; exact hS) (fun i hi => zc_ge (by omega))
  have hK : g * h ^ (p.length - q.length) ≠ 0 := Int.mul_ne_zero hg (spow_ne hh _)
  obtain ⟨ht, hc⟩ := over_exact hK hdv hr
  have hl0 : zc q d ≠ 0 := by rw [hd']; exact hq.top h0
  refine ⟨hK, fun h' hs1 hs2 => ⟨⟨hq, ht, by omega, by rw [List.length_map]; omega⟩, hn _ (by rw [List.length_map]; omega) hz.over, ?_, ?_, ?_⟩⟩
  · by_cases hlt : q.length < p.length
    · have hsd := ig_scale hi h0 hlt
      rw [← hd'] at hsd
      have e1 : h' * h ^ (p.length - q.length - 1) = zc q d ^ (p.length - q.length) := by rw [hs1 hlt]; exact Int.ediv_mul_cancel hsd
      refine ⟨hl0, scale_ne hl0 (by rw [show p.length - q.length - 1 = (p.length - q.length) - 1 from rfl] at e1; exact e1), (hb d).mono (by omega), ?_⟩
      rw [hs1 hlt]
      have h1 : Zm (zc q d ^ (p.length - q.length) / h ^ (p.length - q.length - 1)) ((p.length - q.length) * b + 1) := ((hb d).pow _).le (Int.natAbs_ediv_le_natAbs _ _)
      refine h1.mono ?_
      have h2 := Nat.mul_le_mul_right b (show p.length - q.length ≤ 8 by omega)
      omega
    · rw [hs2 (by omega)]
      exact ⟨hl0, hh, (hb d).mono (by omega), hhm⟩
  · rw [he]
    exact ig_next hp hq h0 hle hg hh (by rw [hd'] at hS; exact hS) hc ht
  · intro hc0
    have h3 := ig_inv (h' := h') hi hq h0 hle hg hh (by rw [hd'] at hS; exact hS) hc (by rw [List.length_map]; omega) hc0 (fun e => hs2 (by omega)) (fun e => by
      have hsd := ig_scale hi h0 e
      rw [hs1 e, hd']
      exact Int.ediv_mul_cancel hsd)
    rw [← hd'] at h3
    rw [show q.length - 1 = d by omega]
    exact h3
theorem Gst.end {m : Nat} {lp lq p : List Int} {g h : Int} (H : Gst m lp lq p [] g h) : Ztr p ∧ p.length ≤ 9 ∧ mnc (zq p) = gcdp (zq lp) (zq lq) ∧ Zl p (3363 * (m + 1)) := by
  obtain ⟨⟨hp, _, hl9, _⟩, ⟨a, b, h1, _, h3⟩, _, he, _⟩ := H
  refine ⟨hp, hl9, ?_, fun i => (h1 i).mono ?_⟩
  · rw [he]
    exact (gcdp_end hp.trm).symm
  · rcases h3 with ⟨_, h4, _⟩ | ⟨_, h4, _⟩
    · have b1 := Nat.mul_le_mul_right (m + 1) (psA_mono (i := 10 - p.length) (j := 10) (by omega) (by omega))
      have e10 : psA 10 = 3363 := by decide
      rw [e10] at b1
      omega
    · omega
end Go.Proofs.Ytkenlaikhnoldaa

/-
  PACKAGE rat: Sign, Neg, Sub; a Number, its size apart.
-/
namespace Go.Proofs.Ytkenlaikhnoldaa
open Go.RowKit
open Num
set_option linter.unusedVariables false
set_option maxRecDepth 100000
set_option linter.unusedSimpArgs false

set_option maxHeartbeats 400000 in
theorem sgnq_rtl {w : World} {v : Value} {q : Rat} {k : Nat} (h : Rtl w v q k) :
    Calls Try.prog 36 #[v] w fun e w' => e = .returned (.int .i64 q.num.sign) ∧ Below w.heap.size w w' := by
  obtain ⟨s1a, p1a, n1a, c1a, s1b, p1b, n1b, c1b, rfl⟩ := h.opened
  obtain ⟨ht1, d1, hu1, hd1⟩ := h.two
  have HD1 := hid hd1
  have B := hid (Below.refl w.heap.size w)
  have HT := hid ht1
  obtain ⟨hb1, hx2, hs3⟩ := Nbx.made w s1a s1b (.slice p1a n1a c1a) (.slice p1b n1b c1b)
  replace HT := wl HT hb1
  replace B := bb B hb1
  have X1 := hid hx2
  clear hb1 hx2
  clear hs3 h ht1 hu1 hd1 HD1
  go_enter Try.func36, Try.ntmps36
  have cc4 := X1.out.cells
  go_wp2_with fail
  generalize hW : w.alloc (.cells #[.bool s1a, .slice p1a n1a c1a, .bool s1b, .slice p1b n1b c1b] 52) = W5 at *
  clear hW
  refine (sgn_whl HT.out).mono ?_
  rintro e w6 ⟨rfl, hb⟩
  replace B := bb B hb
  clear cc4
  clear hb 
  go_wp2_with fail
  go_ret
  exact ⟨rfl, B.out⟩

set_option maxHeartbeats 400000 in
theorem negq_rtl {w : World} {v : Value} {q : Rat} {k : Nat} (h : Rtl w v q k) :
    Calls Try.prog 84 #[v] w fun e w' => ∃ v, e = .returned v ∧ Rtl w' v (-q) k ∧ Below w.heap.size w w' := by
  obtain ⟨s1a, p1a, n1a, c1a, s1b, p1b, n1b, c1b, rfl⟩ := h.opened
  obtain ⟨ht1, d1, hu1, hd1⟩ := h.two
  have HD1 := hid hd1
  have B := hid (Below.refl w.heap.size w)
  have HT := hid ht1
  have HU := hid hu1
  obtain ⟨hb1, hx2, hs3⟩ := Nbx.made w s1a s1b (.slice p1a n1a c1a) (.slice p1b n1b c1b)
  replace HT := wl HT hb1
  replace HU := wl HU hb1
  replace B := bb B hb1
  have X1 := hid hx2
  clear hb1 hx2
  obtain ⟨hb4, hx5, hs6⟩ := Nbx.made (w.alloc (.cells #[.bool s1a, .slice p1a n1a c1a, .bool s1b, .slice p1b n1b c1b] 52)) false false (.slice none 0 0) (.slice none 0 0)
  rw [hs3] at hx5 hs6
  replace X1 := nx X1 hb4
  replace HT := wl HT hb4
  replace HU := wl HU hb4
  replace B := bb B hb4
  have XQ := hid hx5
  clear hb4 hx5
  clear hs6 h ht1 hu1 hd1
  go_enter Try.func84, Try.ntmps84
  have cc7 := X1.out.cells
  have cc8 := XQ.out.cells
  go_wp2_with fail
  generalize hW : (w.alloc (.cells #[.bool s1a, .slice p1a n1a c1a, .bool s1b, .slice p1b n1b c1b] 52)).alloc (.cells #[.bool false, .slice none 0 0, .bool false, .slice none 0 0] 52) = W9 at *
  clear hW
  have cc10 := X1.out.cells
  replace X1 := hid X1.out.dr
  replace XQ := hid XQ.out.dr
  replace HT := hid HT.out.drew
  replace HU := hid HU.out.drew
  replace B := hid (Below.drew B.out)
  have cc11 := X1.out.cells
  go_region_held3 (fun w' => w'.cell? ⟨w.heap.size, 0, none⟩ = some (.bool s1a) ∧ w'.cell? ⟨w.heap.size, 1, none⟩ = some (.slice p1a n1a c1a) ∧ w'.cell? ⟨w.heap.size, 2, none⟩ = some (.bool s1b) ∧ w'.cell? ⟨w.heap.size, 3, none⟩ = some (.slice p1b n1b c1b)) (go_keep) (first
    | (go_at_call 62; refine (neg_whl HT.out).mono ?_; rintro e w13 ⟨v, rfl, hv, hb⟩; obtain ⟨s3, p3, n3, c3, rfl⟩ := hv.opened; replace X1 := nx X1 hb; replace XQ := nx XQ hb; replace HT := wl HT hb; replace HU := wl HU hb; replace B := bb B hb; clear cc7 cc8 cc10 cc11; have HN := hid hv; clear hb hv; have cc14 := X1.out.cells; have cc15 := XQ.out.stores; obtain ⟨r16a, r16b, r16c⟩ := XQ.out.last B.out (by omega) s3 s1b p3 p1b n3 n1b c3 c1b; replace X1 := hid (X1.out.kept (heap4 (g := w.heap.size + 1) (by omega) (.bool s3) (.slice p3 n3 c3) (.bool s1b) (.slice p1b n1b c1b))); replace HT := hid (r16c HT.out); replace HU := hid (r16c HU.out); replace HN := hid (r16c HN.out); replace XQ := hid r16a; replace B := hid r16b; clear r16a r16b r16c; have cc17 := X1.out.cells; have mk12_0 := hid True.intro))
  go_wp2_with fail
  refine bodyPost_ret (res_num rfl rfl XQ.out) rfl ?_
  exact ⟨_, rfl, Rtl.mk2 (by rw [Rat.neg_num]; exact HN.out) HU.out (by rw [Rat.neg_den]; exact HD1.out), B.out⟩

theorem nsgn_f {w : World} {v : Value} {q : Rat} {z : Int} (h : NF w v q) (hz : q.num.sign = z) :
    Calls Try.prog 36 #[v] w fun e w' => e = .returned (.int .i64 z) ∧ Below w.heap.size w w' := by
  rw [← hz]
  obtain ⟨k, h⟩ := h
  exact sgnq_rtl h
theorem nneg_f {w : World} {v : Value} {q : Rat} (h : NF w v q) :
    Calls Try.prog 84 #[v] w fun e w' => ∃ v, e = .returned v ∧ NF w' v (-q) ∧ Below w.heap.size w w' := by
  obtain ⟨k, h⟩ := h
  refine (negq_rtl h).mono ?_
  rintro e w' ⟨v, rfl, hv, hb⟩
  exact ⟨v, rfl, hv.nf, hb⟩
theorem ndiv_f {w : World} {v u : Value} {q r : Rat} {m n : Nat} (h : NF w v q) (h' : NF w u r) (hq : Sm q m) (hr : Sm r n) (h0 : r ≠ 0) (hm : m ≤ 68719476736) (hn : n ≤ 68719476736) :
    Calls Try.prog 26 #[v, u] w fun e w' => ∃ v, e = .returned (.tuple #[v, .nilIface]) ∧ NF w' v (q / r) ∧ Below w.heap.size w w' := by
  refine (divq_some ((h.sm hq).mono (Nat.le_max_left m n)) ((h'.sm hr).mono (Nat.le_max_right m n)) h0 (by have := hq.pos; omega) (by omega)).mono ?_
  rintro e w' ⟨v, rfl, hv, hb⟩
  exact ⟨v, rfl, hv.nf, hb⟩
theorem nstr_f {w : World} {v : Value} {q : Rat} {m : Nat} (h : NF w v q) (hq : Sm q m) (hm : m ≤ 4294967296) :
    Calls Try.prog 24 #[v] w fun e w' => e = .returned (.string (qtxt q)) ∧ Below w.heap.size w w' := qstring (h.sm hq) hm

set_option maxHeartbeats 1000000 in
theorem nsub_f {w : World} {v u : Value} {q r : Rat} {m n : Nat} (h : NF w v q) (h' : NF w u r) (hq : Sm q m) (hr : Sm r n) (hm : m ≤ 68719476736) (hn : n ≤ 68719476736) :
    Calls Try.prog 75 #[v, u] w fun e w' => ∃ v, e = .returned v ∧ NF w' v (q - r) ∧ Below w.heap.size w w' := by
  obtain ⟨s1a, p1a, n1a, c1a, s1b, p1b, n1b, c1b, rfl⟩ := h.opened
  obtain ⟨s2a, p2a, n2a, c2a, s2b, p2b, n2b, c2b, rfl⟩ := h'.opened
  have HS := hid hq
  have HS' := hid hr
  have HM := hid hm
  have HN := hid hn
  have B := hid (Below.refl w.heap.size w)
  have HQ := hid h
  have HR := hid h'
  obtain ⟨hb1, hx2, hs3⟩ := Nbx.made w s1a s1b (.slice p1a n1a c1a) (.slice p1b n1b c1b)
  replace HQ := nf HQ hb1
  replace HR := nf HR hb1
  replace B := bb B hb1
  have X1 := hid hx2
  clear hb1 hx2
  obtain ⟨hb4, hx5, hs6⟩ := Nbx.made (w.alloc (.cells #[.bool s1a, .slice p1a n1a c1a, .bool s1b, .slice p1b n1b c1b] 52)) s2a s2b (.slice p2a n2a c2a) (.slice p2b n2b c2b)
  rw [hs3] at hx5 hs6
  replace X1 := nx X1 hb4
  replace HQ := nf HQ hb4
  replace HR := nf HR hb4
  replace B := bb B hb4
  have X2 := hid hx5
  clear hb4 hx5
  obtain ⟨hb7, hx8, hs9⟩ := Nbx.made ((w.alloc (.cells #[.bool s1a, .slice p1a n1a c1a, .bool s1b, .slice p1b n1b c1b] 52)).alloc (.cells #[.bool s2a, .slice p2a n2a c2a, .bool s2b, .slice p2b n2b c2b] 52)) false false (.slice none 0 0) (.slice none 0 0)
  rw [hs6] at hx8 hs9
  replace X1 := nx X1 hb7
  replace X2 := nx X2 hb7
  replace HQ := nf HQ hb7
  replace HR := nf HR hb7
  replace B := bb B hb7
  have XQ := hid hx8
  clear hb7 hx8
  clear hs9 h h' hq hr hm hn
  go_enter Try.func75, Try.ntmps75
  have cc10 := X1.out.cells
  have cc11 := X2.out.cells
  have cc12 := XQ.out.cells
  go_wp2_with fail
  generalize hW : ((w.alloc (.cells #[.bool s1a, .slice p1a n1a c1a, .bool s1b, .slice p1b n1b c1b] 52)).alloc (.cells #[.bool s2a, .slice p2a n2a c2a, .bool s2b, .slice p2b n2b c2b] 52)).alloc (.cells #[.bool false, .slice none 0 0, .bool false, .slice none 0 0] 52) = W13 at *
  clear hW
  have cc14 := X1.out.cells
  have cc15 := X2.out.cells
  replace X1 := hid X1.out.dr
  replace X2 := hid X2.out.dr
  replace XQ := hid XQ.out.dr
  replace HQ := hid HQ.out.drew
  replace HR := hid HR.out.drew
  replace B := hid (Below.drew B.out)
  have cc16 := X1.out.cells
  have cc17 := X2.out.cells
  go_region_held3 (fun w' => w'.cell? ⟨w.heap.size, 0, none⟩ = some (.bool s1a) ∧ w'.cell? ⟨w.heap.size, 1, none⟩ = some (.slice p1a n1a c1a) ∧ w'.cell? ⟨w.heap.size, 2, none⟩ = some (.bool s1b) ∧ w'.cell? ⟨w.heap.size, 3, none⟩ = some (.slice p1b n1b c1b) ∧ w'.cell? ⟨w.heap.size + 1, 0, none⟩ = some (.bool s2a) ∧ w'.cell? ⟨w.heap.size + 1, 1, none⟩ = some (.slice p2a n2a c2a) ∧ w'.cell? ⟨w.heap.size + 1, 2, none⟩ = some (.bool s2b) ∧ w'.cell? ⟨w.heap.size + 1, 3, none⟩ = some (.slice p2b n2b c2b)) (go_keep) (first
    | (have hm := mk18_0; clear hm; go_at_call 28; refine (nadd_f HQ.out HV.out HS.out HS'.out.neg HM.out HN.out).mono ?_; rintro e w22 ⟨v, rfl, hv, hb⟩; obtain ⟨s4a, p4a, n4a, c4a, s4b, p4b, n4b, c4b, rfl⟩ := hv.opened; replace X1 := nx X1 hb; replace X2 := nx X2 hb; replace XQ := nx XQ hb; replace HQ := nf HQ hb; replace HR := nf HR hb; replace HV := nf HV hb; replace B := bb B hb; clear cc20 cc21; have HW := hid hv; clear hb hv; have cc23 := X1.out.cells; have cc24 := X2.out.cells; have cc25 := XQ.out.stores; obtain ⟨r26a, r26b, r26c⟩ := XQ.out.last B.out (by omega) s4a s4b p4a p4b n4a n4b c4a c4b; replace X1 := hid (X1.out.kept (heap4 (g := w.heap.size + 1 + 1) (by omega) (.bool s4a) (.slice p4a n4a c4a) (.bool s4b) (.slice p4b n4b c4b))); replace X2 := hid (X2.out.kept (heap4 (g := w.heap.size + 1 + 1) (by omega) (.bool s4a) (.slice p4a n4a c4a) (.bool s4b) (.slice p4b n4b c4b))); replace HQ := hid (HQ.out.moved fun _ _ _ hv => r26c hv); replace HR := hid (HR.out.moved fun _ _ _ hv => r26c hv); replace HV := hid (HV.out.moved fun _ _ _ hv => r26c hv); replace HW := hid (HW.out.moved fun _ _ _ hv => r26c hv); replace XQ := hid r26a; replace B := hid r26b; clear r26a r26b r26c; have cc27 := X1.out.cells; have cc28 := X2.out.cells; have mk18_1 := hid True.intro)
    | (go_at_call 84; refine (nneg_f HR.out).mono ?_; rintro e w19 ⟨v, rfl, hv, hb⟩; obtain ⟨s3a, p3a, n3a, c3a, s3b, p3b, n3b, c3b, rfl⟩ := hv.opened; replace X1 := nx X1 hb; replace X2 := nx X2 hb; replace XQ := nx XQ hb; replace HQ := nf HQ hb; replace HR := nf HR hb; replace B := bb B hb; clear cc10 cc11 cc12 cc14 cc15 cc16 cc17; have HV := hid hv; clear hb hv; have cc20 := X1.out.cells; have cc21 := X2.out.cells; have mk18_0 := hid True.intro))
  go_wp2_with fail
  refine bodyPost_ret (res_num rfl rfl XQ.out) rfl ?_
  exact ⟨_, rfl, HW.out.cast (by grind), B.out⟩

end Go.Proofs.Ytkenlaikhnoldaa

/-
  Off, so much of a polynomial. Nothing of a program.
-/
namespace Go.Proofs.Ytkenlaikhnoldaa
open Go.RowKit
open Num
set_option linter.unusedVariables false
set_option maxRecDepth 100000
set_option linter.unusedSimpArgs false

/-- So much of q taken off, from a place on: so many of its coefficients so far. -/
def offq (R : Nat → Rat) (q : List Rat) (i : Nat) (f : Rat) (k j : Nat) : Rat := if i ≤ j ∧ j < i + k then R j - f * co q (j - i) else R j
theorem offq_start (R : Nat → Rat) (q : List Rat) (i : Nat) (f : Rat) (j : Nat) : offq R q i f 0 j = R j := if_neg (by omega)
theorem offq_self (R : Nat → Rat) (q : List Rat) (i : Nat) (f : Rat) (k : Nat) : offq R q i f k (i + k) = R (i + k) := if_neg (by omega)
theorem offq_next (R : Nat → Rat) (q : List Rat) (i : Nat) (f : Rat) (k : Nat) : offq R q i f (k + 1) (i + k) = R (i + k) - f * co q k := by
  rw [offq, if_pos (by omega), Nat.add_sub_cancel_left]
theorem offq_ne (R : Nat → Rat) (q : List Rat) (f : Rat) {i k j : Nat} (h : j ≠ i + k) : offq R q i f (k + 1) j = offq R q i f k j := by
  rw [offq, offq]
  by_cases h1 : i ≤ j ∧ j < i + k
  · rw [if_pos h1, if_pos (by omega)]
  · rw [if_neg h1, if_neg (by omega)]

end Go.Proofs.Ytkenlaikhnoldaa
