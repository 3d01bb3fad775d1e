import Derived.Test.YtokojbgpboccnaaBunProofSturmOwn14
import Derived.Test.YtokojbgpboccnaaBunProofSturmOwn13
import Derived.Deep.RegionHeld3
import Derived.Test.YtokojbgpboccnaaBunProofSturmOwn1
import Derived.Test.YtokojbgpboccnaaBunProofSturmOwn12
import Derived.Test.YtokojbgpboccnaaBunProofSturmOwn4
import Derived.WideShapes
/-
  PACKAGE rat: Parse.
-/
namespace Go.Proofs.Ytokojbgpboccnaa
open Go.RowKit
open Num
set_option linter.unusedVariables false
set_option maxRecDepth 100000
set_option linter.unusedSimpArgs false

/-- A fraction that may be handed in. -/
def GoodQ (s : ByteArray) : Prop := s.size ≤ 100 ∧ isRat s.data.toList = true
/-- What is wrong with a text. -/
def BadQ (s : ByteArray) (k : Int) : Prop := (100 < s.size ∧ k = 4) ∨ (s.size ≤ 100 ∧ isRat s.data.toList = false ∧ k = 1)
theorem goodQ_or_bad (s : ByteArray) : GoodQ s ∨ ∃ k, BadQ s k := by
  by_cases h : s.size ≤ 100
  · cases hn : isRat s.data.toList with
    | true => exact .inl ⟨h, hn⟩
    | false => exact .inr ⟨1, .inr ⟨h, hn, rfl⟩⟩
  · exact .inr ⟨4, .inl ⟨by omega, rfl⟩⟩
/-- The fraction of a text. -/
def qnum (s : ByteArray) : Rat := ratOf s.data.toList
/-- The error of two texts. -/
def WrongQ (a b : ByteArray) (k : Int) : Prop := BadQ a k ∨ (GoodQ a ∧ BadQ b k)
theorem divInt_coprime {n d : Int} (hd : 1 < d) (hg : Int.gcd n d = 1) : (Rat.divInt n d).num = n ∧ ((Rat.divInt n d).den : Int) = d := by
  have h := divInt_parts n d (by omega)
  rw [if_neg (by omega), hg] at h
  simpa using h
set_option maxHeartbeats 2000000 in
theorem qparseA (s : ByteArray) (w : World) (hs : s.size ≤ 68719476736) (hA : isWhl (cutB s.data.toList) = false) :
    Calls Try.prog 22 #[.string s] w fun e w' => e = .returned (.tuple #[.agg #[.bool false, .slice none 0 0, .bool false, .slice none 0 0], errno 1]) ∧ Below w.heap.size w w' := by
  have HA := hid hA
  have HS := hid hs
  have B := hid (Below.refl w.heap.size w)
  obtain ⟨hb1, hx2, hs3⟩ := Nbx.made w false false (.slice none 0 0) (.slice none 0 0)
  replace B := bb B hb1
  have XQ := hid hx2
  clear hb1 hx2
  clear hs3 hs hA
  go_enter Try.func22, Try.ntmps22
  have cc4 := XQ.out.cells
  go_wp2_with fail
  generalize hW : w.alloc (.cells #[.bool false, .slice none 0 0, .bool false, .slice none 0 0] 49) = W5 at *
  clear hW
  have HC := cut_slash s W5 (by have := HS.out; unfold maxLen; omega)
  refine (HC).mono ?_
  rintro e w6 ⟨a, b, rfl, ha, hbb, hsa, hsb, hb⟩
  have HAL := hid ha
  have HBL := hid hbb
  have HSA := hid hsa
  have HSB := hid hsb
  replace XQ := nx XQ hb
  replace B := bb B hb
  clear cc4
  clear hb HC ha hbb hsa hsb
  have cc7 := XQ.out.cells
  generalize hasSl s.data.toList = sl at *
  go_wp2_with fail
  refine (zparse_no a _ (by have := HS.out; have := HSA.out; omega) (by rw [HAL.out]; exact HA.out)).mono ?_
  rintro e w8 ⟨rfl, hb⟩
  replace XQ := nx XQ hb
  replace B := bb B hb
  clear cc7
  clear hb 
  obtain ⟨hb9, hx10, hs11⟩ := Box.made w8 false none 0 0
  have L0 := hid XQ.out.lt
  replace XQ := nx XQ hb9
  replace B := bb B hb9
  have X7 := hid hx10
  clear hb9 hx10
  have cc12 := XQ.out.cells
  have cc13 := X7.out.both
  have cc14 := XQ.out.stores
  obtain ⟨r15a, r15b, r15c⟩ := XQ.out.last B.out (by have := L0.out; omega) false false none none 0 0 0 0
  replace X7 := hid (X7.out.kept (heap4 (g := w.heap.size) (by have := L0.out; omega) (.bool false) (.slice none 0 0) (.bool false) (.slice none 0 0)))
  replace XQ := hid r15a
  replace B := hid r15b
  clear r15a r15b r15c
  go_wp2_with fail
  refine bodyPost_ret (res_num_tmp rfl rfl rfl XQ.out) rfl ?_
  exact ⟨rfl, B.out⟩

set_option maxHeartbeats 2000000 in
theorem qparseB (s : ByteArray) (w : World) (hs : s.size ≤ 68719476736) (hsl : hasSl s.data.toList = false) (hA : isWhl (cutB s.data.toList) = true) :
    Calls Try.prog 22 #[.string s] w fun e w' => ∃ v, e = .returned (.tuple #[v, .nilIface]) ∧ Rtl w' v (ratOf s.data.toList) s.size ∧ Below w.heap.size w w' := by
  have HSL := hid hsl
  have HA := hid hA
  have HS := hid hs
  have B := hid (Below.refl w.heap.size w)
  obtain ⟨hb1, hx2, hs3⟩ := Nbx.made w false false (.slice none 0 0) (.slice none 0 0)
  replace B := bb B hb1
  have XQ := hid hx2
  clear hb1 hx2
  clear hs3 hs hsl hA
  go_enter Try.func22, Try.ntmps22
  have cc4 := XQ.out.cells
  go_wp2_with fail
  generalize hW : w.alloc (.cells #[.bool false, .slice none 0 0, .bool false, .slice none 0 0] 49) = W5 at *
  clear hW
  have HC := cut_slash s W5 (by have := HS.out; unfold maxLen; omega)
  rw [HSL.out] at HC
  refine (HC).mono ?_
  rintro e w6 ⟨a, b, rfl, ha, hbb, hsa, hsb, hb⟩
  have HAL := hid ha
  have HBL := hid hbb
  have HSA := hid hsa
  have HSB := hid hsb
  replace XQ := nx XQ hb
  replace B := bb B hb
  clear cc4
  clear hb HC ha hbb hsa hsb
  have cc7 := XQ.out.cells
  go_wp2_with fail
  refine (zparse_yes a _ (by have := HS.out; have := HSA.out; omega) (by rw [HAL.out]; exact HA.out)).mono ?_
  rintro e w8 ⟨v, rfl, hv, hb⟩
  rw [HAL.out] at hv
  replace hv := hv.mono HSA.out
  obtain ⟨s5, p5, n5, c5, rfl⟩ := hv.opened
  replace XQ := nx XQ hb
  replace B := bb B hb
  clear cc7
  have HT := hid hv
  clear hb hv
  obtain ⟨hb9, hx10, hs11⟩ := Box.made w8 s5 p5 n5 c5
  have L0 := hid XQ.out.lt
  replace XQ := nx XQ hb9
  replace HT := wl HT hb9
  replace B := bb B hb9
  have X7 := hid hx10
  clear hb9 hx10
  have cc12 := XQ.out.cells
  have cc13 := X7.out.both
  have cc14 := XQ.out.stores
  obtain ⟨r15a, r15b, r15c⟩ := XQ.out.last B.out (by have := L0.out; omega) s5 false p5 none n5 0 c5 0
  replace X7 := hid (X7.out.kept (heap4 (g := w.heap.size) (by have := L0.out; omega) (.bool s5) (.slice p5 n5 c5) (.bool false) (.slice none 0 0)))
  replace HT := hid (r15c HT.out)
  replace XQ := hid r15a
  replace B := hid r15b
  clear r15a r15b r15c
  go_wp2_with fail
  refine bodyPost_ret (res_num_tmp rfl rfl rfl XQ.out) rfl ?_
  refine ⟨_, rfl, Rtl.mk2 (d := 0) ?_ (Whl.nil _ _) (.inr ⟨rfl, ?_⟩), B.out⟩
  · rw [ratOf, if_neg (by rw [HSL.out]; decide), Rat.num_intCast]
    have h := HT.out
    have e : cutB s.data.toList = s.data.toList := by rcases index_cut s.data.toList with ⟨_, _, e⟩ | ⟨e, _⟩; exact e; rw [HSL.out] at e; exact absurd e (by decide)
    rw [e] at h; exact h
  · rw [ratOf, if_neg (by rw [HSL.out]; decide), Rat.den_intCast]

set_option maxHeartbeats 2000000 in
theorem qparseC (s : ByteArray) (w : World) (hs : s.size ≤ 68719476736) (hsl : hasSl s.data.toList = true) (hA : isWhl (cutB s.data.toList) = true) (hB : isWhl (cutA s.data.toList) = false) :
    Calls Try.prog 22 #[.string s] w fun e w' => e = .returned (.tuple #[.agg #[.bool false, .slice none 0 0, .bool false, .slice none 0 0], errno 1]) ∧ Below w.heap.size w w' := by
  have HSL := hid hsl
  have HA := hid hA
  have HB := hid hB
  have HS := hid hs
  have B := hid (Below.refl w.heap.size w)
  obtain ⟨hb1, hx2, hs3⟩ := Nbx.made w false false (.slice none 0 0) (.slice none 0 0)
  replace B := bb B hb1
  have XQ := hid hx2
  clear hb1 hx2
  clear hs3 hs hsl hA hB
  go_enter Try.func22, Try.ntmps22
  have cc4 := XQ.out.cells
  go_wp2_with fail
  generalize hW : w.alloc (.cells #[.bool false, .slice none 0 0, .bool false, .slice none 0 0] 49) = W5 at *
  clear hW
  have HC := cut_slash s W5 (by have := HS.out; unfold maxLen; omega)
  rw [HSL.out] at HC
  refine (HC).mono ?_
  rintro e w6 ⟨a, b, rfl, ha, hbb, hsa, hsb, hb⟩
  have HAL := hid ha
  have HBL := hid hbb
  have HSA := hid hsa
  have HSB := hid hsb
  replace XQ := nx XQ hb
  replace B := bb B hb
  clear cc4
  clear hb HC ha hbb hsa hsb
  have cc7 := XQ.out.cells
  go_wp2_with fail
  refine (zparse_yes a _ (by have := HS.out; have := HSA.out; omega) (by rw [HAL.out]; exact HA.out)).mono ?_
  rintro e w8 ⟨v, rfl, hv, hb⟩
  rw [HAL.out] at hv
  replace hv := hv.mono HSA.out
  obtain ⟨s5, p5, n5, c5, rfl⟩ := hv.opened
  replace XQ := nx XQ hb
  replace B := bb B hb
  clear cc7
  have HT := hid hv
  clear hb hv
  obtain ⟨hb9, hx10, hs11⟩ := Box.made w8 s5 p5 n5 c5
  have L0 := hid XQ.out.lt
  replace XQ := nx XQ hb9
  replace HT := wl HT hb9
  replace B := bb B hb9
  have X7 := hid hx10
  clear hb9 hx10
  have cc12 := XQ.out.cells
  have cc13 := X7.out.both
  go_wp2_with fail
  generalize hW : w8.alloc (.cells #[.bool s5, .slice p5 n5 c5] 47) = W14 at *
  clear hW
  have HBL := hid (HBL.out (by first | rfl | trivial))
  refine (zparse_no b _ (by have := HS.out; have := HSB.out; omega) (by rw [HBL.out]; exact HB.out)).mono ?_
  rintro e w15 ⟨rfl, hb⟩
  replace XQ := nx XQ hb
  replace X7 := bx X7 hb
  replace HT := wl HT hb
  replace B := bb B hb
  clear cc12 cc13
  clear hb 
  obtain ⟨hb16, hx17, hs18⟩ := Box.made w15 false none 0 0
  have L1 := hid X7.out.lt
  replace XQ := nx XQ hb16
  replace X7 := bx X7 hb16
  replace HT := wl HT hb16
  replace B := bb B hb16
  have X9 := hid hx17
  clear hb16 hx17
  have cc19 := XQ.out.cells
  have cc20 := X7.out.both
  have cc21 := X9.out.both
  have cc22 := XQ.out.stores
  obtain ⟨r23a, r23b, r23c⟩ := XQ.out.last B.out (by have := L0.out; have := L1.out; omega) false false none none 0 0 0 0
  replace X7 := hid (X7.out.kept (heap4 (g := w.heap.size) (by have := L0.out; have := L1.out; omega) (.bool false) (.slice none 0 0) (.bool false) (.slice none 0 0)))
  replace X9 := hid (X9.out.kept (heap4 (g := w.heap.size) (by have := L0.out; have := L1.out; omega) (.bool false) (.slice none 0 0) (.bool false) (.slice none 0 0)))
  replace HT := hid (r23c HT.out)
  replace XQ := hid r23a
  replace B := hid r23b
  clear r23a r23b r23c
  go_wp2_with fail
  refine bodyPost_ret (res_num_tmp rfl rfl rfl XQ.out) rfl ?_
  exact ⟨rfl, B.out⟩

set_option maxHeartbeats 2000000 in
theorem qparseD (s : ByteArray) (w : World) (hs : s.size ≤ 68719476736) (hsl : hasSl s.data.toList = true) (hA : isWhl (cutB s.data.toList) = true) (hB : isWhl (cutA s.data.toList) = true) (hD : ¬ 1 < whlOf (cutA s.data.toList)) :
    Calls Try.prog 22 #[.string s] w fun e w' => e = .returned (.tuple #[.agg #[.bool false, .slice none 0 0, .bool false, .slice none 0 0], errno 1]) ∧ Below w.heap.size w w' := by
  have HSL := hid hsl
  have HA := hid hA
  have HB := hid hB
  have HD := hid hD
  have HS := hid hs
  have B := hid (Below.refl w.heap.size w)
  obtain ⟨hb1, hx2, hs3⟩ := Nbx.made w false false (.slice none 0 0) (.slice none 0 0)
  replace B := bb B hb1
  have XQ := hid hx2
  clear hb1 hx2
  clear hs3 hs hsl hA hB hD
  go_enter Try.func22, Try.ntmps22
  have cc4 := XQ.out.cells
  go_wp2_with fail
  generalize hW : w.alloc (.cells #[.bool false, .slice none 0 0, .bool false, .slice none 0 0] 49) = W5 at *
  clear hW
  have HC := cut_slash s W5 (by have := HS.out; unfold maxLen; omega)
  rw [HSL.out] at HC
  refine (HC).mono ?_
  rintro e w6 ⟨a, b, rfl, ha, hbb, hsa, hsb, hb⟩
  have HAL := hid ha
  have HBL := hid hbb
  have HSA := hid hsa
  have HSB := hid hsb
  replace XQ := nx XQ hb
  replace B := bb B hb
  clear cc4
  clear hb HC ha hbb hsa hsb
  have cc7 := XQ.out.cells
  go_wp2_with fail
  refine (zparse_yes a _ (by have := HS.out; have := HSA.out; omega) (by rw [HAL.out]; exact HA.out)).mono ?_
  rintro e w8 ⟨v, rfl, hv, hb⟩
  rw [HAL.out] at hv
  replace hv := hv.mono HSA.out
  obtain ⟨s5, p5, n5, c5, rfl⟩ := hv.opened
  replace XQ := nx XQ hb
  replace B := bb B hb
  clear cc7
  have HT := hid hv
  clear hb hv
  obtain ⟨hb9, hx10, hs11⟩ := Box.made w8 s5 p5 n5 c5
  have L0 := hid XQ.out.lt
  replace XQ := nx XQ hb9
  replace HT := wl HT hb9
  replace B := bb B hb9
  have X7 := hid hx10
  clear hb9 hx10
  have cc12 := XQ.out.cells
  have cc13 := X7.out.both
  go_wp2_with fail
  generalize hW : w8.alloc (.cells #[.bool s5, .slice p5 n5 c5] 47) = W14 at *
  clear hW
  have HBL := hid (HBL.out (by first | rfl | trivial))
  refine (zparse_yes b _ (by have := HS.out; have := HSB.out; omega) (by rw [HBL.out]; exact HB.out)).mono ?_
  rintro e w15 ⟨v, rfl, hv, hb⟩
  rw [HBL.out] at hv
  replace hv := hv.mono HSB.out
  obtain ⟨s6, p6, n6, c6, rfl⟩ := hv.opened
  replace XQ := nx XQ hb
  replace X7 := bx X7 hb
  replace HT := wl HT hb
  replace B := bb B hb
  clear cc12 cc13
  have HU := hid hv
  clear hb hv
  obtain ⟨hb16, hx17, hs18⟩ := Box.made w15 s6 p6 n6 c6
  have L1 := hid X7.out.lt
  replace XQ := nx XQ hb16
  replace X7 := bx X7 hb16
  replace HT := wl HT hb16
  replace HU := wl HU hb16
  replace B := bb B hb16
  have X9 := hid hx17
  clear hb16 hx17
  have cc19 := XQ.out.cells
  have cc20 := X7.out.both
  have cc21 := X9.out.both
  go_wp2_with fail
  generalize hW : w15.alloc (.cells #[.bool s6, .slice p6 n6 c6] 47) = W22 at *
  clear hW
  have HM := more_whl HU.out (by have := HS.out; omega)
  rw [decide_eq_false (by have h := HD.out; omega)] at HM
  refine (HM).mono ?_
  rintro e w23 ⟨rfl, hb⟩
  replace XQ := nx XQ hb
  replace X7 := bx X7 hb
  replace X9 := bx X9 hb
  replace HT := wl HT hb
  replace HU := wl HU hb
  replace B := bb B hb
  clear cc19 cc20 cc21
  clear hb HM
  have cc24 := XQ.out.cells
  have cc25 := X7.out.both
  have cc26 := X9.out.both
  have cc27 := XQ.out.stores
  obtain ⟨r28a, r28b, r28c⟩ := XQ.out.last B.out (by have := L0.out; have := L1.out; omega) false false none none 0 0 0 0
  replace X7 := hid (X7.out.kept (heap4 (g := w.heap.size) (by have := L0.out; have := L1.out; omega) (.bool false) (.slice none 0 0) (.bool false) (.slice none 0 0)))
  replace X9 := hid (X9.out.kept (heap4 (g := w.heap.size) (by have := L0.out; have := L1.out; omega) (.bool false) (.slice none 0 0) (.bool false) (.slice none 0 0)))
  replace HT := hid (r28c HT.out)
  replace HU := hid (r28c HU.out)
  replace XQ := hid r28a
  replace B := hid r28b
  clear r28a r28b r28c
  go_wp2_with fail
  refine bodyPost_ret (res_num_tmp rfl rfl rfl XQ.out) rfl ?_
  exact ⟨rfl, B.out⟩

set_option maxHeartbeats 2000000 in
theorem qparseE (s : ByteArray) (w : World) (hs : s.size ≤ 68719476736) (hsl : hasSl s.data.toList = true) (hA : isWhl (cutB s.data.toList) = true) (hB : isWhl (cutA s.data.toList) = true) (hD : 1 < whlOf (cutA s.data.toList)) (hG : ¬ Int.gcd (whlOf (cutB s.data.toList)) (whlOf (cutA s.data.toList)) = 1) :
    Calls Try.prog 22 #[.string s] w fun e w' => e = .returned (.tuple #[.agg #[.bool false, .slice none 0 0, .bool false, .slice none 0 0], errno 1]) ∧ Below w.heap.size w w' := by
  have HSL := hid hsl
  have HA := hid hA
  have HB := hid hB
  have HD := hid hD
  have HG := hid hG
  have HS := hid hs
  have B := hid (Below.refl w.heap.size w)
  obtain ⟨hb1, hx2, hs3⟩ := Nbx.made w false false (.slice none 0 0) (.slice none 0 0)
  replace B := bb B hb1
  have XQ := hid hx2
  clear hb1 hx2
  clear hs3 hs hsl hA hB hD hG
  go_enter Try.func22, Try.ntmps22
  have cc4 := XQ.out.cells
  go_wp2_with fail
  generalize hW : w.alloc (.cells #[.bool false, .slice none 0 0, .bool false, .slice none 0 0] 49) = W5 at *
  clear hW
  have HC := cut_slash s W5 (by have := HS.out; unfold maxLen; omega)
  rw [HSL.out] at HC
  refine (HC).mono ?_
  rintro e w6 ⟨a, b, rfl, ha, hbb, hsa, hsb, hb⟩
  have HAL := hid ha
  have HBL := hid hbb
  have HSA := hid hsa
  have HSB := hid hsb
  replace XQ := nx XQ hb
  replace B := bb B hb
  clear cc4
  clear hb HC ha hbb hsa hsb
  have cc7 := XQ.out.cells
  go_wp2_with fail
  refine (zparse_yes a _ (by have := HS.out; have := HSA.out; omega) (by rw [HAL.out]; exact HA.out)).mono ?_
  rintro e w8 ⟨v, rfl, hv, hb⟩
  rw [HAL.out] at hv
  replace hv := hv.mono HSA.out
  obtain ⟨s5, p5, n5, c5, rfl⟩ := hv.opened
  replace XQ := nx XQ hb
  replace B := bb B hb
  clear cc7
  have HT := hid hv
  clear hb hv
  obtain ⟨hb9, hx10, hs11⟩ := Box.made w8 s5 p5 n5 c5
  have L0 := hid XQ.out.lt
  replace XQ := nx XQ hb9
  replace HT := wl HT hb9
  replace B := bb B hb9
  have X7 := hid hx10
  clear hb9 hx10
  have cc12 := XQ.out.cells
  have cc13 := X7.out.both
  go_wp2_with fail
  generalize hW : w8.alloc (.cells #[.bool s5, .slice p5 n5 c5] 47) = W14 at *
  clear hW
  have HBL := hid (HBL.out (by first | rfl | trivial))
  refine (zparse_yes b _ (by have := HS.out; have := HSB.out; omega) (by rw [HBL.out]; exact HB.out)).mono ?_
  rintro e w15 ⟨v, rfl, hv, hb⟩
  rw [HBL.out] at hv
  replace hv := hv.mono HSB.out
  obtain ⟨s6, p6, n6, c6, rfl⟩ := hv.opened
  replace XQ := nx XQ hb
  replace X7 := bx X7 hb
  replace HT := wl HT hb
  replace B := bb B hb
  clear cc12 cc13
  have HU := hid hv
  clear hb hv
  obtain ⟨hb16, hx17, hs18⟩ := Box.made w15 s6 p6 n6 c6
  have L1 := hid X7.out.lt
  replace XQ := nx XQ hb16
  replace X7 := bx X7 hb16
  replace HT := wl HT hb16
  replace HU := wl HU hb16
  replace B := bb B hb16
  have X9 := hid hx17
  clear hb16 hx17
  have cc19 := XQ.out.cells
  have cc20 := X7.out.both
  have cc21 := X9.out.both
  go_wp2_with fail
  generalize hW : w15.alloc (.cells #[.bool s6, .slice p6 n6 c6] 47) = W22 at *
  clear hW
  have HM := more_whl HU.out (by have := HS.out; omega)
  rw [decide_eq_true (by have h := HD.out; omega)] at HM
  refine (HM).mono ?_
  rintro e w23 ⟨rfl, hb⟩
  replace XQ := nx XQ hb
  replace X7 := bx X7 hb
  replace X9 := bx X9 hb
  replace HT := wl HT hb
  replace HU := wl HU hb
  replace B := bb B hb
  clear cc19 cc20 cc21
  clear hb HM
  have cc24 := XQ.out.cells
  have cc25 := X7.out.both
  have cc26 := X9.out.both
  go_wp2_with fail
  refine (zgcd_whl HT.out HU.out (by have := HS.out; omega)).mono ?_
  rintro e w27 ⟨v, rfl, hv, hb⟩
  obtain ⟨s7, p7, n7, c7, rfl⟩ := hv.opened
  replace XQ := nx XQ hb
  replace X7 := bx X7 hb
  replace X9 := bx X9 hb
  replace HT := wl HT hb
  replace HU := wl HU hb
  replace B := bb B hb
  clear cc24 cc25 cc26
  have HV := hid hv
  clear hb hv
  have cc28 := XQ.out.cells
  have cc29 := X7.out.both
  have cc30 := X9.out.both
  go_wp2_with fail
  have HM := more_whl HV.out (by have := HS.out; omega)
  rw [decide_eq_true (by have h1 := HG.out; have h2 := HD.out; have h3 := Int.gcd_pos_of_ne_zero_right (whlOf (cutB s.data.toList)) (show whlOf (cutA s.data.toList) ≠ 0 by omega); omega)] at HM
  refine (HM).mono ?_
  rintro e w31 ⟨rfl, hb⟩
  replace XQ := nx XQ hb
  replace X7 := bx X7 hb
  replace X9 := bx X9 hb
  replace HT := wl HT hb
  replace HU := wl HU hb
  replace HV := wl HV hb
  replace B := bb B hb
  clear cc28 cc29 cc30
  clear hb HM
  have cc32 := XQ.out.cells
  have cc33 := X7.out.both
  have cc34 := X9.out.both
  have cc35 := XQ.out.stores
  obtain ⟨r36a, r36b, r36c⟩ := XQ.out.last B.out (by have := L0.out; have := L1.out; omega) false false none none 0 0 0 0
  replace X7 := hid (X7.out.kept (heap4 (g := w.heap.size) (by have := L0.out; have := L1.out; omega) (.bool false) (.slice none 0 0) (.bool false) (.slice none 0 0)))
  replace X9 := hid (X9.out.kept (heap4 (g := w.heap.size) (by have := L0.out; have := L1.out; omega) (.bool false) (.slice none 0 0) (.bool false) (.slice none 0 0)))
  replace HT := hid (r36c HT.out)
  replace HU := hid (r36c HU.out)
  replace HV := hid (r36c HV.out)
  replace XQ := hid r36a
  replace B := hid r36b
  clear r36a r36b r36c
  go_wp2_with fail
  refine bodyPost_ret (res_num_tmp rfl rfl rfl XQ.out) rfl ?_
  exact ⟨rfl, B.out⟩

set_option maxHeartbeats 2000000 in
theorem qparseF (s : ByteArray) (w : World) (hs : s.size ≤ 68719476736) (hsl : hasSl s.data.toList = true) (hA : isWhl (cutB s.data.toList) = true) (hB : isWhl (cutA s.data.toList) = true) (hD : 1 < whlOf (cutA s.data.toList)) (hG : Int.gcd (whlOf (cutB s.data.toList)) (whlOf (cutA s.data.toList)) = 1) :
    Calls Try.prog 22 #[.string s] w fun e w' => ∃ v, e = .returned (.tuple #[v, .nilIface]) ∧ Rtl w' v (ratOf s.data.toList) s.size ∧ Below w.heap.size w w' := by
  have HSL := hid hsl
  have HA := hid hA
  have HB := hid hB
  have HD := hid hD
  have HG := hid hG
  have HS := hid hs
  have B := hid (Below.refl w.heap.size w)
  obtain ⟨hb1, hx2, hs3⟩ := Nbx.made w false false (.slice none 0 0) (.slice none 0 0)
  replace B := bb B hb1
  have XQ := hid hx2
  clear hb1 hx2
  clear hs3 hs hsl hA hB hD hG
  go_enter Try.func22, Try.ntmps22
  have cc4 := XQ.out.cells
  go_wp2_with fail
  generalize hW : w.alloc (.cells #[.bool false, .slice none 0 0, .bool false, .slice none 0 0] 49) = W5 at *
  clear hW
  have HC := cut_slash s W5 (by have := HS.out; unfold maxLen; omega)
  rw [HSL.out] at HC
  refine (HC).mono ?_
  rintro e w6 ⟨a, b, rfl, ha, hbb, hsa, hsb, hb⟩
  have HAL := hid ha
  have HBL := hid hbb
  have HSA := hid hsa
  have HSB := hid hsb
  replace XQ := nx XQ hb
  replace B := bb B hb
  clear cc4
  clear hb HC ha hbb hsa hsb
  have cc7 := XQ.out.cells
  go_wp2_with fail
  refine (zparse_yes a _ (by have := HS.out; have := HSA.out; omega) (by rw [HAL.out]; exact HA.out)).mono ?_
  rintro e w8 ⟨v, rfl, hv, hb⟩
  rw [HAL.out] at hv
  replace hv := hv.mono HSA.out
  obtain ⟨s5, p5, n5, c5, rfl⟩ := hv.opened
  replace XQ := nx XQ hb
  replace B := bb B hb
  clear cc7
  have HT := hid hv
  clear hb hv
  obtain ⟨hb9, hx10, hs11⟩ := Box.made w8 s5 p5 n5 c5
  have L0 := hid XQ.out.lt
  replace XQ := nx XQ hb9
  replace HT := wl HT hb9
  replace B := bb B hb9
  have X7 := hid hx10
  clear hb9 hx10
  have cc12 := XQ.out.cells
  have cc13 := X7.out.both
  go_wp2_with fail
  generalize hW : w8.alloc (.cells #[.bool s5, .slice p5 n5 c5] 47) = W14 at *
  clear hW
  have HBL := hid (HBL.out (by first | rfl | trivial))
  refine (zparse_yes b _ (by have := HS.out; have := HSB.out; omega) (by rw [HBL.out]; exact HB.out)).mono ?_
  rintro e w15 ⟨v, rfl, hv, hb⟩
  rw [HBL.out] at hv
  replace hv := hv.mono HSB.out
  obtain ⟨s6, p6, n6, c6, rfl⟩ := hv.opened
  replace XQ := nx XQ hb
  replace X7 := bx X7 hb
  replace HT := wl HT hb
  replace B := bb B hb
  clear cc12 cc13
  have HU := hid hv
  clear hb hv
  obtain ⟨hb16, hx17, hs18⟩ := Box.made w15 s6 p6 n6 c6
  have L1 := hid X7.out.lt
  replace XQ := nx XQ hb16
  replace X7 := bx X7 hb16
  replace HT := wl HT hb16
  replace HU := wl HU hb16
  replace B := bb B hb16
  have X9 := hid hx17
  clear hb16 hx17
  have cc19 := XQ.out.cells
  have cc20 := X7.out.both
  have cc21 := X9.out.both
  go_wp2_with fail
  generalize hW : w15.alloc (.cells #[.bool s6, .slice p6 n6 c6] 47) = W22 at *
  clear hW
  have HM := more_whl HU.out (by have := HS.out; omega)
  rw [decide_eq_true (by have h := HD.out; omega)] at HM
  refine (HM).mono ?_
  rintro e w23 ⟨rfl, hb⟩
  replace XQ := nx XQ hb
  replace X7 := bx X7 hb
  replace X9 := bx X9 hb
  replace HT := wl HT hb
  replace HU := wl HU hb
  replace B := bb B hb
  clear cc19 cc20 cc21
  clear hb HM
  have cc24 := XQ.out.cells
  have cc25 := X7.out.both
  have cc26 := X9.out.both
  go_wp2_with fail
  refine (zgcd_whl HT.out HU.out (by have := HS.out; omega)).mono ?_
  rintro e w27 ⟨v, rfl, hv, hb⟩
  obtain ⟨s7, p7, n7, c7, rfl⟩ := hv.opened
  replace XQ := nx XQ hb
  replace X7 := bx X7 hb
  replace X9 := bx X9 hb
  replace HT := wl HT hb
  replace HU := wl HU hb
  replace B := bb B hb
  clear cc24 cc25 cc26
  have HV := hid hv
  clear hb hv
  have cc28 := XQ.out.cells
  have cc29 := X7.out.both
  have cc30 := X9.out.both
  go_wp2_with fail
  have HM := more_whl HV.out (by have := HS.out; omega)
  rw [decide_eq_false (by have h1 := HG.out; omega)] at HM
  refine (HM).mono ?_
  rintro e w31 ⟨rfl, hb⟩
  replace XQ := nx XQ hb
  replace X7 := bx X7 hb
  replace X9 := bx X9 hb
  replace HT := wl HT hb
  replace HU := wl HU hb
  replace HV := wl HV hb
  replace B := bb B hb
  clear cc28 cc29 cc30
  clear hb HM
  have cc32 := XQ.out.cells
  have cc33 := X7.out.both
  have cc34 := X9.out.both
  have cc35 := XQ.out.stores
  obtain ⟨r36a, r36b, r36c⟩ := XQ.out.last B.out (by have := L0.out; have := L1.out; omega) s5 s6 p5 p6 n5 n6 c5 c6
  replace X7 := hid (X7.out.kept (heap4 (g := w.heap.size) (by have := L0.out; have := L1.out; omega) (.bool s5) (.slice p5 n5 c5) (.bool s6) (.slice p6 n6 c6)))
  replace X9 := hid (X9.out.kept (heap4 (g := w.heap.size) (by have := L0.out; have := L1.out; omega) (.bool s5) (.slice p5 n5 c5) (.bool s6) (.slice p6 n6 c6)))
  replace HT := hid (r36c HT.out)
  replace HU := hid (r36c HU.out)
  replace HV := hid (r36c HV.out)
  replace XQ := hid r36a
  replace B := hid r36b
  clear r36a r36b r36c
  go_wp2_with fail
  refine bodyPost_ret (res_num_tmp rfl rfl rfl XQ.out) rfl ?_
  obtain ⟨e1, e2⟩ := divInt_coprime HD.out HG.out
  refine ⟨_, rfl, ?_, B.out⟩
  rw [ratOf, if_pos HSL.out]
  exact Rtl.mk2 (by rw [e1]; exact HT.out) HU.out (.inl e2.symm)

theorem qparse_yes (s : ByteArray) (w : World) (hs : s.size ≤ 68719476736) (hn : isRat s.data.toList = true) :
    Calls Try.prog 22 #[.string s] w fun e w' => ∃ v, e = .returned (.tuple #[v, .nilIface]) ∧ Rtl w' v (ratOf s.data.toList) s.size ∧ Below w.heap.size w w' := by
  unfold isRat at hn
  cases hsl : hasSl s.data.toList
  · rw [hsl] at hn
    have e : cutB s.data.toList = s.data.toList := by
      rcases index_cut s.data.toList with ⟨_, _, e⟩ | ⟨e, _⟩
      · exact e
      · rw [hsl] at e; exact absurd e (by decide)
    exact qparseB s w hs hsl (by rw [e]; simpa using hn)
  · rw [hsl] at hn
    simp only [if_true, Bool.and_eq_true, decide_eq_true_eq] at hn
    obtain ⟨⟨⟨h1, h2⟩, h3⟩, h4⟩ := hn
    exact qparseF s w hs hsl h1 h2 h3 h4
theorem qparse_no (s : ByteArray) (w : World) (hs : s.size ≤ 68719476736) (hn : isRat s.data.toList = false) :
    Calls Try.prog 22 #[.string s] w fun e w' => e = .returned (.tuple #[.agg #[.bool false, .slice none 0 0, .bool false, .slice none 0 0], errno 1]) ∧ Below w.heap.size w w' := by
  unfold isRat at hn
  cases h1 : isWhl (cutB s.data.toList)
  · exact qparseA s w hs h1
  · cases hsl : hasSl s.data.toList
    · rw [hsl] at hn
      have e : cutB s.data.toList = s.data.toList := by
        rcases index_cut s.data.toList with ⟨_, _, e⟩ | ⟨e, _⟩
        · exact e
        · rw [hsl] at e; exact absurd e (by decide)
      rw [e] at h1
      rw [h1] at hn
      simp at hn
    · rw [hsl] at hn
      cases h2 : isWhl (cutA s.data.toList)
      · exact qparseC s w hs hsl h1 h2
      · by_cases h3 : 1 < whlOf (cutA s.data.toList)
        · by_cases h4 : Int.gcd (whlOf (cutB s.data.toList)) (whlOf (cutA s.data.toList)) = 1
          · simp [h1, h2, h3, h4] at hn
          · exact qparseE s w hs hsl h1 h2 h3 h4
        · exact qparseD s w hs hsl h1 h2 h3

end Go.Proofs.Ytokojbgpboccnaa

/-
  PACKAGE rat: Read, readBoth.
-/
namespace Go.Proofs.Ytokojbgpboccnaa
open Go.RowKit
open Num
set_option linter.unusedVariables false
set_option maxRecDepth 100000
set_option linter.unusedSimpArgs false

set_option maxHeartbeats 1000000 in
theorem qread_long {s : ByteArray} (h : 100 < s.size) (w : World) (hs : s.size ≤ maxLen) :
    Calls Try.prog 14 #[.string s] w fun e w' => e = .returned (.tuple #[.agg #[.bool false, .slice none 0 0, .bool false, .slice none 0 0], errno 4]) ∧ Below w.heap.size w w' := by
  have h' : (100 : Int) < (s.size : Int) := by omega
  unfold maxLen at hs
  have B := hid (Below.refl w.heap.size w)
  obtain ⟨hb1, hx2, hs3⟩ := Nbx.made w false false (.slice none 0 0) (.slice none 0 0)
  replace B := bb B hb1
  have XQ := hid hx2
  clear hb1 hx2
  clear hs3 h
  go_enter Try.func14, Try.ntmps14
  go_wp2_with fail
  refine bodyPost_ret (res_num_tmp rfl rfl rfl XQ.out) rfl ?_
  exact ⟨rfl, B.out⟩

set_option maxHeartbeats 1000000 in
theorem qread_form {s : ByteArray} (h : s.size ≤ 100) (hn : isRat s.data.toList = false) (w : World) :
    Calls Try.prog 14 #[.string s] w fun e w' => e = .returned (.tuple #[.agg #[.bool false, .slice none 0 0, .bool false, .slice none 0 0], errno 1]) ∧ Below w.heap.size w w' := by
  have h' : (s.size : Int) ≤ 100 := by omega
  have HN := hid hn
  have HS := hid h
  have B := hid (Below.refl w.heap.size w)
  obtain ⟨hb1, hx2, hs3⟩ := Nbx.made w false false (.slice none 0 0) (.slice none 0 0)
  replace B := bb B hb1
  have XQ := hid hx2
  clear hb1 hx2
  clear hs3 h hn
  go_enter Try.func14, Try.ntmps14
  have cc4 := XQ.out.cells
  go_wp2_with fail
  generalize hW : w.alloc (.cells #[.bool false, .slice none 0 0, .bool false, .slice none 0 0] 49) = W5 at *
  clear hW
  refine (qparse_no s _ (by have := HS.out; omega) HN.out).mono ?_
  rintro e w6 ⟨rfl, hb⟩
  replace XQ := nx XQ hb
  replace B := bb B hb
  clear cc4
  clear hb 
  have cc7 := XQ.out.cells
  have cc8 := XQ.out.stores
  obtain ⟨r9a, r9b, r9c⟩ := XQ.out.last B.out (by omega) false false none none 0 0 0 0
  replace XQ := hid r9a
  replace B := hid r9b
  clear r9a r9b r9c
  go_wp2_with fail
  refine bodyPost_ret (res_num_tmp rfl rfl rfl XQ.out) rfl ?_
  exact ⟨rfl, B.out⟩

theorem qread_bad {s : ByteArray} {k : Int} (h : BadQ s k) (w : World) (hs : s.size ≤ maxLen) :
    Calls Try.prog 14 #[.string s] w fun e w' => e = .returned (.tuple #[.agg #[.bool false, .slice none 0 0, .bool false, .slice none 0 0], errno k]) ∧ Below w.heap.size w w' := by
  rcases h with ⟨h, rfl⟩ | ⟨h, hn, rfl⟩
  · exact qread_long h w hs
  · exact qread_form h hn w

set_option maxHeartbeats 1000000 in
theorem qread_good {s : ByteArray} (h : GoodQ s) (w : World) :
    Calls Try.prog 14 #[.string s] w fun e w' => ∃ v, e = .returned (.tuple #[v, .nilIface]) ∧ Rtl w' v (qnum s) 100 ∧ Below w.heap.size w w' := by
  obtain ⟨h, hn⟩ := h
  have h' : (s.size : Int) ≤ 100 := by omega
  have HN := hid hn
  have HS := hid h
  have B := hid (Below.refl w.heap.size w)
  obtain ⟨hb1, hx2, hs3⟩ := Nbx.made w false false (.slice none 0 0) (.slice none 0 0)
  replace B := bb B hb1
  have XQ := hid hx2
  clear hb1 hx2
  clear hs3 h hn
  go_enter Try.func14, Try.ntmps14
  have cc4 := XQ.out.cells
  go_wp2_with fail
  generalize hW : w.alloc (.cells #[.bool false, .slice none 0 0, .bool false, .slice none 0 0] 49) = W5 at *
  clear hW
  refine (qparse_yes s _ (by have := HS.out; omega) HN.out).mono ?_
  rintro e w6 ⟨v, rfl, hv, hb⟩
  replace hv := hv.mono HS.out
  obtain ⟨s9a, p9a, n9a, c9a, s9b, p9b, n9b, c9b, rfl⟩ := hv.opened
  obtain ⟨ht9, d9, hu9, hd9⟩ := hv.two
  have HD9 := hid hd9
  replace XQ := nx XQ hb
  replace B := bb B hb
  clear cc4
  have HT9 := hid ht9
  have HU9 := hid hu9
  clear hb hv ht9 hu9 hd9
  have cc7 := XQ.out.cells
  have cc8 := XQ.out.stores
  obtain ⟨r9a, r9b, r9c⟩ := XQ.out.last B.out (by omega) s9a s9b p9a p9b n9a n9b c9a c9b
  replace HT9 := hid (r9c HT9.out)
  replace HU9 := hid (r9c HU9.out)
  replace XQ := hid r9a
  replace B := hid r9b
  clear r9a r9b r9c
  go_wp2_with fail
  refine bodyPost_ret (res_num_tmp rfl rfl rfl XQ.out) rfl ?_
  exact ⟨_, rfl, Rtl.mk2 HT9.out HU9.out HD9.out, B.out⟩

end Go.Proofs.Ytokojbgpboccnaa

/-
  PACKAGE rat: ITS FUNCTIONS OF TEXTS.
-/
namespace Go.Proofs.Ytokojbgpboccnaa
open Go.RowKit
open Num
set_option linter.unusedVariables false
set_option maxRecDepth 100000
set_option linter.unusedSimpArgs false

end Go.Proofs.Ytokojbgpboccnaa

/-
  PACKAGE rat: TEXTS OF FRACTIONS; EACH FUNCTION AT WHATEVER TEXTS.
-/
namespace Go.Proofs.Ytokojbgpboccnaa
open Go.RowKit
open Num
set_option linter.unusedVariables false
set_option maxRecDepth 100000
set_option linter.unusedSimpArgs false

theorem cells_whl_zero (w : World) (k : Nat) : Whl w (.agg #[.bool false, .slice none 0 0]) 0 k := ⟨false, _, [], rfl, Lim.nil w, .inl rfl, Nat.zero_le _, by simp, rfl⟩
theorem ba_ext {a b : ByteArray} (h : a.data.toList = b.data.toList) : a = b := by
  obtain ⟨⟨l⟩⟩ := a
  obtain ⟨⟨m⟩⟩ := b
  simp only at h
  rw [h]
theorem app_list (a b : ByteArray) : (a ++ b).data.toList = a.data.toList ++ b.data.toList := by
  rw [ByteArray.data_append, Array.toList_append]
theorem slash_split {l : List UInt8} (h : hasSl l = true) : l = cutB l ++ 47 :: cutA l := by
  induction l with
  | nil => exact absurd h (by decide)
  | cons b l ih =>
    by_cases hb : b = 47
    · subst hb
      simp [cutB, cutA]
    · have h1 : (b != 47) = true := by simpa using hb
      have e1 : hasSl (b :: l) = hasSl l := by simp [hasSl, List.dropWhile_cons, h1]
      have e2 : cutB (b :: l) = b :: cutB l := by simp [cutB, List.takeWhile_cons, h1]
      have e3 : cutA (b :: l) = cutA l := by simp [cutA, List.dropWhile_cons, h1]
      rw [e1] at h
      rw [e2, e3, List.cons_append, ← ih h]
theorem ztxt_whlOf {l : List UInt8} (h : isWhl l = true) : (ztxt (whlOf l)).data.toList = l := by
  have := ztxt_znum (s := ⟨l.toArray⟩) (by simpa using h)
  have e : znum ⟨l.toArray⟩ = whlOf l := by simp [znum]
  rw [e] at this
  rw [this]
theorem qtxt_one {q : Rat} (h : q.den = 1) : qtxt q = ztxt q.num := by rw [qtxt, if_pos h]
theorem qtxt_two {q : Rat} (h : q.den ≠ 1) : (qtxt q).data.toList = (ztxt q.num).data.toList ++ 47 :: (ztxt q.den).data.toList := by
  rw [qtxt, if_neg h, app_list, app_list]
  simp
theorem qtxt_qnum {s : ByteArray} (h : isRat s.data.toList = true) : qtxt (qnum s) = s := by
  apply ba_ext
  unfold qnum
  cases hs : hasSl s.data.toList
  · rw [isRat, hs] at h
    rw [ratOf, hs, if_neg (by decide), qtxt_one (Rat.den_intCast _), Rat.num_intCast]
    exact ztxt_whlOf (by simpa using h)
  · rw [isRat, hs] at h
    simp only [if_true, Bool.and_eq_true, decide_eq_true_eq] at h
    obtain ⟨⟨⟨h1, h2⟩, h3⟩, h4⟩ := h
    obtain ⟨e1, e2⟩ := divInt_coprime h3 h4
    rw [ratOf, hs, if_pos rfl, qtxt_two (by omega), e1, e2, ztxt_whlOf h1, ztxt_whlOf h2]
    exact (slash_split hs).symm
theorem qtxt_good {s : ByteArray} (h : GoodQ s) : qtxt (qnum s) = s := qtxt_qnum h.2
theorem whl_lt {l : List UInt8} (h : isWhl l = true) : (whlOf l).natAbs < 10 ^ l.length := by
  cases hb : (l.head? == some 45)
  · have h3 : isNat l = true := by rw [isWhl, hb] at h; simpa using h
    have h4 : whlOf l = (dval l : Int) := by rw [whlOf, hb]; rfl
    rw [h4]
    simpa using dval_lt' h3
  · have h3 : isNat l.tail = true := by rw [isWhl, hb] at h; simp at h; exact h.1
    have h4 : whlOf l = -(dval l.tail : Int) := by rw [whlOf, hb]; rfl
    rw [h4]
    exact Nat.lt_of_lt_of_le (by simpa using dval_lt' h3) (Nat.pow_le_pow_right (by omega) (by simp))
theorem qnum_lt {s : ByteArray} (h : GoodQ s) : (qnum s).num.natAbs < 10 ^ 100 ∧ (qnum s).den < 10 ^ 100 := by
  obtain ⟨hl, h⟩ := h
  have hsz : s.data.toList.length = s.size := rfl
  have h1 : (1 : Nat) < 10 ^ 100 := by decide +kernel
  have up : ∀ {l : List UInt8}, isWhl l = true → l.length ≤ 100 → (whlOf l).natAbs < 10 ^ 100 := fun hw hl => Nat.lt_of_lt_of_le (whl_lt hw) (Nat.pow_le_pow_right (by omega) hl)
  unfold qnum
  cases hs : hasSl s.data.toList
  · rw [isRat, hs] at h
    rw [ratOf, hs, if_neg (by decide), Rat.num_intCast, Rat.den_intCast]
    exact ⟨up (by simpa using h) (by omega), h1⟩
  · rw [isRat, hs] at h
    simp only [if_true, Bool.and_eq_true, decide_eq_true_eq] at h
    obtain ⟨⟨⟨h1', h2⟩, h3⟩, h4⟩ := h
    obtain ⟨e1, e2⟩ := divInt_coprime h3 h4
    have hlen := congrArg List.length (slash_split hs)
    rw [List.length_append, List.length_cons] at hlen
    rw [ratOf, hs, if_pos rfl, e1]
    refine ⟨up h1' (by omega), ?_⟩
    have := up h2 (by omega)
    omega
theorem divInt_le (z y : Int) : (Rat.divInt z y).num.natAbs ≤ z.natAbs ∧ (Rat.divInt z y).den ≤ max y.natAbs 1 := by
  by_cases h : y = 0
  · subst h; rw [Rat.divInt_zero]; simp
  · obtain ⟨e1, e2⟩ := divInt_parts z y h
    refine ⟨by rw [e1]; exact natAbs_ediv_le _ _, ?_⟩
    have h1 := natAbs_ediv_le y (if y < 0 then -(Int.gcd z y : Int) else (Int.gcd z y : Int))
    rw [← e2] at h1
    have : ((Rat.divInt z y).den : Int).natAbs = (Rat.divInt z y).den := by simp
    omega
theorem size_qtxt {q : Rat} (k : Nat) (hk : 0 < k) (hn : q.num.natAbs < 10 ^ k) (hd : q.den < 10 ^ k) : (qtxt q).size ≤ 2 * k + 3 := by
  have h1 := size_ztxt_le hn hk
  have h2 := size_ztxt_le (z := (q.den : Int)) (k := k) (by simpa using hd) hk
  unfold qtxt
  split
  · omega
  · rw [ByteArray.size_append, ByteArray.size_append]
    have : (⟨#[47]⟩ : ByteArray).size = 1 := rfl
    omega
theorem BadQ.ne {s : ByteArray} {k : Int} (h : BadQ s k) : k ≠ 0 := by
  rcases h with ⟨_, rfl⟩ | ⟨_, _, rfl⟩ <;> decide
theorem WrongQ.ne {a b : ByteArray} {k : Int} (h : WrongQ a b k) : k ≠ 0 := by
  rcases h with h | ⟨_, h⟩ <;> exact h.ne
theorem BadQ.not {s : ByteArray} {k : Int} (h : BadQ s k) : ¬ GoodQ s := by
  rintro ⟨h1, h2⟩
  rcases h with ⟨h, _⟩ | ⟨_, h, _⟩
  · omega
  · rw [h] at h2; cases h2
theorem WrongQ.not {a b : ByteArray} {k : Int} (h : WrongQ a b k) : ¬ (GoodQ a ∧ GoodQ b) := by
  rintro ⟨h1, h2⟩
  rcases h with h | ⟨_, h⟩
  · exact h.not h1
  · exact h.not h2

/-- What a function of two fractions tells: the text of f, or nothing and an error. -/
def QTells (f : Rat → Rat → Rat) (a b s : ByteArray) (k : Int) : Prop :=
  (k = 0 ∧ GoodQ a ∧ GoodQ b ∧ s = qtxt (f (qnum a) (qnum b))) ∨ (k ≠ 0 ∧ WrongQ a b k ∧ s = ⟨#[]⟩)
theorem QTells.yes {f : Rat → Rat → Rat} {a b s : ByteArray} {k : Int} (h : QTells f a b s k) (hk : k = 0) : GoodQ a ∧ GoodQ b ∧ s = qtxt (f (qnum a) (qnum b)) := by
  rcases h with ⟨_, h⟩ | ⟨h, _⟩
  · exact h
  · exact absurd hk h
theorem QTells.zero {f : Rat → Rat → Rat} {a b s : ByteArray} {k : Int} (h : QTells f a b s k) (ha : GoodQ a) (hb : GoodQ b) : k = 0 := by
  rcases h with ⟨h, _⟩ | ⟨_, h, _⟩
  · exact h
  · exact absurd ⟨ha, hb⟩ h.not
theorem QTells.no {f : Rat → Rat → Rat} {a b s : ByteArray} {k : Int} (h : QTells f a b s k) (hn : ¬ (GoodQ a ∧ GoodQ b)) : k ≠ 0 ∧ s = ⟨#[]⟩ := by
  rcases h with ⟨_, h1, h2, _⟩ | ⟨h, _, h2⟩
  · exact absurd ⟨h1, h2⟩ hn
  · exact ⟨h, h2⟩
/-- What a division tells. -/
def QDivs (a b s : ByteArray) (k : Int) : Prop :=
  (k = 0 ∧ GoodQ a ∧ GoodQ b ∧ qnum b ≠ 0 ∧ s = qtxt (qnum a / qnum b)) ∨
  (k ≠ 0 ∧ s = ⟨#[]⟩ ∧ (WrongQ a b k ∨ (GoodQ a ∧ GoodQ b ∧ qnum b = 0 ∧ k = 5)))
theorem QDivs.yes {a b s : ByteArray} {k : Int} (h : QDivs a b s k) (hk : k = 0) : GoodQ a ∧ GoodQ b ∧ qnum b ≠ 0 ∧ s = qtxt (qnum a / qnum b) := by
  rcases h with ⟨_, h⟩ | ⟨h, _⟩
  · exact h
  · exact absurd hk h
theorem QDivs.zero {a b s : ByteArray} {k : Int} (h : QDivs a b s k) (ha : GoodQ a) (hb : GoodQ b) (h0 : qnum b ≠ 0) : k = 0 := by
  rcases h with ⟨h, _⟩ | ⟨_, _, h | ⟨_, _, h, _⟩⟩
  · exact h
  · exact absurd ⟨ha, hb⟩ h.not
  · exact absurd h h0
theorem QDivs.no {a b s : ByteArray} {k : Int} (h : QDivs a b s k) (hk : k ≠ 0) : s = ⟨#[]⟩ ∧ (GoodQ a → GoodQ b → qnum b = 0) := by
  rcases h with ⟨h, _⟩ | ⟨_, hs, h | ⟨_, _, h, _⟩⟩
  · exact absurd h hk
  · exact ⟨hs, fun h1 h2 => absurd ⟨h1, h2⟩ h.not⟩
  · exact ⟨hs, fun _ _ => h⟩
/-- What a comparison tells. -/
def QLess (a b : ByteArray) (t : Bool) (k : Int) : Prop :=
  (k = 0 ∧ GoodQ a ∧ GoodQ b ∧ t = decide (qnum a < qnum b)) ∨ (k ≠ 0 ∧ WrongQ a b k ∧ t = false)
theorem QLess.yes {a b : ByteArray} {t : Bool} {k : Int} (h : QLess a b t k) (hk : k = 0) : GoodQ a ∧ GoodQ b ∧ t = decide (qnum a < qnum b) := by
  rcases h with ⟨_, h⟩ | ⟨h, _⟩
  · exact h
  · exact absurd hk h
theorem QLess.zero {a b : ByteArray} {t : Bool} {k : Int} (h : QLess a b t k) (ha : GoodQ a) (hb : GoodQ b) : k = 0 := by
  rcases h with ⟨h, _⟩ | ⟨_, h, _⟩
  · exact h
  · exact absurd ⟨ha, hb⟩ h.not
theorem QLess.no {a b : ByteArray} {t : Bool} {k : Int} (h : QLess a b t k) (hn : ¬ (GoodQ a ∧ GoodQ b)) : k ≠ 0 ∧ t = false := by
  rcases h with ⟨_, h1, h2, _⟩ | ⟨h, _, h2⟩
  · exact absurd ⟨h1, h2⟩ hn
  · exact ⟨h, h2⟩
/-- What Make tells. -/
def QMakes (a b s : ByteArray) (k : Int) : Prop :=
  (k = 0 ∧ GoodZ a ∧ GoodZ b ∧ znum b ≠ 0 ∧ s = qtxt (Rat.divInt (znum a) (znum b))) ∨
  (k ≠ 0 ∧ s = ⟨#[]⟩ ∧ (WrongZ a b k ∨ (GoodZ a ∧ GoodZ b ∧ znum b = 0 ∧ k = 5)))
theorem QMakes.yes {a b s : ByteArray} {k : Int} (h : QMakes a b s k) (hk : k = 0) : GoodZ a ∧ GoodZ b ∧ znum b ≠ 0 ∧ s = qtxt (Rat.divInt (znum a) (znum b)) := by
  rcases h with ⟨_, h⟩ | ⟨h, _⟩
  · exact h
  · exact absurd hk h
theorem QMakes.no {a b s : ByteArray} {k : Int} (h : QMakes a b s k) (hk : k ≠ 0) : s = ⟨#[]⟩ := by
  rcases h with ⟨h, _⟩ | ⟨_, h, _⟩
  · exact absurd h hk
  · exact h

end Go.Proofs.Ytokojbgpboccnaa

/-
  FRACTIONS BY THEIR SIZE; a Number, its size apart.
-/
namespace Go.Proofs.Ytokojbgpboccnaa
open Go.RowKit
open Num4
open Num (dg isNat dval)
set_option linter.unusedVariables false
set_option maxRecDepth 100000
set_option linter.unusedSimpArgs false

/-- Both parts have so many limbs or fewer. -/
def Sm (q : Rat) (m : Nat) : Prop := q.num.natAbs < B ^ m ∧ q.den < B ^ m
theorem Sm.mono {q : Rat} {m n : Nat} (h : Sm q m) (hn : m ≤ n) : Sm q n :=
  ⟨Nat.lt_of_lt_of_le h.1 (Nat.pow_le_pow_right (by decide) hn), Nat.lt_of_lt_of_le h.2 (Nat.pow_le_pow_right (by decide) hn)⟩
theorem Sm.pos {q : Rat} {m : Nat} (h : Sm q m) : 1 ≤ m := by
  rcases Nat.eq_zero_or_pos m with rfl | h1
  · have := h.2
    have := q.den_pos
    simp at *
    omega
  · exact h1
theorem Sm.mul {q r : Rat} {m n : Nat} (h : Sm q m) (h' : Sm r n) : Sm (q * r) (m + n) := by
  have e : q * r = Rat.divInt (q.num * r.num) (q.den * r.den) := by
    conv => lhs; rw [← Rat.num_divInt_den q, ← Rat.num_divInt_den r]
    rw [Rat.divInt_mul_divInt]
  obtain ⟨d1, d2⟩ := divInt_le (q.num * r.num) (q.den * r.den)
  rw [← e] at d1 d2
  rw [Int.natAbs_mul] at d1
  have h3 : ((q.den : Int) * (r.den : Int)).natAbs = q.den * r.den := by rw [Int.natAbs_mul]; rfl
  rw [h3] at d2
  have h4 : 0 < q.den * r.den := Nat.mul_pos q.den_pos r.den_pos
  refine ⟨?_, ?_⟩
  · rw [Nat.pow_add]; exact Nat.lt_of_le_of_lt d1 (Nat.mul_lt_mul'' h.1 h'.1)
  · rw [Nat.pow_add]; exact Nat.lt_of_le_of_lt (by omega) (Nat.mul_lt_mul'' h.2 h'.2)
theorem Sm.add {q r : Rat} {m n : Nat} (h : Sm q m) (h' : Sm r n) : Sm (q + r) (m + n + 1) := by
  have e : q + r = Rat.divInt (q.num * r.den + r.num * q.den) (q.den * r.den) := by
    conv => lhs; rw [← Rat.num_divInt_den q, ← Rat.num_divInt_den r]
    rw [Rat.divInt_add_divInt _ _ (by have := q.den_pos; omega) (by have := r.den_pos; omega)]
  obtain ⟨d1, d2⟩ := divInt_le (q.num * r.den + r.num * q.den) (q.den * r.den)
  rw [← e] at d1 d2
  have h3 : ((q.den : Int) * (r.den : Int)).natAbs = q.den * r.den := by rw [Int.natAbs_mul]; rfl
  rw [h3] at d2
  have h4 : 0 < q.den * r.den := Nat.mul_pos q.den_pos r.den_pos
  have h5 : (q.num * (r.den : Int) + r.num * (q.den : Int)).natAbs ≤ q.num.natAbs * r.den + r.num.natAbs * q.den := by
    refine Nat.le_trans (Int.natAbs_add_le _ _) ?_
    rw [Int.natAbs_mul, Int.natAbs_mul]
    exact Nat.le_refl _
  have h6 := Nat.mul_lt_mul'' h.1 h'.2
  have h7 := Nat.mul_lt_mul'' h'.1 h.2
  have h8 := Nat.mul_lt_mul'' h.2 h'.2
  rw [Nat.mul_comm (B ^ n)] at h7
  rw [← Nat.pow_add] at h6 h7 h8
  have h9 : B ^ (m + n + 1) = B ^ (m + n) * 10000 := rfl
  refine ⟨?_, ?_⟩ <;> rw [h9] <;> generalize B ^ (m + n) = M at * <;> omega
theorem Sm.inv {q : Rat} {m : Nat} (h : Sm q m) : Sm q⁻¹ m := by
  have hp := h.pos
  have h1 : 1 < B ^ m := Nat.one_lt_pow (by omega) (by decide)
  rw [Rat.inv_def]
  obtain ⟨d1, d2⟩ := divInt_le q.den q.num
  refine ⟨Nat.lt_of_le_of_lt d1 (by simpa using h.2), Nat.lt_of_le_of_lt d2 ?_⟩
  have := h.1
  omega
theorem Sm.div {q r : Rat} {m n : Nat} (h : Sm q m) (h' : Sm r n) : Sm (q / r) (m + n) := by
  rw [Rat.div_def]; exact h.mul h'.inv
theorem Sm.int {z : Int} {m : Nat} (h : z.natAbs < B ^ m) (hm : 1 ≤ m) : Sm (z : Rat) m := by
  refine ⟨by rw [Rat.num_intCast]; exact h, ?_⟩
  rw [Rat.den_intCast]
  exact Nat.one_lt_pow (by omega) (by decide)
theorem Sm.zero {m : Nat} (hm : 1 ≤ m) : Sm 0 m := by
  have h1 : 1 < B ^ m := Nat.one_lt_pow (by omega) (by decide)
  exact ⟨by show (0 : Int).natAbs < _; simp; omega, h1⟩
theorem Sm.good {s : ByteArray} (h : GoodQ s) : Sm (qnum s) 25 := by
  obtain ⟨h1, h2⟩ := qnum_lt h
  exact ⟨Nat.lt_of_lt_of_le h1 (by decide +kernel), Nat.lt_of_lt_of_le h2 (by decide +kernel)⟩
theorem Sm.neg {q : Rat} {m : Nat} (h : Sm q m) : Sm (-q) m := by
  refine ⟨?_, ?_⟩
  · rw [Rat.neg_num, Int.natAbs_neg]; exact h.1
  · rw [Rat.neg_den]; exact h.2
theorem Sm.sub {q r : Rat} {m n : Nat} (h : Sm q m) (h' : Sm r n) : Sm (q - r) (m + n + 1) := by
  rw [show q - r = q + -r by grind]; exact h.add h'.neg
/-- A value reads as a Number, its size apart. -/
def NF (w : World) (v : Value) (q : Rat) : Prop := ∃ k, Rtl w v q k
theorem Rtl.nf {w : World} {v : Value} {q : Rat} {k : Nat} (h : Rtl w v q k) : NF w v q := ⟨k, h⟩
theorem pow_up (m : Nat) : B ^ m ≤ Num.B ^ m := Nat.pow_le_pow_left (by decide) m
theorem NF.sm {w : World} {v : Value} {q : Rat} {m : Nat} (h : NF w v q) (hs : Sm q m) : Rtl w v q m := by
  obtain ⟨k, s, p, n, c, s', p', n', c', h1, h2, d, h3, h4⟩ := h
  refine ⟨s, p, n, c, s', p', n', c', h1, h2.fit m (Nat.lt_of_lt_of_le hs.1 (pow_up m)), d, h3.fit m ?_, h4⟩
  have := Nat.lt_of_lt_of_le hs.2 (pow_up m)
  rcases h4 with rfl | ⟨rfl, _⟩
  · simpa using this
  · simp; omega
theorem NF.on {w w' : World} {v : Value} {q : Rat} (h : NF w v q) (hb : Below w.heap.size w w') : NF w' v q := by
  obtain ⟨k, h⟩ := h
  exact ⟨k, h.on hb⟩
theorem NF.opened {w : World} {v : Value} {q : Rat} (h : NF w v q) : ∃ s p n c s' p' n' c', v = .agg #[.bool s, .slice p n c, .bool s', .slice p' n' c'] := by
  obtain ⟨k, h⟩ := h
  exact h.opened
theorem NF.moved {w w' : World} {v : Value} {q : Rat} (h : NF w v q) (hm : ∀ v z k, Whl w v z k → Whl w' v z k) : NF w' v q := by
  obtain ⟨k, s, p, n, c, s', p', n', c', h1, h2, d, h3, h4⟩ := h
  exact ⟨k, s, p, n, c, s', p', n', c', h1, hm _ _ _ h2, d, hm _ _ _ h3, h4⟩
theorem NF.drew {w : World} {v : Value} {q : Rat} (h : NF w v q) : NF w.drew v q := h.on (Below.drew (Below.refl _ _))
theorem NF.cast {w : World} {v : Value} {q r : Rat} (h : NF w v q) (e : q = r) : NF w v r := by rw [← e]; exact h
theorem nf {w w' : World} {v : Value} {q : Rat} (h : Hid (NF w v q)) (hb : Below w.heap.size w w') : Hid (NF w' v q) := hid (h.out.on hb)
theorem nadd_f {w : World} {v u : Value} {q r : Rat} {m n : Nat} (h : NF w v q) (h' : NF w u r) (hq : Sm q m) (hr : Sm r n) (hm : m ≤ 68719476736) (hn : n ≤ 68719476736) :
    Calls Try.prog 29 #[v, u] w fun e w' => ∃ v, e = .returned v ∧ NF w' v (q + r) ∧ Below w.heap.size w w' := by
  refine (addq_rtl ((h.sm hq).mono (Nat.le_max_left m n)) ((h'.sm hr).mono (Nat.le_max_right m n)) (by have := hq.pos; omega) (by omega)).mono ?_
  rintro e w' ⟨v, rfl, hv, hb⟩
  exact ⟨v, rfl, hv.nf, hb⟩
theorem nmul_f {w : World} {v u : Value} {q r : Rat} {m n : Nat} (h : NF w v q) (h' : NF w u r) (hq : Sm q m) (hr : Sm r n) (hm : m ≤ 68719476736) (hn : n ≤ 68719476736) :
    Calls Try.prog 37 #[v, u] w fun e w' => ∃ v, e = .returned v ∧ NF w' v (q * r) ∧ Below w.heap.size w w' := by
  refine (mulq_rtl ((h.sm hq).mono (Nat.le_max_left m n)) ((h'.sm hr).mono (Nat.le_max_right m n)) (by have := hq.pos; omega) (by omega)).mono ?_
  rintro e w' ⟨v, rfl, hv, hb⟩
  exact ⟨v, rfl, hv.nf, hb⟩
theorem sgn_eq_zero (q : Rat) : q.num.sign = 0 ↔ q = 0 := by rw [Int.sign_eq_zero_iff_zero, Rat.num_eq_zero]


end Go.Proofs.Ytokojbgpboccnaa

/-
  POLYNOMIALS BY THEIR SIZE. Nothing of a program.
-/
namespace Go.Proofs.Ytokojbgpboccnaa
open Go.RowKit
open Num4
open Num (dg isNat dval)
set_option linter.unusedVariables false
set_option maxRecDepth 100000
set_option linter.unusedSimpArgs false

theorem co_lt {l : List Rat} {i : Nat} (h : i < l.length) : co l i = l[i] := by simp [co, h]
theorem co_take {l : List Rat} {m i : Nat} (h : i < m) : co (l.take m) i = co l i := by
  unfold co
  rw [List.getElem?_take, if_pos h]
/-- Each coefficient has so many limbs or fewer. -/
def Sml (l : List Rat) (m : Nat) : Prop := 1 ≤ m ∧ ∀ i, Sm (co l i) m
theorem Sml.mono {l : List Rat} {m n : Nat} (h : Sml l m) (hn : m ≤ n) : Sml l n := ⟨by have := h.1; omega, fun i => (h.2 i).mono hn⟩
theorem Sml.nil {m : Nat} (hm : 1 ≤ m) : Sml [] m := ⟨hm, fun i => by rw [co_nil]; exact Sm.zero hm⟩
theorem Sml.trim {l : List Rat} {m : Nat} (h : Sml l m) : Sml (trimQ l) m := ⟨h.1, fun i => by rw [co_trim]; exact h.2 i⟩
theorem Sml.one {c : Rat} {m : Nat} (h : Sm c m) : Sml [c] m := ⟨h.pos, fun i => by
  cases i with
  | zero => exact h
  | succ i => rw [co_succ, co_nil]; exact Sm.zero h.pos⟩
theorem Sml.cons {c : Rat} {l : List Rat} {m : Nat} (h : Sm c m) (h' : Sml l m) : Sml (c :: l) m := ⟨h.pos, fun i => by
  cases i with
  | zero => exact h
  | succ i => rw [co_succ]; exact h'.2 i⟩
theorem Sml.take {l : List Rat} {m : Nat} (h : Sml l m) (n : Nat) : Sml (l.take n) m := ⟨h.1, fun i => by
  by_cases hi : i < n
  · rw [co_take hi]; exact h.2 i
  · rw [co_ge (by rw [List.length_take]; omega)]; exact Sm.zero h.1⟩
theorem Sml.sum {l r : List Rat} {m n : Nat} (h : Sml l m) (h' : Sml r n) : Sml (addp l r) (m + n + 1) := ⟨by omega, fun i => by rw [co_addp]; exact (h.2 i).add (h'.2 i)⟩
/-- Sums of products, so far. -/
theorem Sml.part {l r : List Rat} {m n : Nat} (h : Sml l m) (h' : Sml r n) (i : Nat) : ∀ k, Sm (sumN (fun j => co l j * co r (i - j)) k) (k * (m + n + 1) + 1) := by
  intro k
  induction k with
  | zero => exact Sm.zero (by omega)
  | succ k ih =>
    show Sm (sumN _ k + co l k * co r (i - k)) _
    exact (ih.add ((h.2 k).mul (h'.2 (i - k)))).mono (by rw [Nat.succ_mul]; omega)
/-- No more terms than the first list has. -/
theorem cnv_few (l r : List Rat) (i : Nat) : ∃ k, k ≤ l.length ∧ cnv l r i = sumN (fun j => co l j * co r (i - j)) k := by
  by_cases h : i + 1 ≤ l.length
  · exact ⟨i + 1, h, rfl⟩
  · refine ⟨l.length, Nat.le_refl _, ?_⟩
    exact sumN_more _ (by omega) fun k h1 h2 => by
      show co l k * _ = 0
      rw [co_ge h1]; grind
theorem Sml.prod {l r : List Rat} {m n : Nat} (h : Sml l m) (h' : Sml r n) : Sml (mulp l r) (l.length * (m + n + 1) + 1) := ⟨by omega, fun i => by
  rw [co_mulp]
  obtain ⟨k, hk, e⟩ := cnv_few l r i
  rw [e]
  exact (h.part h' i k).mono (by have := Nat.mul_le_mul_right (m + n + 1) hk; omega)⟩
theorem Sml.step {p q : List Rat} {m n : Nat} (h : Sml p m) (h' : Sml q n) : Sml (stepp p q) (m + m + n + n + 1) := ⟨by omega, fun i => by
  rw [co_stepp]
  have h1 : Sm (top p / top q) (m + n) := (h.2 _).div (h'.2 _)
  split
  · exact ((h.2 i).sub (h1.mul (h'.2 _))).mono (by omega)
  · exact ((h.2 i).sub (Sm.zero (m := 1) (by decide))).mono (by have := h.1; have := h'.1; omega)⟩
theorem Sm.pow {x : Rat} {n : Nat} (h : Sm x n) : ∀ k : Nat, Sm (x ^ k) (k * n + 1) := by
  intro k
  induction k with
  | zero =>
    rw [Rat.pow_zero]
    exact (Sm.int (z := 1) (m := 1) (by decide) (by decide)).mono (by omega)
  | succ k ih => rw [pow_nat_succ]; exact (ih.mul h).mono (by rw [Nat.succ_mul]; omega)
/-- The value so far. -/
theorem Sml.value {l : List Rat} {x : Rat} {m n : Nat} (h : Sml l m) (hx : Sm x n) : ∀ k, Sm (sumN (fun i => co l i * x ^ i) k) (k * (m + k * n + 2) + 1) := by
  have key : ∀ K k, k ≤ K → Sm (sumN (fun i => co l i * x ^ i) k) (k * (m + K * n + 2) + 1) := by
    intro K k
    induction k with
    | zero => intro _; exact Sm.zero (by omega)
    | succ k ih =>
      intro hk
      show Sm (sumN _ k + co l k * x ^ k) _
      have h1 := (h.2 k).mul (hx.pow k)
      have h2 := Nat.mul_le_mul_right n (show k ≤ K by omega)
      exact ((ih (by omega)).add h1).mono (by rw [Nat.succ_mul]; omega)
  exact fun k => key k k (Nat.le_refl _)

end Go.Proofs.Ytokojbgpboccnaa

/-
  POLYNOMIALS IN MEMORY: rows of Numbers.
-/
namespace Go.Proofs.Ytokojbgpboccnaa
open Go.RowKit
open Num
set_option linter.unusedVariables false
set_option maxRecDepth 100000
set_option linter.unusedSimpArgs false

theorem infoN : (Try.prog.info? 49).map (fun i => (i.zero, i.size, i.bytes)) = some (some (.agg #[.bool false, .slice none 0 0, .bool false, .slice none 0 0]), 4, 64) := by kernel_rfl
/-- No number at all. -/
def Nz : Nr := ((false, none, 0, 0), (false, none, 0, 0))
/-- Four cells, of an array and of a world. -/
def C4 (cur : Array Value) (j : Nat) (r : Nr) : Prop := cur[j]? = some (.bool r.1.1) ∧ cur[j + 1]? = some (.slice r.1.2.1 r.1.2.2.1 r.1.2.2.2) ∧ cur[j + 2]? = some (.bool r.2.1) ∧ cur[j + 3]? = some (.slice r.2.2.1 r.2.2.2.1 r.2.2.2.2)
def At4 (w : World) (b j : Nat) (r : Nr) : Prop := w.cell? ⟨b, j, none⟩ = some (.bool r.1.1) ∧ w.cell? ⟨b, j + 1, none⟩ = some (.slice r.1.2.1 r.1.2.2.1 r.1.2.2.2) ∧ w.cell? ⟨b, j + 2, none⟩ = some (.bool r.2.1) ∧ w.cell? ⟨b, j + 3, none⟩ = some (.slice r.2.2.1 r.2.2.2.1 r.2.2.2.2)
theorem At4.of {w : World} {b j : Nat} {cur : Array Value} {T : TypeId} {f : Nat × Nat} {r : Nr} (h : w.heap[b]? = some (.cells cur T f)) (hc : C4 cur j r) : At4 w b j r := by
  obtain ⟨h0, h1, h2, h3⟩ := hc
  refine ⟨?_, ?_, ?_, ?_⟩ <;> simp [World.cell?, h, h0, h1, h2, h3]
theorem At4.kept {w w' : World} {b j : Nat} {r : Nr} (h : At4 w b j r) (e : w'.heap[b]? = w.heap[b]?) : At4 w' b j r := by
  obtain ⟨h0, h1, h2, h3⟩ := h
  exact ⟨(World.cell?_of_block e).trans h0, (World.cell?_of_block e).trans h1, (World.cell?_of_block e).trans h2, (World.cell?_of_block e).trans h3⟩
theorem cells_kept {w w' : World} {b o : Nat} {v0 v1 v2 v3 : Value} (h : w.cell? ⟨b, o, none⟩ = some v0 ∧ w.cell? ⟨b, o + 1, none⟩ = some v1 ∧ w.cell? ⟨b, o + 2, none⟩ = some v2 ∧ w.cell? ⟨b, o + 3, none⟩ = some v3) (e : w'.heap[b]? = w.heap[b]?) : w'.cell? ⟨b, o, none⟩ = some v0 ∧ w'.cell? ⟨b, o + 1, none⟩ = some v1 ∧ w'.cell? ⟨b, o + 2, none⟩ = some v2 ∧ w'.cell? ⟨b, o + 3, none⟩ = some v3 :=
  ⟨(World.cell?_of_block e).trans h.1, (World.cell?_of_block e).trans h.2.1, (World.cell?_of_block e).trans h.2.2.1, (World.cell?_of_block e).trans h.2.2.2⟩
theorem C4.other {cur : Array Value} {j k : Nat} {r : Nr} (h : C4 cur j r) (hk : k < j ∨ j + 3 < k) (x : Value) : C4 (cur.setIfInBounds k x) j r := by
  obtain ⟨h0, h1, h2, h3⟩ := h
  refine ⟨?_, ?_, ?_, ?_⟩
  · rw [Array.getElem?_setIfInBounds_ne (by omega)]; exact h0
  · rw [Array.getElem?_setIfInBounds_ne (by omega)]; exact h1
  · rw [Array.getElem?_setIfInBounds_ne (by omega)]; exact h2
  · rw [Array.getElem?_setIfInBounds_ne (by omega)]; exact h3
def put4 (cur : Array Value) (j : Nat) (r : Nr) : Array Value := (((cur.setIfInBounds j (.bool r.1.1)).setIfInBounds (j + 1) (.slice r.1.2.1 r.1.2.2.1 r.1.2.2.2)).setIfInBounds (j + 2) (.bool r.2.1)).setIfInBounds (j + 3) (.slice r.2.2.1 r.2.2.2.1 r.2.2.2.2)
theorem C4.self (cur : Array Value) {j : Nat} (h : j + 3 < cur.size) (r : Nr) : C4 (put4 cur j r) j r := by
  unfold put4
  refine ⟨?_, ?_, ?_, ?_⟩
  · rw [Array.getElem?_setIfInBounds_ne (by omega), Array.getElem?_setIfInBounds_ne (by omega), Array.getElem?_setIfInBounds_ne (by omega), Array.getElem?_setIfInBounds_self_of_lt (by omega)]
  · rw [Array.getElem?_setIfInBounds_ne (by omega), Array.getElem?_setIfInBounds_ne (by omega), Array.getElem?_setIfInBounds_self_of_lt (by simp; omega)]
  · rw [Array.getElem?_setIfInBounds_ne (by omega), Array.getElem?_setIfInBounds_self_of_lt (by simp; omega)]
  · rw [Array.getElem?_setIfInBounds_self_of_lt (by simp; omega)]
theorem C4.far {cur : Array Value} {i j : Nat} {r s : Nr} (h : C4 cur (i * 4) r) (hne : i ≠ j) : C4 (put4 cur (j * 4) s) (i * 4) r :=
  (((h.other (by omega) _).other (by omega) _).other (by omega) _).other (by omega) _
theorem size_put4 (cur : Array Value) (j : Nat) (r : Nr) : (put4 cur j r).size = cur.size := by simp [put4]
theorem mem_set {cur : Array Value} {k : Nat} {x u : Value} (h : u ∈ (cur.setIfInBounds k x).toList) : u ∈ cur.toList ∨ u = x := by
  rw [Array.toList_setIfInBounds] at h
  exact List.mem_or_eq_of_mem_set h
theorem ni_put4 {cur : Array Value} (h : ∀ u ∈ cur.toList, NI u) (j : Nat) (r : Nr) : ∀ u ∈ (put4 cur j r).toList, NI u := by
  intro u hu
  unfold put4 at hu
  rcases mem_set hu with hu | rfl
  · rcases mem_set hu with hu | rfl
    · rcases mem_set hu with hu | rfl
      · rcases mem_set hu with hu | rfl
        · exact h u hu
        · exact NI.bool _
      · exact NI.slc _ _ _
    · exact NI.bool _
  · exact NI.slc _ _ _
theorem heap_set {w : World} {b k : Nat} {cur : Array Value} {T : TypeId} {f : Nat × Nat} (h : w.heap[b]? = some (.cells cur T f)) (x : Value) : (w.setCell ⟨b, k, none⟩ x).heap[b]? = some (.cells (cur.setIfInBounds k x) T f) := by
  simp only [World.setCell, Array.getElem?_modify, h]
  simp
/-- Another one at a place. -/
def upd (rs : Nat → Nr) (i : Nat) (r : Nr) : Nat → Nr := fun k => if k = i then r else rs k
theorem upd_self (rs : Nat → Nr) (i : Nat) (r : Nr) : upd rs i r i = r := if_pos rfl
theorem upd_ne (rs : Nat → Nr) {i k : Nat} (r : Nr) (h : k ≠ i) : upd rs i r k = rs k := if_neg h
/-- Block b begins with n Numbers, may be written, and holds no numbers of its own. -/
def NRw (w : World) (b n : Nat) (rs : Nat → Nr) : Prop := ∃ cur, w.heap[b]? = some (.cells cur 49 (0, 0)) ∧ n * 4 ≤ cur.size ∧ (∀ i, i < n → C4 cur (i * 4) (rs i)) ∧ ∀ u ∈ cur.toList, NI u
theorem NRw.lt {w : World} {b n : Nat} {rs : Nat → Nr} (h : NRw w b n rs) : b < w.heap.size := by
  obtain ⟨cur, h, _⟩ := h
  exact (Array.getElem?_eq_some_iff.1 h).1
theorem NRw.kept {w w' : World} {b n : Nat} {rs : Nat → Nr} (h : NRw w b n rs) (e : w'.heap[b]? = w.heap[b]?) : NRw w' b n rs := by
  obtain ⟨cur, h, h2⟩ := h
  exact ⟨cur, e.trans h, h2⟩
theorem NRw.on {w w' : World} {b n : Nat} {rs : Nat → Nr} (h : NRw w b n rs) (hb : Below w.heap.size w w') : NRw w' b n rs := h.kept (hb.block b h.lt)
theorem NRw.at {w : World} {b n : Nat} {rs : Nat → Nr} (h : NRw w b n rs) {i : Nat} (hi : i < n) : At4 w b (i * 4) (rs i) := by
  obtain ⟨cur, h, _, h2, _⟩ := h
  exact At4.of h (h2 i hi)
theorem NRw.cells {w : World} {b n : Nat} {rs : Nat → Nr} (h : NRw w b n rs) {i : Nat} (hi : i < n) : w.cell? ⟨b, i * 4, none⟩ = some (.bool (rs i).1.1) ∧ w.cell? ⟨b, i * 4 + 1, none⟩ = some (.slice (rs i).1.2.1 (rs i).1.2.2.1 (rs i).1.2.2.2) ∧ w.cell? ⟨b, i * 4 + 2, none⟩ = some (.bool (rs i).2.1) ∧ w.cell? ⟨b, i * 4 + 3, none⟩ = some (.slice (rs i).2.2.1 (rs i).2.2.2.1 (rs i).2.2.2.2) := h.at hi
theorem NRw.noint {w : World} {b n : Nat} {rs : Nat → Nr} (h : NRw w b n rs) : NoInt w b := by
  obtain ⟨cur, h, _, _, h2⟩ := h
  intro cur' T f e u hu
  rw [h] at e
  cases e
  exact h2 u hu
theorem NRw.less {w : World} {b n m : Nat} {rs : Nat → Nr} (h : NRw w b n rs) (hm : m ≤ n) : NRw w b m rs := by
  obtain ⟨cur, h, h1, h2, h3⟩ := h
  exact ⟨cur, h, by omega, fun i hi => h2 i (by omega), h3⟩
/-- What a walk needs to write the i-th one. -/
theorem NRw.stores {w : World} {b n : Nat} {rs : Nat → Nr} (h : NRw w b n rs) {i : Nat} (hi : i < n) :
    (w.cell? ⟨b, i * 4, none⟩ = some (.bool (rs i).1.1) ∧ w.frozen? ⟨b, i * 4, none⟩ = false) ∧
    ((∀ x, (w.setCell ⟨b, i * 4, none⟩ x).cell? ⟨b, i * 4 + 1, none⟩ = some (.slice (rs i).1.2.1 (rs i).1.2.2.1 (rs i).1.2.2.2)) ∧ (∀ x, (w.setCell ⟨b, i * 4, none⟩ x).frozen? ⟨b, i * 4 + 1, none⟩ = false)) ∧
    ((∀ x y, ((w.setCell ⟨b, i * 4, none⟩ x).setCell ⟨b, i * 4 + 1, none⟩ y).cell? ⟨b, i * 4 + 2, none⟩ = some (.bool (rs i).2.1)) ∧ (∀ x y, ((w.setCell ⟨b, i * 4, none⟩ x).setCell ⟨b, i * 4 + 1, none⟩ y).frozen? ⟨b, i * 4 + 2, none⟩ = false)) ∧
    ((∀ x y z, (((w.setCell ⟨b, i * 4, none⟩ x).setCell ⟨b, i * 4 + 1, none⟩ y).setCell ⟨b, i * 4 + 2, none⟩ z).cell? ⟨b, i * 4 + 3, none⟩ = some (.slice (rs i).2.2.1 (rs i).2.2.2.1 (rs i).2.2.2.2)) ∧ (∀ x y z, (((w.setCell ⟨b, i * 4, none⟩ x).setCell ⟨b, i * 4 + 1, none⟩ y).setCell ⟨b, i * 4 + 2, none⟩ z).frozen? ⟨b, i * 4 + 3, none⟩ = false)) := by
  obtain ⟨cur, h, hs, h2, _⟩ := h
  obtain ⟨c0, c1, c2, c3⟩ := h2 i hi
  have fr : ∀ {w : World} {cur : Array Value} {k : Nat}, w.heap[b]? = some (.cells cur 49 (0, 0)) → w.frozen? ⟨b, k, none⟩ = false := by
    intro w cur k h
    simp [World.frozen?, h]
  refine ⟨⟨by simp [World.cell?, h, c0], fr h⟩, ⟨fun x => ?_, fun x => fr (heap_set h x)⟩, ⟨fun x y => ?_, fun x y => fr (heap_set (heap_set h x) y)⟩, fun x y z => ?_, fun x y z => fr (heap_set (heap_set (heap_set h x) y) z)⟩
  · simp only [World.cell?, heap_set h x]
    rw [Array.getElem?_setIfInBounds_ne (by omega)]; exact c1
  · simp only [World.cell?, heap_set (heap_set h x) y]
    rw [Array.getElem?_setIfInBounds_ne (by omega), Array.getElem?_setIfInBounds_ne (by omega)]; exact c2
  · simp only [World.cell?, heap_set (heap_set (heap_set h x) y) z]
    rw [Array.getElem?_setIfInBounds_ne (by omega), Array.getElem?_setIfInBounds_ne (by omega), Array.getElem?_setIfInBounds_ne (by omega)]; exact c3
theorem set4_grown (w : World) (b i : Nat) (s1 : Bool) (p1 : Option Addr) (n1 c1 : Nat) (s2 : Bool) (p2 : Option Addr) (n2 c2 : Nat) : w.grownBy ((((w.setCell ⟨b, i * 4, none⟩ (.bool s1)).setCell ⟨b, i * 4 + 1, none⟩ (.slice p1 n1 c1)).setCell ⟨b, i * 4 + 2, none⟩ (.bool s2)).setCell ⟨b, i * 4 + 3, none⟩ (.slice p2 n2 c2)) (some b) :=
  ⟨rfl, rfl, rfl, by simp [World.setCell], fun k _ hk => by
    rw [Below.heap_setCell _ _ _ _ (by intro e; exact hk (congrArg some e)), Below.heap_setCell _ _ _ _ (by intro e; exact hk (congrArg some e)), Below.heap_setCell _ _ _ _ (by intro e; exact hk (congrArg some e)), Below.heap_setCell _ _ _ _ (by intro e; exact hk (congrArg some e))]⟩
theorem NRw.put {w : World} {b n : Nat} {rs : Nat → Nr} (h : NRw w b n rs) {i : Nat} (hi : i < n) (s1 : Bool) (p1 : Option Addr) (n1 c1 : Nat) (s2 : Bool) (p2 : Option Addr) (n2 c2 : Nat) :
    NRw ((((w.setCell ⟨b, i * 4, none⟩ (.bool s1)).setCell ⟨b, i * 4 + 1, none⟩ (.slice p1 n1 c1)).setCell ⟨b, i * 4 + 2, none⟩ (.bool s2)).setCell ⟨b, i * 4 + 3, none⟩ (.slice p2 n2 c2)) b n (upd rs i ((s1, p1, n1, c1), (s2, p2, n2, c2))) := by
  obtain ⟨cur, h, hs, h2, h3⟩ := h
  refine ⟨put4 cur (i * 4) ((s1, p1, n1, c1), (s2, p2, n2, c2)), ?_, by rw [size_put4]; exact hs, fun k hk => ?_, ni_put4 h3 _ _⟩
  · exact heap_set (heap_set (heap_set (heap_set h _) _) _) _
  · by_cases hki : k = i
    · subst hki
      rw [upd_self]
      exact C4.self cur (by omega) _
    · rw [upd_ne _ _ hki]
      exact (h2 k hk).far hki
theorem NRw.far {w : World} {b n g : Nat} {rs : Nat → Nr} (h : NRw w b n rs) (i : Nat) (hne : g ≠ b) (s1 : Bool) (p1 : Option Addr) (n1 c1 : Nat) (s2 : Bool) (p2 : Option Addr) (n2 c2 : Nat) : ((((w.setCell ⟨b, i * 4, none⟩ (.bool s1)).setCell ⟨b, i * 4 + 1, none⟩ (.slice p1 n1 c1)).setCell ⟨b, i * 4 + 2, none⟩ (.bool s2)).setCell ⟨b, i * 4 + 3, none⟩ (.slice p2 n2 c2)).heap[g]? = w.heap[g]? := by
  rw [Below.heap_setCell _ _ _ _ (by exact hne), Below.heap_setCell _ _ _ _ (by exact hne), Below.heap_setCell _ _ _ _ (by exact hne), Below.heap_setCell _ _ _ _ (by exact hne)]
theorem NRw.below {w0 w : World} {K b n : Nat} {rs : Nat → Nr} (h : NRw w b n rs) (hb : Below K w0 w) (i : Nat) (hK : K ≤ b) (s1 : Bool) (p1 : Option Addr) (n1 c1 : Nat) (s2 : Bool) (p2 : Option Addr) (n2 c2 : Nat) : Below K w0 ((((w.setCell ⟨b, i * 4, none⟩ (.bool s1)).setCell ⟨b, i * 4 + 1, none⟩ (.slice p1 n1 c1)).setCell ⟨b, i * 4 + 2, none⟩ (.bool s2)).setCell ⟨b, i * 4 + 3, none⟩ (.slice p2 n2 c2)) :=
  (((hb.setCell (p := ⟨b, i * 4, none⟩) hK _).setCell (p := ⟨b, i * 4 + 1, none⟩) hK _).setCell (p := ⟨b, i * 4 + 2, none⟩) hK _).setCell (p := ⟨b, i * 4 + 3, none⟩) hK _
theorem NRw.dr {w : World} {b n : Nat} {rs : Nat → Nr} (h : NRw w b n rs) : NRw w.drew b n rs := h
theorem rwo {w w' : World} {b n : Nat} {rs : Nat → Nr} (h : Hid (NRw w b n rs)) (hb : Below w.heap.size w w') : Hid (NRw w' b n rs) := hid (h.out.on hb)
theorem NF.grown {w w' : World} {v : Value} {q : Rat} {g : Nat} (h : NF w v q) (hn : NoInt w g) (hg : w.grownBy w' (some g)) : NF w' v q := h.moved fun _ _ _ hv => by
  obtain ⟨s, sv, xs, h1, h2, h3⟩ := hv
  exact ⟨s, sv, xs, h1, h2.grown hn hg, h3⟩
theorem NF.put {w : World} {v : Value} {q : Rat} {b n : Nat} {rs : Nat → Nr} (h : NF w v q) (hr : NRw w b n rs) (i : Nat) (s1 : Bool) (p1 : Option Addr) (n1 c1 : Nat) (s2 : Bool) (p2 : Option Addr) (n2 c2 : Nat) : NF ((((w.setCell ⟨b, i * 4, none⟩ (.bool s1)).setCell ⟨b, i * 4 + 1, none⟩ (.slice p1 n1 c1)).setCell ⟨b, i * 4 + 2, none⟩ (.bool s2)).setCell ⟨b, i * 4 + 3, none⟩ (.slice p2 n2 c2)) v q := h.grown hr.noint (set4_grown w b i s1 p1 n1 c1 s2 p2 n2 c2)
theorem NF.zero (w : World) : NF w (nag Nz) 0 := ⟨1, _, _, _, _, _, _, _, _, rfl, cells_whl_zero w 1, 0, cells_whl_zero w 1, .inr ⟨rfl, rfl⟩⟩
/-! The same, where the walk writes the place otherwise. -/
theorem NRw.cellsO {w : World} {b n : Nat} {rs : Nat → Nr} (h : NRw w b n rs) {i : Nat} (hi : i < n) {o : Nat} (ho : o = i * 4) : w.cell? ⟨b, o, none⟩ = some (.bool (rs i).1.1) ∧ w.cell? ⟨b, o + 1, none⟩ = some (.slice (rs i).1.2.1 (rs i).1.2.2.1 (rs i).1.2.2.2) ∧ w.cell? ⟨b, o + 2, none⟩ = some (.bool (rs i).2.1) ∧ w.cell? ⟨b, o + 3, none⟩ = some (.slice (rs i).2.2.1 (rs i).2.2.2.1 (rs i).2.2.2.2) := by subst ho; exact h.cells hi
theorem NRw.storesO {w : World} {b n : Nat} {rs : Nat → Nr} (h : NRw w b n rs) {i : Nat} (hi : i < n) {o : Nat} (ho : o = i * 4) :
    (w.cell? ⟨b, o, none⟩ = some (.bool (rs i).1.1) ∧ w.frozen? ⟨b, o, none⟩ = false) ∧
    ((∀ x, (w.setCell ⟨b, o, none⟩ x).cell? ⟨b, o + 1, none⟩ = some (.slice (rs i).1.2.1 (rs i).1.2.2.1 (rs i).1.2.2.2)) ∧ (∀ x, (w.setCell ⟨b, o, none⟩ x).frozen? ⟨b, o + 1, none⟩ = false)) ∧
    ((∀ x y, ((w.setCell ⟨b, o, none⟩ x).setCell ⟨b, o + 1, none⟩ y).cell? ⟨b, o + 2, none⟩ = some (.bool (rs i).2.1)) ∧ (∀ x y, ((w.setCell ⟨b, o, none⟩ x).setCell ⟨b, o + 1, none⟩ y).frozen? ⟨b, o + 2, none⟩ = false)) ∧
    ((∀ x y z, (((w.setCell ⟨b, o, none⟩ x).setCell ⟨b, o + 1, none⟩ y).setCell ⟨b, o + 2, none⟩ z).cell? ⟨b, o + 3, none⟩ = some (.slice (rs i).2.2.1 (rs i).2.2.2.1 (rs i).2.2.2.2)) ∧ (∀ x y z, (((w.setCell ⟨b, o, none⟩ x).setCell ⟨b, o + 1, none⟩ y).setCell ⟨b, o + 2, none⟩ z).frozen? ⟨b, o + 3, none⟩ = false)) := by subst ho; exact h.stores hi
theorem set4_grownO (w : World) (b i : Nat) {o : Nat} (ho : o = i * 4) (s1 : Bool) (p1 : Option Addr) (n1 c1 : Nat) (s2 : Bool) (p2 : Option Addr) (n2 c2 : Nat) : w.grownBy ((((w.setCell ⟨b, o, none⟩ (.bool s1)).setCell ⟨b, o + 1, none⟩ (.slice p1 n1 c1)).setCell ⟨b, o + 2, none⟩ (.bool s2)).setCell ⟨b, o + 3, none⟩ (.slice p2 n2 c2)) (some b) := by subst ho; exact set4_grown w b i s1 p1 n1 c1 s2 p2 n2 c2
theorem NRw.putO {w : World} {b n : Nat} {rs : Nat → Nr} (h : NRw w b n rs) {i : Nat} (hi : i < n) {o : Nat} (ho : o = i * 4) (s1 : Bool) (p1 : Option Addr) (n1 c1 : Nat) (s2 : Bool) (p2 : Option Addr) (n2 c2 : Nat) :
    NRw ((((w.setCell ⟨b, o, none⟩ (.bool s1)).setCell ⟨b, o + 1, none⟩ (.slice p1 n1 c1)).setCell ⟨b, o + 2, none⟩ (.bool s2)).setCell ⟨b, o + 3, none⟩ (.slice p2 n2 c2)) b n (upd rs i ((s1, p1, n1, c1), (s2, p2, n2, c2))) := by subst ho; exact h.put hi s1 p1 n1 c1 s2 p2 n2 c2
theorem NRw.farO {w : World} {b n g : Nat} {rs : Nat → Nr} (h : NRw w b n rs) (i : Nat) (hne : g ≠ b) {o : Nat} (ho : o = i * 4) (s1 : Bool) (p1 : Option Addr) (n1 c1 : Nat) (s2 : Bool) (p2 : Option Addr) (n2 c2 : Nat) : ((((w.setCell ⟨b, o, none⟩ (.bool s1)).setCell ⟨b, o + 1, none⟩ (.slice p1 n1 c1)).setCell ⟨b, o + 2, none⟩ (.bool s2)).setCell ⟨b, o + 3, none⟩ (.slice p2 n2 c2)).heap[g]? = w.heap[g]? := by subst ho; exact h.far i hne s1 p1 n1 c1 s2 p2 n2 c2
theorem NRw.belowO {w0 w : World} {K b n : Nat} {rs : Nat → Nr} (h : NRw w b n rs) (hb : Below K w0 w) (i : Nat) (hK : K ≤ b) {o : Nat} (ho : o = i * 4) (s1 : Bool) (p1 : Option Addr) (n1 c1 : Nat) (s2 : Bool) (p2 : Option Addr) (n2 c2 : Nat) : Below K w0 ((((w.setCell ⟨b, o, none⟩ (.bool s1)).setCell ⟨b, o + 1, none⟩ (.slice p1 n1 c1)).setCell ⟨b, o + 2, none⟩ (.bool s2)).setCell ⟨b, o + 3, none⟩ (.slice p2 n2 c2)) := by subst ho; exact h.below hb i hK s1 p1 n1 c1 s2 p2 n2 c2
theorem NF.putO {w : World} {v : Value} {q : Rat} {b n : Nat} {rs : Nat → Nr} (h : NF w v q) (hr : NRw w b n rs) (i : Nat) {o : Nat} (ho : o = i * 4) (s1 : Bool) (p1 : Option Addr) (n1 c1 : Nat) (s2 : Bool) (p2 : Option Addr) (n2 c2 : Nat) : NF ((((w.setCell ⟨b, o, none⟩ (.bool s1)).setCell ⟨b, o + 1, none⟩ (.slice p1 n1 c1)).setCell ⟨b, o + 2, none⟩ (.bool s2)).setCell ⟨b, o + 3, none⟩ (.slice p2 n2 c2)) v q := by subst ho; exact h.put hr i s1 p1 n1 c1 s2 p2 n2 c2
/-! All blocks but one. -/
theorem gby_refl (w : World) (row : Option Nat) : w.grownBy w row := ⟨rfl, rfl, rfl, Nat.le_refl _, fun _ _ _ => rfl⟩
theorem gby_tr {w0 w w' : World} {row : Option Nat} (h : w0.grownBy w row) (h2 : w.grownBy w' row) : w0.grownBy w' row :=
  ⟨h2.os.trans h.os, h2.tape.trans h.tape, h2.output.trans h.output, Nat.le_trans h.size h2.size, fun k hk hne => (h2.block k (Nat.lt_of_lt_of_le hk h.size) hne).trans (h.block k hk hne)⟩
theorem gby_on {w0 w w' : World} {row : Option Nat} (h : Hid (w0.grownBy w row)) (hb : Below w.heap.size w w') : Hid (w0.grownBy w' row) :=
  hid ⟨hb.os.trans h.out.os, hb.tape.trans h.out.tape, hb.output.trans h.out.output, Nat.le_trans h.out.size hb.size, fun k hk hne => (hb.block k (Nat.lt_of_lt_of_le hk h.out.size)).trans (h.out.block k hk hne)⟩
theorem gby_set4 {w0 w : World} {row : Option Nat} {g : Nat} (h : w0.grownBy w row) (hg : w0.heap.size ≤ g) (x0 x1 x2 x3 : Value) : w0.grownBy ((((w.setCell ⟨g, 0, none⟩ x0).setCell ⟨g, 1, none⟩ x1).setCell ⟨g, 2, none⟩ x2).setCell ⟨g, 3, none⟩ x3) row :=
  ⟨h.os, h.tape, h.output, by simpa [World.setCell] using h.size, fun k hk hne => (heap4 (by omega) x0 x1 x2 x3).trans (h.block k hk hne)⟩
/-- A slice value reads as these fractions. -/
def PN (w : World) (v : Value) (l : List Rat) : Prop := ∃ (a : Option Addr) (c : Nat) (rs : Nat → Nr), v = .slice a l.length c ∧ l.length ≤ c ∧ c ≤ maxLen ∧ ∀ i, i < l.length → ∃ b, a = some ⟨b, 0, none⟩ ∧ b < w.heap.size ∧ At4 w b (i * 4) (rs i) ∧ NF w (nag (rs i)) (co l i)
theorem PN.on {w w' : World} {v : Value} {l : List Rat} (h : PN w v l) (hb : Below w.heap.size w w') : PN w' v l := by
  obtain ⟨a, c, rs, h1, h2, h3, h4⟩ := h
  refine ⟨a, c, rs, h1, h2, h3, fun i hi => ?_⟩
  obtain ⟨b, e, hl, ha, hq⟩ := h4 i hi
  exact ⟨b, e, Nat.lt_of_lt_of_le hl hb.size, ha.kept (hb.block b hl), hq.on hb⟩
theorem PN.opened {w : World} {v : Value} {l : List Rat} (h : PN w v l) : ∃ a c, v = .slice a l.length c ∧ l.length ≤ c ∧ c ≤ maxLen := by
  obtain ⟨a, c, rs, h1, h2, h3, _⟩ := h
  exact ⟨a, c, h1, h2, h3⟩
theorem PN.nil (w : World) {a : Option Addr} {c : Nat} (hc : c ≤ maxLen) : PN w (.slice a 0 c) [] := ⟨a, c, fun _ => Nz, rfl, Nat.zero_le _, hc, fun i hi => absurd hi (Nat.not_lt_zero _)⟩
theorem PN.take {w : World} {l : List Rat} {a : Option Addr} {n c m : Nat} (h : PN w (.slice a n c) l) (hm : m ≤ l.length) : PN w (.slice a m c) (l.take m) := by
  obtain ⟨a', c', rs, h1, h2, h3, h4⟩ := h
  obtain ⟨rfl, rfl, rfl⟩ := Value.slice.inj h1
  have hl : (l.take m).length = m := by rw [List.length_take]; omega
  refine ⟨a, c, rs, by rw [hl], by omega, h3, fun i hi => ?_⟩
  rw [hl] at hi
  rw [co_take hi]
  exact h4 i (by omega)
theorem NRw.pn {w : World} {b n c : Nat} {rs : Nat → Nr} {l : List Rat} (h : NRw w b n rs) (hl : l.length = n) (hn : n ≤ c) (hc : c ≤ maxLen) (hq : ∀ i, i < n → NF w (nag (rs i)) (co l i)) : PN w (.slice (some ⟨b, 0, none⟩) n c) l :=
  ⟨_, c, rs, by rw [hl], by omega, hc, fun i hi => ⟨b, rfl, h.lt, h.at (by omega), hq i (by omega)⟩⟩
theorem made4 {z : Array Value} (hz : z.size = 4) {n i k : Nat} (hi : i < n) (hk : k < 4) : (madeCells z (n * 4))[i * 4 + k]? = z[k]? := by
  have h : i * 4 + k < n * 4 := by omega
  have hm : (i * 4 + k) % 4 = k := by omega
  simp [madeCells, h, hz, hm, hk]
/-- 'make(Polynomial, n)'. -/
theorem wpList_make_ns (w : World) {ops : Array Oper} {rest : List Oper} {o : Oper} {a : Act} {Q : Exit → Act → World → Prop}
    (hg : o.guard = none) (l c : Operand) (t : TypeId) (hop : o.op = Op.makeSlice t l c) (h1 : Try.prog.underlying t = some (.slice 49))
    (n : Nat) (hl : a.eval l = .int .i64 n) (hc : a.eval c = .int .i64 n) (hb : n ≤ 1000000000000)
    (hK : ∀ w', NRw w' w.heap.size n (fun _ => Nz) → Below w.heap.size w w' → w'.heap.size = w.heap.size + 1 → wpList Try.prog ops Q rest (a.put o.dst (.slice (some ⟨w.heap.size, 0, none⟩) n n)) w') :
    wpList Try.prog ops Q (o :: rest) a w := by
  obtain ⟨i, hi, hz0, hz1, hz2⟩ := info_parts infoN
  refine wpList_plain hg fun K hK' => ?_
  have hr := run_make (P := Try.prog) w t _ i _ h1 hi hz0 .i64 .i64 (n : Int) (n : Int) (by omega) (by omega) (by rw [hz2]; omega) (by omega)
  simp only [Int.toNat_natCast] at hr
  unfold Oper.wp
  simp [execOp, hop, hl, hc, hr, Result.andThen]
  rw [hz1]
  have hcs : (Value.agg #[.bool false, .slice none 0 0, .bool false, .slice none 0 0]).cells = #[.bool false, .slice none 0 0, .bool false, .slice none 0 0] := by simp [Value.cells]
  rw [hcs]
  refine hK' _ _ (hK _ ⟨_, by show (w.heap.push _)[w.heap.size]? = _; simp; rfl, by simp [madeCells], fun j hj => ?_, fun u hu => ?_⟩ ((Below.refl _ _).alloc (Nat.le_refl _) _) (by simp))
  · refine ⟨?_, ?_, ?_, ?_⟩
    · exact made4 (k := 0) rfl hj (by decide)
    · exact made4 (k := 1) rfl hj (by decide)
    · exact made4 (k := 2) rfl hj (by decide)
    · exact made4 (k := 3) rfl hj (by decide)
  · simp only [madeCells, List.mem_map, Array.toList_map, Array.toList_range] at hu
    simp at hu
    obtain ⟨j, hj, rfl⟩ := hu
    have hm := Nat.mod_lt j (show 0 < 4 by omega)
    rcases (show j % 4 = 0 ∨ j % 4 = 1 ∨ j % 4 = 2 ∨ j % 4 = 3 by omega) with h | h | h | h <;> rw [h]
    · exact NI.bool _
    · exact NI.slc _ _ _
    · exact NI.bool _
    · exact NI.slc _ _ _

end Go.Proofs.Ytokojbgpboccnaa

/-
  PACKAGE rat: Sign, Neg, Sub; a Number, its size apart.
-/
namespace Go.Proofs.Ytokojbgpboccnaa
open Go.RowKit
open Num
set_option linter.unusedVariables false
set_option maxRecDepth 100000
set_option linter.unusedSimpArgs false

set_option maxHeartbeats 400000 in
theorem sgnq_rtl {w : World} {v : Value} {q : Rat} {k : Nat} (h : Rtl w v q k) :
    Calls Try.prog 23 #[v] w fun e w' => e = .returned (.int .i64 q.num.sign) ∧ Below w.heap.size w w' := by
  obtain ⟨s1a, p1a, n1a, c1a, s1b, p1b, n1b, c1b, rfl⟩ := h.opened
  obtain ⟨ht1, d1, hu1, hd1⟩ := h.two
  have HD1 := hid hd1
  have B := hid (Below.refl w.heap.size w)
  have HT := hid ht1
  obtain ⟨hb1, hx2, hs3⟩ := Nbx.made w s1a s1b (.slice p1a n1a c1a) (.slice p1b n1b c1b)
  replace HT := wl HT hb1
  replace B := bb B hb1
  have X1 := hid hx2
  clear hb1 hx2
  clear hs3 h ht1 hu1 hd1 HD1
  go_enter Try.func23, Try.ntmps23
  have cc4 := X1.out.cells
  go_wp2_with fail
  generalize hW : w.alloc (.cells #[.bool s1a, .slice p1a n1a c1a, .bool s1b, .slice p1b n1b c1b] 49) = W5 at *
  clear hW
  refine (sgn_whl HT.out).mono ?_
  rintro e w6 ⟨rfl, hb⟩
  replace B := bb B hb
  clear cc4
  clear hb 
  go_wp2_with fail
  go_ret
  exact ⟨rfl, B.out⟩

set_option maxHeartbeats 400000 in
theorem negq_rtl {w : World} {v : Value} {q : Rat} {k : Nat} (h : Rtl w v q k) :
    Calls Try.prog 41 #[v] w fun e w' => ∃ v, e = .returned v ∧ Rtl w' v (-q) k ∧ Below w.heap.size w w' := by
  obtain ⟨s1a, p1a, n1a, c1a, s1b, p1b, n1b, c1b, rfl⟩ := h.opened
  obtain ⟨ht1, d1, hu1, hd1⟩ := h.two
  have HD1 := hid hd1
  have B := hid (Below.refl w.heap.size w)
  have HT := hid ht1
  have HU := hid hu1
  obtain ⟨hb1, hx2, hs3⟩ := Nbx.made w s1a s1b (.slice p1a n1a c1a) (.slice p1b n1b c1b)
  replace HT := wl HT hb1
  replace HU := wl HU hb1
  replace B := bb B hb1
  have X1 := hid hx2
  clear hb1 hx2
  obtain ⟨hb4, hx5, hs6⟩ := Nbx.made (w.alloc (.cells #[.bool s1a, .slice p1a n1a c1a, .bool s1b, .slice p1b n1b c1b] 49)) false false (.slice none 0 0) (.slice none 0 0)
  rw [hs3] at hx5 hs6
  replace X1 := nx X1 hb4
  replace HT := wl HT hb4
  replace HU := wl HU hb4
  replace B := bb B hb4
  have XQ := hid hx5
  clear hb4 hx5
  clear hs6 h ht1 hu1 hd1
  go_enter Try.func41, Try.ntmps41
  have cc7 := X1.out.cells
  have cc8 := XQ.out.cells
  go_wp2_with fail
  generalize hW : (w.alloc (.cells #[.bool s1a, .slice p1a n1a c1a, .bool s1b, .slice p1b n1b c1b] 49)).alloc (.cells #[.bool false, .slice none 0 0, .bool false, .slice none 0 0] 49) = W9 at *
  clear hW
  have cc10 := X1.out.cells
  replace X1 := hid X1.out.dr
  replace XQ := hid XQ.out.dr
  replace HT := hid HT.out.drew
  replace HU := hid HU.out.drew
  replace B := hid (Below.drew B.out)
  have cc11 := X1.out.cells
  go_region_held3 (fun w' => w'.cell? ⟨w.heap.size, 0, none⟩ = some (.bool s1a) ∧ w'.cell? ⟨w.heap.size, 1, none⟩ = some (.slice p1a n1a c1a) ∧ w'.cell? ⟨w.heap.size, 2, none⟩ = some (.bool s1b) ∧ w'.cell? ⟨w.heap.size, 3, none⟩ = some (.slice p1b n1b c1b)) (go_keep) (first
    | (go_at_call 55; refine (neg_whl HT.out).mono ?_; rintro e w13 ⟨v, rfl, hv, hb⟩; obtain ⟨s3, p3, n3, c3, rfl⟩ := hv.opened; replace X1 := nx X1 hb; replace XQ := nx XQ hb; replace HT := wl HT hb; replace HU := wl HU hb; replace B := bb B hb; clear cc7 cc8 cc10 cc11; have HN := hid hv; clear hb hv; have cc14 := X1.out.cells; have cc15 := XQ.out.stores; obtain ⟨r16a, r16b, r16c⟩ := XQ.out.last B.out (by omega) s3 s1b p3 p1b n3 n1b c3 c1b; replace X1 := hid (X1.out.kept (heap4 (g := w.heap.size + 1) (by omega) (.bool s3) (.slice p3 n3 c3) (.bool s1b) (.slice p1b n1b c1b))); replace HT := hid (r16c HT.out); replace HU := hid (r16c HU.out); replace HN := hid (r16c HN.out); replace XQ := hid r16a; replace B := hid r16b; clear r16a r16b r16c; have cc17 := X1.out.cells; have mk12_0 := hid True.intro))
  go_wp2_with fail
  refine bodyPost_ret (res_num rfl rfl XQ.out) rfl ?_
  exact ⟨_, rfl, Rtl.mk2 (by rw [Rat.neg_num]; exact HN.out) HU.out (by rw [Rat.neg_den]; exact HD1.out), B.out⟩

theorem nsgn_f {w : World} {v : Value} {q : Rat} {z : Int} (h : NF w v q) (hz : q.num.sign = z) :
    Calls Try.prog 23 #[v] w fun e w' => e = .returned (.int .i64 z) ∧ Below w.heap.size w w' := by
  rw [← hz]
  obtain ⟨k, h⟩ := h
  exact sgnq_rtl h
theorem nneg_f {w : World} {v : Value} {q : Rat} (h : NF w v q) :
    Calls Try.prog 41 #[v] w fun e w' => ∃ v, e = .returned v ∧ NF w' v (-q) ∧ Below w.heap.size w w' := by
  obtain ⟨k, h⟩ := h
  refine (negq_rtl h).mono ?_
  rintro e w' ⟨v, rfl, hv, hb⟩
  exact ⟨v, rfl, hv.nf, hb⟩
theorem ndiv_f {w : World} {v u : Value} {q r : Rat} {m n : Nat} (h : NF w v q) (h' : NF w u r) (hq : Sm q m) (hr : Sm r n) (h0 : r ≠ 0) (hm : m ≤ 68719476736) (hn : n ≤ 68719476736) :
    Calls Try.prog 75 #[v, u] w fun e w' => ∃ v, e = .returned (.tuple #[v, .nilIface]) ∧ NF w' v (q / r) ∧ Below w.heap.size w w' := by
  refine (divq_some ((h.sm hq).mono (Nat.le_max_left m n)) ((h'.sm hr).mono (Nat.le_max_right m n)) h0 (by have := hq.pos; omega) (by omega)).mono ?_
  rintro e w' ⟨v, rfl, hv, hb⟩
  exact ⟨v, rfl, hv.nf, hb⟩
theorem nstr_f {w : World} {v : Value} {q : Rat} {m : Nat} (h : NF w v q) (hq : Sm q m) (hm : m ≤ 4294967296) :
    Calls Try.prog 21 #[v] w fun e w' => e = .returned (.string (qtxt q)) ∧ Below w.heap.size w w' := qstring (h.sm hq) hm

set_option maxHeartbeats 1000000 in
theorem nsub_f {w : World} {v u : Value} {q r : Rat} {m n : Nat} (h : NF w v q) (h' : NF w u r) (hq : Sm q m) (hr : Sm r n) (hm : m ≤ 68719476736) (hn : n ≤ 68719476736) :
    Calls Try.prog 76 #[v, u] w fun e w' => ∃ v, e = .returned v ∧ NF w' v (q - r) ∧ Below w.heap.size w w' := by
  obtain ⟨s1a, p1a, n1a, c1a, s1b, p1b, n1b, c1b, rfl⟩ := h.opened
  obtain ⟨s2a, p2a, n2a, c2a, s2b, p2b, n2b, c2b, rfl⟩ := h'.opened
  have HS := hid hq
  have HS' := hid hr
  have HM := hid hm
  have HN := hid hn
  have B := hid (Below.refl w.heap.size w)
  have HQ := hid h
  have HR := hid h'
  obtain ⟨hb1, hx2, hs3⟩ := Nbx.made w s1a s1b (.slice p1a n1a c1a) (.slice p1b n1b c1b)
  replace HQ := nf HQ hb1
  replace HR := nf HR hb1
  replace B := bb B hb1
  have X1 := hid hx2
  clear hb1 hx2
  obtain ⟨hb4, hx5, hs6⟩ := Nbx.made (w.alloc (.cells #[.bool s1a, .slice p1a n1a c1a, .bool s1b, .slice p1b n1b c1b] 49)) s2a s2b (.slice p2a n2a c2a) (.slice p2b n2b c2b)
  rw [hs3] at hx5 hs6
  replace X1 := nx X1 hb4
  replace HQ := nf HQ hb4
  replace HR := nf HR hb4
  replace B := bb B hb4
  have X2 := hid hx5
  clear hb4 hx5
  obtain ⟨hb7, hx8, hs9⟩ := Nbx.made ((w.alloc (.cells #[.bool s1a, .slice p1a n1a c1a, .bool s1b, .slice p1b n1b c1b] 49)).alloc (.cells #[.bool s2a, .slice p2a n2a c2a, .bool s2b, .slice p2b n2b c2b] 49)) false false (.slice none 0 0) (.slice none 0 0)
  rw [hs6] at hx8 hs9
  replace X1 := nx X1 hb7
  replace X2 := nx X2 hb7
  replace HQ := nf HQ hb7
  replace HR := nf HR hb7
  replace B := bb B hb7
  have XQ := hid hx8
  clear hb7 hx8
  clear hs9 h h' hq hr hm hn
  go_enter Try.func76, Try.ntmps76
  have cc10 := X1.out.cells
  have cc11 := X2.out.cells
  have cc12 := XQ.out.cells
  go_wp2_with fail
  generalize hW : ((w.alloc (.cells #[.bool s1a, .slice p1a n1a c1a, .bool s1b, .slice p1b n1b c1b] 49)).alloc (.cells #[.bool s2a, .slice p2a n2a c2a, .bool s2b, .slice p2b n2b c2b] 49)).alloc (.cells #[.bool false, .slice none 0 0, .bool false, .slice none 0 0] 49) = W13 at *
  clear hW
  have cc14 := X1.out.cells
  have cc15 := X2.out.cells
  replace X1 := hid X1.out.dr
  replace X2 := hid X2.out.dr
  replace XQ := hid XQ.out.dr
  replace HQ := hid HQ.out.drew
  replace HR := hid HR.out.drew
  replace B := hid (Below.drew B.out)
  have cc16 := X1.out.cells
  have cc17 := X2.out.cells
  go_region_held3 (fun w' => w'.cell? ⟨w.heap.size, 0, none⟩ = some (.bool s1a) ∧ w'.cell? ⟨w.heap.size, 1, none⟩ = some (.slice p1a n1a c1a) ∧ w'.cell? ⟨w.heap.size, 2, none⟩ = some (.bool s1b) ∧ w'.cell? ⟨w.heap.size, 3, none⟩ = some (.slice p1b n1b c1b) ∧ w'.cell? ⟨w.heap.size + 1, 0, none⟩ = some (.bool s2a) ∧ w'.cell? ⟨w.heap.size + 1, 1, none⟩ = some (.slice p2a n2a c2a) ∧ w'.cell? ⟨w.heap.size + 1, 2, none⟩ = some (.bool s2b) ∧ w'.cell? ⟨w.heap.size + 1, 3, none⟩ = some (.slice p2b n2b c2b)) (go_keep) (first
    | (have hm := mk18_0; clear hm; go_at_call 29; refine (nadd_f HQ.out HV.out HS.out HS'.out.neg HM.out HN.out).mono ?_; rintro e w22 ⟨v, rfl, hv, hb⟩; obtain ⟨s4a, p4a, n4a, c4a, s4b, p4b, n4b, c4b, rfl⟩ := hv.opened; replace X1 := nx X1 hb; replace X2 := nx X2 hb; replace XQ := nx XQ hb; replace HQ := nf HQ hb; replace HR := nf HR hb; replace HV := nf HV hb; replace B := bb B hb; clear cc20 cc21; have HW := hid hv; clear hb hv; have cc23 := X1.out.cells; have cc24 := X2.out.cells; have cc25 := XQ.out.stores; obtain ⟨r26a, r26b, r26c⟩ := XQ.out.last B.out (by omega) s4a s4b p4a p4b n4a n4b c4a c4b; replace X1 := hid (X1.out.kept (heap4 (g := w.heap.size + 1 + 1) (by omega) (.bool s4a) (.slice p4a n4a c4a) (.bool s4b) (.slice p4b n4b c4b))); replace X2 := hid (X2.out.kept (heap4 (g := w.heap.size + 1 + 1) (by omega) (.bool s4a) (.slice p4a n4a c4a) (.bool s4b) (.slice p4b n4b c4b))); replace HQ := hid (HQ.out.moved fun _ _ _ hv => r26c hv); replace HR := hid (HR.out.moved fun _ _ _ hv => r26c hv); replace HV := hid (HV.out.moved fun _ _ _ hv => r26c hv); replace HW := hid (HW.out.moved fun _ _ _ hv => r26c hv); replace XQ := hid r26a; replace B := hid r26b; clear r26a r26b r26c; have cc27 := X1.out.cells; have cc28 := X2.out.cells; have mk18_1 := hid True.intro)
    | (go_at_call 41; refine (nneg_f HR.out).mono ?_; rintro e w19 ⟨v, rfl, hv, hb⟩; obtain ⟨s3a, p3a, n3a, c3a, s3b, p3b, n3b, c3b, rfl⟩ := hv.opened; replace X1 := nx X1 hb; replace X2 := nx X2 hb; replace XQ := nx XQ hb; replace HQ := nf HQ hb; replace HR := nf HR hb; replace B := bb B hb; clear cc10 cc11 cc12 cc14 cc15 cc16 cc17; have HV := hid hv; clear hb hv; have cc20 := X1.out.cells; have cc21 := X2.out.cells; have mk18_0 := hid True.intro))
  go_wp2_with fail
  refine bodyPost_ret (res_num rfl rfl XQ.out) rfl ?_
  exact ⟨_, rfl, HW.out.cast (by grind), B.out⟩

end Go.Proofs.Ytokojbgpboccnaa

/-
  PACKAGE poly: trim.
-/
namespace Go.Proofs.Ytokojbgpboccnaa
open Go.RowKit
open Num
set_option linter.unusedVariables false
set_option maxRecDepth 100000
set_option linter.unusedSimpArgs false

theorem trim_stop {l : List Rat} {k : Nat} (hk : k ≤ l.length) (hz : ∀ j, k ≤ j → co l j = 0) (h : k = 0 ∨ co l (k - 1) ≠ 0) : trimQ l = l.take k ∧ (trimQ l).length = k := by
  have hl : (l.take k).length = k := by rw [List.length_take]; omega
  have e : trimQ l = l.take k := by
    refine trm_ext (trm_trim l) (trm_of_last ?_) fun i => ?_
    · rcases h with h | h
      · exact .inl (by rw [h]; rfl)
      · by_cases h0 : k = 0
        · exact .inl (by rw [h0]; rfl)
        · rw [hl, co_take (by omega)]
          exact .inr h
    · rw [co_trim]
      by_cases hi : i < k
      · rw [co_take hi]
      · rw [hz i (by omega), co_ge (by omega)]
  exact ⟨e, by rw [e, hl]⟩
/-- One of them, at a later world. -/
theorem pn_at {w w' : World} {l : List Rat} {a : Option Addr} {n c : Nat} (h : PN w (.slice a n c) l) (hb : Below w.heap.size w w') {i : Nat} (hi : i < l.length) :
    ∃ b s1 p1 n1 c1 s2 p2 n2 c2, a = some ⟨b, 0, none⟩ ∧ b < w.heap.size ∧ (w'.cell? ⟨b, i * 4, none⟩ = some (.bool s1) ∧ w'.cell? ⟨b, i * 4 + 1, none⟩ = some (.slice p1 n1 c1) ∧ w'.cell? ⟨b, i * 4 + 2, none⟩ = some (.bool s2) ∧ w'.cell? ⟨b, i * 4 + 3, none⟩ = some (.slice p2 n2 c2)) ∧ NF w' (.agg #[.bool s1, .slice p1 n1 c1, .bool s2, .slice p2 n2 c2]) (co l i) := by
  obtain ⟨a', c', rs, h1, h2, h3, h4⟩ := h
  obtain ⟨rfl, rfl, rfl⟩ := Value.slice.inj h1
  obtain ⟨b, e, hl, hA, hq⟩ := h4 i hi
  exact ⟨b, _, _, _, _, _, _, _, _, e, hl, hA.kept (hb.block b hl), hq.on hb⟩

set_option maxHeartbeats 1000000 in
theorem trim_pn {w : World} {a : Option Addr} {n c : Nat} {l : List Rat} (h : PN w (.slice a n c) l) :
    Calls Try.prog 17 #[.slice a n c] w fun e w' => e = .returned (.slice a (trimQ l).length c) ∧ Below w.heap.size w w' := by
  have HP := hid h
  obtain ⟨a', c', h1, hn, hc⟩ := h.opened
  obtain ⟨rfl, rfl, rfl⟩ := Value.slice.inj h1
  obtain ⟨n, hN⟩ : ∃ n, l.length = n := ⟨_, rfl⟩
  rw [hN] at hn HP ⊢
  have HN := hid hN
  unfold maxLen at hc
  clear hN h1 h
  go_enter Try.func17, Try.ntmps17
  go_wp2_with fail
  go_loopw [3] (fun i wr => ∃ k : Nat, k ≤ n ∧ i = .int .i64 k ∧ Hid (∀ j, k ≤ j → co l j = 0) ∧ Hid (Below w.heap.size w wr)) (fun i _ => (intOf i).toNat)
  case atStart => exact ⟨n, Nat.le_refl _, rfl, hid (fun j hj => co_ge (by rw [HN.out]; exact hj)), hid (Below.refl _ _)⟩
  case round =>
    obtain ⟨k, hk, rfl, HZ, B⟩ := hrel
    rcases k with _ | j
    · have HE := hid (trim_stop (l := l) (k := 0) (Nat.zero_le _) HZ.out (.inl rfl)).2
      go_wp2_with fail
      go_ret
      exact ⟨by rw [HE.out]; rfl, B.out⟩
    · obtain ⟨b, s1, p1, n1, c1, s2, p2, n2, c2, rfl, hb, cc, hq⟩ := pn_at HP.out B.out (i := j) (by rw [HN.out]; omega)
      have HQ := hid hq
      clear hq hb
      by_cases h0 : co l j = 0
      · have HZ2 : Hid (∀ i, j ≤ i → co l i = 0) := hid (fun i hi => if h : i = j then h ▸ h0 else HZ.out i (by omega))
        have hs := (sgn_eq_zero _).2 h0
        clear h0
        go_wp2_with fail
        refine (nsgn_f HQ.out hs).mono ?_
        rintro e w1 ⟨rfl, hb1⟩
        replace B := bb B hb1
        clear hb1 hs
        go_wp2_with fail
        go_roundw
        case rel => exact ⟨j, by omega, by go_num, HZ2, B⟩
        case measure => simp [intOf]
      · have HE := hid (trim_stop (l := l) (k := j + 1) (by rw [HN.out]; exact hk) HZ.out (.inr (by simpa using h0))).2
        obtain ⟨z, hz⟩ : ∃ z, (co l j).num.sign = z := ⟨_, rfl⟩
        have hne : (z == 0) = false := by rw [beq_eq_false_iff_ne]; rintro rfl; exact h0 ((sgn_eq_zero _).1 hz)
        have HS := hid hz
        clear h0 hz
        go_wp2_with fail
        refine (nsgn_f HQ.out HS.out).mono ?_
        rintro e w1 ⟨rfl, hb1⟩
        replace B := bb B hb1
        clear hb1
        go_wp2_with fail
        go_ret
        exact ⟨by rw [HE.out]; rfl, B.out⟩
theorem PN.trim {w : World} {a : Option Addr} {n c : Nat} {l : List Rat} (h : PN w (.slice a n c) l) : PN w (.slice a (trimQ l).length c) (trimQ l) := by
  have hz : ∀ j, (trimQ l).length ≤ j → co l j = 0 := fun j hj => by rw [← co_trim]; exact co_ge hj
  have e := (trim_stop (trim_len l) hz (by
    by_cases h0 : trimQ l = []
    · exact .inl (by rw [h0]; rfl)
    · exact .inr (by rw [← co_trim]; exact trm_last (trm_trim l) h0))).1
  have h1 := h.take (trim_len l)
  rw [← e] at h1
  exact h1
/-- Without noughts at the end. -/
theorem trim_p {w : World} {v : Value} {l : List Rat} (h : PN w v l) :
    Calls Try.prog 17 #[v] w fun e w' => ∃ v', e = .returned v' ∧ PN w' v' (trimQ l) ∧ Below w.heap.size w w' := by
  obtain ⟨a, c, rfl, hn, hc⟩ := h.opened
  refine (trim_pn h).mono ?_
  rintro e w' ⟨rfl, hb⟩
  exact ⟨_, rfl, h.trim.on hb, hb⟩

end Go.Proofs.Ytokojbgpboccnaa

/-
  PACKAGE poly: Texts.
-/
namespace Go.Proofs.Ytokojbgpboccnaa
open Go.RowKit
open Num
set_option linter.unusedVariables false
set_option maxRecDepth 100000
set_option linter.unusedSimpArgs false

/-- Block b holds n texts, and may be written. -/
def SRw (w : World) (b n : Nat) (ss : Nat → ByteArray) : Prop := ∃ cur, w.heap[b]? = some (.cells cur 9 (0, 0)) ∧ cur.size = n ∧ ∀ i, i < n → cur[i]? = some (.string (ss i))
theorem SRw.lt {w : World} {b n : Nat} {ss : Nat → ByteArray} (h : SRw w b n ss) : b < w.heap.size := by
  obtain ⟨cur, h, _⟩ := h
  exact (Array.getElem?_eq_some_iff.1 h).1
theorem SRw.on {w w' : World} {b n : Nat} {ss : Nat → ByteArray} (h : SRw w b n ss) (hb : Below w.heap.size w w') : SRw w' b n ss := by
  have hl := h.lt
  obtain ⟨cur, h, h2⟩ := h
  exact ⟨cur, (hb.block b hl).trans h, h2⟩
theorem SRw.stores {w : World} {b n : Nat} {ss : Nat → ByteArray} (h : SRw w b n ss) {i : Nat} (hi : i < n) : w.cell? ⟨b, i, none⟩ = some (.string (ss i)) ∧ w.frozen? ⟨b, i, none⟩ = false := by
  obtain ⟨cur, h, hs, h2⟩ := h
  exact ⟨by simp [World.cell?, h, h2 i hi], by simp [World.frozen?, h]⟩
theorem SRw.put {w : World} {b n : Nat} {ss : Nat → ByteArray} (h : SRw w b n ss) {i : Nat} (hi : i < n) (s : ByteArray) : SRw (w.setCell ⟨b, i, none⟩ (.string s)) b n (fun k => if k = i then s else ss k) := by
  obtain ⟨cur, h, hs, h2⟩ := h
  refine ⟨cur.setIfInBounds i (.string s), heap_set h _, by simpa using hs, fun k hk => ?_⟩
  show (cur.setIfInBounds i (.string s))[k]? = some (.string (if k = i then s else ss k))
  by_cases hki : k = i
  · subst hki
    rw [if_pos rfl, Array.getElem?_setIfInBounds_self_of_lt (by omega)]
  · rw [if_neg hki, Array.getElem?_setIfInBounds_ne (by omega)]
    exact h2 k hk
theorem SRw.own {w : World} {b n K : Nat} {ss : Nat → ByteArray} {l : List ByteArray} (h : SRw w b n ss) (hK : K ≤ b) (hl : l.length = n) (hn : n ≤ maxLen) (hs : ∀ i, i < n → ss i = tx l i) : OwnT w K (.slice (some ⟨b, 0, none⟩) n n) l := by
  obtain ⟨cur, h, h1, h2⟩ := h
  subst hl
  refine ⟨by simp, .inr ⟨b, l.length, cur, rfl, hK, h, Nat.le_refl _, hn, by omega, ?_⟩⟩
  rw [Nat.mul_one]
  apply List.ext_getElem?
  intro i
  rw [List.getElem?_take]
  by_cases hi : i < l.length
  · rw [if_pos hi, Array.getElem?_toList, h2 i hi, hs i hi, List.getElem?_map, tx_lt hi, List.getElem?_eq_getElem hi]; rfl
  · rw [if_neg hi, List.getElem?_eq_none (by simp; omega)]
/-- 'make([]string, n)'. -/
theorem wpList_make_ts (w : World) {ops : Array Oper} {rest : List Oper} {o : Oper} {a : Act} {Q : Exit → Act → World → Prop}
    (hg : o.guard = none) (l c : Operand) (t : TypeId) (hop : o.op = Op.makeSlice t l c) (h1 : Try.prog.underlying t = some (.slice 9))
    (n : Nat) (hl : a.eval l = .int .i64 n) (hc : a.eval c = .int .i64 n) (hb : n ≤ 1000000000000)
    (hK : ∀ w', SRw w' w.heap.size n (fun _ => ⟨#[]⟩) → Below w.heap.size w w' → w'.heap.size = w.heap.size + 1 → wpList Try.prog ops Q rest (a.put o.dst (.slice (some ⟨w.heap.size, 0, none⟩) n n)) w') :
    wpList Try.prog ops Q (o :: rest) a w := by
  obtain ⟨i, hi, hz0, hz1, hz2⟩ := info_parts infoStr
  refine wpList_plain hg fun K hK' => ?_
  have hr := run_make (P := Try.prog) w t _ i _ h1 hi hz0 .i64 .i64 (n : Int) (n : Int) (by omega) (by omega) (by rw [hz2]; omega) (by omega)
  simp only [Int.toNat_natCast] at hr
  unfold Oper.wp
  simp [execOp, hop, hl, hc, hr, Result.andThen]
  rw [hz1]
  refine hK' _ _ (hK _ ⟨_, by show (w.heap.push _)[w.heap.size]? = _; simp; rfl, by simp [madeCells], fun j hj => ?_⟩ ((Below.refl _ _).alloc (Nat.le_refl _) _) (by simp))
  have hcs : (Value.string ⟨#[]⟩).cells = #[.string ⟨#[]⟩] := by simp [Value.cells]
  rw [hcs]
  simp [madeCells, hj, Nat.mod_one]

set_option maxHeartbeats 1000000 in
theorem texts_p {w : World} {v : Value} {l : List Rat} {m : Nat} (h : PN w v l) (hs : Sml l m) (hm : m ≤ 4294967296) (hl : l.length ≤ 1000000) :
    Calls Try.prog 13 #[v] w fun e w' => ∃ u, e = .returned u ∧ OwnT w' w.heap.size u ((trimQ l).map qtxt) ∧ Below w.heap.size w w' := by
  obtain ⟨a, c, rfl, hn, hc⟩ := h.opened
  have HP0 := hid (trim_p h)
  have HL := hid (Nat.le_trans (trim_len l) hl)
  have HS := hid hs.trim
  have HM := hid hm
  generalize trimQ l = t at *
  clear h hs hm hl
  generalize l.length = n0 at *
  go_enter Try.func13, Try.ntmps13
  go_wp2_with fail
  refine HP0.out.mono ?_
  rintro e w1 ⟨v1, rfl, hp, hb⟩
  have B0 := hid hb
  have B := hid (Below.refl w1.heap.size w1)
  obtain ⟨a1, c1, rfl, hn1, hc1⟩ := hp.opened
  have HP := hid hp
  obtain ⟨n, hN⟩ : ∃ n, t.length = n := ⟨_, rfl⟩
  rw [hN] at hn1 HL HP ⊢
  have HN := hid hN
  have hl := HL.out
  clear hb hp hN HP0 hn hc
  unfold maxLen at hc1
  go_wp2_with (refine wpList_make_ts _ rfl _ _ _ rfl Try.underlying22 n rfl rfl (by omega) ?_)
  intro w2 hsr hb2 hs2
  have SR := hid hsr
  replace B := bb B hb2
  clear hsr hb2
  obtain ⟨b0, hb0⟩ : ∃ b0, w1.heap.size = b0 := ⟨_, rfl⟩
  have HB := hid (show w1.heap.size ≤ b0 by omega)
  rw [hb0] at SR ⊢
  clear hb0 hs2
  go_wp2_with fail
  go_loopw [13] (fun i wr => ∃ (k : Nat) (ss : Nat → ByteArray), k ≤ n ∧ i = .int .i64 k ∧ Hid (SRw wr b0 n ss) ∧ Hid (∀ j, j < k → ss j = qtxt (co t j)) ∧ Hid (Below w1.heap.size w1 wr)) (fun i _ => n - (intOf i).toNat)
  case atStart => exact ⟨0, _, by omega, rfl, SR, hid (fun j hj => by omega), B⟩
  case round =>
    obtain ⟨k, ss, hk, rfl, SR, HT, B⟩ := hrel
    by_cases hlt : k < n
    · obtain ⟨b, s5a, p5a, n5a, c5a, s5b, p5b, n5b, c5b, rfl, hb, cd, hq⟩ := pn_at HP.out B.out (i := k) (by rw [HN.out]; exact hlt)
      have HQ := hid hq
      clear hq
      have LB := hid SR.out.lt
      obtain ⟨hb101, hx102, hs103⟩ := Nbx.made wr s5a s5b (.slice p5a n5a c5a) (.slice p5b n5b c5b)
      replace HQ := nf HQ hb101
      replace B := bb B hb101
      replace SR := hid (SR.out.on hb101)
      have X5 := hid hx102
      clear hb101 hx102
      have cc104 := X5.out.cells
      go_wp2_with fail
      generalize hW : wr.alloc (.cells #[.bool s5a, .slice p5a n5a c5a, .bool s5b, .slice p5b n5b c5b] 49) = W105 at *
      clear hW
      refine (nstr_f HQ.out (HS.out.2 k) HM.out).mono ?_
      rintro e w106 ⟨rfl, hb⟩
      replace B := bb B hb
      replace SR := hid (SR.out.on hb)
      clear cc104
      clear hb 
      have cc := SR.out.stores hlt
      have SR2 := hid (SR.out.put hlt (qtxt (co t k)))
      have B2 := hid (B.out.setCell (p := ⟨b0, k, none⟩) HB.out (.string (qtxt (co t k))))
      go_wp2_with fail
      go_roundw
      case rel => exact ⟨k + 1, _, by omega, by go_num, SR2, hid (fun j hj => by by_cases hjk : j = k; exact hjk ▸ if_pos rfl; exact (if_neg hjk).trans (HT.out j (by omega))), B2⟩
      case measure => simp [intOf]; omega
    · obtain rfl : k = n := by omega
      go_wp2_with fail
      go_ret
      exact ⟨_, rfl, SR.out.own (Nat.le_trans B0.out.size HB.out) (by rw [List.length_map, HN.out]) (by unfold maxLen; omega) (fun i hi => by rw [HT.out i hi, tx_lt (by rw [List.length_map, HN.out]; exact hi), List.getElem_map, co_lt (by rw [HN.out]; exact hi)]), B0.out.trans (B.out.mono B0.out.size)⟩

end Go.Proofs.Ytokojbgpboccnaa

/-
  Off, so much of a polynomial. Nothing of a program.
-/
namespace Go.Proofs.Ytokojbgpboccnaa
open Go.RowKit
open Num
set_option linter.unusedVariables false
set_option maxRecDepth 100000
set_option linter.unusedSimpArgs false

/-- So much of q taken off, from a place on: so many of its coefficients so far. -/
def offq (R : Nat → Rat) (q : List Rat) (i : Nat) (f : Rat) (k j : Nat) : Rat := if i ≤ j ∧ j < i + k then R j - f * co q (j - i) else R j
theorem offq_start (R : Nat → Rat) (q : List Rat) (i : Nat) (f : Rat) (j : Nat) : offq R q i f 0 j = R j := if_neg (by omega)
theorem offq_self (R : Nat → Rat) (q : List Rat) (i : Nat) (f : Rat) (k : Nat) : offq R q i f k (i + k) = R (i + k) := if_neg (by omega)
theorem offq_next (R : Nat → Rat) (q : List Rat) (i : Nat) (f : Rat) (k : Nat) : offq R q i f (k + 1) (i + k) = R (i + k) - f * co q k := by
  rw [offq, if_pos (by omega), Nat.add_sub_cancel_left]
theorem offq_ne (R : Nat → Rat) (q : List Rat) (f : Rat) {i k j : Nat} (h : j ≠ i + k) : offq R q i f (k + 1) j = offq R q i f k j := by
  rw [offq, offq]
  by_cases h1 : i ≤ j ∧ j < i + k
  · rw [if_pos h1, if_pos (by omega)]
  · rw [if_neg h1, if_neg (by omega)]

end Go.Proofs.Ytokojbgpboccnaa

/-
  PACKAGE poly: takeOff.
-/
namespace Go.Proofs.Ytokojbgpboccnaa
open Go.RowKit
open Num
set_option linter.unusedVariables false
set_option maxRecDepth 100000
set_option linter.unusedSimpArgs false

set_option maxHeartbeats 8000000 in
theorem takeoff_p {w00 w : World} {b0 i N d cp : Nat} {rs : Nat → Nr} {R : Nat → Rat} {vq : Value} {lq : List Rat} {m n : Nat}
    (hq : PN w00 vq lq) (hB : Below w00.heap.size w00 w) (hK : w00.heap.size ≤ b0) (hrow : NRw w b0 N rs) (hw : ∀ j, j < N → NF w (nag (rs j)) (R j)) (hi : i + (d + 1) ≤ N) (hdl : lq.length = d + 1) (h0 : co lq d ≠ 0) (hsR : ∀ j, Sm (R j) m) (hs : Sml lq n) (hm : m + m + n + n + 2 ≤ 68719476736) (hN : N ≤ 1000000) (hcp1 : d + 1 ≤ cp) (hcp : cp ≤ maxLen) {ff : Rat} (hff : R (i + d) / co lq d = ff) :
    Calls Try.prog 54 #[.slice (some ⟨b0, i * 4, none⟩) (d + 1) cp, vq] w fun e w' => ∃ v rs', e = .returned v ∧ NF w' v ff ∧ NRw w' b0 N rs' ∧ (∀ j, j < N → NF w' (nag (rs' j)) (offq R lq i ff (d + 1) j)) ∧ w.grownBy w' (some b0) := by
  obtain ⟨aq, cq, rfl, hnq, hcq⟩ := hq.opened
  rw [hdl] at hnq hq ⊢
  obtain ⟨s2a, p2a, n2a, c2a, s2b, p2b, n2b, c2b, hz2⟩ : ∃ s2a p2a n2a c2a s2b p2b n2b c2b, rs (i + d) = ((s2a, p2a, n2a, c2a), (s2b, p2b, n2b, c2b)) := ⟨_, _, _, _, _, _, _, _, rfl⟩
  have hrd := hw (i + d) (by omega)
  rw [hz2] at hrd
  dsimp only [nag] at hrd
  have B := hid hB
  have GB := hid (gby_refl w (some b0))
  have ROW := hid hrow
  have HW := hid hw
  have HK := hid hK
  have HR := hid hrd
  have HP := hid hq
  have HD := hid hdl
  have H0 := hid h0
  have SR := hid hsR
  have SQ := hid hs
  have HM := hid hm
  have HZ2 := hid hz2
  have HFF := hid hff
  clear hff
  have hidN : i + d < N := by omega
  have LB := hid ROW.out.lt
  have HCP := hid hcp
  unfold maxLen at hcp hcq
  obtain ⟨hb1, hx2, hs3⟩ := Nbx.made w false false (.slice none 0 0) (.slice none 0 0)
  replace HR := nf HR hb1
  replace ROW := rwo ROW hb1
  replace HW := hid (fun q_ hq_ => (HW.out q_ hq_).on hb1)
  replace B := bb B hb1
  replace GB := gby_on GB hb1
  have X4 := hid hx2
  clear hb1 hx2
  clear hs3 hq hB hK hrow hw hdl h0 hsR hs hm hrd hz2
  go_enter Try.func54, Try.ntmps54
  go_wp2_with fail
  generalize hW : w.alloc (.cells #[.bool false, .slice none 0 0, .bool false, .slice none 0 0] 49) = W4 at *
  clear hW
  obtain ⟨bq, s1a, p1a, n1a, c1a, s1b, p1b, n1b, c1b, rfl, hbq, hcq1, hqd⟩ := pn_at HP.out B.out (i := d) (by rw [HD.out]; omega)
  have LX4 := hid X4.out.lt
  have HQ := hid hqd
  have HCQ := hid hcq1
  have HLQ := hid (show bq < W4.heap.size from Nat.lt_of_lt_of_le hbq B.out.size)
  clear hqd hcq1 hbq
  refine region_ops (by kernel_rfl) (by kernel_rfl) (fun a f a' w' => ∃ u6 u7 u13 u14 u15 u16 u17 u18 u19 u20 u21 u22 u23 u24 v9 : Value, a' = { tmps := ((((((((((((((a.tmps.setIfInBounds 6 u6).setIfInBounds 7 u7).setIfInBounds 13 u13).setIfInBounds 14 u14).setIfInBounds 15 u15).setIfInBounds 16 u16).setIfInBounds 17 u17).setIfInBounds 18 u18).setIfInBounds 19 u19).setIfInBounds 20 u20).setIfInBounds 21 u21).setIfInBounds 22 u22).setIfInBounds 23 u23).setIfInBounds 24 u24), defers := a.defers } ∧ Hid (Below W4.heap.size W4 w') ∧ Hid (f 0 = true → u14 = .slice (some ⟨b0, i * 4, none⟩) (d + 1) cp) ∧ Hid (f 1 = true → u15 = .int .i64 (d : Int)) ∧ Hid (f 2 = true → u16 = .pointer (some ⟨b0, i * 4 + d * 4, none⟩)) ∧ Hid (f 3 = true → u17 = (.agg #[.bool s2a, .slice p2a n2a c2a, .bool s2b, .slice p2b n2b c2b])) ∧ Hid (f 4 = true → u18 = .slice (some ⟨bq, 0, none⟩) (d + 1) cq) ∧ Hid (f 5 = true → u19 = .int .i64 (d : Int)) ∧ Hid (f 6 = true → u20 = .pointer (some ⟨bq, d * 4, none⟩)) ∧ Hid (f 7 = true → u21 = (.agg #[.bool s1a, .slice p1a n1a c1a, .bool s1b, .slice p1b n1b c1b])) ∧ Hid (f 8 = true → (u22 = .tuple #[v9, .nilIface] ∧ NF w' v9 (R (i + d) / co lq d))) ∧ Hid (f 9 = true → u13 = .tuple #[v9, .nilIface]) ∧ Hid (f 10 = true → u23 = v9) ∧ Hid (f 11 = true → u24 = .nilIface) ∧ Hid (f 12 = true → NewN W4 w' u6 (f 13) v9) ∧ Hid (f 14 = true → u7 = .nilIface) ∧ (f 9 = true → f 8 = true) ∧ (f 10 = true → f 9 = true) ∧ (f 11 = true → f 9 = true) ∧ (f 13 = true → f 12 = true) ∧ (f 13 = true → f 10 = true)) ?h0 ⟨?s0, ?s1, ?s2, ?s3, ?s4, ?s5, ?s6, ?s7, ?s8, ?s9, ?s10, ?s11, ?s12, ?s13, ?s14, trivial⟩ ?hend
  case h0 =>
    simp only [List.setIfInBounds_toArray, List.set_cons_zero, List.set_cons_succ]
    exact ⟨_, _, _, _, _, _, _, _, _, _, _, _, _, _, .nilIface, rfl, hid (Below.drew (Below.refl _ _)), hid (fun h => by cases h), hid (fun h => by cases h), hid (fun h => by cases h), hid (fun h => by cases h), hid (fun h => by cases h), hid (fun h => by cases h), hid (fun h => by cases h), hid (fun h => by cases h), hid (fun h => by cases h), hid (fun h => by cases h), hid (fun h => by cases h), hid (fun h => by cases h), hid (fun h => by cases h), hid (fun h => by cases h), fun h => h, fun h => h, fun h => h, fun h => h, fun h => h⟩
  case s0 =>
    rintro f a1 w1 ⟨u6, u7, u13, u14, u15, u16, u17, u18, u19, u20, u21, u22, u23, u24, v9, rfl, HBW, h0, h1, h2, h3, h4, h5, h6, h7, h8, h9, h10, h11, h12, h14, o9_8, o10_9, o11_9, o13_12, o13_10⟩ hf hd K hK
    simp only [List.setIfInBounds_toArray, List.set_cons_zero, List.set_cons_succ] at hK ⊢
    replace hK := hid hK
    go_simp
    exact hK.out _ _ ⟨_, _, _, _, _, _, _, _, _, _, _, _, _, _, v9, rfl, HBW, hid (fun h => rfl), hid (fun h => h1.out h), hid (fun h => h2.out h), hid (fun h => h3.out h), hid (fun h => h4.out h), hid (fun h => h5.out h), hid (fun h => h6.out h), hid (fun h => h7.out h), hid (fun h => h8.out h), hid (fun h => h9.out h), hid (fun h => h10.out h), hid (fun h => h11.out h), hid (fun h => h12.out h), hid (fun h => h14.out h), fun h => o9_8 h, fun h => o10_9 h, fun h => o11_9 h, fun h => o13_12 h, fun h => o13_10 h⟩
  case s1 =>
    rintro f a1 w1 ⟨u6, u7, u13, u14, u15, u16, u17, u18, u19, u20, u21, u22, u23, u24, v9, rfl, HBW, h0, h1, h2, h3, h4, h5, h6, h7, h8, h9, h10, h11, h12, h14, o9_8, o10_9, o11_9, o13_12, o13_10⟩ hf hd K hK
    simp only [List.setIfInBounds_toArray, List.set_cons_zero, List.set_cons_succ] at hK ⊢
    replace hK := hid hK
    go_simp
    exact hK.out _ _ ⟨_, _, _, _, _, _, _, _, _, _, _, _, _, _, v9, rfl, HBW, hid (fun h => h0.out h), hid (fun h => rfl), hid (fun h => h2.out h), hid (fun h => h3.out h), hid (fun h => h4.out h), hid (fun h => h5.out h), hid (fun h => h6.out h), hid (fun h => h7.out h), hid (fun h => h8.out h), hid (fun h => h9.out h), hid (fun h => h10.out h), hid (fun h => h11.out h), hid (fun h => h12.out h), hid (fun h => h14.out h), fun h => o9_8 h, fun h => o10_9 h, fun h => o11_9 h, fun h => o13_12 h, fun h => o13_10 h⟩
  case s2 =>
    rintro f a1 w1 ⟨u6, u7, u13, u14, u15, u16, u17, u18, u19, u20, u21, u22, u23, u24, v9, rfl, HBW, h0, h1, h2, h3, h4, h5, h6, h7, h8, h9, h10, h11, h12, h14, o9_8, o10_9, o11_9, o13_12, o13_10⟩ hf hd K hK
    simp only [List.setIfInBounds_toArray, List.set_cons_zero, List.set_cons_succ] at hK ⊢
    replace hK := hid hK
    simp [Region.binds] at hd
    obtain rfl := h0.out (by simp only [hd])
    obtain rfl := h1.out (by simp only [hd])
    have hdd : (d : Int) < (d : Int) + 1 := by omega
    go_simp
    exact hK.out _ _ ⟨_, _, _, _, _, _, _, _, _, _, _, _, _, _, v9, rfl, HBW, hid (fun h => rfl), hid (fun h => rfl), hid (fun h => rfl), hid (fun h => h3.out h), hid (fun h => h4.out h), hid (fun h => h5.out h), hid (fun h => h6.out h), hid (fun h => h7.out h), hid (fun h => h8.out h), hid (fun h => h9.out h), hid (fun h => h10.out h), hid (fun h => h11.out h), hid (fun h => h12.out h), hid (fun h => h14.out h), fun h => o9_8 h, fun h => o10_9 h, fun h => o11_9 h, fun h => o13_12 h, fun h => o13_10 h⟩
  case s3 =>
    rintro f a1 w1 ⟨u6, u7, u13, u14, u15, u16, u17, u18, u19, u20, u21, u22, u23, u24, v9, rfl, HBW, h0, h1, h2, h3, h4, h5, h6, h7, h8, h9, h10, h11, h12, h14, o9_8, o10_9, o11_9, o13_12, o13_10⟩ hf hd K hK
    simp only [List.setIfInBounds_toArray, List.set_cons_zero, List.set_cons_succ] at hK ⊢
    replace hK := hid hK
    simp [Region.binds] at hd
    obtain rfl := h2.out (by simp only [hd])
    obtain ⟨y1, y2, y3, y4⟩ := (ROW.out.on HBW.out).cellsO hidN (show i * 4 + d * 4 = (i + d) * 4 by omega)
    rw [HZ2.out] at y1 y2 y3 y4
    go_simp
    exact hK.out _ _ ⟨_, _, _, _, _, _, _, _, _, _, _, _, _, _, v9, rfl, HBW, hid (fun h => h0.out h), hid (fun h => h1.out h), hid (fun h => rfl), hid (fun h => rfl), hid (fun h => h4.out h), hid (fun h => h5.out h), hid (fun h => h6.out h), hid (fun h => h7.out h), hid (fun h => h8.out h), hid (fun h => h9.out h), hid (fun h => h10.out h), hid (fun h => h11.out h), hid (fun h => h12.out h), hid (fun h => h14.out h), fun h => o9_8 h, fun h => o10_9 h, fun h => o11_9 h, fun h => o13_12 h, fun h => o13_10 h⟩
  case s4 =>
    rintro f a1 w1 ⟨u6, u7, u13, u14, u15, u16, u17, u18, u19, u20, u21, u22, u23, u24, v9, rfl, HBW, h0, h1, h2, h3, h4, h5, h6, h7, h8, h9, h10, h11, h12, h14, o9_8, o10_9, o11_9, o13_12, o13_10⟩ hf hd K hK
    simp only [List.setIfInBounds_toArray, List.set_cons_zero, List.set_cons_succ] at hK ⊢
    replace hK := hid hK
    go_simp
    exact hK.out _ _ ⟨_, _, _, _, _, _, _, _, _, _, _, _, _, _, v9, rfl, HBW, hid (fun h => h0.out h), hid (fun h => h1.out h), hid (fun h => h2.out h), hid (fun h => h3.out h), hid (fun h => rfl), hid (fun h => h5.out h), hid (fun h => h6.out h), hid (fun h => h7.out h), hid (fun h => h8.out h), hid (fun h => h9.out h), hid (fun h => h10.out h), hid (fun h => h11.out h), hid (fun h => h12.out h), hid (fun h => h14.out h), fun h => o9_8 h, fun h => o10_9 h, fun h => o11_9 h, fun h => o13_12 h, fun h => o13_10 h⟩
  case s5 =>
    rintro f a1 w1 ⟨u6, u7, u13, u14, u15, u16, u17, u18, u19, u20, u21, u22, u23, u24, v9, rfl, HBW, h0, h1, h2, h3, h4, h5, h6, h7, h8, h9, h10, h11, h12, h14, o9_8, o10_9, o11_9, o13_12, o13_10⟩ hf hd K hK
    simp only [List.setIfInBounds_toArray, List.set_cons_zero, List.set_cons_succ] at hK ⊢
    replace hK := hid hK
    go_simp
    exact hK.out _ _ ⟨_, _, _, _, _, _, _, _, _, _, _, _, _, _, v9, rfl, HBW, hid (fun h => h0.out h), hid (fun h => h1.out h), hid (fun h => h2.out h), hid (fun h => h3.out h), hid (fun h => h4.out h), hid (fun h => rfl), hid (fun h => h6.out h), hid (fun h => h7.out h), hid (fun h => h8.out h), hid (fun h => h9.out h), hid (fun h => h10.out h), hid (fun h => h11.out h), hid (fun h => h12.out h), hid (fun h => h14.out h), fun h => o9_8 h, fun h => o10_9 h, fun h => o11_9 h, fun h => o13_12 h, fun h => o13_10 h⟩
  case s6 =>
    rintro f a1 w1 ⟨u6, u7, u13, u14, u15, u16, u17, u18, u19, u20, u21, u22, u23, u24, v9, rfl, HBW, h0, h1, h2, h3, h4, h5, h6, h7, h8, h9, h10, h11, h12, h14, o9_8, o10_9, o11_9, o13_12, o13_10⟩ hf hd K hK
    simp only [List.setIfInBounds_toArray, List.set_cons_zero, List.set_cons_succ] at hK ⊢
    replace hK := hid hK
    simp [Region.binds] at hd
    obtain rfl := h4.out (by simp only [hd])
    obtain rfl := h5.out (by simp only [hd])
    have hdd : (d : Int) < (d : Int) + 1 := by omega
    go_simp
    exact hK.out _ _ ⟨_, _, _, _, _, _, _, _, _, _, _, _, _, _, v9, rfl, HBW, hid (fun h => h0.out h), hid (fun h => h1.out h), hid (fun h => h2.out h), hid (fun h => h3.out h), hid (fun h => rfl), hid (fun h => rfl), hid (fun h => rfl), hid (fun h => h7.out h), hid (fun h => h8.out h), hid (fun h => h9.out h), hid (fun h => h10.out h), hid (fun h => h11.out h), hid (fun h => h12.out h), hid (fun h => h14.out h), fun h => o9_8 h, fun h => o10_9 h, fun h => o11_9 h, fun h => o13_12 h, fun h => o13_10 h⟩
  case s7 =>
    rintro f a1 w1 ⟨u6, u7, u13, u14, u15, u16, u17, u18, u19, u20, u21, u22, u23, u24, v9, rfl, HBW, h0, h1, h2, h3, h4, h5, h6, h7, h8, h9, h10, h11, h12, h14, o9_8, o10_9, o11_9, o13_12, o13_10⟩ hf hd K hK
    simp only [List.setIfInBounds_toArray, List.set_cons_zero, List.set_cons_succ] at hK ⊢
    replace hK := hid hK
    simp [Region.binds] at hd
    obtain rfl := h6.out (by simp only [hd])
    obtain ⟨y1, y2, y3, y4⟩ := cells_kept HCQ.out (HBW.out.block bq HLQ.out)
    go_simp
    exact hK.out _ _ ⟨_, _, _, _, _, _, _, _, _, _, _, _, _, _, v9, rfl, HBW, hid (fun h => h0.out h), hid (fun h => h1.out h), hid (fun h => h2.out h), hid (fun h => h3.out h), hid (fun h => h4.out h), hid (fun h => h5.out h), hid (fun h => rfl), hid (fun h => rfl), hid (fun h => h8.out h), hid (fun h => h9.out h), hid (fun h => h10.out h), hid (fun h => h11.out h), hid (fun h => h12.out h), hid (fun h => h14.out h), fun h => o9_8 h, fun h => o10_9 h, fun h => o11_9 h, fun h => o13_12 h, fun h => o13_10 h⟩
  case s8 =>
    rintro f a1 w1 ⟨u6, u7, u13, u14, u15, u16, u17, u18, u19, u20, u21, u22, u23, u24, v9, rfl, HBW, h0, h1, h2, h3, h4, h5, h6, h7, h8, h9, h10, h11, h12, h14, o9_8, o10_9, o11_9, o13_12, o13_10⟩ hf hd K hK
    simp only [List.setIfInBounds_toArray, List.set_cons_zero, List.set_cons_succ] at hK ⊢
    replace hK := hid hK
    simp [Region.binds] at hd
    obtain rfl := h3.out (by simp only [hd])
    obtain rfl := h7.out (by simp only [hd])
    go_simp
    refine (ndiv_f (HR.out.on HBW.out) (HQ.out.on HBW.out) (SR.out _) (SQ.out.2 _) H0.out (by have := HM.out; omega) (by have := HM.out; omega)).mono ?_
    rintro e w2 ⟨v, rfl, hv, hb⟩
    go_wp2_with fail
    exact hK.out _ _ ⟨_, _, _, _, _, _, _, _, _, _, _, _, _, _, v, rfl, hid (below_next HBW.out hb), hid (fun h => h0.out h), hid (fun h => h1.out h), hid (fun h => h2.out h), hid (fun h => rfl), hid (fun h => h4.out h), hid (fun h => h5.out h), hid (fun h => h6.out h), hid (fun h => rfl), hid (fun h => ⟨rfl, hv⟩), hid (fun h => absurd (o9_8 h) (by rw [hf]; decide)), hid (fun h => absurd (o9_8 (o10_9 h)) (by rw [hf]; decide)), hid (fun h => h11.out h), hid (fun h => ((h12.out h).on hb).free (by cases e : f 13 with | false => rfl | true => exact absurd (o9_8 (o10_9 (o13_10 e))) (by rw [hf]; decide))), hid (fun h => h14.out h), fun _ => rfl, fun h => o10_9 h, fun h => o11_9 h, fun h => o13_12 h, fun h => o13_10 h⟩
  case s9 =>
    rintro f a1 w1 ⟨u6, u7, u13, u14, u15, u16, u17, u18, u19, u20, u21, u22, u23, u24, v9, rfl, HBW, h0, h1, h2, h3, h4, h5, h6, h7, h8, h9, h10, h11, h12, h14, o9_8, o10_9, o11_9, o13_12, o13_10⟩ hf hd K hK
    simp only [List.setIfInBounds_toArray, List.set_cons_zero, List.set_cons_succ] at hK ⊢
    replace hK := hid hK
    simp [Region.binds] at hd
    have g8 : f 8 = true := by simp only [hd]
    obtain ⟨rfl, e2⟩ := h8.out g8
    go_simp
    exact hK.out _ _ ⟨_, _, _, _, _, _, _, _, _, _, _, _, _, _, v9, rfl, HBW, hid (fun h => h0.out h), hid (fun h => h1.out h), hid (fun h => h2.out h), hid (fun h => h3.out h), hid (fun h => h4.out h), hid (fun h => h5.out h), hid (fun h => h6.out h), hid (fun h => h7.out h), hid (fun h => ⟨rfl, e2⟩), hid (fun h => rfl), hid (fun h => h10.out h), hid (fun h => h11.out h), hid (fun h => h12.out h), hid (fun h => h14.out h), fun _ => g8, fun _ => rfl, fun _ => rfl, fun h => o13_12 h, fun h => o13_10 h⟩
  case s10 =>
    rintro f a1 w1 ⟨u6, u7, u13, u14, u15, u16, u17, u18, u19, u20, u21, u22, u23, u24, v9, rfl, HBW, h0, h1, h2, h3, h4, h5, h6, h7, h8, h9, h10, h11, h12, h14, o9_8, o10_9, o11_9, o13_12, o13_10⟩ hf hd K hK
    simp only [List.setIfInBounds_toArray, List.set_cons_zero, List.set_cons_succ] at hK ⊢
    replace hK := hid hK
    simp [Region.binds] at hd
    have g9 : f 9 = true := by simp only [hd]
    have e1 := h9.out g9
    subst e1
    go_simp
    exact hK.out _ _ ⟨_, _, _, _, _, _, _, _, _, _, _, _, _, _, v9, rfl, HBW, hid (fun h => h0.out h), hid (fun h => h1.out h), hid (fun h => h2.out h), hid (fun h => h3.out h), hid (fun h => h4.out h), hid (fun h => h5.out h), hid (fun h => h6.out h), hid (fun h => h7.out h), hid (fun h => h8.out h), hid (fun h => rfl), hid (fun h => rfl), hid (fun h => h11.out h), hid (fun h => h12.out h), hid (fun h => h14.out h), fun h => o9_8 h, fun _ => g9, fun h => o11_9 h, fun h => o13_12 h, fun _ => rfl⟩
  case s11 =>
    rintro f a1 w1 ⟨u6, u7, u13, u14, u15, u16, u17, u18, u19, u20, u21, u22, u23, u24, v9, rfl, HBW, h0, h1, h2, h3, h4, h5, h6, h7, h8, h9, h10, h11, h12, h14, o9_8, o10_9, o11_9, o13_12, o13_10⟩ hf hd K hK
    simp only [List.setIfInBounds_toArray, List.set_cons_zero, List.set_cons_succ] at hK ⊢
    replace hK := hid hK
    simp [Region.binds] at hd
    have g9 : f 9 = true := by simp only [hd]
    have e1 := h9.out g9
    subst e1
    go_simp
    exact hK.out _ _ ⟨_, _, _, _, _, _, _, _, _, _, _, _, _, _, v9, rfl, HBW, hid (fun h => h0.out h), hid (fun h => h1.out h), hid (fun h => h2.out h), hid (fun h => h3.out h), hid (fun h => h4.out h), hid (fun h => h5.out h), hid (fun h => h6.out h), hid (fun h => h7.out h), hid (fun h => h8.out h), hid (fun h => rfl), hid (fun h => h10.out h), hid (fun h => rfl), hid (fun h => h12.out h), hid (fun h => h14.out h), fun h => o9_8 h, fun h => o10_9 h, fun _ => g9, fun h => o13_12 h, fun h => o13_10 h⟩
  case s12 =>
    rintro f a1 w1 ⟨u6, u7, u13, u14, u15, u16, u17, u18, u19, u20, u21, u22, u23, u24, v9, rfl, HBW, h0, h1, h2, h3, h4, h5, h6, h7, h8, h9, h10, h11, h12, h14, o9_8, o10_9, o11_9, o13_12, o13_10⟩ hf hd K hK
    simp only [List.setIfInBounds_toArray, List.set_cons_zero, List.set_cons_succ] at hK ⊢
    replace hK := hid hK
    go_simp
    exact hK.out _ _ ⟨_, _, _, _, _, _, _, _, _, _, _, _, _, _, v9, rfl, hid (below_next HBW.out ((Below.refl _ _).alloc (Nat.le_refl _) _)), hid (fun h => h0.out h), hid (fun h => h1.out h), hid (fun h => h2.out h), hid (fun h => h3.out h), hid (fun h => h4.out h), hid (fun h => h5.out h), hid (fun h => h6.out h), hid (fun h => h7.out h), hid (fun h => ⟨(h8.out h).1, (h8.out h).2.on ((Below.refl _ _).alloc (Nat.le_refl _) _)⟩), hid (fun h => h9.out h), hid (fun h => h10.out h), hid (fun h => h11.out h), hid (fun h => ⟨w1.heap.size, rfl, HBW.out.size, fun _ => Nbx.new w1 false false _ _, fun e => absurd (o13_12 e) (by rw [hf]; decide)⟩), hid (fun h => h14.out h), fun h => o9_8 h, fun h => o10_9 h, fun h => o11_9 h, fun _ => rfl, fun h => o13_10 h⟩
  case s13 =>
    rintro f a1 w1 ⟨u6, u7, u13, u14, u15, u16, u17, u18, u19, u20, u21, u22, u23, u24, v9, rfl, HBW, h0, h1, h2, h3, h4, h5, h6, h7, h8, h9, h10, h11, h12, h14, o9_8, o10_9, o11_9, o13_12, o13_10⟩ hf hd K hK
    simp only [List.setIfInBounds_toArray, List.set_cons_zero, List.set_cons_succ] at hK ⊢
    replace hK := hid hK
    simp [Region.binds] at hd
    have g10 : f 10 = true := by simp only [hd]
    have g12 : f 12 = true := by simp only [hd]
    have g8 : f 8 = true := o9_8 (o10_9 g10)
    have e8 := h10.out g10
    subst e8
    obtain ⟨g, rfl, hg, hn, _⟩ := h12.out g12
    replace hn := hn hf
    have hv9 := (h8.out g8).2
    obtain ⟨s9a, p9a, n9a, c9a, s9b, p9b, n9b, c9b, rfl⟩ := hv9.opened
    obtain ⟨⟨c1, c2⟩, ⟨c3, c4⟩, ⟨c5, c6⟩, c7, c8⟩ := hn.stores
    obtain ⟨n1, n2, n3⟩ := hn.last HBW.out hg s9a s9b p9a p9b n9a n9b c9a c9b
    have HN2 := hid (And.intro n1 n2)
    have HV := hid (fun v z k h => @n3 v z k h)
    have H9 := hid (hv9.moved fun _ _ _ h => n3 h)
    clear n1 n2 n3
    go_simp
    exact hK.out _ _ ⟨_, _, _, _, _, _, _, _, _, _, _, _, _, _, _, rfl, hid HN2.out.2, hid (fun h => h0.out h), hid (fun h => h1.out h), hid (fun h => h2.out h), hid (fun h => h3.out h), hid (fun h => h4.out h), hid (fun h => h5.out h), hid (fun h => h6.out h), hid (fun h => h7.out h), hid (fun h => ⟨(h8.out h).1, H9.out⟩), hid (fun h => h9.out h), hid (fun h => h10.out h), hid (fun h => h11.out h), hid (fun h => ⟨g, rfl, hg, fun e => by simp [more] at e, fun _ => ⟨_, _, _, _, _, _, _, _, rfl, HN2.out.1⟩⟩), hid (fun h => h14.out h), fun h => o9_8 h, fun h => o10_9 h, fun h => o11_9 h, fun _ => g12, fun _ => g10⟩
  case s14 =>
    rintro f a1 w1 ⟨u6, u7, u13, u14, u15, u16, u17, u18, u19, u20, u21, u22, u23, u24, v9, rfl, HBW, h0, h1, h2, h3, h4, h5, h6, h7, h8, h9, h10, h11, h12, h14, o9_8, o10_9, o11_9, o13_12, o13_10⟩ hf hd K hK
    simp only [List.setIfInBounds_toArray, List.set_cons_zero, List.set_cons_succ] at hK ⊢
    replace hK := hid hK
    simp [Region.binds] at hd
    obtain rfl := h11.out (by simp only [hd])
    go_simp
    exact hK.out _ _ ⟨_, _, _, _, _, _, _, _, _, _, _, _, _, _, v9, rfl, HBW, hid (fun h => h0.out h), hid (fun h => h1.out h), hid (fun h => h2.out h), hid (fun h => h3.out h), hid (fun h => h4.out h), hid (fun h => h5.out h), hid (fun h => h6.out h), hid (fun h => h7.out h), hid (fun h => h8.out h), hid (fun h => h9.out h), hid (fun h => h10.out h), hid (fun h => rfl), hid (fun h => h12.out h), hid (fun h => rfl), fun h => o9_8 h, fun h => o10_9 h, fun h => o11_9 h, fun h => o13_12 h, fun h => o13_10 h⟩
  case hend =>
    rintro f a1 w1 ⟨u6, u7, u13, u14, u15, u16, u17, u18, u19, u20, u21, u22, u23, u24, v9, rfl, HBW, h0, h1, h2, h3, h4, h5, h6, h7, h8, h9, h10, h11, h12, h14, _⟩ hall
    simp only [List.setIfInBounds_toArray, List.set_cons_zero, List.set_cons_succ]
    have hv9 := (h8.out (hall 8 (by decide))).2
    obtain ⟨g9, rfl, hg, _, hn⟩ := h12.out (hall 12 (by decide))
    obtain ⟨s9a, p9a, n9a, c9a, s9b, p9b, n9b, c9b, rfl, hn2⟩ := hn (hall 13 (by decide))
    have X6 := hid hn2
    have HF := hid (hv9.cast HFF.out)
    replace X4 := nx X4 HBW.out
    replace ROW := rwo ROW HBW.out
    replace HW : Hid (∀ j, j < N → NF w1 (nag (rs j)) (offq R lq i ff 0 j)) := hid (fun j hj => ((HW.out j hj).on HBW.out).cast (offq_start _ _ _ _ _).symm)
    replace GB := gby_on GB HBW.out
    have LX := hid (show w.heap.size < W4.heap.size from LX4.out)
    have LG := hid hg
    replace B := bb B HBW.out
    have LQ9 := hid (show bq < bq + 1 by omega)
    clear h0 h1 h2 h3 h4 h5 h6 h7 h8 h9 h10 h11 h12 h14 hall hn hn2 hg hv9 HBW HR HQ HCQ HLQ LQ9 HZ2
    have SF : Hid (Sm ff (m + n)) := hid (by rw [← HFF.out]; exact (SR.out _).div (SQ.out.2 _))
    go_wp2_with fail
    go_loopw [27] (fun x wr => ∃ (k : Nat) (rs : Nat → Nr), k ≤ d + 1 ∧ x = .int .i64 k ∧ Hid (NRw wr b0 N rs) ∧ Hid (∀ j, j < N → NF wr (nag (rs j)) (offq R lq i ff k j)) ∧ Hid (Nbx wr w.heap.size false (.slice none 0 0) false (.slice none 0 0)) ∧ Hid (Nbx wr g9 s9a (.slice p9a n9a c9a) s9b (.slice p9b n9b c9b)) ∧ Hid (NF wr (.agg #[.bool s9a, .slice p9a n9a c9a, .bool s9b, .slice p9b n9b c9b]) ff) ∧ Hid (w.grownBy wr (some b0)) ∧ Hid (Below w00.heap.size w00 wr)) (fun x _ => d + 1 - (intOf x).toNat)
    case atStart => exact ⟨0, rs, by omega, rfl, ROW, HW, X4, X6, HF, GB, B⟩
    case round =>
      clear ROW HW X4 X6 HF GB B
      obtain ⟨k, rs, hk, rfl, ROW, HW, X4, X6, HF, GB, B⟩ := hrel
      by_cases hlt : k < d + 1
      · have hkn : i + k < N := by omega
        obtain ⟨b5, s5a, p5a, n5a, c5a, s5b, p5b, n5b, c5b, e5, hb5, cd5, hq5⟩ := pn_at HP.out B.out (i := k) (by rw [HD.out]; exact hlt)
        cases e5
        obtain ⟨s7a, p7a, n7a, c7a, s7b, p7b, n7b, c7b, hz7⟩ : ∃ s7a p7a n7a c7a s7b p7b n7b c7b, rs (i + k) = ((s7a, p7a, n7a, c7a), (s7b, p7b, n7b, c7b)) := ⟨_, _, _, _, _, _, _, _, rfl⟩
        have hq7 := HW.out (i + k) hkn
        rw [hz7] at hq7
        dsimp only [nag] at hq7
        have HD5 := hid hq5
        have HS := hid (hq7.cast (offq_self R lq i ff k))
        clear hq5 hq7
        obtain ⟨hb601, hx602, hs603⟩ := Nbx.made wr s5a s5b (.slice p5a n5a c5a) (.slice p5b n5b c5b)
        have L4 := hid X6.out.lt
        replace X4 := nx X4 hb601
        replace X6 := nx X6 hb601
        replace HF := nf HF hb601
        replace HD5 := nf HD5 hb601
        replace HS := nf HS hb601
        replace ROW := rwo ROW hb601
        replace HW := hid (fun q_ hq_ => (HW.out q_ hq_).on hb601)
        replace B := bb B hb601
        replace GB := gby_on GB hb601
        have X9 := hid hx602
        clear hb601 hx602
        have cc604 := X4.out.cells
        have cc605 := X6.out.cells
        have cc606 := X9.out.cells
        have cr := ROW.out.cellsO hkn (show i * 4 + k * 4 = (i + k) * 4 by omega)
        rw [hz7] at cr
        go_wp2_with fail
        generalize hW : wr.alloc (.cells #[.bool s5a, .slice p5a n5a c5a, .bool s5b, .slice p5b n5b c5b] 49) = W607 at *
        clear hW
        clear cr cd5 cc604 cc605 cc606
        have cc608 := X6.out.cells
        have cc609 := X9.out.cells
        replace X4 := hid X4.out.dr
        replace X6 := hid X6.out.dr
        replace X9 := hid X9.out.dr
        replace HF := hid HF.out.drew
        replace HD5 := hid HD5.out.drew
        replace HS := hid HS.out.drew
        replace HW := hid (fun q_ hq_ => (HW.out q_ hq_).drew)
        replace ROW := hid ROW.out.dr
        replace B := hid (Below.drew B.out)
        replace GB := gby_on GB (Below.drew (Below.refl _ _))
        have cr := ROW.out.cellsO hkn (show i * 4 + k * 4 = (i + k) * 4 by omega)
        rw [hz7] at cr
        have cc610 := X6.out.cells
        have cc611 := X9.out.cells
        go_region_with (first
          | (have hm := mk612_0; clear hm; go_at_call 76; refine (nsub_f HS.out HV.out (SR.out _) (SF.out.mul (SQ.out.2 k)) (by have := HM.out; omega) (by have := HM.out; omega)).mono ?_; rintro e w616 ⟨v, rfl, hv, hb⟩; obtain ⟨s4a, p4a, n4a, c4a, s4b, p4b, n4b, c4b, rfl⟩ := hv.opened; replace X4 := nx X4 hb; replace X6 := nx X6 hb; replace X9 := nx X9 hb; replace HF := nf HF hb; replace HD5 := nf HD5 hb; replace HS := nf HS hb; replace HV := nf HV hb; replace ROW := rwo ROW hb; replace HW := hid (fun q_ hq_ => (HW.out q_ hq_).on hb); replace B := bb B hb; replace GB := gby_on GB hb; clear cc614 cc615; have HX := hid hv; clear hb hv cr; have cc617 := X6.out.cells; have cc618 := X9.out.cells; have cr := ROW.out.cellsO hkn (show i * 4 + k * 4 = (i + k) * 4 by omega); rw [hz7] at cr; have cc619 := ROW.out.storesO hkn (show i * 4 + k * 4 = (i + k) * 4 by omega); replace X4 := hid (X4.out.kept (ROW.out.farO (i + k) (by have := LB.out; have := HK.out; have := LX.out; have := LG.out; have := L4.out; omega) (show i * 4 + k * 4 = (i + k) * 4 by omega) s4a p4a n4a c4a s4b p4b n4b c4b)); replace X6 := hid (X6.out.kept (ROW.out.farO (i + k) (by have := LB.out; have := HK.out; have := LX.out; have := LG.out; have := L4.out; omega) (show i * 4 + k * 4 = (i + k) * 4 by omega) s4a p4a n4a c4a s4b p4b n4b c4b)); replace X9 := hid (X9.out.kept (ROW.out.farO (i + k) (by have := LB.out; have := HK.out; have := LX.out; have := LG.out; have := L4.out; omega) (show i * 4 + k * 4 = (i + k) * 4 by omega) s4a p4a n4a c4a s4b p4b n4b c4b)); replace HF := hid (HF.out.putO ROW.out (i + k) (show i * 4 + k * 4 = (i + k) * 4 by omega) s4a p4a n4a c4a s4b p4b n4b c4b); replace HD5 := hid (HD5.out.putO ROW.out (i + k) (show i * 4 + k * 4 = (i + k) * 4 by omega) s4a p4a n4a c4a s4b p4b n4b c4b); replace HS := hid (HS.out.putO ROW.out (i + k) (show i * 4 + k * 4 = (i + k) * 4 by omega) s4a p4a n4a c4a s4b p4b n4b c4b); replace HV := hid (HV.out.putO ROW.out (i + k) (show i * 4 + k * 4 = (i + k) * 4 by omega) s4a p4a n4a c4a s4b p4b n4b c4b); replace HX := hid (HX.out.putO ROW.out (i + k) (show i * 4 + k * 4 = (i + k) * 4 by omega) s4a p4a n4a c4a s4b p4b n4b c4b); replace HW := hid (fun q_ hq_ => (HW.out q_ hq_).putO ROW.out (i + k) (show i * 4 + k * 4 = (i + k) * 4 by omega) s4a p4a n4a c4a s4b p4b n4b c4b); replace GB := hid (gby_tr GB.out (set4_grownO _ b0 (i + k) (show i * 4 + k * 4 = (i + k) * 4 by omega) s4a p4a n4a c4a s4b p4b n4b c4b)); replace B := hid (ROW.out.belowO B.out (i + k) (by have := LB.out; have := HK.out; have := LX.out; have := LG.out; have := L4.out; omega) (show i * 4 + k * 4 = (i + k) * 4 by omega) s4a p4a n4a c4a s4b p4b n4b c4b); replace ROW := hid (ROW.out.putO hkn (show i * 4 + k * 4 = (i + k) * 4 by omega) s4a p4a n4a c4a s4b p4b n4b c4b); have mk612_1 := hid True.intro)
          | (go_at_call 37; refine (nmul_f HF.out HD5.out SF.out (SQ.out.2 k) (by have := HM.out; omega) (by have := HM.out; omega)).mono ?_; rintro e w613 ⟨v, rfl, hv, hb⟩; obtain ⟨s8a, p8a, n8a, c8a, s8b, p8b, n8b, c8b, rfl⟩ := hv.opened; replace X4 := nx X4 hb; replace X6 := nx X6 hb; replace X9 := nx X9 hb; replace HF := nf HF hb; replace HD5 := nf HD5 hb; replace HS := nf HS hb; replace ROW := rwo ROW hb; replace HW := hid (fun q_ hq_ => (HW.out q_ hq_).on hb); replace B := bb B hb; replace GB := gby_on GB hb; clear cc608 cc609 cc610 cc611; have HV := hid hv; clear hb hv cr; have cc614 := X6.out.cells; have cc615 := X9.out.cells; have cr := ROW.out.cellsO hkn (show i * 4 + k * 4 = (i + k) * 4 by omega); rw [hz7] at cr; have mk612_0 := hid True.intro))
        all_goals
          go_wp2_with fail
          go_roundw
          case rel => exact ⟨k + 1, _, by omega, by go_num, ROW, hid (fun t ht => by
            by_cases htj : t = i + k
            · subst htj; rw [upd_self, offq_next]; exact HX.out
            · rw [upd_ne _ _ htj, offq_ne _ _ _ htj]; exact HW.out t ht), X4, X6, HF, GB, B⟩
          case measure => simp [intOf]; omega
      · obtain rfl : k = d + 1 := by omega
        have cc901 := X4.out.cells
        have cc902 := X6.out.cells
        have cc903 := X4.out.stores
        obtain ⟨r904a, r904b, r904c⟩ := X4.out.last B.out (by have := LB.out; have := HK.out; have := LX.out; have := LG.out; omega) s9a s9b p9a p9b n9a n9b c9a c9b
        replace GB := hid (gby_set4 GB.out (Nat.le_refl _) (.bool s9a) (.slice p9a n9a c9a) (.bool s9b) (.slice p9b n9b c9b))
        replace X6 := hid (X6.out.kept (heap4 (g := w.heap.size) (by have := LB.out; have := HK.out; have := LX.out; have := LG.out; omega) (.bool s9a) (.slice p9a n9a c9a) (.bool s9b) (.slice p9b n9b c9b)))
        replace HF := hid (HF.out.moved fun _ _ _ hv => r904c hv)
        replace HW := hid (fun q_ hq_ => (HW.out q_ hq_).moved fun _ _ _ hv => r904c hv)
        replace ROW := hid (ROW.out.kept (heap4 (g := w.heap.size) (by have := LB.out; have := HK.out; have := LX.out; have := LG.out; omega) (.bool s9a) (.slice p9a n9a c9a) (.bool s9b) (.slice p9b n9b c9b)))
        replace X4 := hid r904a
        replace B := hid r904b
        clear r904a r904b r904c
        go_wp2_with fail
        refine bodyPost_ret (res_num rfl rfl X4.out) rfl ?_
        exact ⟨_, _, rfl, HF.out, ROW.out, HW.out, GB.out⟩

end Go.Proofs.Ytokojbgpboccnaa

/-
  PACKAGE poly: slices.Clone.
-/
namespace Go.Proofs.Ytokojbgpboccnaa
open Go.RowKit
open Num
set_option linter.unusedVariables false
set_option maxRecDepth 100000
set_option linter.unusedSimpArgs false

/-- The k-th cell of a Number. -/
def ncell (r : Nr) (k : Nat) : Value := if k = 0 then .bool r.1.1 else if k = 1 then .slice r.1.2.1 r.1.2.2.1 r.1.2.2.2 else if k = 2 then .bool r.2.1 else .slice r.2.2.1 r.2.2.2.1 r.2.2.2.2
theorem ncell_one (r : Nr) (k : Nat) : (ncell r k).oneCell' = true ∧ NI (ncell r k) := by
  unfold ncell
  split
  · exact ⟨rfl, NI.bool _⟩
  · split
    · exact ⟨rfl, NI.slc _ _ _⟩
    · split
      · exact ⟨rfl, NI.bool _⟩
      · exact ⟨rfl, NI.slc _ _ _⟩
theorem At4.cell {w : World} {b i : Nat} {r : Nr} (h : At4 w b (i * 4) r) {j : Nat} (h1 : i * 4 ≤ j) (h2 : j < i * 4 + 4) : w.cell? ⟨b, j, none⟩ = some (ncell r (j - i * 4)) := by
  obtain ⟨c0, c1, c2, c3⟩ := h
  rcases (show j = i * 4 ∨ j = i * 4 + 1 ∨ j = i * 4 + 2 ∨ j = i * 4 + 3 by omega) with h | h | h | h
  · rw [h, c0]; simp [ncell]
  · rw [h, c1]; simp [ncell]
  · rw [h, c2]; simp [ncell]
  · rw [h, c3]; simp [ncell]
def nrow (rs : Nat → Nr) (n : Nat) : List Value := (List.range (n * 4)).map fun j => ncell (rs (j / 4)) (j % 4)
theorem nrow_len (rs : Nat → Nr) (n : Nat) : (nrow rs n).length = n * 4 := by simp [nrow]
theorem nrow_get {rs : Nat → Nr} {n j : Nat} {u : Value} (h : (nrow rs n)[j]? = some u) : j < n * 4 ∧ u = ncell (rs (j / 4)) (j % 4) := by
  unfold nrow at h
  rw [List.getElem?_map] at h
  obtain ⟨k, hk, rfl⟩ := Option.map_eq_some_iff.1 h
  obtain ⟨h1, h2⟩ := List.getElem?_eq_some_iff.1 hk
  simp at h1 h2
  subst h2
  exact ⟨h1, rfl⟩
theorem nrow_at (rs : Nat → Nr) {n i k : Nat} (hi : i < n) (hk : k < 4) : (nrow rs n)[i * 4 + k]? = some (ncell (rs i) k) := by
  unfold nrow
  rw [List.getElem?_map, List.getElem?_range (by omega)]
  simp only [Option.map_some]
  rw [show (i * 4 + k) / 4 = i by omega, show (i * 4 + k) % 4 = k by omega]
theorem run_append_nop (w : World) (ty : TypeId) (b0 : Addr) (p : Option Addr) (c : Nat) :
    (Builtin.append_ #[37, 37] ty #[.slice (some b0) 0 0, .slice p 0 c]).run Try.prog w = .ok (.slice (some b0) 0 0) w := by
  obtain ⟨i, hi, _⟩ := info_parts infoN
  cases p <;> simp [Builtin.append_, run_underlying Try.underlying37, sizeOf, typeInfo, hi, Builtin.lenOf, Builtin.firstCells, loadCells, loadCellsFrom, storeCells]
/-- A list of the call's own, in blocks from K on. -/
def OwnN (w : World) (K : Nat) (v : Value) (l : List Rat) : Prop := (l = [] ∧ ∃ a c, v = .slice a 0 c ∧ c ≤ maxLen) ∨
  ∃ b c rs, v = .slice (some ⟨b, 0, none⟩) l.length c ∧ K ≤ b ∧ NRw w b l.length rs ∧ l.length ≤ c ∧ c ≤ maxLen ∧ ∀ i, i < l.length → NF w (nag (rs i)) (co l i)

set_option maxHeartbeats 1000000 in
theorem nclone_nil (w : World) (c : Nat) :
    Calls Try.prog 28 #[.slice none 0 c] w fun e w' => e = .returned (.slice none 0 0) ∧ Below w.heap.size w w' := by
  have hq := eql_slice_nil 37 _ Try.underlying37
  go_enter Try.func28, Try.ntmps28
  go_wp2
  go_ret
  exact ⟨rfl, Below.refl _ _⟩

set_option maxHeartbeats 1000000 in
theorem nclone_zero (w : World) (b : Addr) (c : Nat) :
    Calls Try.prog 28 #[.slice (some b) 0 c] w fun e w' => e = .returned (.slice (some ⟨w.heap.size, 0, none⟩) 0 0) ∧ Below w.heap.size w w' := by
  have hq := eql_slice_nil 37 _ Try.underlying37
  have hrun := run_append_nop (w.alloc (.cells #[] 49)) 37 ⟨w.heap.size, 0, none⟩ (some b) c
  have hb := (Below.refl w.heap.size w).alloc (Nat.le_refl _) (.cells #[] 49)
  have B := hid hb
  clear hb
  go_enter Try.func28, Try.ntmps28
  go_wp2_with (at_builtin; refine wpList_append_run rfl _ _ 37 rfl _ _ _ rfl rfl hrun ?_)
  go_wp2
  go_ret
  exact ⟨rfl, B.out⟩

set_option maxHeartbeats 1000000 in
theorem nclone_at {w : World} {b n c : Nat} {rs : Nat → Nr} {q : Nat → Rat} (hb : b < w.heap.size) (hA : ∀ i, i < n → At4 w b (i * 4) (rs i)) (hq : ∀ i, i < n → NF w (nag (rs i)) (q i)) (hn0 : 1 ≤ n) (hn : n ≤ 1000000) :
    Calls Try.prog 28 #[.slice (some ⟨b, 0, none⟩) n c] w fun e w' => ∃ b' c', e = .returned (.slice (some ⟨b', 0, none⟩) n c') ∧ w.heap.size ≤ b' ∧ NRw w' b' n rs ∧ n ≤ c' ∧ c' ≤ maxLen ∧ (∀ i, i < n → NF w' (nag (rs i)) (q i)) ∧ Below w.heap.size w w' := by
  obtain ⟨i0, hi, hz0, hz1, hz2⟩ := info_parts infoN
  have hb0 := (Below.refl w.heap.size w).alloc (Nat.le_refl _) (.cells #[] 49)
  have hnews : ∀ j u, (nrow rs n)[j]? = some u → (w.alloc (.cells #[] 49)).cell? (Addr.add ⟨b, 0, none⟩ j) = some u := by
    intro j u hj
    obtain ⟨h1, rfl⟩ := nrow_get hj
    rw [World.cell?_alloc_lt _ _ _ (by rw [Go.WideShapes.add_plain]; exact hb)]
    have h2 := (hA (j / 4) (by omega)).cell (j := j) (by omega) (by omega)
    rw [show j - j / 4 * 4 = j % 4 by omega] at h2
    rw [Go.WideShapes.add_plain, Nat.zero_add]
    exact h2
  have HNEWS := hid hnews
  have HNI : ∀ g, (Value.slice (some ⟨w.heap.size, 0, none⟩) 0 0).ownBlock = some g → NoInt (w.alloc (.cells #[] 49)) g := by
    intro g hg
    simp [Value.ownBlock] at hg
    subst hg
    exact NoInt.new w _ _ fun u hu => by simp at hu
  have HNI := hid HNI
  have hown := World.ownsRow_made (base := w.heap.size) (e := 49) (size := 4) w #[] 0 (Nat.le_refl _) (by unfold maxLen; omega) rfl
  have HO := hid hown
  have HQ := hid hq
  have HB := hid hb0
  clear hnews hown hA hq hb0
  have hq := eql_slice_nil 37 _ Try.underlying37
  go_enter Try.func28, Try.ntmps28
  go_wp2_with (at_builtin; refine wpList_append_ni rfl _ _ 37 rfl w.heap.size 49 i0 _ 4 64 Try.underlying37 hi hz0 hz1 hz2 rfl (by decide) _ _ _ rfl HO.out HNI.out ?c7 ⟨b, 0, none⟩ n c (nrow rs n) rfl ?c0 ?c1 ?c2 ?c8 ?c3 ?c4 ?c5 ?_)
  case c7 =>
    intro u hu
    simp [Value.cells] at hu
    rcases hu with rfl | rfl | rfl | rfl <;> first | exact NI.bool _ | exact NI.slc _ _ _
  case c0 => exact nrow_len rs n
  case c1 => exact HNEWS.out
  case c2 =>
    intro u hu
    obtain ⟨j, hj⟩ := List.getElem?_of_mem hu
    obtain ⟨_, rfl⟩ := nrow_get hj
    exact (ncell_one _ _).1
  case c8 =>
    intro u hu
    obtain ⟨j, hj⟩ := List.getElem?_of_mem hu
    obtain ⟨_, rfl⟩ := nrow_get hj
    exact (ncell_one _ _).2
  case c3 => unfold maxLen; omega
  case c4 => omega
  case c5 => simp
  intro v' w1 hown' hgrow hni
  have HO' := hid hown'
  have HN' := hid hni
  have hb2 : Below w.heap.size w w1 := HB.out.grown hgrow (by simp) (fun g hg => by simp [Value.ownBlock] at hg; omega)
  have HB2 := hid hb2
  clear hown' hgrow hni hb2
  go_wp2
  go_ret
  have ho := HO'.out
  have hbw := HB2.out
  rcases ho.2 with ⟨_, h0⟩ | ⟨g, cap, cur, rfl, hK, h1, h2, h3, h4, h5⟩
  · omega
  · refine ⟨g, cap, rfl, hK, ⟨cur, h1, by omega, fun i hi => ?_, HN'.out g rfl cur _ _ h1⟩, h2, h3, fun i hi => (HQ.out i hi).on hbw, hbw⟩
    have hc : ∀ k, k < 4 → cur[i * 4 + k]? = some (ncell (rs i) k) := by
      intro k hk
      have h6 := nrow_at rs hi hk
      rw [← h5, List.getElem?_take, if_pos (by omega), Array.getElem?_toList] at h6
      exact h6
    exact ⟨hc 0 (by decide), hc 1 (by decide), hc 2 (by decide), hc 3 (by decide)⟩
/-- A copy, in memory of its own. -/
theorem nclone {w : World} {v : Value} {l : List Rat} (h : PN w v l) (hl : l.length ≤ 1000000) :
    Calls Try.prog 28 #[v] w fun e w' => ∃ v', e = .returned v' ∧ OwnN w' w.heap.size v' l ∧ Below w.heap.size w w' := by
  obtain ⟨a, c, rs, rfl, hn, hc, hA⟩ := h
  by_cases h0 : l.length = 0
  · obtain rfl := List.length_eq_zero_iff.1 h0
    cases a with
    | none =>
      refine (nclone_nil w c).mono ?_
      rintro e w' ⟨rfl, hb⟩
      exact ⟨_, rfl, .inl ⟨rfl, _, _, rfl, Nat.zero_le _⟩, hb⟩
    | some b =>
      refine (nclone_zero w b c).mono ?_
      rintro e w' ⟨rfl, hb⟩
      exact ⟨_, rfl, .inl ⟨rfl, _, _, rfl, Nat.zero_le _⟩, hb⟩
  · obtain ⟨b, rfl, hb, _, _⟩ := hA 0 (by omega)
    refine (nclone_at (q := co l) (rs := rs) hb (fun i hi => ?_) (fun i hi => ?_) (by omega) hl).mono ?_
    · obtain ⟨b', e, _, h1, _⟩ := hA i hi; cases e; exact h1
    · obtain ⟨b', e, _, _, h1⟩ := hA i hi; exact h1
    · rintro e w' ⟨b', c', rfl, h1, h2, h3, h4, h5, h6⟩
      exact ⟨_, rfl, .inr ⟨b', c', rs, rfl, h1, h2, h3, h4, h5⟩, h6⟩

end Go.Proofs.Ytokojbgpboccnaa

/-
  PACKAGE rat: Whole.
-/
namespace Go.Proofs.Ytokojbgpboccnaa
open Go.RowKit
open Num
set_option linter.unusedVariables false
set_option maxRecDepth 100000
set_option linter.unusedSimpArgs false

set_option maxHeartbeats 400000 in
theorem wholeq {w : World} {v : Value} {z : Int} {k : Nat} (h : Whl w v z k) :
    Calls Try.prog 38 #[v] w fun e w' => ∃ v, e = .returned v ∧ Rtl w' v (z : Rat) k ∧ Below w.heap.size w w' := by
  obtain ⟨s1, p1, n1, c1, rfl⟩ := h.opened
  have B := hid (Below.refl w.heap.size w)
  have HZ := hid h
  obtain ⟨hb1, hx2, hs3⟩ := Box.made w s1 p1 n1 c1
  replace HZ := wl HZ hb1
  replace B := bb B hb1
  have X1 := hid hx2
  clear hb1 hx2
  obtain ⟨hb4, hx5, hs6⟩ := Nbx.made (w.alloc (.cells #[.bool s1, .slice p1 n1 c1] 47)) s1 false (.slice p1 n1 c1) (.slice none 0 0)
  rw [hs3] at hx5 hs6
  replace X1 := bx X1 hb4
  replace HZ := wl HZ hb4
  replace B := bb B hb4
  have XQ := hid hx5
  clear hb4 hx5
  clear hs6 h
  go_enter Try.func38, Try.ntmps38
  have cc7 := X1.out.both
  have cc8 := XQ.out.cells
  go_wp2_with fail
  refine bodyPost_ret (res_num rfl rfl XQ.out) rfl ?_
  exact ⟨_, rfl, Rtl.mk2 (by rw [Rat.num_intCast]; exact HZ.out) (cells_whl_zero _ k) (.inr ⟨rfl, Rat.den_intCast z⟩), B.out⟩

end Go.Proofs.Ytokojbgpboccnaa

/-
  POLYNOMIALS BY THEIR SIZE, over one denominator: what is left of a division grows by a sum. Nothing of a program.
-/
namespace Go.Proofs.Ytokojbgpboccnaa
open Go.RowKit
open Num4
open Num (dg isNat dval)
set_option linter.unusedVariables false
set_option maxRecDepth 100000
set_option linter.unusedSimpArgs false

/-- With one number times all are whole, and none has more limbs. -/
def Cml (l : List Rat) (n : Nat) : Prop := 1 ≤ n ∧ ∃ D : Int, D ≠ 0 ∧ D.natAbs < B ^ n ∧ ∀ i, ∃ z : Int, z.natAbs < B ^ n ∧ co l i * (D : Rat) = (z : Rat)
theorem bpow_le {m n : Nat} (h : m ≤ n) : B ^ m ≤ B ^ n := Nat.pow_le_pow_right (by decide) h
theorem Cml.mono {l : List Rat} {m n : Nat} (h : Cml l m) (hn : m ≤ n) : Cml l n := by
  obtain ⟨h1, D, h2, h3, h4⟩ := h
  refine ⟨by omega, D, h2, Nat.lt_of_lt_of_le h3 (bpow_le hn), fun i => ?_⟩
  obtain ⟨z, h5, h6⟩ := h4 i
  exact ⟨z, Nat.lt_of_lt_of_le h5 (bpow_le hn), h6⟩
theorem int_ne {D : Int} (h : D ≠ 0) : (D : Rat) ≠ 0 := fun e => h (by exact_mod_cast e)
theorem cml_divInt {c : Rat} {D z : Int} (hD : D ≠ 0) (e : c * (D : Rat) = (z : Rat)) : c = Rat.divInt z D := by
  have h1 : c = (z : Rat) / (D : Rat) := by
    have h2 := rat_inv (int_ne hD)
    rw [← e, Rat.div_def, Rat.mul_assoc, Rat.mul_inv_cancel _ (int_ne hD)]; grind
  rw [h1, Rat.divInt_eq_div]
theorem Cml.sml {l : List Rat} {n : Nat} (h : Cml l n) : Sml l n := by
  obtain ⟨h1, D, h2, h3, h4⟩ := h
  refine ⟨h1, fun i => ?_⟩
  obtain ⟨z, h5, h6⟩ := h4 i
  rw [cml_divInt h2 h6]
  obtain ⟨d1, d2⟩ := divInt_le z D
  refine ⟨Nat.lt_of_le_of_lt d1 h5, Nat.lt_of_le_of_lt d2 ?_⟩
  have : 1 < B ^ n := Nat.one_lt_pow (by omega) (by decide)
  omega
theorem Cml.nil {n : Nat} (hn : 1 ≤ n) : Cml [] n := ⟨hn, 1, by decide, Nat.one_lt_pow (by omega) (by decide), fun i => ⟨0, by have : 0 < B ^ n := Nat.pow_pos (by decide); simpa using this, by rw [co_nil]; show (0 : Rat) * _ = (0 : Rat); grind⟩⟩
theorem Sml.cml {m : Nat} : ∀ {l : List Rat}, Sml l m → Cml l (l.length * m + 1)
  | [], _ => Cml.nil (by omega)
  | a :: l, h => by
    have h0 : Sm a m := by have := h.2 0; rwa [co_zero] at this
    have hl : Sml l m := ⟨h.1, fun i => by have := h.2 (i + 1); rwa [co_succ] at this⟩
    obtain ⟨h1, D, h2, h3, h4⟩ := hl.cml
    have e : (a :: l).length * m + 1 = m + (l.length * m + 1) := by rw [List.length_cons, Nat.succ_mul]; omega
    rw [e]
    have hd : a * (a.den : Rat) = (a.num : Rat) := by
      have h5 := Rat.num_divInt_den a
      have h6 : (a.den : Int) ≠ 0 := by have := a.den_pos; omega
      have h7 : (((a.den : Int)) : Rat) ≠ 0 := int_ne h6
      rw [Rat.divInt_eq_div] at h5
      have h8 : ((a.den : Int) : Rat) = (a.den : Rat) := rfl
      rw [← h8]
      have h9 : (a.num : Rat) / ((a.den : Int) : Rat) * ((a.den : Int) : Rat) = (a.num : Rat) := Rat.div_mul_cancel h7
      rw [h5] at h9
      exact h9
    refine ⟨by omega, (a.den : Int) * D, ?_, ?_, fun i => ?_⟩
    · intro e
      rcases Int.mul_eq_zero.1 e with e | e
      · have := a.den_pos; omega
      · exact h2 e
    · rw [Int.natAbs_mul, Nat.pow_add]
      exact Nat.mul_lt_mul'' (by simpa using h0.2) h3
    · cases i with
      | zero =>
        refine ⟨a.num * D, ?_, ?_⟩
        · rw [Int.natAbs_mul, Nat.pow_add]
          exact Nat.mul_lt_mul'' h0.1 h3
        · rw [co_zero, Rat.intCast_mul, Rat.intCast_mul, ← hd]
          show a * ((a.den : Rat) * (D : Rat)) = _
          grind
      | succ i =>
        obtain ⟨z, h5, h6⟩ := h4 i
        refine ⟨(a.den : Int) * z, ?_, ?_⟩
        · rw [Int.natAbs_mul, Nat.pow_add]
          exact Nat.mul_lt_mul'' (by simpa using h0.2) h5
        · rw [co_succ, Rat.intCast_mul, Rat.intCast_mul, ← h6]; grind
theorem two_pow_lt {a b c d : Nat} {m n : Nat} (ha : a < B ^ m) (hb : b < B ^ n) (hc : c < B ^ m) (hd : d < B ^ n) : a * b + c * d < B ^ (m + n + 1) := by
  have h1 := Nat.mul_lt_mul'' ha hb
  have h2 := Nat.mul_lt_mul'' hc hd
  rw [← Nat.pow_add] at h1 h2
  have h3 : B ^ (m + n + 1) = B ^ (m + n) * 10000 := rfl
  rw [h3]
  omega
theorem Cml.step {p q : List Rat} {m n : Nat} (h : Cml p m) (h' : Cml q n) (hq : Trm q) (h0 : q ≠ []) : Cml (stepp p q) (m + n + 1) := by
  obtain ⟨h1, D, h2, h3, h4⟩ := h
  obtain ⟨k1, F, k2, k3, k4⟩ := h'
  obtain ⟨E, k5, k6⟩ := k4 (q.length - 1)
  obtain ⟨A, h5, h6⟩ := h4 (p.length - 1)
  have ht : top q ≠ 0 := top_ne hq h0
  have hE : E ≠ 0 := by
    rintro rfl
    rcases Rat.mul_eq_zero.1 k6 with e | e
    · exact ht e
    · exact int_ne k2 e
  have hDr := int_ne h2
  have hFr := int_ne k2
  refine ⟨by omega, D * E, ?_, ?_, fun i => ?_⟩
  · intro e
    rcases Int.mul_eq_zero.1 e with e | e
    · exact h2 e
    · exact hE e
  · rw [Int.natAbs_mul]
    refine Nat.lt_of_lt_of_le (Nat.mul_lt_mul'' h3 k5) ?_
    rw [← Nat.pow_add]
    exact bpow_le (by omega)
  · obtain ⟨z, h7, h8⟩ := h4 i
    rw [co_stepp]
    split
    · obtain ⟨y, k7, k8⟩ := k4 (i - (p.length - q.length))
      refine ⟨z * E - A * y, ?_, ?_⟩
      · have e1 : (z * E - A * y).natAbs ≤ z.natAbs * E.natAbs + A.natAbs * y.natAbs := by
          have e2 := Int.natAbs_add_le (z * E) (-(A * y))
          rw [Int.natAbs_neg, Int.natAbs_mul, Int.natAbs_mul] at e2
          exact e2
        exact Nat.lt_of_le_of_lt e1 (two_pow_lt h7 k5 h5 k7)
      · have e1 : co q (q.length - 1) = top q := rfl
        have e2 : co p (p.length - 1) = top p := rfl
        rw [e1] at k6
        rw [e2] at h6
        have e3 : top p / top q * top q = top p := Rat.div_mul_cancel ht
        rw [Rat.intCast_sub, Rat.intCast_mul, Rat.intCast_mul, Rat.intCast_mul, ← h8, ← h6, ← k8, ← k6]
        generalize top p / top q = t at *
        rw [← e3]
        grind
    · refine ⟨z * E, ?_, ?_⟩
      · rw [Int.natAbs_mul]
        refine Nat.lt_of_lt_of_le (Nat.mul_lt_mul'' h7 k5) ?_
        rw [← Nat.pow_add]
        exact bpow_le (by omega)
      · rw [Rat.intCast_mul, Rat.intCast_mul, ← h8]; grind
theorem Cml.mnc {p : List Rat} {m : Nat} (h : Cml p m) (hp : Trm p) (h0 : p ≠ []) : Cml (mnc p) m := by
  obtain ⟨h1, D, h2, h3, h4⟩ := h
  obtain ⟨A, h5, h6⟩ := h4 (p.length - 1)
  have ht := top_ne hp h0
  have e2 : co p (p.length - 1) = top p := rfl
  rw [e2] at h6
  refine ⟨h1, A, ?_, h5, fun i => ?_⟩
  · rintro rfl
    rcases Rat.mul_eq_zero.1 h6 with e | e
    · exact ht e
    · exact int_ne h2 e
  · obtain ⟨z, h7, h8⟩ := h4 i
    refine ⟨z, h7, ?_⟩
    have hi := rat_inv ht
    rw [co_mnc, ← h6, ← h8]
    generalize 1 / top p = t at *
    grind
theorem Cml.slope {p : List Rat} {m : Nat} (h : Cml p m) (hl : p.length ≤ 1000) : Cml (slope p) (m + 1) := by
  obtain ⟨h1, D, h2, h3, h4⟩ := h
  refine ⟨by omega, D, h2, Nat.lt_of_lt_of_le h3 (bpow_le (by omega)), fun i => ?_⟩
  rw [co_slope, co_pder]
  by_cases hi : i + 1 < p.length
  · obtain ⟨z, h5, h6⟩ := h4 (i + 1)
    refine ⟨z * ((i : Int) + 1), ?_, ?_⟩
    · rw [Int.natAbs_mul]
      have e1 : ((i : Int) + 1).natAbs = i + 1 := by omega
      rw [e1]
      have e2 : B ^ (m + 1) = B ^ m * 10000 := rfl
      rw [e2]
      exact Nat.mul_lt_mul'' h5 (by omega)
    · have e1 : ((i : Rat) + 1) = (((i : Int) + 1 : Int) : Rat) := by push_cast; rfl
      rw [Rat.intCast_mul, ← h6, e1]; grind
  · refine ⟨0, by have : 0 < B ^ (m + 1) := Nat.pow_pos (by decide); simpa using this, ?_⟩
    rw [co_ge (by omega)]
    show _ = (0 : Rat)
    grind

end Go.Proofs.Ytokojbgpboccnaa

/-
  POLYNOMIALS BY THEIR SIZE: those that go into one. Nothing of a program.
-/
namespace Go.Proofs.Ytokojbgpboccnaa
open Go.RowKit
open Num4
set_option linter.unusedVariables false
/-- What is monic and goes into one of nine coefficients has seven limbs more. -/
theorem Cml.dv {d p : List Rat} {m : Nat} (h : Cml p m) (hd : Mnc d) (hp : Trm p) (h0 : p ≠ []) (hdv : Dv d p) (hl : p.length ≤ 9) : Cml d (m + 7) := by
  obtain ⟨h1, D, h2, h3, h4⟩ := h
  obtain ⟨E, k1, k2, k3⟩ := dv_bound (M := B ^ m) hd hp h0 hdv hl h2 fun i => by
    obtain ⟨z, z1, z2⟩ := h4 i
    exact ⟨z, Nat.le_of_lt z1, z2⟩
  have e : 36 ^ 9 * (17 ^ 9 * B ^ m) < B ^ (m + 7) := by
    have e1 : B ^ (m + 7) = B ^ 7 * B ^ m := by rw [Nat.pow_add, Nat.mul_comm]
    have e2 : 36 ^ 9 * (17 ^ 9 * B ^ m) = (36 ^ 9 * 17 ^ 9) * B ^ m := by rw [Nat.mul_assoc]
    have e3 : 0 < B ^ m := Nat.pow_pos (by decide)
    have e4 : 36 ^ 9 * 17 ^ 9 < B ^ 7 := by decide +kernel
    rw [e1, e2]
    exact Nat.mul_lt_mul_of_pos_right e4 e3
  refine ⟨by omega, E, k1, Nat.lt_of_le_of_lt k2 e, fun i => ?_⟩
  obtain ⟨z, z1, z2⟩ := k3 i
  exact ⟨z, Nat.lt_of_le_of_lt z1 e, z2⟩
end Go.Proofs.Ytokojbgpboccnaa

/-
  PACKAGE pgcd: how long its results are. Nothing of a program.
-/
namespace Go.Proofs.Ytokojbgpboccnaa
open Go.RowKit
open Num4
set_option linter.unusedVariables false
set_option maxRecDepth 100000
set_option linter.unusedSimpArgs false
end Go.Proofs.Ytokojbgpboccnaa

/-
  PACKAGE pgcd: how long Yun's polynomials are. Nothing of a program.
-/
namespace Go.Proofs.Ytokojbgpboccnaa
open Go.RowKit
open Num4
set_option linter.unusedVariables false
end Go.Proofs.Ytokojbgpboccnaa
