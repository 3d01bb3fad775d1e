import Derived.Test.YtjeeepcnaaadmaaBunProofFareyBetween13
import Derived.Test.YtjeeepcnaaadmaaBunProofFareyBetween1
import Derived.Test.YtjeeepcnaaadmaaBunProofFareyBetween9
import Derived.Test.YtjeeepcnaaadmaaBunProofFareyBetween8
import Derived.Test.YtjeeepcnaaadmaaBunProofFareyBetween4
import Derived.Laws.BytesArg
import Derived.Laws.IdiomStrings
import Derived.Deep.LoopGhost
/-
  PACKAGE farey: descent.
-/
namespace Go.Proofs.Ytjeeepcnaaadmaa
open Go.RowKit
open Num
set_option linter.unusedVariables false
set_option maxRecDepth 100000
set_option linter.unusedSimpArgs false

/-- A box that holds z over y. -/
def Fat (w : World) (g : Nat) (z y : Int) (k : Nat) : Prop :=
  ∃ s p n c s' p' n' c', Fbx w g s (.slice p n c) s' (.slice p' n' c') ∧ Whl w (.agg #[.bool s, .slice p n c]) z k ∧ Whl w (.agg #[.bool s', .slice p' n' c']) y k
theorem Fat.below {w w' : World} {g : Nat} {z y : Int} {k : Nat} (h : Fat w g z y k) (hb : Below w.heap.size w w') : Fat w' g z y k := by
  obtain ⟨s, p, n, c, s', p', n', c', h1, h2, h3⟩ := h
  exact ⟨s, p, n, c, s', p', n', c', h1.below hb h1.lt, h2.on hb, h3.on hb⟩
theorem Fat.lt {w : World} {g : Nat} {z y : Int} {k : Nat} (h : Fat w g z y k) : g < w.heap.size := by
  obtain ⟨s, p, n, c, s', p', n', c', h1, h2, h3⟩ := h
  exact h1.lt
/-- What the closure has: the bounds of s and the middle, in three boxes at K or above. -/
def Tri (w : World) (K gl gh gm : Nat) (s : Bnd) : Prop :=
  K ≤ gl ∧ gl < gh ∧ gh < gm ∧ Fat w gl s.a s.b 1 ∧ Fat w gh s.c s.d 1 ∧ Fat w gm s.m s.n 1
theorem Tri.on {w w' : World} {K gl gh gm : Nat} {s : Bnd} (h : Tri w K gl gh gm s) (hb : Below w.heap.size w w') : Tri w' K gl gh gm s := by
  obtain ⟨h1, h2, h3, h4, h5, h6⟩ := h
  exact ⟨h1, h2, h3, h4.below hb, h5.below hb, h6.below hb⟩
theorem Tri.dr {w : World} {K gl gh gm : Nat} {s : Bnd} (h : Tri w K gl gh gm s) : Tri w.drew K gl gh gm s := h.on (Below.drew (Below.refl _ _))
theorem Tri.lt {w : World} {K gl gh gm : Nat} {s : Bnd} (h : Tri w K gl gh gm s) : gm < w.heap.size := h.2.2.2.2.2.lt
/-- All blocks but three are as they were. -/
def But3 (w w' : World) (gl gh gm : Nat) : Prop := w.heap.size ≤ w'.heap.size ∧ (∀ g, g < w.heap.size → g ≠ gl → g ≠ gh → g ≠ gm → w'.heap[g]? = w.heap[g]?) ∧ ∀ v z k, Whl w v z k → Whl w' v z k
theorem But3.refl (w : World) (gl gh gm : Nat) : But3 w w gl gh gm := ⟨Nat.le_refl _, fun _ _ _ _ _ => rfl, fun _ _ _ h => h⟩
theorem But3.below {w w1 w2 : World} {gl gh gm : Nat} (h : But3 w w1 gl gh gm) (hb : Below w1.heap.size w1 w2) : But3 w w2 gl gh gm :=
  ⟨Nat.le_trans h.1 hb.size, fun g h1 h2 h3 h4 => (hb.block g (Nat.lt_of_lt_of_le h1 h.1)).trans (h.2.1 g h1 h2 h3 h4), fun v z k hv => (h.2.2 v z k hv).on hb⟩
theorem set4_size (w : World) (g : Nat) (a b c d : Value) : ((((w.setCell ⟨g, 0, none⟩ a).setCell ⟨g, 1, none⟩ b).setCell ⟨g, 2, none⟩ c).setCell ⟨g, 3, none⟩ d).heap.size = w.heap.size := by simp [World.setCell]
theorem set4_block (w : World) (g j : Nat) (hj : j ≠ g) (a b c d : Value) : ((((w.setCell ⟨g, 0, none⟩ a).setCell ⟨g, 1, none⟩ b).setCell ⟨g, 2, none⟩ c).setCell ⟨g, 3, none⟩ d).heap[j]? = w.heap[j]? := by
  rw [Below.heap_setCell _ _ _ _ (by exact hj), Below.heap_setCell _ _ _ _ (by exact hj), Below.heap_setCell _ _ _ _ (by exact hj), Below.heap_setCell _ _ _ _ (by exact hj)]
theorem But3.set4 {w w1 : World} {gl gh gm g : Nat} {s s' : Bool} {p p' : Option Addr} {n n' c c' : Nat} (h : But3 w w1 gl gh gm) (hg : g = gl ∨ g = gh ∨ g = gm ∨ w.heap.size ≤ g) (hx : Fbx w1 g s (.slice p n c) s' (.slice p' n' c')) (a b : Bool) (q q' : Option Addr) (m m' d d' : Nat) :
    But3 w ((((w1.setCell ⟨g, 0, none⟩ (.bool a)).setCell ⟨g, 1, none⟩ (.slice q m d)).setCell ⟨g, 2, none⟩ (.bool b)).setCell ⟨g, 3, none⟩ (.slice q' m' d')) gl gh gm := by
  obtain ⟨h1, h2, h3⟩ := h
  refine ⟨by rw [set4_size]; exact h1, fun j j1 j2 j3 j4 => ?_, fun v z k hv => ?_⟩
  · rw [set4_block _ _ _ (by rcases hg with e | e | e | e <;> omega)]
    exact h2 j j1 j2 j3 j4
  · exact (hx.last (Below.refl 0 w1) (Nat.zero_le _) a b q q' m m' d d').2.2 (h3 v z k hv)
theorem But3.fbx {w w' : World} {gl gh gm g : Nat} {s s' : Bool} {sv sv' : Value} (h : But3 w w' gl gh gm) (hx : Fbx w g s sv s' sv') (h1 : g ≠ gl) (h2 : g ≠ gh) (h3 : g ≠ gm) : Fbx w' g s sv s' sv' := (h.2.1 g hx.lt h1 h2 h3).trans hx

theorem res_frc_tmp' {fn : Func} {t t' : Tmp} {tmps : Array Value} {w : World} {g : Nat} {s s' : Bool} {sv sv' u : Value} (hf : fn.results = #[.cell t 69, .tmp t']) (ht : tmps.getD t undef = .pointer (some ⟨g, 0, none⟩)) (hu : tmps.getD t' undef = u) (h2 : Fbx w g s sv s' sv') :
    (results fn tmps).run Try.prog w = .ok (.tuple #[.agg #[.bool s, sv, .bool s', sv'], u]) w := by
  have h1 := at_addr (P := Try.prog) (w := w) ht
  have h3 := load_frc h2
  simp only [Array.getD_eq_getD_getElem?] at h1 hu
  simp [results, hf, Sem.run_bind, h1, h3, hu]
theorem nat_fit {n : Nat} (h : n ≤ 2147483648) : ((n : Int)).natAbs < B ^ 1 := by rw [Nat.pow_one, B_eq]; omega

set_option maxHeartbeats 4000000 in
theorem descent_tri (w : World) :
    Calls Try.prog 51 #[] w fun e w' => ∃ v gl gh gm, e = .returned (.tuple #[v, .func (.func 74) #[] #[.pointer (some ⟨gm, 0, none⟩), .pointer (some ⟨gh, 0, none⟩), .pointer (some ⟨gl, 0, none⟩)]]) ∧ Frc w' v 1 1 1 ∧ Tri w' (w.heap.size + 1) gl gh gm bnd0 ∧ Below w.heap.size w w' := by
  have hmf : ∀ (fn : Fn) (first cap : Array Value) (w : World), (Instr.makeFunc fn first cap).run Try.prog w = .ok (.func fn first cap) w := fun _ _ _ _ => rfl
  have B := hid (Below.refl w.heap.size w)
  have hb1 := (Below.refl _ _).alloc (Nat.le_refl w.heap.size) (.cells #[.bool false, .slice none 0 0, .bool false, .slice none 0 0] 69)
  have hx2 := Fbx.new w false false (.slice none 0 0) (.slice none 0 0)
  replace B := bb B hb1
  have XR := hid hx2
  have hs3 : (w.alloc (.cells #[.bool false, .slice none 0 0, .bool false, .slice none 0 0] 69)).heap.size = w.heap.size + 1 := by simp
  clear hb1 hx2
  clear hs3 
  go_enter Try.func51, Try.ntmps51
  obtain ⟨cc4a, cc4b, cc4c, cc4d⟩ := XR.out.cells
  go_wp2_with fail
  generalize hW : w.alloc (.cells #[.bool false, .slice none 0 0, .bool false, .slice none 0 0] 69) = W5 at *
  clear hW
  refine (of_small 0 (by decide) _).mono ?_
  rintro e w6 ⟨v, rfl, hv, hb⟩
  obtain ⟨s1, p1, n1, c1, rfl⟩ := hv.opened
  replace XR := fx XR hb
  replace B := bb B hb
  clear cc4a cc4b cc4c cc4d
  have HA := hid hv
  clear hb hv
  obtain ⟨cc7a, cc7b, cc7c, cc7d⟩ := XR.out.cells
  go_wp2_with fail
  refine (of_small 1 (by decide) _).mono ?_
  rintro e w8 ⟨v, rfl, hv, hb⟩
  obtain ⟨s2, p2, n2, c2, rfl⟩ := hv.opened
  replace XR := fx XR hb
  replace HA := wl HA hb
  replace B := bb B hb
  clear cc7a cc7b cc7c cc7d
  have HB := hid hv
  clear hb hv
  have hb9 := (Below.refl _ _).alloc (Nat.le_refl w8.heap.size) (.cells #[.bool s1, .slice p1 n1 c1, .bool s2, .slice p2 n2 c2] 69)
  have hx10 := Fbx.new w8 s1 s2 (.slice p1 n1 c1) (.slice p2 n2 c2)
  have L0 := hid XR.out.lt
  replace XR := fx XR hb9
  replace HA := wl HA hb9
  replace HB := wl HB hb9
  replace B := bb B hb9
  have XL := hid hx10
  have hs11 : (w8.alloc (.cells #[.bool s1, .slice p1 n1 c1, .bool s2, .slice p2 n2 c2] 69)).heap.size = w8.heap.size + 1 := by simp
  clear hb9 hx10
  obtain ⟨cc12a, cc12b, cc12c, cc12d⟩ := XR.out.cells
  obtain ⟨cc13a, cc13b, cc13c, cc13d⟩ := XL.out.cells
  go_wp2_with fail
  generalize hW : w8.alloc (.cells #[.bool s1, .slice p1 n1 c1, .bool s2, .slice p2 n2 c2] 69) = W14 at *
  clear hW
  refine (of_small 1 (by decide) _).mono ?_
  rintro e w15 ⟨v, rfl, hv, hb⟩
  obtain ⟨s3, p3, n3, c3, rfl⟩ := hv.opened
  replace XR := fx XR hb
  replace XL := fx XL hb
  replace HA := wl HA hb
  replace HB := wl HB hb
  replace B := bb B hb
  clear cc12a cc12b cc12c cc12d cc13a cc13b cc13c cc13d
  have HC := hid hv
  clear hb hv
  obtain ⟨cc16a, cc16b, cc16c, cc16d⟩ := XR.out.cells
  obtain ⟨cc17a, cc17b, cc17c, cc17d⟩ := XL.out.cells
  go_wp2_with fail
  refine (of_small 0 (by decide) _).mono ?_
  rintro e w18 ⟨v, rfl, hv, hb⟩
  obtain ⟨s4, p4, n4, c4, rfl⟩ := hv.opened
  replace XR := fx XR hb
  replace XL := fx XL hb
  replace HA := wl HA hb
  replace HB := wl HB hb
  replace HC := wl HC hb
  replace B := bb B hb
  clear cc16a cc16b cc16c cc16d cc17a cc17b cc17c cc17d
  have HD := hid hv
  clear hb hv
  have hb19 := (Below.refl _ _).alloc (Nat.le_refl w18.heap.size) (.cells #[.bool s3, .slice p3 n3 c3, .bool s4, .slice p4 n4 c4] 69)
  have hx20 := Fbx.new w18 s3 s4 (.slice p3 n3 c3) (.slice p4 n4 c4)
  have L1 := hid XL.out.lt
  replace XR := fx XR hb19
  replace XL := fx XL hb19
  replace HA := wl HA hb19
  replace HB := wl HB hb19
  replace HC := wl HC hb19
  replace HD := wl HD hb19
  replace B := bb B hb19
  have XH := hid hx20
  have hs21 : (w18.alloc (.cells #[.bool s3, .slice p3 n3 c3, .bool s4, .slice p4 n4 c4] 69)).heap.size = w18.heap.size + 1 := by simp
  clear hb19 hx20
  obtain ⟨cc22a, cc22b, cc22c, cc22d⟩ := XR.out.cells
  obtain ⟨cc23a, cc23b, cc23c, cc23d⟩ := XL.out.cells
  obtain ⟨cc24a, cc24b, cc24c, cc24d⟩ := XH.out.cells
  go_wp2_with fail
  generalize hW : w18.alloc (.cells #[.bool s3, .slice p3 n3 c3, .bool s4, .slice p4 n4 c4] 69) = W25 at *
  clear hW
  refine (mediant_frc (Frc.mk2 HA.out HB.out) (Frc.mk2 HC.out HD.out) (by decide)).mono ?_
  rintro e w26 ⟨v, rfl, hv, hb⟩
  replace hv := hv.fit 1 (by decide) (by decide)
  obtain ⟨s5a, p5a, n5a, c5a, s5b, p5b, n5b, c5b, rfl⟩ := hv.opened
  obtain ⟨ht5, hu5⟩ := hv.two
  replace XR := fx XR hb
  replace XL := fx XL hb
  replace XH := fx XH hb
  replace HA := wl HA hb
  replace HB := wl HB hb
  replace HC := wl HC hb
  replace HD := wl HD hb
  replace B := bb B hb
  clear cc22a cc22b cc22c cc22d cc23a cc23b cc23c cc23d cc24a cc24b cc24c cc24d
  have HT5 := hid ht5
  have HU5 := hid hu5
  clear hb hv ht5 hu5
  have hb27 := (Below.refl _ _).alloc (Nat.le_refl w26.heap.size) (.cells #[.bool s5a, .slice p5a n5a c5a, .bool s5b, .slice p5b n5b c5b] 69)
  have hx28 := Fbx.new w26 s5a s5b (.slice p5a n5a c5a) (.slice p5b n5b c5b)
  have L2 := hid XH.out.lt
  replace XR := fx XR hb27
  replace XL := fx XL hb27
  replace XH := fx XH hb27
  replace HA := wl HA hb27
  replace HB := wl HB hb27
  replace HC := wl HC hb27
  replace HD := wl HD hb27
  replace HT5 := wl HT5 hb27
  replace HU5 := wl HU5 hb27
  replace B := bb B hb27
  have XM := hid hx28
  have hs29 : (w26.alloc (.cells #[.bool s5a, .slice p5a n5a c5a, .bool s5b, .slice p5b n5b c5b] 69)).heap.size = w26.heap.size + 1 := by simp
  clear hb27 hx28
  obtain ⟨cc30a, cc30b, cc30c, cc30d⟩ := XR.out.cells
  obtain ⟨cc31a, cc31b, cc31c, cc31d⟩ := XL.out.cells
  obtain ⟨cc32a, cc32b, cc32c, cc32d⟩ := XH.out.cells
  obtain ⟨cc33a, cc33b, cc33c, cc33d⟩ := XM.out.cells
  obtain ⟨⟨cc34a, cc34b⟩, ⟨cc34c, cc34d⟩, ⟨cc34e, cc34f⟩, cc34g, cc34h⟩ := XR.out.stores
  obtain ⟨r35a, r35b, r35c⟩ := XR.out.last B.out (by have := L0.out; have := L1.out; have := L2.out; omega) s5a s5b p5a p5b n5a n5b c5a c5b
  replace XL := hid ((((XL.out.other (g2 := w.heap.size) (by have := L0.out; have := L1.out; have := L2.out; omega) 0 (.bool s5a)).other (g2 := w.heap.size) (by have := L0.out; have := L1.out; have := L2.out; omega) 1 (.slice p5a n5a c5a)).other (g2 := w.heap.size) (by have := L0.out; have := L1.out; have := L2.out; omega) 2 (.bool s5b)).other (g2 := w.heap.size) (by have := L0.out; have := L1.out; have := L2.out; omega) 3 (.slice p5b n5b c5b))
  replace XH := hid ((((XH.out.other (g2 := w.heap.size) (by have := L0.out; have := L1.out; have := L2.out; omega) 0 (.bool s5a)).other (g2 := w.heap.size) (by have := L0.out; have := L1.out; have := L2.out; omega) 1 (.slice p5a n5a c5a)).other (g2 := w.heap.size) (by have := L0.out; have := L1.out; have := L2.out; omega) 2 (.bool s5b)).other (g2 := w.heap.size) (by have := L0.out; have := L1.out; have := L2.out; omega) 3 (.slice p5b n5b c5b))
  replace XM := hid ((((XM.out.other (g2 := w.heap.size) (by have := L0.out; have := L1.out; have := L2.out; omega) 0 (.bool s5a)).other (g2 := w.heap.size) (by have := L0.out; have := L1.out; have := L2.out; omega) 1 (.slice p5a n5a c5a)).other (g2 := w.heap.size) (by have := L0.out; have := L1.out; have := L2.out; omega) 2 (.bool s5b)).other (g2 := w.heap.size) (by have := L0.out; have := L1.out; have := L2.out; omega) 3 (.slice p5b n5b c5b))
  replace HA := hid (r35c HA.out)
  replace HB := hid (r35c HB.out)
  replace HC := hid (r35c HC.out)
  replace HD := hid (r35c HD.out)
  replace HT5 := hid (r35c HT5.out)
  replace HU5 := hid (r35c HU5.out)
  replace XR := hid r35a
  replace B := hid r35b
  clear r35a r35b r35c
  go_wp2_with fail
  have L5 := hid XL.out.lt
  refine bodyPost_ret (res_frc_tmp rfl rfl rfl XR.out) rfl ?_
  exact ⟨_, w8.heap.size, w18.heap.size, w26.heap.size, rfl, Frc.mk2 HT5.out HU5.out, ⟨(by have := L0.out; have := L1.out; have := L2.out; omega), (by have := L0.out; have := L1.out; have := L2.out; omega), (by have := L0.out; have := L1.out; have := L2.out; omega), ⟨_, _, _, _, _, _, _, _, XL.out, HA.out, HB.out⟩, ⟨_, _, _, _, _, _, _, _, XH.out, HC.out, HD.out⟩, ⟨_, _, _, _, _, _, _, _, XM.out, HT5.out, HU5.out⟩⟩, B.out⟩

end Go.Proofs.Ytjeeepcnaaadmaa

/-
  PACKAGE farey: the closure that goes down.
-/
namespace Go.Proofs.Ytjeeepcnaaadmaa
open Go.RowKit
open Num
set_option linter.unusedVariables false
set_option maxRecDepth 100000
set_option linter.unusedSimpArgs false

theorem bK {K : Nat} {w0 w w' : World} (h0 : K ≤ w0.heap.size) (h : Hid (Below K w0 w)) (hb : Below w.heap.size w w') : Hid (Below K w0 w') := hid (h.out.trans (hb.mono (Nat.le_trans h0 h.out.size)))

set_option maxHeartbeats 4000000 in
theorem step_L {w : World} {K gl gh gm : Nat} {s : Bnd} (h : Tri w K gl gh gm s) (hs : (stp s 76).m ≤ 2147483648 ∧ (stp s 76).n ≤ 2147483648) :
    Calls Try.prog 74 #[.int .u8 76, .pointer (some ⟨gm, 0, none⟩), .pointer (some ⟨gh, 0, none⟩), .pointer (some ⟨gl, 0, none⟩)] w fun e w' => ∃ v, e = .returned v ∧ Frc w' v (stp s 76).m (stp s 76).n 1 ∧ Tri w' K gl gh gm (stp s 76) ∧ But3 w w' gl gh gm ∧ Below K w w' := by
  obtain ⟨h1, h2, h3, ⟨sla, pla, nla, cla, slb, plb, nlb, clb, xl, hla, hlb⟩, ⟨sha, pha, nha, cha, shb, phb, nhb, chb, xh, hha, hhb⟩, ⟨sma, pma, nma, cma, smb, pmb, nmb, cmb, xm, hma, hmb⟩⟩ := h
  have LK := hid (show K ≤ gl ∧ gl < gh ∧ gh < gm ∧ gm < w.heap.size from ⟨h1, h2, h3, xm.lt⟩)
  have HKW := hid (show K ≤ w.heap.size by have := LK.out; omega)
  have HF := hid hs
  have XL := hid xl
  have HTl := hid hla
  have HUl := hid hlb
  have XH := hid xh
  have HTh := hid hha
  have HUh := hid hhb
  have XM := hid xm
  have HTm := hid hma
  have HUm := hid hmb
  have B := hid (Below.refl K w)
  have C := hid (But3.refl w gl gh gm)
  clear h1 h2 h3 xl hla hlb xh hha hhb xm hma hmb hs
  have hb1 := (Below.refl _ _).alloc (Nat.le_refl w.heap.size) (.cells #[.bool false, .slice none 0 0, .bool false, .slice none 0 0] 69)
  have hx2 := Fbx.new w false false (.slice none 0 0) (.slice none 0 0)
  replace XL := fx XL hb1
  replace XH := fx XH hb1
  replace XM := fx XM hb1
  replace HTl := wl HTl hb1
  replace HUl := wl HUl hb1
  replace HTh := wl HTh hb1
  replace HUh := wl HUh hb1
  replace HTm := wl HTm hb1
  replace HUm := wl HUm hb1
  replace B := bK HKW.out B hb1
  replace C := hid (C.out.below hb1)
  have XR := hid hx2
  have hs3 : (w.alloc (.cells #[.bool false, .slice none 0 0, .bool false, .slice none 0 0] 69)).heap.size = w.heap.size + 1 := by simp
  clear hb1 hx2
  clear hs3 
  go_enter Try.func74, Try.ntmps74
  obtain ⟨cc4a, cc4b, cc4c, cc4d⟩ := XL.out.cells
  obtain ⟨cc5a, cc5b, cc5c, cc5d⟩ := XH.out.cells
  obtain ⟨cc6a, cc6b, cc6c, cc6d⟩ := XM.out.cells
  obtain ⟨cc7a, cc7b, cc7c, cc7d⟩ := XR.out.cells
  obtain ⟨⟨cc8a, cc8b⟩, ⟨cc8c, cc8d⟩, ⟨cc8e, cc8f⟩, cc8g, cc8h⟩ := XH.out.stores
  obtain ⟨r9a, r9b, r9c⟩ := XH.out.last B.out (by have := LK.out; omega) sma smb pma pmb nma nmb cma cmb
  replace C := hid (C.out.set4 (by omega) XH.out sma smb pma pmb nma nmb cma cmb)
  replace XL := hid ((((XL.out.other (g2 := gh) (by have := LK.out; omega) 0 (.bool sma)).other (g2 := gh) (by have := LK.out; omega) 1 (.slice pma nma cma)).other (g2 := gh) (by have := LK.out; omega) 2 (.bool smb)).other (g2 := gh) (by have := LK.out; omega) 3 (.slice pmb nmb cmb))
  replace XM := hid ((((XM.out.other (g2 := gh) (by have := LK.out; omega) 0 (.bool sma)).other (g2 := gh) (by have := LK.out; omega) 1 (.slice pma nma cma)).other (g2 := gh) (by have := LK.out; omega) 2 (.bool smb)).other (g2 := gh) (by have := LK.out; omega) 3 (.slice pmb nmb cmb))
  replace XR := hid ((((XR.out.other (g2 := gh) (by have := LK.out; omega) 0 (.bool sma)).other (g2 := gh) (by have := LK.out; omega) 1 (.slice pma nma cma)).other (g2 := gh) (by have := LK.out; omega) 2 (.bool smb)).other (g2 := gh) (by have := LK.out; omega) 3 (.slice pmb nmb cmb))
  replace HTl := hid (r9c HTl.out)
  replace HUl := hid (r9c HUl.out)
  replace HTh := hid (r9c HTh.out)
  replace HUh := hid (r9c HUh.out)
  replace HTm := hid (r9c HTm.out)
  replace HUm := hid (r9c HUm.out)
  replace XH := hid r9a
  replace B := hid r9b
  clear r9a r9b r9c
  obtain ⟨cc10a, cc10b, cc10c, cc10d⟩ := XL.out.cells
  obtain ⟨cc11a, cc11b, cc11c, cc11d⟩ := XH.out.cells
  obtain ⟨cc12a, cc12b, cc12c, cc12d⟩ := XM.out.cells
  obtain ⟨cc13a, cc13b, cc13c, cc13d⟩ := XR.out.cells
  go_wp2_with fail
  generalize hW : ((((w.alloc (.cells #[.bool false, .slice none 0 0, .bool false, .slice none 0 0] 69)).setCell ⟨gh, 0, none⟩ (.bool sma)).setCell ⟨gh, 1, none⟩ (.slice pma nma cma)).setCell ⟨gh, 2, none⟩ (.bool smb)).setCell ⟨gh, 3, none⟩ (.slice pmb nmb cmb) = W14 at *
  clear hW
  have e1 : (s.a : Int) + (s.m : Int) = ((stp s 76).m : Nat) := by rw [stp_L]; simp [Bnd.m]
  have e2 : (s.b : Int) + (s.n : Int) = ((stp s 76).n : Nat) := by rw [stp_L]; simp [Bnd.n]
  refine (mediant_frc (Frc.mk2 HTl.out HUl.out) (Frc.mk2 HTm.out HUm.out) (by decide)).mono ?_
  rintro e w15 ⟨v, rfl, hv, hb⟩
  rw [e1, e2] at hv
  replace hv := hv.fit 1 (nat_fit HF.out.1) (nat_fit HF.out.2)
  obtain ⟨s7a, p7a, n7a, c7a, s7b, p7b, n7b, c7b, rfl⟩ := hv.opened
  obtain ⟨ht7, hu7⟩ := hv.two
  replace XL := fx XL hb
  replace XH := fx XH hb
  replace XM := fx XM hb
  replace XR := fx XR hb
  replace HTl := wl HTl hb
  replace HUl := wl HUl hb
  replace HTh := wl HTh hb
  replace HUh := wl HUh hb
  replace HTm := wl HTm hb
  replace HUm := wl HUm hb
  replace B := bK HKW.out B hb
  replace C := hid (C.out.below hb)
  clear cc4a cc4b cc4c cc4d cc5a cc5b cc5c cc5d cc6a cc6b cc6c cc6d cc7a cc7b cc7c cc7d cc8a cc8b cc8c cc8d cc8e cc8f cc8g cc8h cc10a cc10b cc10c cc10d cc11a cc11b cc11c cc11d cc12a cc12b cc12c cc12d cc13a cc13b cc13c cc13d
  have HT7 := hid ht7
  have HU7 := hid hu7
  clear hb hv ht7 hu7
  clear e1 e2
  obtain ⟨cc16a, cc16b, cc16c, cc16d⟩ := XL.out.cells
  obtain ⟨cc17a, cc17b, cc17c, cc17d⟩ := XH.out.cells
  obtain ⟨cc18a, cc18b, cc18c, cc18d⟩ := XM.out.cells
  obtain ⟨cc19a, cc19b, cc19c, cc19d⟩ := XR.out.cells
  obtain ⟨⟨cc20a, cc20b⟩, ⟨cc20c, cc20d⟩, ⟨cc20e, cc20f⟩, cc20g, cc20h⟩ := XM.out.stores
  obtain ⟨r21a, r21b, r21c⟩ := XM.out.last B.out (by have := LK.out; omega) s7a s7b p7a p7b n7a n7b c7a c7b
  replace C := hid (C.out.set4 (by omega) XM.out s7a s7b p7a p7b n7a n7b c7a c7b)
  replace XL := hid ((((XL.out.other (g2 := gm) (by have := LK.out; omega) 0 (.bool s7a)).other (g2 := gm) (by have := LK.out; omega) 1 (.slice p7a n7a c7a)).other (g2 := gm) (by have := LK.out; omega) 2 (.bool s7b)).other (g2 := gm) (by have := LK.out; omega) 3 (.slice p7b n7b c7b))
  replace XH := hid ((((XH.out.other (g2 := gm) (by have := LK.out; omega) 0 (.bool s7a)).other (g2 := gm) (by have := LK.out; omega) 1 (.slice p7a n7a c7a)).other (g2 := gm) (by have := LK.out; omega) 2 (.bool s7b)).other (g2 := gm) (by have := LK.out; omega) 3 (.slice p7b n7b c7b))
  replace XR := hid ((((XR.out.other (g2 := gm) (by have := LK.out; omega) 0 (.bool s7a)).other (g2 := gm) (by have := LK.out; omega) 1 (.slice p7a n7a c7a)).other (g2 := gm) (by have := LK.out; omega) 2 (.bool s7b)).other (g2 := gm) (by have := LK.out; omega) 3 (.slice p7b n7b c7b))
  replace HTl := hid (r21c HTl.out)
  replace HUl := hid (r21c HUl.out)
  replace HTh := hid (r21c HTh.out)
  replace HUh := hid (r21c HUh.out)
  replace HTm := hid (r21c HTm.out)
  replace HUm := hid (r21c HUm.out)
  replace HT7 := hid (r21c HT7.out)
  replace HU7 := hid (r21c HU7.out)
  replace XM := hid r21a
  replace B := hid r21b
  clear r21a r21b r21c
  obtain ⟨cc22a, cc22b, cc22c, cc22d⟩ := XL.out.cells
  obtain ⟨cc23a, cc23b, cc23c, cc23d⟩ := XH.out.cells
  obtain ⟨cc24a, cc24b, cc24c, cc24d⟩ := XM.out.cells
  obtain ⟨cc25a, cc25b, cc25c, cc25d⟩ := XR.out.cells
  obtain ⟨⟨cc26a, cc26b⟩, ⟨cc26c, cc26d⟩, ⟨cc26e, cc26f⟩, cc26g, cc26h⟩ := XR.out.stores
  obtain ⟨r27a, r27b, r27c⟩ := XR.out.last B.out (by have := LK.out; omega) s7a s7b p7a p7b n7a n7b c7a c7b
  replace C := hid (C.out.set4 (by omega) XR.out s7a s7b p7a p7b n7a n7b c7a c7b)
  replace XL := hid ((((XL.out.other (g2 := w.heap.size) (by have := LK.out; omega) 0 (.bool s7a)).other (g2 := w.heap.size) (by have := LK.out; omega) 1 (.slice p7a n7a c7a)).other (g2 := w.heap.size) (by have := LK.out; omega) 2 (.bool s7b)).other (g2 := w.heap.size) (by have := LK.out; omega) 3 (.slice p7b n7b c7b))
  replace XH := hid ((((XH.out.other (g2 := w.heap.size) (by have := LK.out; omega) 0 (.bool s7a)).other (g2 := w.heap.size) (by have := LK.out; omega) 1 (.slice p7a n7a c7a)).other (g2 := w.heap.size) (by have := LK.out; omega) 2 (.bool s7b)).other (g2 := w.heap.size) (by have := LK.out; omega) 3 (.slice p7b n7b c7b))
  replace XM := hid ((((XM.out.other (g2 := w.heap.size) (by have := LK.out; omega) 0 (.bool s7a)).other (g2 := w.heap.size) (by have := LK.out; omega) 1 (.slice p7a n7a c7a)).other (g2 := w.heap.size) (by have := LK.out; omega) 2 (.bool s7b)).other (g2 := w.heap.size) (by have := LK.out; omega) 3 (.slice p7b n7b c7b))
  replace HTl := hid (r27c HTl.out)
  replace HUl := hid (r27c HUl.out)
  replace HTh := hid (r27c HTh.out)
  replace HUh := hid (r27c HUh.out)
  replace HTm := hid (r27c HTm.out)
  replace HUm := hid (r27c HUm.out)
  replace HT7 := hid (r27c HT7.out)
  replace HU7 := hid (r27c HU7.out)
  replace XR := hid r27a
  replace B := hid r27b
  clear r27a r27b r27c
  go_wp2_with fail
  refine bodyPost_ret (res_frc rfl rfl XR.out) rfl ?_
  have hk := LK.out
  exact ⟨_, rfl, Frc.mk2 HT7.out HU7.out, ⟨hk.1, hk.2.1, hk.2.2.1, ⟨_, _, _, _, _, _, _, _, XL.out, HTl.out, HUl.out⟩, ⟨_, _, _, _, _, _, _, _, XH.out, HTm.out, HUm.out⟩, ⟨_, _, _, _, _, _, _, _, XM.out, HT7.out, HU7.out⟩⟩, C.out, B.out⟩

set_option maxHeartbeats 4000000 in
theorem step_R {w : World} {K gl gh gm : Nat} {s : Bnd} {x : UInt8} {c : Int} (hx : x ≠ 76) (hc : ¬ c = 76) (h : Tri w K gl gh gm s) (hs : (stp s x).m ≤ 2147483648 ∧ (stp s x).n ≤ 2147483648) :
    Calls Try.prog 74 #[.int .u8 c, .pointer (some ⟨gm, 0, none⟩), .pointer (some ⟨gh, 0, none⟩), .pointer (some ⟨gl, 0, none⟩)] w fun e w' => ∃ v, e = .returned v ∧ Frc w' v (stp s x).m (stp s x).n 1 ∧ Tri w' K gl gh gm (stp s x) ∧ But3 w w' gl gh gm ∧ Below K w w' := by
  obtain ⟨h1, h2, h3, ⟨sla, pla, nla, cla, slb, plb, nlb, clb, xl, hla, hlb⟩, ⟨sha, pha, nha, cha, shb, phb, nhb, chb, xh, hha, hhb⟩, ⟨sma, pma, nma, cma, smb, pmb, nmb, cmb, xm, hma, hmb⟩⟩ := h
  have LK := hid (show K ≤ gl ∧ gl < gh ∧ gh < gm ∧ gm < w.heap.size from ⟨h1, h2, h3, xm.lt⟩)
  have HKW := hid (show K ≤ w.heap.size by have := LK.out; omega)
  have HF := hid hs
  have XL := hid xl
  have HTl := hid hla
  have HUl := hid hlb
  have XH := hid xh
  have HTh := hid hha
  have HUh := hid hhb
  have XM := hid xm
  have HTm := hid hma
  have HUm := hid hmb
  have B := hid (Below.refl K w)
  have C := hid (But3.refl w gl gh gm)
  have HX := hid hx
  have hcb : (c == 76) = false := by simpa using hc
  clear hc
  clear h1 h2 h3 xl hla hlb xh hha hhb xm hma hmb hs hx
  have hb1 := (Below.refl _ _).alloc (Nat.le_refl w.heap.size) (.cells #[.bool false, .slice none 0 0, .bool false, .slice none 0 0] 69)
  have hx2 := Fbx.new w false false (.slice none 0 0) (.slice none 0 0)
  replace XL := fx XL hb1
  replace XH := fx XH hb1
  replace XM := fx XM hb1
  replace HTl := wl HTl hb1
  replace HUl := wl HUl hb1
  replace HTh := wl HTh hb1
  replace HUh := wl HUh hb1
  replace HTm := wl HTm hb1
  replace HUm := wl HUm hb1
  replace B := bK HKW.out B hb1
  replace C := hid (C.out.below hb1)
  have XR := hid hx2
  have hs3 : (w.alloc (.cells #[.bool false, .slice none 0 0, .bool false, .slice none 0 0] 69)).heap.size = w.heap.size + 1 := by simp
  clear hb1 hx2
  clear hs3 
  go_enter Try.func74, Try.ntmps74
  obtain ⟨cc4a, cc4b, cc4c, cc4d⟩ := XL.out.cells
  obtain ⟨cc5a, cc5b, cc5c, cc5d⟩ := XH.out.cells
  obtain ⟨cc6a, cc6b, cc6c, cc6d⟩ := XM.out.cells
  obtain ⟨cc7a, cc7b, cc7c, cc7d⟩ := XR.out.cells
  obtain ⟨⟨cc8a, cc8b⟩, ⟨cc8c, cc8d⟩, ⟨cc8e, cc8f⟩, cc8g, cc8h⟩ := XL.out.stores
  obtain ⟨r9a, r9b, r9c⟩ := XL.out.last B.out (by have := LK.out; omega) sma smb pma pmb nma nmb cma cmb
  replace C := hid (C.out.set4 (by omega) XL.out sma smb pma pmb nma nmb cma cmb)
  replace XH := hid ((((XH.out.other (g2 := gl) (by have := LK.out; omega) 0 (.bool sma)).other (g2 := gl) (by have := LK.out; omega) 1 (.slice pma nma cma)).other (g2 := gl) (by have := LK.out; omega) 2 (.bool smb)).other (g2 := gl) (by have := LK.out; omega) 3 (.slice pmb nmb cmb))
  replace XM := hid ((((XM.out.other (g2 := gl) (by have := LK.out; omega) 0 (.bool sma)).other (g2 := gl) (by have := LK.out; omega) 1 (.slice pma nma cma)).other (g2 := gl) (by have := LK.out; omega) 2 (.bool smb)).other (g2 := gl) (by have := LK.out; omega) 3 (.slice pmb nmb cmb))
  replace XR := hid ((((XR.out.other (g2 := gl) (by have := LK.out; omega) 0 (.bool sma)).other (g2 := gl) (by have := LK.out; omega) 1 (.slice pma nma cma)).other (g2 := gl) (by have := LK.out; omega) 2 (.bool smb)).other (g2 := gl) (by have := LK.out; omega) 3 (.slice pmb nmb cmb))
  replace HTl := hid (r9c HTl.out)
  replace HUl := hid (r9c HUl.out)
  replace HTh := hid (r9c HTh.out)
  replace HUh := hid (r9c HUh.out)
  replace HTm := hid (r9c HTm.out)
  replace HUm := hid (r9c HUm.out)
  replace XL := hid r9a
  replace B := hid r9b
  clear r9a r9b r9c
  obtain ⟨cc10a, cc10b, cc10c, cc10d⟩ := XL.out.cells
  obtain ⟨cc11a, cc11b, cc11c, cc11d⟩ := XH.out.cells
  obtain ⟨cc12a, cc12b, cc12c, cc12d⟩ := XM.out.cells
  obtain ⟨cc13a, cc13b, cc13c, cc13d⟩ := XR.out.cells
  go_wp2_with fail
  generalize hW : ((((w.alloc (.cells #[.bool false, .slice none 0 0, .bool false, .slice none 0 0] 69)).setCell ⟨gl, 0, none⟩ (.bool sma)).setCell ⟨gl, 1, none⟩ (.slice pma nma cma)).setCell ⟨gl, 2, none⟩ (.bool smb)).setCell ⟨gl, 3, none⟩ (.slice pmb nmb cmb) = W14 at *
  clear hW
  have e1 : (s.m : Int) + (s.c : Int) = ((stp s x).m : Nat) := by rw [stp_R HX.out]; simp [Bnd.m]
  have e2 : (s.n : Int) + (s.d : Int) = ((stp s x).n : Nat) := by rw [stp_R HX.out]; simp [Bnd.n]
  refine (mediant_frc (Frc.mk2 HTm.out HUm.out) (Frc.mk2 HTh.out HUh.out) (by decide)).mono ?_
  rintro e w15 ⟨v, rfl, hv, hb⟩
  rw [e1, e2] at hv
  replace hv := hv.fit 1 (nat_fit HF.out.1) (nat_fit HF.out.2)
  obtain ⟨s7a, p7a, n7a, c7a, s7b, p7b, n7b, c7b, rfl⟩ := hv.opened
  obtain ⟨ht7, hu7⟩ := hv.two
  replace XL := fx XL hb
  replace XH := fx XH hb
  replace XM := fx XM hb
  replace XR := fx XR hb
  replace HTl := wl HTl hb
  replace HUl := wl HUl hb
  replace HTh := wl HTh hb
  replace HUh := wl HUh hb
  replace HTm := wl HTm hb
  replace HUm := wl HUm hb
  replace B := bK HKW.out B hb
  replace C := hid (C.out.below hb)
  clear cc4a cc4b cc4c cc4d cc5a cc5b cc5c cc5d cc6a cc6b cc6c cc6d cc7a cc7b cc7c cc7d cc8a cc8b cc8c cc8d cc8e cc8f cc8g cc8h cc10a cc10b cc10c cc10d cc11a cc11b cc11c cc11d cc12a cc12b cc12c cc12d cc13a cc13b cc13c cc13d
  have HT7 := hid ht7
  have HU7 := hid hu7
  clear hb hv ht7 hu7
  clear e1 e2
  obtain ⟨cc16a, cc16b, cc16c, cc16d⟩ := XL.out.cells
  obtain ⟨cc17a, cc17b, cc17c, cc17d⟩ := XH.out.cells
  obtain ⟨cc18a, cc18b, cc18c, cc18d⟩ := XM.out.cells
  obtain ⟨cc19a, cc19b, cc19c, cc19d⟩ := XR.out.cells
  obtain ⟨⟨cc20a, cc20b⟩, ⟨cc20c, cc20d⟩, ⟨cc20e, cc20f⟩, cc20g, cc20h⟩ := XM.out.stores
  obtain ⟨r21a, r21b, r21c⟩ := XM.out.last B.out (by have := LK.out; omega) s7a s7b p7a p7b n7a n7b c7a c7b
  replace C := hid (C.out.set4 (by omega) XM.out s7a s7b p7a p7b n7a n7b c7a c7b)
  replace XL := hid ((((XL.out.other (g2 := gm) (by have := LK.out; omega) 0 (.bool s7a)).other (g2 := gm) (by have := LK.out; omega) 1 (.slice p7a n7a c7a)).other (g2 := gm) (by have := LK.out; omega) 2 (.bool s7b)).other (g2 := gm) (by have := LK.out; omega) 3 (.slice p7b n7b c7b))
  replace XH := hid ((((XH.out.other (g2 := gm) (by have := LK.out; omega) 0 (.bool s7a)).other (g2 := gm) (by have := LK.out; omega) 1 (.slice p7a n7a c7a)).other (g2 := gm) (by have := LK.out; omega) 2 (.bool s7b)).other (g2 := gm) (by have := LK.out; omega) 3 (.slice p7b n7b c7b))
  replace XR := hid ((((XR.out.other (g2 := gm) (by have := LK.out; omega) 0 (.bool s7a)).other (g2 := gm) (by have := LK.out; omega) 1 (.slice p7a n7a c7a)).other (g2 := gm) (by have := LK.out; omega) 2 (.bool s7b)).other (g2 := gm) (by have := LK.out; omega) 3 (.slice p7b n7b c7b))
  replace HTl := hid (r21c HTl.out)
  replace HUl := hid (r21c HUl.out)
  replace HTh := hid (r21c HTh.out)
  replace HUh := hid (r21c HUh.out)
  replace HTm := hid (r21c HTm.out)
  replace HUm := hid (r21c HUm.out)
  replace HT7 := hid (r21c HT7.out)
  replace HU7 := hid (r21c HU7.out)
  replace XM := hid r21a
  replace B := hid r21b
  clear r21a r21b r21c
  obtain ⟨cc22a, cc22b, cc22c, cc22d⟩ := XL.out.cells
  obtain ⟨cc23a, cc23b, cc23c, cc23d⟩ := XH.out.cells
  obtain ⟨cc24a, cc24b, cc24c, cc24d⟩ := XM.out.cells
  obtain ⟨cc25a, cc25b, cc25c, cc25d⟩ := XR.out.cells
  obtain ⟨⟨cc26a, cc26b⟩, ⟨cc26c, cc26d⟩, ⟨cc26e, cc26f⟩, cc26g, cc26h⟩ := XR.out.stores
  obtain ⟨r27a, r27b, r27c⟩ := XR.out.last B.out (by have := LK.out; omega) s7a s7b p7a p7b n7a n7b c7a c7b
  replace C := hid (C.out.set4 (by omega) XR.out s7a s7b p7a p7b n7a n7b c7a c7b)
  replace XL := hid ((((XL.out.other (g2 := w.heap.size) (by have := LK.out; omega) 0 (.bool s7a)).other (g2 := w.heap.size) (by have := LK.out; omega) 1 (.slice p7a n7a c7a)).other (g2 := w.heap.size) (by have := LK.out; omega) 2 (.bool s7b)).other (g2 := w.heap.size) (by have := LK.out; omega) 3 (.slice p7b n7b c7b))
  replace XH := hid ((((XH.out.other (g2 := w.heap.size) (by have := LK.out; omega) 0 (.bool s7a)).other (g2 := w.heap.size) (by have := LK.out; omega) 1 (.slice p7a n7a c7a)).other (g2 := w.heap.size) (by have := LK.out; omega) 2 (.bool s7b)).other (g2 := w.heap.size) (by have := LK.out; omega) 3 (.slice p7b n7b c7b))
  replace XM := hid ((((XM.out.other (g2 := w.heap.size) (by have := LK.out; omega) 0 (.bool s7a)).other (g2 := w.heap.size) (by have := LK.out; omega) 1 (.slice p7a n7a c7a)).other (g2 := w.heap.size) (by have := LK.out; omega) 2 (.bool s7b)).other (g2 := w.heap.size) (by have := LK.out; omega) 3 (.slice p7b n7b c7b))
  replace HTl := hid (r27c HTl.out)
  replace HUl := hid (r27c HUl.out)
  replace HTh := hid (r27c HTh.out)
  replace HUh := hid (r27c HUh.out)
  replace HTm := hid (r27c HTm.out)
  replace HUm := hid (r27c HUm.out)
  replace HT7 := hid (r27c HT7.out)
  replace HU7 := hid (r27c HU7.out)
  replace XR := hid r27a
  replace B := hid r27b
  clear r27a r27b r27c
  go_wp2_with fail
  refine bodyPost_ret (res_frc rfl rfl XR.out) rfl ?_
  have hk := LK.out
  have ht := HT7.out; have hu := HU7.out; rw [stp_R HX.out] at ht hu; rw [stp_R HX.out]
  exact ⟨_, rfl, Frc.mk2 ht hu, ⟨hk.1, hk.2.1, hk.2.2.1, ⟨_, _, _, _, _, _, _, _, XL.out, HTm.out, HUm.out⟩, ⟨_, _, _, _, _, _, _, _, XH.out, HTh.out, HUh.out⟩, ⟨_, _, _, _, _, _, _, _, XM.out, ht, hu⟩⟩, C.out, B.out⟩

theorem step_tri {w : World} {K gl gh gm : Nat} {s : Bnd} (x : UInt8) (h : Tri w K gl gh gm s) (hs : (stp s x).m ≤ 2147483648 ∧ (stp s x).n ≤ 2147483648) :
    Calls Try.prog 74 #[.int .u8 x.toNat, .pointer (some ⟨gm, 0, none⟩), .pointer (some ⟨gh, 0, none⟩), .pointer (some ⟨gl, 0, none⟩)] w fun e w' => ∃ v, e = .returned v ∧ Frc w' v (stp s x).m (stp s x).n 1 ∧ Tri w' K gl gh gm (stp s x) ∧ But3 w w' gl gh gm ∧ Below K w w' := by
  by_cases hx : x = 76
  · subst hx; exact step_L h hs
  · refine step_R hx ?_ h hs
    intro e
    apply hx
    apply UInt8.toNat_inj.1
    have e2 : ((76 : UInt8).toNat : Int) = 76 := rfl
    omega

end Go.Proofs.Ytjeeepcnaaadmaa

/-
  PACKAGE farey: At.
-/
namespace Go.Proofs.Ytjeeepcnaaadmaa
open Go.RowKit
open Num
set_option linter.unusedVariables false
set_option maxRecDepth 100000
set_option linter.unusedSimpArgs false

theorem Fat.set4 {w : World} {g' g : Nat} {z y : Int} {k : Nat} {s s' : Bool} {p p' : Option Addr} {n n' c c' : Nat} (h : Fat w g' z y k) (hg : g' ≠ g) (hx : Fbx w g s (.slice p n c) s' (.slice p' n' c')) (a b : Bool) (q q' : Option Addr) (m m' d d' : Nat) :
    Fat ((((w.setCell ⟨g, 0, none⟩ (.bool a)).setCell ⟨g, 1, none⟩ (.slice q m d)).setCell ⟨g, 2, none⟩ (.bool b)).setCell ⟨g, 3, none⟩ (.slice q' m' d')) g' z y k := by
  obtain ⟨t, u, v, x, t', u', v', x', h1, h2, h3⟩ := h
  exact ⟨t, u, v, x, t', u', v', x', (((h1.other hg _ _).other hg _ _).other hg _ _).other hg _ _, (hx.last (Below.refl 0 w) (Nat.zero_le _) a b q q' m m' d d').2.2 h2, (hx.last (Below.refl 0 w) (Nat.zero_le _) a b q q' m m' d d').2.2 h3⟩
theorem Tri.set4 {w : World} {K gl gh gm g : Nat} {b : Bnd} {s s' : Bool} {p p' : Option Addr} {n n' c c' : Nat} (h : Tri w K gl gh gm b) (hg : gm < g ∨ g < gl) (hx : Fbx w g s (.slice p n c) s' (.slice p' n' c')) (a a' : Bool) (q q' : Option Addr) (m m' d d' : Nat) :
    Tri ((((w.setCell ⟨g, 0, none⟩ (.bool a)).setCell ⟨g, 1, none⟩ (.slice q m d)).setCell ⟨g, 2, none⟩ (.bool a')).setCell ⟨g, 3, none⟩ (.slice q' m' d')) K gl gh gm b := by
  obtain ⟨h1, h2, h3, h4, h5, h6⟩ := h
  exact ⟨h1, h2, h3, h4.set4 (by omega) hx _ _ _ _ _ _ _ _, h5.set4 (by omega) hx _ _ _ _ _ _ _ _, h6.set4 (by omega) hx _ _ _ _ _ _ _ _⟩
theorem stp_fit {l : List UInt8} {x : UInt8} (h : l.length < 30) : (stp (wlk bnd0 l) x).m ≤ 2147483648 ∧ (stp (wlk bnd0 l) x).n ≤ 2147483648 := by
  rw [← wlk_snoc]
  obtain ⟨h1, h2, h3, h4⟩ := wlk_small (l := l ++ [x]) (by rw [List.length_append, List.length_singleton]; omega)
  unfold Bnd.m Bnd.n
  omega

set_option maxHeartbeats 4000000 in
theorem at_ok {s : ByteArray} (h : wayE s.data.toList = 0) (w : World) :
    Calls Try.prog 28 #[.string s] w fun e w' => e = .returned (.tuple #[.string (qtxt (endq s.data.toList)), .nilIface]) ∧ Below w.heap.size w w' := by
  obtain ⟨hlr, hlen⟩ := wayE_zero h
  have hsz : s.data.toList.length = s.size := by simp
  have hn30 : s.size ≤ 30 := by omega
  have H1 := checkWay_any s w (by unfold maxLen; omega)
  rw [h] at H1
  replace H1 := hid H1
  have HSZ := hid hsz
  have hne := errv_neq
  have hgd := errv_guard
  clear h hlr hlen hsz
  go_enter Try.func28, Try.ntmps28
  go_wp2_with fail
  refine (H1.out).mono ?_
  rintro e w' ⟨rfl, rfl⟩
  clear H1
  go_wp2_with fail
  refine (descent_tri w).mono ?_
  rintro e w1 ⟨v, gl, gh, gm, rfl, hv, ht, hb⟩
  obtain ⟨s1a, p1a, n1a, c1a, s1b, p1b, n1b, c1b, rfl⟩ := hv.opened
  obtain ⟨ht1, hu1⟩ := hv.two
  have B := hid hb
  have TR := hid ht
  have HT1 := hid ht1
  have HU1 := hid hu1
  have LG := hid (show w.heap.size < gl ∧ gl < gh ∧ gh < gm ∧ gm < w1.heap.size from ⟨ht.1, ht.2.1, ht.2.2.1, ht.lt⟩)
  clear hv ht hb ht1 hu1
  have hb1 := (Below.refl _ _).alloc (Nat.le_refl w1.heap.size) (.cells #[.bool s1a, .slice p1a n1a c1a, .bool s1b, .slice p1b n1b c1b] 69)
  have hx2 := Fbx.new w1 s1a s1b (.slice p1a n1a c1a) (.slice p1b n1b c1b)
  replace HT1 := wl HT1 hb1
  replace HU1 := wl HU1 hb1
  replace B := bb B hb1
  replace TR := hid (TR.out.on hb1)
  have XH := hid hx2
  have hs3 : (w1.alloc (.cells #[.bool s1a, .slice p1a n1a c1a, .bool s1b, .slice p1b n1b c1b] 69)).heap.size = w1.heap.size + 1 := by simp
  clear hb1 hx2
  obtain ⟨cc4a, cc4b, cc4c, cc4d⟩ := XH.out.cells
  go_wp2_with fail
  clear cc4a cc4b cc4c cc4d
  generalize hG : w1.heap.size = G at *
  clear hG
  go_loopw [19] (fun i wr => ∃ (k : Nat) (sha : Bool) (pha : Option Addr) (nha cha : Nat) (shb : Bool) (phb : Option Addr) (nhb chb : Nat), k ≤ s.size ∧ i = .int .i64 k ∧ Hid (Fbx wr G sha (.slice pha nha cha) shb (.slice phb nhb chb)) ∧ Hid (Whl wr (.agg #[.bool sha, .slice pha nha cha]) (wlk bnd0 (s.data.toList.take k)).m 1) ∧ Hid (Whl wr (.agg #[.bool shb, .slice phb nhb chb]) (wlk bnd0 (s.data.toList.take k)).n 1) ∧ Hid (Tri wr (w.heap.size + 1) gl gh gm (wlk bnd0 (s.data.toList.take k))) ∧ Hid (Below w.heap.size w wr)) (fun i _ => s.size - (intOf i).toNat)
  case atStart => exact ⟨0, _, _, _, _, _, _, _, _, Nat.zero_le _, rfl, XH, HT1, HU1, TR, B⟩
  case round =>
    obtain ⟨k, sha, pha, nha, cha, shb, phb, nhb, chb, hk, rfl, XH, HTh, HUh, TR, B⟩ := hrel
    by_cases hlt : k < s.size
    · have hstep : wlk bnd0 (s.data.toList.take (k + 1)) = stp (wlk bnd0 (s.data.toList.take k)) s[k] := by rw [take_snoc s k hlt, wlk_snoc]
      have hfit := stp_fit (l := s.data.toList.take k) (x := s[k]) (by rw [List.length_take, HSZ.out]; omega)
      have HST := hid hstep
      have HFI := hid hfit
      clear hstep hfit
      obtain ⟨cc201a, cc201b, cc201c, cc201d⟩ := XH.out.cells
      go_wp2_with fail
      refine (step_tri s[k] TR.out HFI.out).mono ?_
      rintro e w2 ⟨v, rfl, hv, ht, hc, hb⟩
      obtain ⟨s7a, p7a, n7a, c7a, s7b, p7b, n7b, c7b, rfl⟩ := hv.opened
      obtain ⟨ht7, hu7⟩ := hv.two
      have hl := LG.out
      replace XH := hid (hc.fbx XH.out (by omega) (by omega) (by omega))
      clear hl
      replace B := hid (B.out.trans (hb.mono (Nat.le_succ _)))
      replace TR := hid ht
      have HT7 := hid ht7
      have HU7 := hid hu7
      clear hv ht hc hb ht7 hu7 HTh HUh cc201a cc201b cc201c cc201d
      obtain ⟨cc202a, cc202b, cc202c, cc202d⟩ := XH.out.cells
      obtain ⟨⟨cc203a, cc203b⟩, ⟨cc203c, cc203d⟩, ⟨cc203e, cc203f⟩, cc203g, cc203h⟩ := XH.out.stores
      obtain ⟨r204a, r204b, r204c⟩ := XH.out.last B.out (by have := LG.out; omega) s7a s7b p7a p7b n7a n7b c7a c7b
      replace TR := hid (TR.out.set4 (by have := LG.out; omega) XH.out s7a s7b p7a p7b n7a n7b c7a c7b)
      replace HT7 := hid (r204c HT7.out)
      replace HU7 := hid (r204c HU7.out)
      replace XH := hid r204a
      replace B := hid r204b
      clear r204a r204b r204c
      go_wp2_with fail
      go_roundw
      case rel => exact ⟨k + 1, _, _, _, _, _, _, _, _, by omega, by go_num, XH, hid (by rw [HST.out]; exact HT7.out), hid (by rw [HST.out]; exact HU7.out), hid (by rw [HST.out]; exact TR.out), B⟩
      case measure => simp [intOf]; omega
    · obtain rfl : k = s.size := by omega
      have hall : s.data.toList.take s.size = s.data.toList := List.take_of_length_le (by rw [HSZ.out]; exact Nat.le_refl _)
      rw [hall] at HTh HUh
      clear hall
      have HN := hid (show ((wlk bnd0 s.data.toList).n : Int) ≠ 0 by have := (uni0.wlk s.data.toList).mpos; omega)
      obtain ⟨cc301a, cc301b, cc301c, cc301d⟩ := XH.out.cells
      go_wp2_with fail
      refine (fstring_frc (Frc.mk2 HTh.out HUh.out) HN.out (by decide)).mono ?_
      rintro e w302 ⟨rfl, hb⟩
      replace B := bb B hb
      clear cc301a cc301b cc301c cc301d
      clear hb 
      go_wp2_with fail
      go_ret2
      exact ⟨rfl, B.out⟩

set_option maxHeartbeats 1000000 in
theorem at_bad {s : ByteArray} (hs : s.size ≤ maxLen) (h : wayE s.data.toList ≠ 0) (w : World) :
    Calls Try.prog 28 #[.string s] w fun e w' => e = .returned (.tuple #[.string ⟨#[]⟩, errv (wayE s.data.toList)]) ∧ Below w.heap.size w w' := by
  have H1 := hid (checkWay_any s w hs)
  have hne := errv_neq
  have hgd := errv_guard
  generalize wayE s.data.toList = k at *
  have hk : (k != 0) = true := by simpa using h
  go_enter Try.func28, Try.ntmps28
  go_wp2_with fail
  refine (H1.out).mono ?_
  rintro e w' ⟨rfl, rfl⟩
  clear H1
  go_wp2_with fail
  go_ret2
  exact ⟨rfl, Below.refl _ _⟩

def AtTells (way s : ByteArray) (k : Int) : Prop :=
  (k = 0 ∧ LR way.data.toList ∧ way.data.toList.length ≤ 30 ∧ s = qtxt (endq way.data.toList)) ∨ (k ≠ 0 ∧ k = wayE way.data.toList ∧ s = ⟨#[]⟩)
theorem ten_pow : (1073741824 + 1073741824 : Nat) < 10 ^ 10 := by decide +kernel
theorem endq_size {l : List UInt8} (h : l.length ≤ 30) : (qtxt (endq l)).size ≤ 23 := by
  obtain ⟨h1, h2, h3, h4⟩ := wlk_small h
  have h5 := ten_pow
  refine size_qtxt 10 (by decide) ?_ ?_
  · rw [(endq_parts l).1]; unfold Bnd.m; omega
  · rw [(endq_parts l).2]; unfold Bnd.n; omega
theorem endq_good {l : List UInt8} (h : l.length ≤ 30) : GoodQ (qtxt (endq l)) := ⟨Nat.le_trans (endq_size h) (by decide), isRat_qtxt _⟩
theorem at_any (way : ByteArray) (hs : way.size ≤ maxLen) (w : World) :
    Calls Try.prog 28 #[.string way] w fun e w' => ∃ s k, e = .returned (.tuple #[.string s, errv k]) ∧ AtTells way s k ∧ s.size ≤ maxLen ∧ Below w.heap.size w w' := by
  by_cases h : wayE way.data.toList = 0
  · refine (at_ok h w).mono ?_
    rintro e w' ⟨rfl, hb⟩
    obtain ⟨h1, h2⟩ := wayE_zero h
    exact ⟨_, 0, rfl, .inl ⟨rfl, h1, h2, rfl⟩, Nat.le_trans (endq_size h2) (by decide), hb⟩
  · refine (at_bad hs h w).mono ?_
    rintro e w' ⟨rfl, hb⟩
    exact ⟨_, _, rfl, .inr ⟨h, rfl, rfl⟩, Nat.zero_le _, hb⟩

end Go.Proofs.Ytjeeepcnaaadmaa

/-
  PACKAGE farey: bytes of the call's own.
-/
namespace Go.Proofs.Ytjeeepcnaaadmaa
open Go.RowKit
open Num
set_option linter.unusedVariables false
set_option maxRecDepth 100000
set_option linter.unusedSimpArgs false

/-- No limb. -/
def N8 (u : Value) : Prop := ∀ z, u ≠ .int .u32 z
/-- A block without limbs. -/
def No32 (w : World) (g : Nat) : Prop := ∀ cur T f, w.heap[g]? = some (.cells cur T f) → ∀ u ∈ cur.toList, N8 u
theorem No32.below {w w' : World} {g K : Nat} (h : No32 w g) (hb : Below K w w') (hg : g < K) : No32 w' g := by
  intro cur T f e
  rw [hb.block g hg] at e
  exact h _ _ _ e
theorem Lim.grown8 {w w' : World} {v : Value} {xs : List Nat} {g : Nat} (h : Lim w v xs) (hn : No32 w g) (hg : w.grownBy w' (some g)) : Lim w' v xs := by
  obtain ⟨h1, p, c, h2, h3, h4, h5⟩ := h
  refine ⟨h1, p, c, h2, h3, h4, ?_⟩
  rcases h5 with h5 | ⟨b, off, h6, h7, h8⟩
  · exact .inl h5
  · refine .inr ⟨b, off, h6, Nat.lt_of_lt_of_le h7 hg.size, fun i hi => ?_⟩
    have h9 := h8 i hi
    by_cases hb : b = g
    · exfalso
      subst hb
      simp only [World.cell?] at h9
      split at h9
      · rename_i cur T f e
        have := hn cur T f e _ (by have := Array.mem_of_getElem? h9; simpa using this)
        exact this _ rfl
      all_goals simp at h9
    · rw [← h9]
      exact World.cell?_of_block (hg.block b h7 (by simpa using hb))
theorem No32.new (w : World) (cs : Array Value) (T : TypeId) (h : ∀ u ∈ cs.toList, N8 u) : No32 (w.alloc (.cells cs T)) w.heap.size := by
  intro cur T' f e
  rw [heap_alloc_new] at e
  cases e
  exact h

section
variable {P : Program}
/-- 'append' onto a row of the call's own that holds no limbs. -/
theorem append_n8 (w : World) (base : Nat) (t ty e : TypeId) (i : TypeInfo) (z : Value) (size bytes : Nat) (ht : P.underlying t = some (.slice e)) (hi : P.info? e = some i) (hz : i.zero = some z)
    (hsize : i.size = size) (hby : i.bytes = bytes) (hzs : z.cells.size = size) (hsz : 0 < size)
    (v : Value) (n : Nat) (xs : List Value) (hown : w.ownsRow base e size v n xs) (hC : ∀ g, v.ownBlock = some g → No32 w g) (hzC : ∀ u ∈ z.cells.toList, N8 u)
    (a : Addr) (m c : Nat) (news : List Value) (hl : news.length = m * size) (hnews : ∀ j u, news[j]? = some u → w.cell? (a.add j) = some u) (h1 : ∀ u ∈ news, u.oneCell' = true) (hnC : ∀ u ∈ news, N8 u)
    (h63 : n + m ≤ maxLen) (hbytes : (n + m) * bytes ≤ 140737488355328) (hbase : base ≤ w.heap.size) :
    ∃ v' w', (Builtin.append_ #[t, t] ty #[v, .slice (some a) m c]).run P w = .ok v' w' ∧ w'.ownsRow base e size v' (n + m) (xs ++ news) ∧ w.grownBy w' v.ownBlock ∧ (∀ g, v'.ownBlock = some g → No32 w' g) := by
  obtain ⟨v', w', hr, h2, h3, h4⟩ := run_append_own (P := P) w base t ty e i z size bytes ht hi hz hsize hby hzs hsz v n xs hown a m c news hl hnews h1 h63 hbytes hbase
  refine ⟨v', w', hr, h2, h3, ?_⟩
  subst hsize hby
  have hsmall : n + m ≤ 9223372036854775807 := by simp only [maxLen] at h63; omega
  have hzr : ∀ k, ∀ u ∈ (Builtin.zeroCells z.cells k).toList, N8 u := by
    intro k u hu
    simp only [Builtin.zeroCells] at hu
    apply hzC
    simp at hu
    obtain ⟨j, hj, rfl⟩ := hu
    have hp : j % z.cells.size < z.cells.size := Nat.mod_lt _ (by
      rcases Nat.eq_zero_or_pos z.cells.size with h0 | h0
      · rw [h0] at hj; simp at hj
      · exact h0)
    rw [getElem!_pos z.cells _ hp]
    simp
  rcases hown.2 with ⟨rfl, rfl⟩ | ⟨g, cap, cur, rfl, hbg, hg, hnc, hcm, hcs, htake⟩
  · by_cases hm : m = 0
    · subst hm
      obtain rfl := h4.2 ⟨rfl, rfl⟩
      intro g hg
      simp [Value.ownBlock] at hg
    · have hr' := run_append_nil (P := P) w t ty e i z ht hi hz a m c news hl hnews (by omega) (by omega) (by have hb := hbytes; simp only [Nat.zero_add] at hb; omega)
      rw [hr'] at hr
      cases hr
      intro g hg
      simp [Value.ownBlock] at hg
      subst hg
      refine No32.new w.drew _ _ fun u hu => ?_
      rw [Array.toList_append] at hu
      rcases List.mem_append.1 hu with hu | hu
      · exact hnC u (by simpa using hu)
      · exact hzr _ u hu
  · have hng := hC g rfl
    by_cases hroom : n + m ≤ cap
    · have hfit : n * i.size + news.length ≤ cur.size := by rw [hl, hcs, ← Nat.add_mul]; exact Nat.mul_le_mul_right _ hroom
      have hr' := run_append_room (P := P) w t ty e i ht hi g n cap cur hg a m c news hl hnews h1 hroom hfit
      rw [hr'] at hr
      cases hr
      intro g' hg'
      simp [Value.ownBlock] at hg'
      subst hg'
      intro cur' T f e'
      rw [setRow_heap w g cur _ e _ hg] at e'
      cases e'
      intro u hu
      have hcu := hng cur e _ hg
      rcases List.mem_append.1 hu with hu | hu
      · rcases List.mem_append.1 hu with hu | hu
        · exact hcu u (List.mem_of_mem_take hu)
        · exact hnC u hu
      · exact hcu u (List.mem_of_mem_drop hu)
    · have holds : ∀ j u, xs[j]? = some u → w.cell? ((⟨g, 0, none⟩ : Addr).add j) = some u := hown.cells (g := g) rfl
      have hr' := run_append_grow (P := P) w t ty e i z ht hi hz ⟨g, 0, none⟩ n cap xs hown.1 holds a m c news hl hnews (by omega) (by omega) (growslice_fits (by omega) hbytes)
      rw [hr'] at hr
      cases hr
      intro g' hg'
      simp [Value.ownBlock] at hg'
      subst hg'
      have hcu := hng cur e _ hg
      refine No32.new w.drew _ _ fun u hu => ?_
      rw [Array.toList_append] at hu
      rcases List.mem_append.1 hu with hu | hu
      · rw [Array.toList_append] at hu
        rcases List.mem_append.1 hu with hu | hu
        · exact hcu u (by rw [← htake] at hu; exact List.mem_of_mem_take hu)
        · exact hnC u (by simpa using hu)
      · exact hzr _ u hu
theorem wpList_append_n8 {w : World} {ops : Array Oper} {rest : List Oper} {o : Oper} {a : Act} {Q : Exit → Act → World → Prop} (hgd : o.guard = none) (s x : Operand) (t : TypeId)
    (ho : o.op = .call { callee := .builtin .append, args := #[s, x], argTypes := #[t, t] })
    (base : Nat) (e : TypeId) (i : TypeInfo) (z : Value) (size bytes : Nat) (ht : P.underlying t = some (.slice e)) (hi : P.info? e = some i) (hz : i.zero = some z)
    (hsize : i.size = size) (hby : i.bytes = bytes) (hzs : z.cells.size = size) (hsz : 0 < size)
    (v : Value) (n : Nat) (xs : List Value) (hs : a.eval s = v) (hown : w.ownsRow base e size v n xs) (hC : ∀ g, v.ownBlock = some g → No32 w g) (hzC : ∀ u ∈ z.cells.toList, N8 u)
    (ad : Addr) (m c : Nat) (news : List Value) (hx : a.eval x = .slice (some ad) m c) (hl : news.length = m * size) (hnews : ∀ j u, news[j]? = some u → w.cell? (ad.add j) = some u) (h1 : ∀ u ∈ news, u.oneCell' = true) (hnC : ∀ u ∈ news, N8 u)
    (h63 : n + m ≤ maxLen) (hbytes : (n + m) * bytes ≤ 140737488355328) (hbase : base ≤ w.heap.size)
    (h : ∀ v' w', w'.ownsRow base e size v' (n + m) (xs ++ news) → w.grownBy w' v.ownBlock → (∀ g, v'.ownBlock = some g → No32 w' g) → wpList P ops Q rest (a.put o.dst v') w') : wpList P ops Q (o :: rest) a w :=
  wpList_plain hgd fun K hK => by
    obtain ⟨v', w', hr, h2, h3, h4⟩ := append_n8 (P := P) w base t o.type e i z size bytes ht hi hz hsize hby hzs hsz v n xs hown hC hzC ad m c news hl hnews h1 hnC h63 hbytes hbase
    unfold Oper.wp execOp
    simp only [ho, resolve, invoke, builtin, Sem.run_bind, Sem.run_pure, Result.andThen_ok, List.map_toArray, List.map_cons, List.map_nil, hs, hx, hr]
    exact hK _ _ (h v' w' h2 h3 h4)
end

theorem N8.byte (z : Int) : N8 (.int .u8 z) := fun _ h => by cases h
/-- A byte's value. -/
def bv (c : UInt8) : Value := .int .u8 (c.toNat : Int)
/-- Bytes of the call's own. -/
def OwnB (w : World) (K : Nat) (v : Value) (bs : List UInt8) : Prop := w.ownsRow K 5 1 v bs.length (bs.map bv) ∧ ∀ g, v.ownBlock = some g → No32 w g
theorem OwnB.nil (w : World) (K : Nat) : OwnB w K (.slice none 0 0) [] := ⟨World.ownsRow_nil w K _ 1, fun g h => by simp [Value.ownBlock] at h⟩
theorem OwnB.opened {w : World} {K : Nat} {v : Value} {bs : List UInt8} (h : OwnB w K v bs) : ∃ p c, v = .slice p bs.length c := by
  rcases h.1.2 with ⟨rfl, h0⟩ | ⟨g, cap, cur, rfl, _⟩
  · exact ⟨none, 0, by rw [h0]⟩
  · exact ⟨_, _, rfl⟩
theorem OwnB.lt {w : World} {K : Nat} {v : Value} {bs : List UInt8} (h : OwnB w K v bs) {g : Nat} (hg : v.ownBlock = some g) : K ≤ g ∧ g < w.heap.size := by
  rcases h.1.2 with ⟨rfl, h0⟩ | ⟨g', cap, cur, rfl, hK, h1, _⟩
  · simp [Value.ownBlock] at hg
  · simp [Value.ownBlock] at hg
    subst hg
    exact ⟨hK, lt_of_block h1⟩
theorem OwnB.same {w w' : World} {K : Nat} {v : Value} {bs : List UInt8} (h : OwnB w K v bs) (hk : ∀ g, v.ownBlock = some g → w'.heap[g]? = w.heap[g]?) : OwnB w' K v bs := by
  refine ⟨⟨h.1.1, ?_⟩, fun g hg => ?_⟩
  · rcases h.1.2 with h0 | ⟨g, cap, cur, rfl, hK, h1, h2⟩
    · exact .inl h0
    · exact .inr ⟨g, cap, cur, rfl, hK, (hk g rfl).trans h1, h2⟩
  · intro cur T f e
    rw [hk g hg] at e
    exact h.2 g hg cur T f e
theorem OwnB.on {w w' : World} {K : Nat} {v : Value} {bs : List UInt8} (h : OwnB w K v bs) (hb : Below w.heap.size w w') : OwnB w' K v bs := h.same fun g hg => hb.block g (h.lt hg).2
theorem OwnB.ne {w : World} {K : Nat} {v : Value} {bs : List UInt8} {g : Nat} {cs : Array Value} {t : TypeId} {f : Nat × Nat} (h : OwnB w K v bs) (hg : w.heap[g]? = some (.cells cs t f)) (ht : t ≠ 5) : v.ownBlock ≠ some g := by
  intro e
  rcases h.1.2 with ⟨rfl, _⟩ | ⟨g', cap, cur, rfl, _, h1, _⟩
  · simp [Value.ownBlock] at e
  · simp [Value.ownBlock] at e
    subst e
    rw [hg] at h1
    cases h1
    exact ht rfl
theorem OwnB.neF {w : World} {K : Nat} {v : Value} {bs : List UInt8} {g : Nat} {s s' : Bool} {sv sv' : Value} (h : OwnB w K v bs) (hx : Fbx w g s sv s' sv') : v.ownBlock ≠ some g := h.ne hx (by decide)
theorem OwnB.set4 {w : World} {K : Nat} {v : Value} {bs : List UInt8} {g : Nat} {s s' : Bool} {sv sv' : Value} (h : OwnB w K v bs) (hx : Fbx w g s sv s' sv') (a b c d : Value) : OwnB ((((w.setCell ⟨g, 0, none⟩ a).setCell ⟨g, 1, none⟩ b).setCell ⟨g, 2, none⟩ c).setCell ⟨g, 3, none⟩ d) K v bs :=
  h.same fun j hj => set4_block w g j (fun e => h.neF hx (by rw [hj, e])) a b c d
theorem OwnB.but3 {w w' : World} {K K2 gl gh gm : Nat} {v : Value} {bs : List UInt8} {s : Bnd} (h : OwnB w K v bs) (ht : Tri w K2 gl gh gm s) (hc : But3 w w' gl gh gm) : OwnB w' K v bs := by
  obtain ⟨_, _, _, ⟨_, _, _, _, _, _, _, _, h1, _⟩, ⟨_, _, _, _, _, _, _, _, h2, _⟩, ⟨_, _, _, _, _, _, _, _, h3, _⟩⟩ := ht
  exact h.same fun j hj => hc.2.1 j (h.lt hj).2 (fun e => h.neF h1 (by rw [hj, e])) (fun e => h.neF h2 (by rw [hj, e])) (fun e => h.neF h3 (by rw [hj, e]))
theorem Whl.own8 {w w' : World} {v u : Value} {z : Int} {k K : Nat} {bs : List UInt8} (h : Whl w v z k) (ho : OwnB w K u bs) (hg : w.grownBy w' u.ownBlock) : Whl w' v z k := by
  obtain ⟨s, sv, xs, h1, h2, h3⟩ := h
  refine ⟨s, sv, xs, h1, ?_, h3⟩
  cases hu : u.ownBlock with
  | none =>
    rw [hu] at hg
    exact h2.below (K := w.heap.size) ⟨hg.os, hg.tape, hg.output, hg.size, fun b hb => hg.block b hb (by simp)⟩ (Nat.le_refl _)
  | some g =>
    rw [hu] at hg
    exact h2.grown8 (ho.2 g hu) hg
theorem Fbx.own8 {w w' : World} {g K : Nat} {u : Value} {s s' : Bool} {sv sv' : Value} {bs : List UInt8} (h : Fbx w g s sv s' sv') (ho : OwnB w K u bs) (hg : w.grownBy w' u.ownBlock) : Fbx w' g s sv s' sv' := (hg.block g h.lt (ho.neF h).symm).trans h
theorem Fat.own8 {w w' : World} {g K k : Nat} {u : Value} {z y : Int} {bs : List UInt8} (h : Fat w g z y k) (ho : OwnB w K u bs) (hg : w.grownBy w' u.ownBlock) : Fat w' g z y k := by
  obtain ⟨s, p, n, c, s', p', n', c', h1, h2, h3⟩ := h
  exact ⟨s, p, n, c, s', p', n', c', h1.own8 ho hg, h2.own8 ho hg, h3.own8 ho hg⟩
theorem Tri.own8 {w w' : World} {K K2 gl gh gm : Nat} {u : Value} {s : Bnd} {bs : List UInt8} (h : Tri w K gl gh gm s) (ho : OwnB w K2 u bs) (hg : w.grownBy w' u.ownBlock) : Tri w' K gl gh gm s := by
  obtain ⟨h1, h2, h3, h4, h5, h6⟩ := h
  exact ⟨h1, h2, h3, h4.own8 ho hg, h5.own8 ho hg, h6.own8 ho hg⟩
theorem OwnB.grown {w0 w w' : World} {K : Nat} {u : Value} {bs : List UInt8} (ho : OwnB w K u bs) (hb : Below K w0 w) (hK : K ≤ w.heap.size) (hg : w.grownBy w' u.ownBlock) : Below K w0 w' :=
  hb.grown hg hK fun g h => (ho.lt h).1
theorem OwnB.str {w : World} {K : Nat} {v : Value} {bs : List UInt8} (h : OwnB w K v bs) : (convert 96 9 v).run Try.prog w = .ok (.string ⟨bs.toArray⟩) w := by
  rcases h.1.2 with ⟨rfl, h0⟩ | ⟨g, cap, cur, rfl, hK, h1, h2, h3, h4, h5⟩
  · obtain rfl := List.length_eq_zero_iff.1 h0
    exact run_convert_bytes_nil w 96 5 Try.underlying96 Try.underlying5 0 0 9 Try.underlying9
  · refine run_convert_bytes_back w _ _ _ ⟨g, 0, none⟩ cap bs Try.underlying96 Try.underlying5 Try.underlying9 (fun j hj => ?_)
    have e : ((⟨g, 0, none⟩ : Addr).add j) = ⟨g, j, none⟩ := by unfold Addr.add; split <;> simp_all
    rw [e]
    have h6 : (bs.map bv)[j]? = some (.int .u8 (bs[j].toNat : Int)) := by simp [bv, hj]
    rw [← h5, List.getElem?_take, Nat.mul_one, if_pos hj, Array.getElem?_toList] at h6
    simp [World.cell?, h1, h6]
theorem cells_byte (z : Int) : (Value.int .u8 z).cells = #[.int .u8 z] := rfl

end Go.Proofs.Ytjeeepcnaaadmaa

/-
  PACKAGE farey: wayTo.
-/
namespace Go.Proofs.Ytjeeepcnaaadmaa
open Go.RowKit
open Num
set_option linter.unusedVariables false
set_option maxRecDepth 100000
set_option linter.unusedSimpArgs false

theorem Frc.mono {w : World} {v : Value} {z y : Int} {k m : Nat} (h : Frc w v z y k) (hk : k ≤ m) : Frc w v z y m := by
  obtain ⟨s, p, n, c, s', p', n', c', h1, h2, h3⟩ := h
  exact ⟨s, p, n, c, s', p', n', c', h1, h2.mono hk, h3.mono hk⟩
theorem wayn_here {g : Nat} {p : Int} {q : Nat} {s : Bnd} {bs : List UInt8} (h : cmpw p q s = 0) : (wayn g p q s).map (bs ++ ·) = some bs := by
  cases g with
  | zero => rw [wayn, if_pos h]; simp
  | succ g => rw [wayn, if_pos h]; simp
theorem wayn_none {p : Int} {q : Nat} {s : Bnd} {bs : List UInt8} (h : cmpw p q s ≠ 0) : (wayn 0 p q s).map (bs ++ ·) = none := by rw [wayn, if_neg h]; rfl
theorem wayn_left {g : Nat} {p : Int} {q : Nat} {bs : List UInt8} (h : cmpw p q (wlk bnd0 bs) = -1) : (wayn (g + 1) p q (wlk bnd0 bs)).map (bs ++ ·) = (wayn g p q (wlk bnd0 (bs ++ [76]))).map ((bs ++ [76]) ++ ·) := by
  rw [wayn, if_neg (by omega), if_pos (by omega), Option.map_map, wlk_snoc]
  congr 1
  funext t
  simp
theorem wayn_right {g : Nat} {p : Int} {q : Nat} {bs : List UInt8} (h : cmpw p q (wlk bnd0 bs) = 1) : (wayn (g + 1) p q (wlk bnd0 bs)).map (bs ++ ·) = (wayn g p q (wlk bnd0 (bs ++ [82]))).map ((bs ++ [82]) ++ ·) := by
  rw [wayn, if_neg (by omega), if_neg (by omega), Option.map_map, wlk_snoc]
  congr 1
  funext t
  simp
theorem wayn_start (o : Option (List UInt8)) : o = o.map ([] ++ ·) := by cases o <;> rfl
theorem cmpw_three (p : Int) (q : Nat) (s : Bnd) : cmpw p q s = 0 ∨ cmpw p q s = -1 ∨ cmpw p q s = 1 := by
  unfold cmpw
  rcases Int.lt_trichotomy (p * s.n - s.m * q) 0 with h | h | h
  · exact .inr (.inl (Int.sign_eq_neg_one_of_neg h))
  · rw [h]; exact .inl rfl
  · exact .inr (.inr (Int.sign_eq_one_of_pos h))

set_option maxHeartbeats 8000000 in
theorem wayTo_frc {w : World} {v : Value} {p : Int} {q k : Nat} (h : Frc w v p q k) (hk1 : 1 ≤ k) (hk : k ≤ 68719476736) :
    Calls Try.prog 53 #[v] w fun e w' => ((∃ l, wayn 30 p q bnd0 = some l ∧ e = .returned (.tuple #[.string ⟨l.toArray⟩, .nilIface])) ∨ (wayn 30 p q bnd0 = none ∧ e = .returned (.tuple #[.string ⟨#[]⟩, errno 4]))) ∧ Below w.heap.size w w' := by
  obtain ⟨i0, hi, hz0, hz1, hz2⟩ := info_parts infoU8
  obtain ⟨s1a, p1a, n1a, c1a, s1b, p1b, n1b, c1b, rfl⟩ := h.opened
  obtain ⟨ht1, hu1⟩ := h.two
  have HK := hid hk
  have HK1 := hid hk1
  have B := hid (Below.refl w.heap.size w)
  have HT1 := hid ht1
  have HU1 := hid hu1
  have hb1 := (Below.refl _ _).alloc (Nat.le_refl w.heap.size) (.cells #[.bool s1a, .slice p1a n1a c1a, .bool s1b, .slice p1b n1b c1b] 69)
  have hx2 := Fbx.new w s1a s1b (.slice p1a n1a c1a) (.slice p1b n1b c1b)
  replace HT1 := wl HT1 hb1
  replace HU1 := wl HU1 hb1
  replace B := bb B hb1
  have X1 := hid hx2
  have hs3 : (w.alloc (.cells #[.bool s1a, .slice p1a n1a c1a, .bool s1b, .slice p1b n1b c1b] 69)).heap.size = w.heap.size + 1 := by simp
  clear hb1 hx2
  clear hs3 h ht1 hu1 hk hk1
  go_enter Try.func53, Try.ntmps53
  obtain ⟨cc4a, cc4b, cc4c, cc4d⟩ := X1.out.cells
  go_wp2_with fail
  generalize hW : w.alloc (.cells #[.bool s1a, .slice p1a n1a c1a, .bool s1b, .slice p1b n1b c1b] 69) = W5 at *
  clear hW
  refine (descent_tri W5).mono ?_
  rintro e w1 ⟨v, gl, gh, gm, rfl, hv, ht, hb⟩
  obtain ⟨s2a, p2a, n2a, c2a, s2b, p2b, n2b, c2b, rfl⟩ := hv.opened
  obtain ⟨ht2, hu2⟩ := hv.two
  have LG := hid (show w.heap.size < gl ∧ gl < gh ∧ gh < gm ∧ gm < w1.heap.size from ⟨by have := ht.1; have := X1.out.lt; omega, ht.2.1, ht.2.2.1, ht.lt⟩)
  have TR := hid (show Tri w1 w.heap.size gl gh gm bnd0 from ⟨by have := LG.out; omega, ht.2⟩)
  replace X1 := fx X1 hb
  replace HT1 := wl HT1 hb
  replace HU1 := wl HU1 hb
  replace B := bb B hb
  have HT2 := hid ht2
  have HU2 := hid hu2
  clear hv ht hb ht2 hu2 cc4a cc4b cc4c cc4d
  have hb6 := (Below.refl _ _).alloc (Nat.le_refl w1.heap.size) (.cells #[.bool s2a, .slice p2a n2a c2a, .bool s2b, .slice p2b n2b c2b] 69)
  have hx7 := Fbx.new w1 s2a s2b (.slice p2a n2a c2a) (.slice p2b n2b c2b)
  replace X1 := fx X1 hb6
  replace HT1 := wl HT1 hb6
  replace HU1 := wl HU1 hb6
  replace HT2 := wl HT2 hb6
  replace HU2 := wl HU2 hb6
  replace B := bb B hb6
  replace TR := hid (TR.out.on hb6)
  have XH := hid hx7
  have hs8 : (w1.alloc (.cells #[.bool s2a, .slice p2a n2a c2a, .bool s2b, .slice p2b n2b c2b] 69)).heap.size = w1.heap.size + 1 := by simp
  clear hb6 hx7
  obtain ⟨cc9a, cc9b, cc9c, cc9d⟩ := X1.out.cells
  obtain ⟨cc10a, cc10b, cc10c, cc10d⟩ := XH.out.cells
  go_wp2_with fail
  clear cc9a cc9b cc9c cc9d cc10a cc10b cc10c cc10d
  generalize hG : w1.heap.size = G at *
  clear hG
  go_loopg [4] 30 (fun gk l wr => ∃ (bs : List UInt8) (sha : Bool) (pha : Option Addr) (nha cha : Nat) (shb : Bool) (phb : Option Addr) (nhb chb : Nat), Hid (bs.length + gk = 30) ∧ Hid (wayn 30 p q bnd0 = (wayn gk p q (wlk bnd0 bs)).map (bs ++ ·)) ∧ Hid (OwnB wr w.heap.size l bs) ∧ Hid (Fbx wr w.heap.size s1a (.slice p1a n1a c1a) s1b (.slice p1b n1b c1b)) ∧ Hid (Whl wr (.agg #[.bool s1a, .slice p1a n1a c1a]) p k) ∧ Hid (Whl wr (.agg #[.bool s1b, .slice p1b n1b c1b]) q k) ∧ Hid (Fbx wr G sha (.slice pha nha cha) shb (.slice phb nhb chb)) ∧ Hid (Whl wr (.agg #[.bool sha, .slice pha nha cha]) (wlk bnd0 bs).m 1) ∧ Hid (Whl wr (.agg #[.bool shb, .slice phb nhb chb]) (wlk bnd0 bs).n 1) ∧ Hid (Tri wr w.heap.size gl gh gm (wlk bnd0 bs)) ∧ Hid (Below w.heap.size w wr))
  case atStart => exact ⟨[], _, _, _, _, _, _, _, _, hid rfl, hid (wayn_start _), hid (OwnB.nil _ _), X1, HT1, HU1, XH, HT2, HU2, TR, B⟩
  case round =>
    obtain ⟨bs, sha, pha, nha, cha, shb, phb, nhb, chb, HL, HI, HO, X1, HT1, HU1, XH, HTh, HUh, TR, B⟩ := hrel
    rcases cmpw_three p q (wlk bnd0 bs) with hc | hc | hc
    · have HC := hid hc
      have HA := against_frc (Frc.mk2 HT1.out HU1.out) ((Frc.mk2 HTh.out HUh.out).mono HK1.out) HK.out
      rw [show (p * ((wlk bnd0 bs).n : Int) - ((wlk bnd0 bs).m : Int) * (q : Int)).sign = 0 from hc] at HA
      clear hc
      obtain ⟨cc301a, cc301b, cc301c, cc301d⟩ := X1.out.cells
      obtain ⟨cc302a, cc302b, cc302c, cc302d⟩ := XH.out.cells
      go_wp2_with fail
      refine (HA).mono ?_
      rintro e w303 ⟨rfl, hb⟩
      replace X1 := fx X1 hb
      replace XH := fx XH hb
      replace HT1 := wl HT1 hb
      replace HU1 := wl HU1 hb
      replace HTh := wl HTh hb
      replace HUh := wl HUh hb
      replace B := bb B hb
      replace TR := hid (TR.out.on hb)
      replace HO := hid (HO.out.on hb)
      clear cc301a cc301b cc301c cc301d cc302a cc302b cc302c cc302d
      clear hb 
      clear HA
      have hcv := HO.out.str
      obtain ⟨cc304a, cc304b, cc304c, cc304d⟩ := X1.out.cells
      obtain ⟨cc305a, cc305b, cc305c, cc305d⟩ := XH.out.cells
      go_wp2_with fail
      go_ret2
      exact ⟨.inl ⟨bs, by rw [HI.out]; exact wayn_here HC.out, rfl⟩, B.out⟩
    · have HC := hid hc
      have HA := against_frc (Frc.mk2 HT1.out HU1.out) ((Frc.mk2 HTh.out HUh.out).mono HK1.out) HK.out
      rw [show (p * ((wlk bnd0 bs).n : Int) - ((wlk bnd0 bs).m : Int) * (q : Int)).sign = -1 from hc] at HA
      clear hc
      obtain ⟨cc501a, cc501b, cc501c, cc501d⟩ := X1.out.cells
      obtain ⟨cc502a, cc502b, cc502c, cc502d⟩ := XH.out.cells
      go_wp2_with fail
      refine (HA).mono ?_
      rintro e w503 ⟨rfl, hb⟩
      replace X1 := fx X1 hb
      replace XH := fx XH hb
      replace HT1 := wl HT1 hb
      replace HU1 := wl HU1 hb
      replace B := bb B hb
      replace TR := hid (TR.out.on hb)
      replace HO := hid (HO.out.on hb)
      clear cc501a cc501b cc501c cc501d cc502a cc502b cc502c cc502d
      clear hb 
      clear HA
      obtain ⟨po, co, rfl⟩ := HO.out.opened
      by_cases hgk : gk = 0
      · subst hgk
        have hlen : bs.length = 30 := by have := HL.out; omega
        have h30 : ((bs.length : Int) == 30) = true := by rw [hlen]; rfl
        clear hlen
        obtain ⟨cc601a, cc601b, cc601c, cc601d⟩ := X1.out.cells
        obtain ⟨cc602a, cc602b, cc602c, cc602d⟩ := XH.out.cells
        go_wp2_with fail
        go_ret2
        exact ⟨.inr ⟨by rw [HI.out]; exact wayn_none (by rw [HC.out]; decide), rfl⟩, B.out⟩
      · obtain ⟨gk, rfl⟩ : ∃ j, gk = j + 1 := ⟨gk - 1, by omega⟩
        have hlen : bs.length < 30 := by have := HL.out; omega
        have h30 : ((bs.length : Int) == 30) = false := by simp; omega
        have HLN := hid hlen
        clear hlen hgk
        have HFI := hid (stp_fit (l := bs) (x := 76) HLN.out)
        have HIN := hid (HI.out.trans (wayn_left HC.out))
        clear HI HC
        have hb0 := (Below.refl w503.heap.size w503).alloc (Nat.le_refl _) (.cells #[.int .u8 76] 5)
        have HOA := hid (HO.out.on hb0)
        obtain ⟨cc701a, cc701b, cc701c, cc701d⟩ := X1.out.cells
        obtain ⟨cc702a, cc702b, cc702c, cc702d⟩ := XH.out.cells
        go_wp2_with (at_builtin; refine wpList_append_n8 rfl _ _ 96 rfl w.heap.size 5 i0 (.int .u8 0) 1 1 Try.underlying96 hi hz0 hz1 hz2 rfl (by decide) _ _ _ rfl HOA.out.1 HOA.out.2 ?c0 ⟨w503.heap.size, 0, none⟩ 1 1 [.int .u8 76] rfl rfl ?c1 ?c2 ?c3 ?c4 ?c5 ?c6 ?_)
        case c0 => intro u hu; simp [cells_byte] at hu; subst hu; exact N8.byte _
        case c1 =>
          intro j u hj
          match j, hj with
          | 0, hj => simp at hj; subst hj; simp [Addr.add]
        case c2 => intro u hu; simp at hu; subst hu; rfl
        case c3 => intro u hu; simp at hu; subst hu; exact N8.byte _
        case c4 => have := HLN.out; unfold maxLen; omega
        case c5 => have := HLN.out; omega
        case c6 => have := B.out.size; simp; omega
        intro v' wb hown hgrow hni
        have HO2 : Hid (OwnB wb w.heap.size v' (bs ++ [76])) := hid ⟨by rw [List.length_append, List.map_append]; exact hown, hni⟩
        replace X1 := fx X1 hb0
        replace X1 := hid (X1.out.own8 HOA.out hgrow)
        replace XH := fx XH hb0
        replace XH := hid (XH.out.own8 HOA.out hgrow)
        replace HT1 := wl HT1 hb0
        replace HT1 := hid (HT1.out.own8 HOA.out hgrow)
        replace HU1 := wl HU1 hb0
        replace HU1 := hid (HU1.out.own8 HOA.out hgrow)
        replace TR := hid ((TR.out.on hb0).own8 HOA.out hgrow)
        replace B := bb B hb0
        replace B := hid (HOA.out.grown B.out (by have := B.out.size; omega) hgrow)
        clear hown hgrow hni hb0 HOA HO HTh HUh h30 cc701a cc701b cc701c cc701d cc702a cc702b cc702c cc702d
        obtain ⟨cc703a, cc703b, cc703c, cc703d⟩ := X1.out.cells
        obtain ⟨cc704a, cc704b, cc704c, cc704d⟩ := XH.out.cells
        go_wp2_with fail
        refine (step_tri 76 TR.out HFI.out).mono ?_
        rintro e wc ⟨v, rfl, hv, ht, hc, hb⟩
        obtain ⟨s7a, p7a, n7a, c7a, s7b, p7b, n7b, c7b, rfl⟩ := hv.opened
        obtain ⟨ht7, hu7⟩ := hv.two
        have hl := LG.out
        replace HO2 := hid (HO2.out.but3 TR.out hc)
        replace X1 := hid (hc.fbx X1.out (by omega) (by omega) (by omega))
        replace XH := hid (hc.fbx XH.out (by omega) (by omega) (by omega))
        replace HT1 := hid (hc.2.2 _ _ _ HT1.out)
        replace HU1 := hid (hc.2.2 _ _ _ HU1.out)
        clear hl
        replace B := hid (B.out.trans hb)
        replace TR := hid ht
        have HT7 := hid ht7
        have HU7 := hid hu7
        clear hv ht hc hb ht7 hu7 cc703a cc703b cc703c cc703d cc704a cc704b cc704c cc704d
        obtain ⟨cc705a, cc705b, cc705c, cc705d⟩ := X1.out.cells
        obtain ⟨cc706a, cc706b, cc706c, cc706d⟩ := XH.out.cells
        obtain ⟨⟨cc707a, cc707b⟩, ⟨cc707c, cc707d⟩, ⟨cc707e, cc707f⟩, cc707g, cc707h⟩ := XH.out.stores
        obtain ⟨r708a, r708b, r708c⟩ := XH.out.last B.out (by have := LG.out; omega) s7a s7b p7a p7b n7a n7b c7a c7b
        replace HO2 := hid (HO2.out.set4 XH.out (.bool s7a) (.slice p7a n7a c7a) (.bool s7b) (.slice p7b n7b c7b))
        replace TR := hid (TR.out.set4 (by have := LG.out; omega) XH.out s7a s7b p7a p7b n7a n7b c7a c7b)
        replace X1 := hid ((((X1.out.other (g2 := G) (by have := LG.out; omega) 0 (.bool s7a)).other (g2 := G) (by have := LG.out; omega) 1 (.slice p7a n7a c7a)).other (g2 := G) (by have := LG.out; omega) 2 (.bool s7b)).other (g2 := G) (by have := LG.out; omega) 3 (.slice p7b n7b c7b))
        replace HT1 := hid (r708c HT1.out)
        replace HU1 := hid (r708c HU1.out)
        replace HT7 := hid (r708c HT7.out)
        replace HU7 := hid (r708c HU7.out)
        replace XH := hid r708a
        replace B := hid r708b
        clear r708a r708b r708c
        go_wp2_with fail
        go_roundg gk
        case rel => exact ⟨bs ++ [76], _, _, _, _, _, _, _, _, hid (by have := HL.out; rw [List.length_append, List.length_singleton]; omega), HIN, HO2, X1, HT1, HU1, XH, hid (by rw [wlk_snoc]; exact HT7.out), hid (by rw [wlk_snoc]; exact HU7.out), hid (by rw [wlk_snoc]; exact TR.out), B⟩
        case measure => omega
    · have HC := hid hc
      have HA := against_frc (Frc.mk2 HT1.out HU1.out) ((Frc.mk2 HTh.out HUh.out).mono HK1.out) HK.out
      rw [show (p * ((wlk bnd0 bs).n : Int) - ((wlk bnd0 bs).m : Int) * (q : Int)).sign = 1 from hc] at HA
      clear hc
      obtain ⟨cc901a, cc901b, cc901c, cc901d⟩ := X1.out.cells
      obtain ⟨cc902a, cc902b, cc902c, cc902d⟩ := XH.out.cells
      go_wp2_with fail
      refine (HA).mono ?_
      rintro e w903 ⟨rfl, hb⟩
      replace X1 := fx X1 hb
      replace XH := fx XH hb
      replace HT1 := wl HT1 hb
      replace HU1 := wl HU1 hb
      replace B := bb B hb
      replace TR := hid (TR.out.on hb)
      replace HO := hid (HO.out.on hb)
      clear cc901a cc901b cc901c cc901d cc902a cc902b cc902c cc902d
      clear hb 
      clear HA
      obtain ⟨po, co, rfl⟩ := HO.out.opened
      by_cases hgk : gk = 0
      · subst hgk
        have hlen : bs.length = 30 := by have := HL.out; omega
        have h30 : ((bs.length : Int) == 30) = true := by rw [hlen]; rfl
        clear hlen
        obtain ⟨cc1001a, cc1001b, cc1001c, cc1001d⟩ := X1.out.cells
        obtain ⟨cc1002a, cc1002b, cc1002c, cc1002d⟩ := XH.out.cells
        go_wp2_with fail
        go_ret2
        exact ⟨.inr ⟨by rw [HI.out]; exact wayn_none (by rw [HC.out]; decide), rfl⟩, B.out⟩
      · obtain ⟨gk, rfl⟩ : ∃ j, gk = j + 1 := ⟨gk - 1, by omega⟩
        have hlen : bs.length < 30 := by have := HL.out; omega
        have h30 : ((bs.length : Int) == 30) = false := by simp; omega
        have HLN := hid hlen
        clear hlen hgk
        have HFI := hid (stp_fit (l := bs) (x := 82) HLN.out)
        have HIN := hid (HI.out.trans (wayn_right HC.out))
        clear HI HC
        have hb0 := (Below.refl w903.heap.size w903).alloc (Nat.le_refl _) (.cells #[.int .u8 82] 5)
        have HOA := hid (HO.out.on hb0)
        obtain ⟨cc1101a, cc1101b, cc1101c, cc1101d⟩ := X1.out.cells
        obtain ⟨cc1102a, cc1102b, cc1102c, cc1102d⟩ := XH.out.cells
        go_wp2_with (at_builtin; refine wpList_append_n8 rfl _ _ 96 rfl w.heap.size 5 i0 (.int .u8 0) 1 1 Try.underlying96 hi hz0 hz1 hz2 rfl (by decide) _ _ _ rfl HOA.out.1 HOA.out.2 ?c0 ⟨w903.heap.size, 0, none⟩ 1 1 [.int .u8 82] rfl rfl ?c1 ?c2 ?c3 ?c4 ?c5 ?c6 ?_)
        case c0 => intro u hu; simp [cells_byte] at hu; subst hu; exact N8.byte _
        case c1 =>
          intro j u hj
          match j, hj with
          | 0, hj => simp at hj; subst hj; simp [Addr.add]
        case c2 => intro u hu; simp at hu; subst hu; rfl
        case c3 => intro u hu; simp at hu; subst hu; exact N8.byte _
        case c4 => have := HLN.out; unfold maxLen; omega
        case c5 => have := HLN.out; omega
        case c6 => have := B.out.size; simp; omega
        intro v' wb hown hgrow hni
        have HO2 : Hid (OwnB wb w.heap.size v' (bs ++ [82])) := hid ⟨by rw [List.length_append, List.map_append]; exact hown, hni⟩
        replace X1 := fx X1 hb0
        replace X1 := hid (X1.out.own8 HOA.out hgrow)
        replace XH := fx XH hb0
        replace XH := hid (XH.out.own8 HOA.out hgrow)
        replace HT1 := wl HT1 hb0
        replace HT1 := hid (HT1.out.own8 HOA.out hgrow)
        replace HU1 := wl HU1 hb0
        replace HU1 := hid (HU1.out.own8 HOA.out hgrow)
        replace TR := hid ((TR.out.on hb0).own8 HOA.out hgrow)
        replace B := bb B hb0
        replace B := hid (HOA.out.grown B.out (by have := B.out.size; omega) hgrow)
        clear hown hgrow hni hb0 HOA HO HTh HUh h30 cc1101a cc1101b cc1101c cc1101d cc1102a cc1102b cc1102c cc1102d
        obtain ⟨cc1103a, cc1103b, cc1103c, cc1103d⟩ := X1.out.cells
        obtain ⟨cc1104a, cc1104b, cc1104c, cc1104d⟩ := XH.out.cells
        go_wp2_with fail
        refine (step_tri 82 TR.out HFI.out).mono ?_
        rintro e wc ⟨v, rfl, hv, ht, hc, hb⟩
        obtain ⟨s7a, p7a, n7a, c7a, s7b, p7b, n7b, c7b, rfl⟩ := hv.opened
        obtain ⟨ht7, hu7⟩ := hv.two
        have hl := LG.out
        replace HO2 := hid (HO2.out.but3 TR.out hc)
        replace X1 := hid (hc.fbx X1.out (by omega) (by omega) (by omega))
        replace XH := hid (hc.fbx XH.out (by omega) (by omega) (by omega))
        replace HT1 := hid (hc.2.2 _ _ _ HT1.out)
        replace HU1 := hid (hc.2.2 _ _ _ HU1.out)
        clear hl
        replace B := hid (B.out.trans hb)
        replace TR := hid ht
        have HT7 := hid ht7
        have HU7 := hid hu7
        clear hv ht hc hb ht7 hu7 cc1103a cc1103b cc1103c cc1103d cc1104a cc1104b cc1104c cc1104d
        obtain ⟨cc1105a, cc1105b, cc1105c, cc1105d⟩ := X1.out.cells
        obtain ⟨cc1106a, cc1106b, cc1106c, cc1106d⟩ := XH.out.cells
        obtain ⟨⟨cc1107a, cc1107b⟩, ⟨cc1107c, cc1107d⟩, ⟨cc1107e, cc1107f⟩, cc1107g, cc1107h⟩ := XH.out.stores
        obtain ⟨r1108a, r1108b, r1108c⟩ := XH.out.last B.out (by have := LG.out; omega) s7a s7b p7a p7b n7a n7b c7a c7b
        replace HO2 := hid (HO2.out.set4 XH.out (.bool s7a) (.slice p7a n7a c7a) (.bool s7b) (.slice p7b n7b c7b))
        replace TR := hid (TR.out.set4 (by have := LG.out; omega) XH.out s7a s7b p7a p7b n7a n7b c7a c7b)
        replace X1 := hid ((((X1.out.other (g2 := G) (by have := LG.out; omega) 0 (.bool s7a)).other (g2 := G) (by have := LG.out; omega) 1 (.slice p7a n7a c7a)).other (g2 := G) (by have := LG.out; omega) 2 (.bool s7b)).other (g2 := G) (by have := LG.out; omega) 3 (.slice p7b n7b c7b))
        replace HT1 := hid (r1108c HT1.out)
        replace HU1 := hid (r1108c HU1.out)
        replace HT7 := hid (r1108c HT7.out)
        replace HU7 := hid (r1108c HU7.out)
        replace XH := hid r1108a
        replace B := hid r1108b
        clear r1108a r1108b r1108c
        go_wp2_with fail
        go_roundg gk
        case rel => exact ⟨bs ++ [82], _, _, _, _, _, _, _, _, hid (by have := HL.out; rw [List.length_append, List.length_singleton]; omega), HIN, HO2, X1, HT1, HU1, XH, hid (by rw [wlk_snoc]; exact HT7.out), hid (by rw [wlk_snoc]; exact HU7.out), hid (by rw [wlk_snoc]; exact TR.out), B⟩
        case measure => omega

end Go.Proofs.Ytjeeepcnaaadmaa

/-
  PACKAGE farey: Mediant.
-/
namespace Go.Proofs.Ytjeeepcnaaadmaa
open Go.RowKit
open Num
set_option linter.unusedVariables false
set_option maxRecDepth 100000
set_option linter.unusedSimpArgs false

set_option maxHeartbeats 4000000 in
theorem qmed_a {a b : ByteArray} {k : Int} (h : BadQ a k) (ha : a.size ≤ maxLen) (w : World) :
    Calls Try.prog 27 #[.string a, .string b] w fun e w' => e = .returned (.tuple #[.string ⟨#[]⟩, errno k]) ∧ Below w.heap.size w w' := by
  have hne := errv_neq
  have hgd := errv_guard
  have hkk := errv_some h.ne
  have H1 := hid (qread_bad h w ha)
  have B := hid (Below.refl w.heap.size w)
  clear  h
  go_enter Try.func27, Try.ntmps27
  go_wp2_with fail
  refine (H1.out).mono ?_
  rintro e w1 ⟨rfl, hb⟩
  replace B := bb B hb
  clear hb H1
  have hb2 := (Below.refl _ _).alloc (Nat.le_refl w1.heap.size) (.cells #[.bool false, .slice none 0 0, .bool false, .slice none 0 0] 51)
  have hx3 := Nbx.new w1 false false (.slice none 0 0) (.slice none 0 0)
  replace B := bb B hb2
  have XA := hid hx3
  have hs4 : (w1.alloc (.cells #[.bool false, .slice none 0 0, .bool false, .slice none 0 0] 51)).heap.size = w1.heap.size + 1 := by simp
  clear hb2 hx3
  obtain ⟨cc5a, cc5b, cc5c, cc5d⟩ := XA.out.cells
  go_wp2_with fail
  go_ret2
  exact ⟨rfl, B.out⟩

set_option maxHeartbeats 4000000 in
theorem qmed_b {a b : ByteArray} {k : Int} (h : GoodQ a) (hd : BadQ b k) (hbs : b.size ≤ maxLen) (w : World) :
    Calls Try.prog 27 #[.string a, .string b] w fun e w' => e = .returned (.tuple #[.string ⟨#[]⟩, errno k]) ∧ Below w.heap.size w w' := by
  have hne := errv_neq
  have hgd := errv_guard
  have hkk := errv_some hd.ne
  have H1 := hid (qread_good h w)
  have H2 := hid (fun w => qread_bad hd w hbs)
  have B := hid (Below.refl w.heap.size w)
  clear  h hd
  go_enter Try.func27, Try.ntmps27
  go_wp2_with fail
  refine (H1.out).mono ?_
  rintro e w1 ⟨v, rfl, hv, hb⟩
  obtain ⟨s1a, p1a, n1a, c1a, s1b, p1b, n1b, c1b, rfl⟩ := hv.opened
  obtain ⟨ht1, d1, hu1, hd1⟩ := hv.two
  have HD1 := hid hd1
  replace B := bb B hb
  have HT1 := hid ht1
  have HU1 := hid hu1
  clear hb hv ht1 hu1 hd1 H1
  have hb2 := (Below.refl _ _).alloc (Nat.le_refl w1.heap.size) (.cells #[.bool s1a, .slice p1a n1a c1a, .bool s1b, .slice p1b n1b c1b] 51)
  have hx3 := Nbx.new w1 s1a s1b (.slice p1a n1a c1a) (.slice p1b n1b c1b)
  replace B := bb B hb2
  have XA := hid hx3
  have hs4 : (w1.alloc (.cells #[.bool s1a, .slice p1a n1a c1a, .bool s1b, .slice p1b n1b c1b] 51)).heap.size = w1.heap.size + 1 := by simp
  clear hb2 hx3
  obtain ⟨cc5a, cc5b, cc5c, cc5d⟩ := XA.out.cells
  go_wp2_with fail
  generalize hW : w1.alloc (.cells #[.bool s1a, .slice p1a n1a c1a, .bool s1b, .slice p1b n1b c1b] 51) = W6 at *
  clear hW
  refine (H2.out _).mono ?_
  rintro e w7 ⟨rfl, hb⟩
  replace XA := nx XA hb
  replace B := bb B hb
  clear cc5a cc5b cc5c cc5d
  clear hb H2
  have hb8 := (Below.refl _ _).alloc (Nat.le_refl w7.heap.size) (.cells #[.bool false, .slice none 0 0, .bool false, .slice none 0 0] 51)
  have hx9 := Nbx.new w7 false false (.slice none 0 0) (.slice none 0 0)
  have L0 := hid XA.out.lt
  replace XA := nx XA hb8
  replace B := bb B hb8
  have XB := hid hx9
  have hs10 : (w7.alloc (.cells #[.bool false, .slice none 0 0, .bool false, .slice none 0 0] 51)).heap.size = w7.heap.size + 1 := by simp
  clear hb8 hx9
  obtain ⟨cc11a, cc11b, cc11c, cc11d⟩ := XA.out.cells
  obtain ⟨cc12a, cc12b, cc12c, cc12d⟩ := XB.out.cells
  go_wp2_with fail
  go_ret2
  exact ⟨rfl, B.out⟩

set_option maxHeartbeats 4000000 in
theorem qmed_ok {a b : ByteArray} (h : GoodQ a) (hd : GoodQ b) (w : World) :
    Calls Try.prog 27 #[.string a, .string b] w fun e w' => e = .returned (.tuple #[.string (qtxt (medq (qnum a) (qnum b))), .nilIface]) ∧ Below w.heap.size w w' := by
  have hne := errv_neq
  have hgd := errv_guard
  have H1 := hid (qread_good h w)
  have H2 := hid (fun w => qread_good hd w)
  have HY := hid (show ((qnum a).den : Int) + ((qnum b).den : Int) ≠ 0 by have := (qnum a).den_pos; omega)
  have B := hid (Below.refl w.heap.size w)
  clear  h hd
  go_enter Try.func27, Try.ntmps27
  go_wp2_with fail
  refine (H1.out).mono ?_
  rintro e w1 ⟨v, rfl, hv, hb⟩
  obtain ⟨s1a, p1a, n1a, c1a, s1b, p1b, n1b, c1b, rfl⟩ := hv.opened
  obtain ⟨ht1, d1, hu1, hd1⟩ := hv.two
  have HD1 := hid hd1
  replace B := bb B hb
  have HT1 := hid ht1
  have HU1 := hid hu1
  clear hb hv ht1 hu1 hd1 H1
  have hb2 := (Below.refl _ _).alloc (Nat.le_refl w1.heap.size) (.cells #[.bool s1a, .slice p1a n1a c1a, .bool s1b, .slice p1b n1b c1b] 51)
  have hx3 := Nbx.new w1 s1a s1b (.slice p1a n1a c1a) (.slice p1b n1b c1b)
  replace HT1 := wl HT1 hb2
  replace HU1 := wl HU1 hb2
  replace B := bb B hb2
  have XA := hid hx3
  have hs4 : (w1.alloc (.cells #[.bool s1a, .slice p1a n1a c1a, .bool s1b, .slice p1b n1b c1b] 51)).heap.size = w1.heap.size + 1 := by simp
  clear hb2 hx3
  obtain ⟨cc5a, cc5b, cc5c, cc5d⟩ := XA.out.cells
  go_wp2_with fail
  generalize hW : w1.alloc (.cells #[.bool s1a, .slice p1a n1a c1a, .bool s1b, .slice p1b n1b c1b] 51) = W6 at *
  clear hW
  refine (H2.out _).mono ?_
  rintro e w7 ⟨v, rfl, hv, hb⟩
  obtain ⟨s2a, p2a, n2a, c2a, s2b, p2b, n2b, c2b, rfl⟩ := hv.opened
  obtain ⟨ht2, d2, hu2, hd2⟩ := hv.two
  have HD2 := hid hd2
  replace XA := nx XA hb
  replace HT1 := wl HT1 hb
  replace HU1 := wl HU1 hb
  replace B := bb B hb
  clear cc5a cc5b cc5c cc5d
  have HT2 := hid ht2
  have HU2 := hid hu2
  clear hb hv ht2 hu2 hd2 H2
  have hb8 := (Below.refl _ _).alloc (Nat.le_refl w7.heap.size) (.cells #[.bool s2a, .slice p2a n2a c2a, .bool s2b, .slice p2b n2b c2b] 51)
  have hx9 := Nbx.new w7 s2a s2b (.slice p2a n2a c2a) (.slice p2b n2b c2b)
  have L0 := hid XA.out.lt
  replace XA := nx XA hb8
  replace HT1 := wl HT1 hb8
  replace HU1 := wl HU1 hb8
  replace HT2 := wl HT2 hb8
  replace HU2 := wl HU2 hb8
  replace B := bb B hb8
  have XB := hid hx9
  have hs10 : (w7.alloc (.cells #[.bool s2a, .slice p2a n2a c2a, .bool s2b, .slice p2b n2b c2b] 51)).heap.size = w7.heap.size + 1 := by simp
  clear hb8 hx9
  obtain ⟨cc11a, cc11b, cc11c, cc11d⟩ := XA.out.cells
  obtain ⟨cc12a, cc12b, cc12c, cc12d⟩ := XB.out.cells
  go_wp2_with fail
  generalize hW : w7.alloc (.cells #[.bool s2a, .slice p2a n2a c2a, .bool s2b, .slice p2b n2b c2b] 51) = W13 at *
  clear hW
  obtain ⟨cc14a, cc14b, cc14c, cc14d⟩ := XA.out.cells
  obtain ⟨cc15a, cc15b, cc15c, cc15d⟩ := XB.out.cells
  replace XA := hid XA.out.dr
  replace XB := hid XB.out.dr
  replace HT1 := hid HT1.out.drew
  replace HU1 := hid HU1.out.drew
  replace HT2 := hid HT2.out.drew
  replace HU2 := hid HU2.out.drew
  replace B := hid (Below.drew B.out)
  obtain ⟨cc16a, cc16b, cc16c, cc16d⟩ := XA.out.cells
  obtain ⟨cc17a, cc17b, cc17c, cc17d⟩ := XB.out.cells
  go_region_held3 (fun w' => w'.cell? ⟨w1.heap.size, 0, none⟩ = some (.bool s1a) ∧ w'.cell? ⟨w1.heap.size, 1, none⟩ = some (.slice p1a n1a c1a) ∧ w'.cell? ⟨w1.heap.size, 2, none⟩ = some (.bool s1b) ∧ w'.cell? ⟨w1.heap.size, 3, none⟩ = some (.slice p1b n1b c1b) ∧ w'.cell? ⟨w7.heap.size, 0, none⟩ = some (.bool s2a) ∧ w'.cell? ⟨w7.heap.size, 1, none⟩ = some (.slice p2a n2a c2a) ∧ w'.cell? ⟨w7.heap.size, 2, none⟩ = some (.bool s2b) ∧ w'.cell? ⟨w7.heap.size, 3, none⟩ = some (.slice p2b n2b c2b)) (go_keep) (first
    | (have hm := mk18_2; clear hm; go_at_call 49; refine (fstring_frc (Frc.mk2 HT5.out HU5.out) HY.out (by decide)).mono ?_; rintro e w28 ⟨rfl, hb⟩; replace XA := nx XA hb; replace XB := nx XB hb; replace B := bb B hb; clear cc26a cc26b cc26c cc26d cc27a cc27b cc27c cc27d; clear hb ; obtain ⟨cc29a, cc29b, cc29c, cc29d⟩ := XA.out.cells; obtain ⟨cc30a, cc30b, cc30c, cc30d⟩ := XB.out.cells; have mk18_3 := hid True.intro)
    | (have hm := mk18_1; clear hm; go_at_call 48; refine (mediant_frc (Frc.mk2 HT3.out HU3.out) (Frc.mk2 HT4.out HU4.out) (by decide)).mono ?_; rintro e w25 ⟨v, rfl, hv, hb⟩; obtain ⟨s5a, p5a, n5a, c5a, s5b, p5b, n5b, c5b, rfl⟩ := hv.opened; obtain ⟨ht5, hu5⟩ := hv.two; replace XA := nx XA hb; replace XB := nx XB hb; replace B := bb B hb; clear cc23a cc23b cc23c cc23d cc24a cc24b cc24c cc24d; have HT5 := hid ht5; have HU5 := hid hu5; clear hb hv ht5 hu5; obtain ⟨cc26a, cc26b, cc26c, cc26d⟩ := XA.out.cells; obtain ⟨cc27a, cc27b, cc27c, cc27d⟩ := XB.out.cells; have mk18_2 := hid True.intro)
    | (have hm := mk18_0; clear hm; go_at_call 47; refine (fractionOf_frc (Rtl.mk2 HT2.out HU2.out HD2.out) (by decide)).mono ?_; rintro e w22 ⟨v, rfl, hv, hb⟩; obtain ⟨s4a, p4a, n4a, c4a, s4b, p4b, n4b, c4b, rfl⟩ := hv.opened; obtain ⟨ht4, hu4⟩ := hv.two; replace XA := nx XA hb; replace XB := nx XB hb; replace HT3 := wl HT3 hb; replace HU3 := wl HU3 hb; replace B := bb B hb; clear cc20a cc20b cc20c cc20d cc21a cc21b cc21c cc21d; have HT4 := hid ht4; have HU4 := hid hu4; clear hb hv ht4 hu4; obtain ⟨cc23a, cc23b, cc23c, cc23d⟩ := XA.out.cells; obtain ⟨cc24a, cc24b, cc24c, cc24d⟩ := XB.out.cells; have mk18_1 := hid True.intro)
    | (go_at_call 47; refine (fractionOf_frc (Rtl.mk2 HT1.out HU1.out HD1.out) (by decide)).mono ?_; rintro e w19 ⟨v, rfl, hv, hb⟩; obtain ⟨s3a, p3a, n3a, c3a, s3b, p3b, n3b, c3b, rfl⟩ := hv.opened; obtain ⟨ht3, hu3⟩ := hv.two; replace XA := nx XA hb; replace XB := nx XB hb; replace HT2 := wl HT2 hb; replace HU2 := wl HU2 hb; replace B := bb B hb; clear cc11a cc11b cc11c cc11d cc12a cc12b cc12c cc12d cc14a cc14b cc14c cc14d cc15a cc15b cc15c cc15d cc16a cc16b cc16c cc16d cc17a cc17b cc17c cc17d; have HT3 := hid ht3; have HU3 := hid hu3; clear hb hv ht3 hu3; obtain ⟨cc20a, cc20b, cc20c, cc20d⟩ := XA.out.cells; obtain ⟨cc21a, cc21b, cc21c, cc21d⟩ := XB.out.cells; have mk18_0 := hid True.intro))
  go_wp2_with fail
  go_ret2
  exact ⟨by rw [medq]; push_cast; rfl, B.out⟩

theorem size_medq {a b : ByteArray} (ha : GoodQ a) (hb : GoodQ b) : (qtxt (medq (qnum a) (qnum b))).size ≤ maxLen := by
  obtain ⟨h1, h2⟩ := qnum_lt ha
  obtain ⟨h3, h4⟩ := qnum_lt hb
  have h5 : (10 : Nat) ^ 100 + 10 ^ 100 < 10 ^ 300 := by decide +kernel
  refine size_divInt ?_ ?_
  · have := Int.natAbs_add_le (qnum a).num (qnum b).num
    generalize (10 : Nat) ^ 100 = x at *
    generalize (10 : Nat) ^ 300 = y at *
    omega
  · generalize (10 : Nat) ^ 100 = x at *
    generalize (10 : Nat) ^ 300 = y at *
    omega
theorem qmed_any (a b : ByteArray) (ha : a.size ≤ maxLen) (hb : b.size ≤ maxLen) (w : World) :
    Calls Try.prog 27 #[.string a, .string b] w fun e w' => ∃ s k, e = .returned (.tuple #[.string s, errv k]) ∧ QTells medq a b s k ∧ s.size ≤ maxLen ∧ Below w.heap.size w w' := by
  rcases goodQ_or_bad a with h | ⟨k, h⟩
  · rcases goodQ_or_bad b with h2 | ⟨k, h2⟩
    · refine (qmed_ok h h2 w).mono ?_
      rintro e w' ⟨rfl, hw⟩
      exact ⟨_, 0, rfl, .inl ⟨rfl, h, h2, rfl⟩, size_medq h h2, hw⟩
    · refine (qmed_b h h2 hb w).mono ?_
      rintro e w' ⟨rfl, hw⟩
      exact ⟨_, k, by rw [errv_some h2.ne], .inr ⟨h2.ne, .inr ⟨h, h2⟩, rfl⟩, Nat.zero_le _, hw⟩
  · refine (qmed_a h ha w).mono ?_
    rintro e w' ⟨rfl, hw⟩
    exact ⟨_, k, by rw [errv_some h.ne], .inr ⟨h.ne, .inl h, rfl⟩, Nat.zero_le _, hw⟩

end Go.Proofs.Ytjeeepcnaaadmaa

/-
  PACKAGE farey: Way.
-/
namespace Go.Proofs.Ytjeeepcnaaadmaa
open Go.RowKit
open Num
set_option linter.unusedVariables false
set_option maxRecDepth 100000
set_option linter.unusedSimpArgs false

set_option maxHeartbeats 4000000 in
theorem way_a {a : ByteArray} {k : Int} (h : BadQ a k) (ha : a.size ≤ maxLen) (w : World) :
    Calls Try.prog 29 #[.string a] w fun e w' => e = .returned (.tuple #[.string ⟨#[]⟩, errno k]) ∧ Below w.heap.size w w' := by
  have hne := errv_neq
  have hgd := errv_guard
  have hkk := errv_some h.ne
  have H1 := hid (qread_bad h w ha)
  have B := hid (Below.refl w.heap.size w)
  clear  h
  go_enter Try.func29, Try.ntmps29
  go_wp2_with fail
  refine (H1.out).mono ?_
  rintro e w1 ⟨rfl, hb⟩
  replace B := bb B hb
  clear hb H1
  have hb2 := (Below.refl _ _).alloc (Nat.le_refl w1.heap.size) (.cells #[.bool false, .slice none 0 0, .bool false, .slice none 0 0] 51)
  have hx3 := Nbx.new w1 false false (.slice none 0 0) (.slice none 0 0)
  replace B := bb B hb2
  have XA := hid hx3
  have hs4 : (w1.alloc (.cells #[.bool false, .slice none 0 0, .bool false, .slice none 0 0] 51)).heap.size = w1.heap.size + 1 := by simp
  clear hb2 hx3
  obtain ⟨cc5a, cc5b, cc5c, cc5d⟩ := XA.out.cells
  go_wp2_with fail
  go_ret2
  exact ⟨rfl, B.out⟩

set_option maxHeartbeats 4000000 in
theorem way_r {a : ByteArray} (h : GoodQ a) (hp : (qnum a).num ≤ 0) (w : World) :
    Calls Try.prog 29 #[.string a] w fun e w' => e = .returned (.tuple #[.string ⟨#[]⟩, errno 2]) ∧ Below w.heap.size w w' := by
  have hne := errv_neq
  have hgd := errv_guard
  have H1 := hid (qread_good h w)
  have HP := hid hp
  have B := hid (Below.refl w.heap.size w)
  clear  h hp
  go_enter Try.func29, Try.ntmps29
  go_wp2_with fail
  refine (H1.out).mono ?_
  rintro e w1 ⟨v, rfl, hv, hb⟩
  obtain ⟨s1a, p1a, n1a, c1a, s1b, p1b, n1b, c1b, rfl⟩ := hv.opened
  obtain ⟨ht1, d1, hu1, hd1⟩ := hv.two
  have HD1 := hid hd1
  replace B := bb B hb
  have HT1 := hid ht1
  have HU1 := hid hu1
  clear hb hv ht1 hu1 hd1 H1
  have hb2 := (Below.refl _ _).alloc (Nat.le_refl w1.heap.size) (.cells #[.bool s1a, .slice p1a n1a c1a, .bool s1b, .slice p1b n1b c1b] 51)
  have hx3 := Nbx.new w1 s1a s1b (.slice p1a n1a c1a) (.slice p1b n1b c1b)
  replace HT1 := wl HT1 hb2
  replace HU1 := wl HU1 hb2
  replace B := bb B hb2
  have XA := hid hx3
  have hs4 : (w1.alloc (.cells #[.bool s1a, .slice p1a n1a c1a, .bool s1b, .slice p1b n1b c1b] 51)).heap.size = w1.heap.size + 1 := by simp
  clear hb2 hx3
  obtain ⟨cc5a, cc5b, cc5c, cc5d⟩ := XA.out.cells
  go_wp2_with fail
  generalize hW : w1.alloc (.cells #[.bool s1a, .slice p1a n1a c1a, .bool s1b, .slice p1b n1b c1b] 51) = W6 at *
  clear hW
  refine (fractionOf_frc (Rtl.mk2 HT1.out HU1.out HD1.out) (by decide)).mono ?_
  rintro e w7 ⟨v, rfl, hv, hb⟩
  obtain ⟨s3a, p3a, n3a, c3a, s3b, p3b, n3b, c3b, rfl⟩ := hv.opened
  obtain ⟨ht3, hu3⟩ := hv.two
  replace B := bb B hb
  clear cc5a cc5b cc5c cc5d
  have HT3 := hid ht3
  have HU3 := hid hu3
  clear hb hv ht3 hu3
  have hb8 := (Below.refl _ _).alloc (Nat.le_refl w7.heap.size) (.cells #[.bool s3a, .slice p3a n3a c3a, .bool s3b, .slice p3b n3b c3b] 69)
  have hx9 := Fbx.new w7 s3a s3b (.slice p3a n3a c3a) (.slice p3b n3b c3b)
  replace HT3 := wl HT3 hb8
  replace B := bb B hb8
  have XF := hid hx9
  have hs10 : (w7.alloc (.cells #[.bool s3a, .slice p3a n3a c3a, .bool s3b, .slice p3b n3b c3b] 69)).heap.size = w7.heap.size + 1 := by simp
  clear hb8 hx9
  obtain ⟨cc11a, cc11b, cc11c, cc11d⟩ := XF.out.cells
  go_wp2_with fail
  generalize hW : w7.alloc (.cells #[.bool s3a, .slice p3a n3a c3a, .bool s3b, .slice p3b n3b c3b] 69) = W12 at *
  clear hW
  have HS := sgn_whl HT3.out
  have hsg : (qnum a).num.sign ≤ 0 := by have := HP.out; rcases Int.lt_or_eq_of_le this with h | h; rw [Int.sign_eq_neg_one_of_neg h]; decide; rw [h]; decide
  generalize (qnum a).num.sign = sg at HS hsg
  refine (HS).mono ?_
  rintro e w13 ⟨rfl, hb⟩
  replace XF := fx XF hb
  replace B := bb B hb
  clear cc11a cc11b cc11c cc11d
  clear hb 
  clear HS
  obtain ⟨cc14a, cc14b, cc14c, cc14d⟩ := XF.out.cells
  go_wp2_with fail
  go_ret2
  exact ⟨rfl, B.out⟩

set_option maxHeartbeats 4000000 in
theorem way_ok {a : ByteArray} (h : GoodQ a) (hp : 0 < (qnum a).num) (w : World) :
    Calls Try.prog 29 #[.string a] w fun e w' => ((∃ l, wayq (qnum a) = some l ∧ e = .returned (.tuple #[.string ⟨l.toArray⟩, .nilIface])) ∨ (wayq (qnum a) = none ∧ e = .returned (.tuple #[.string ⟨#[]⟩, errno 4]))) ∧ Below w.heap.size w w' := by
  have hne := errv_neq
  have hgd := errv_guard
  have H1 := hid (qread_good h w)
  have HP := hid hp
  have B := hid (Below.refl w.heap.size w)
  clear  h hp
  go_enter Try.func29, Try.ntmps29
  go_wp2_with fail
  refine (H1.out).mono ?_
  rintro e w1 ⟨v, rfl, hv, hb⟩
  obtain ⟨s1a, p1a, n1a, c1a, s1b, p1b, n1b, c1b, rfl⟩ := hv.opened
  obtain ⟨ht1, d1, hu1, hd1⟩ := hv.two
  have HD1 := hid hd1
  replace B := bb B hb
  have HT1 := hid ht1
  have HU1 := hid hu1
  clear hb hv ht1 hu1 hd1 H1
  have hb2 := (Below.refl _ _).alloc (Nat.le_refl w1.heap.size) (.cells #[.bool s1a, .slice p1a n1a c1a, .bool s1b, .slice p1b n1b c1b] 51)
  have hx3 := Nbx.new w1 s1a s1b (.slice p1a n1a c1a) (.slice p1b n1b c1b)
  replace HT1 := wl HT1 hb2
  replace HU1 := wl HU1 hb2
  replace B := bb B hb2
  have XA := hid hx3
  have hs4 : (w1.alloc (.cells #[.bool s1a, .slice p1a n1a c1a, .bool s1b, .slice p1b n1b c1b] 51)).heap.size = w1.heap.size + 1 := by simp
  clear hb2 hx3
  obtain ⟨cc5a, cc5b, cc5c, cc5d⟩ := XA.out.cells
  go_wp2_with fail
  generalize hW : w1.alloc (.cells #[.bool s1a, .slice p1a n1a c1a, .bool s1b, .slice p1b n1b c1b] 51) = W6 at *
  clear hW
  refine (fractionOf_frc (Rtl.mk2 HT1.out HU1.out HD1.out) (by decide)).mono ?_
  rintro e w7 ⟨v, rfl, hv, hb⟩
  obtain ⟨s3a, p3a, n3a, c3a, s3b, p3b, n3b, c3b, rfl⟩ := hv.opened
  obtain ⟨ht3, hu3⟩ := hv.two
  replace B := bb B hb
  clear cc5a cc5b cc5c cc5d
  have HT3 := hid ht3
  have HU3 := hid hu3
  clear hb hv ht3 hu3
  have hb8 := (Below.refl _ _).alloc (Nat.le_refl w7.heap.size) (.cells #[.bool s3a, .slice p3a n3a c3a, .bool s3b, .slice p3b n3b c3b] 69)
  have hx9 := Fbx.new w7 s3a s3b (.slice p3a n3a c3a) (.slice p3b n3b c3b)
  replace HT3 := wl HT3 hb8
  replace HU3 := wl HU3 hb8
  replace B := bb B hb8
  have XF := hid hx9
  have hs10 : (w7.alloc (.cells #[.bool s3a, .slice p3a n3a c3a, .bool s3b, .slice p3b n3b c3b] 69)).heap.size = w7.heap.size + 1 := by simp
  clear hb8 hx9
  obtain ⟨cc11a, cc11b, cc11c, cc11d⟩ := XF.out.cells
  go_wp2_with fail
  generalize hW : w7.alloc (.cells #[.bool s3a, .slice p3a n3a c3a, .bool s3b, .slice p3b n3b c3b] 69) = W12 at *
  clear hW
  have HS := sgn_whl HT3.out
  rw [Int.sign_eq_one_of_pos HP.out] at HS
  refine (HS).mono ?_
  rintro e w13 ⟨rfl, hb⟩
  replace XF := fx XF hb
  replace HT3 := wl HT3 hb
  replace HU3 := wl HU3 hb
  replace B := bb B hb
  clear cc11a cc11b cc11c cc11d
  clear hb 
  clear HS
  obtain ⟨cc14a, cc14b, cc14c, cc14d⟩ := XF.out.cells
  go_wp2_with fail
  refine (wayTo_frc (Frc.mk2 HT3.out HU3.out) (by decide) (by decide)).mono ?_
  rintro e w9 ⟨h9, hb⟩
  replace B := bb B hb
  clear hb HT3 HU3 XF cc14a cc14b cc14c cc14d
  rcases h9 with ⟨l, hl, rfl⟩ | ⟨hl, rfl⟩
  · have HL := hid hl
    clear hl
    go_wp2_with fail
    go_ret2
    exact ⟨.inl ⟨l, HL.out, rfl⟩, B.out⟩
  · have HL := hid hl
    clear hl
    go_wp2_with fail
    go_ret2
    exact ⟨.inr ⟨HL.out, rfl⟩, B.out⟩

def WayBad (a : ByteArray) (k : Int) : Prop := BadQ a k ∨ (GoodQ a ∧ (qnum a).num ≤ 0 ∧ k = 2) ∨ (GoodQ a ∧ 0 < (qnum a).num ∧ wayq (qnum a) = none ∧ k = 4)
def WayTells (a s : ByteArray) (k : Int) : Prop :=
  (k = 0 ∧ GoodQ a ∧ 0 < (qnum a).num ∧ ∃ l, wayq (qnum a) = some l ∧ s = ⟨l.toArray⟩) ∨ (k ≠ 0 ∧ WayBad a k ∧ s = ⟨#[]⟩)
theorem way_any (a : ByteArray) (ha : a.size ≤ maxLen) (w : World) :
    Calls Try.prog 29 #[.string a] w fun e w' => ∃ s k, e = .returned (.tuple #[.string s, errv k]) ∧ WayTells a s k ∧ s.size ≤ maxLen ∧ Below w.heap.size w w' := by
  rcases goodQ_or_bad a with h | ⟨k, h⟩
  · by_cases hp : 0 < (qnum a).num
    · refine (way_ok h hp w).mono ?_
      rintro e w' ⟨⟨l, hl, rfl⟩ | ⟨hl, rfl⟩, hb⟩
      · refine ⟨_, 0, rfl, .inl ⟨rfl, h, hp, l, hl, rfl⟩, ?_, hb⟩
        have := (endq_wayq hl).1
        show l.toArray.size ≤ _
        simp only [List.size_toArray]
        unfold maxLen
        omega
      · exact ⟨_, 4, by rw [errv_some (by decide)], .inr ⟨by decide, .inr (.inr ⟨h, hp, hl, rfl⟩), rfl⟩, Nat.zero_le _, hb⟩
    · refine (way_r h (by omega) w).mono ?_
      rintro e w' ⟨rfl, hb⟩
      exact ⟨_, 2, by rw [errv_some (by decide)], .inr ⟨by decide, .inr (.inl ⟨h, by omega, rfl⟩), rfl⟩, Nat.zero_le _, hb⟩
  · refine (way_a h ha w).mono ?_
    rintro e w' ⟨rfl, hb⟩
    exact ⟨_, k, by rw [errv_some h.ne], .inr ⟨h.ne, .inl h, rfl⟩, Nat.zero_le _, hb⟩

end Go.Proofs.Ytjeeepcnaaadmaa

namespace Go.Proofs.Ytjeeepcnaaadmaa
open Go.RowKit
open Num
set_option linter.unusedVariables false
set_option maxRecDepth 100000
set_option linter.unusedSimpArgs false

theorem med_gold (w : World) :
    Calls Try.prog 27 #[.string ⟨#[49, 47, 50]⟩, .string ⟨#[50, 47, 51]⟩] w fun e w' => e = .returned (.tuple #[.string ⟨#[51, 47, 53]⟩, .nilIface]) ∧ Below w.heap.size w w' := by
  have h := qmed_ok good_half (b := ⟨#[50, 47, 51]⟩) ⟨by decide, by decide +kernel⟩ w
  have e1 := qtxt_qnum (s := ⟨#[51, 47, 53]⟩) (by decide +kernel)
  have e3 : medq (qnum ⟨#[49, 47, 50]⟩) (qnum ⟨#[50, 47, 51]⟩) = qnum ⟨#[51, 47, 53]⟩ := by decide +kernel
  rw [e3, e1] at h
  exact h

-- @needs{abacist/abacistlaw1.middle}@
set_option maxHeartbeats 400000 in
theorem middle_true (w : World) :
    Calls Try.prog 26 #[] w fun e w' => e = .returned (.bool true) ∧ Below w.heap.size w w' := by
  have H := hid (med_gold w)
  go_enter Try.func26, Try.ntmps26
  go_wp2_with fail
  refine H.out.mono ?_
  rintro e w' ⟨rfl, hb⟩
  go_wp2_with fail
  go_ret
  exact ⟨rfl, hb⟩

theorem AtTells.yes {way s : ByteArray} (h : AtTells way s 0) : LR way.data.toList ∧ way.data.toList.length ≤ 30 ∧ s = qtxt (endq way.data.toList) := by
  rcases h with ⟨_, h⟩ | ⟨h, _⟩
  · exact h
  · exact absurd rfl h
theorem AtTells.no {way s : ByteArray} {k : Int} (h : AtTells way s k) (hk : k ≠ 0) : s = ⟨#[]⟩ ∧ k = wayE way.data.toList := by
  rcases h with ⟨h, _⟩ | ⟨_, h1, h2⟩
  · exact absurd h hk
  · exact ⟨h2, h1⟩
theorem AtTells.zero {way s : ByteArray} {k : Int} (h : AtTells way s k) (hl : LR way.data.toList) (hn : way.data.toList.length ≤ 30) : k = 0 := by
  rcases h with ⟨h, _⟩ | ⟨h1, h2, _⟩
  · exact h
  · rw [wayE_ok hl hn] at h2; exact h2
theorem WayTells.no {a s : ByteArray} {k : Int} (h : WayTells a s k) (hk : k ≠ 0) : s = ⟨#[]⟩ := by
  rcases h with ⟨h, _⟩ | ⟨_, _, h2⟩
  · exact absurd h hk
  · exact h2
theorem WayTells.yes {a s : ByteArray} (h : WayTells a s 0) : GoodQ a ∧ ∃ l, wayq (qnum a) = some l ∧ s = ⟨l.toArray⟩ := by
  rcases h with ⟨_, h1, _, h2⟩ | ⟨h, _⟩
  · exact ⟨h1, h2⟩
  · exact absurd rfl h
theorem WayTells.short {a s : ByteArray} (h : WayTells a s 0) : s.size ≤ 30 := by
  obtain ⟨_, l, h1, rfl⟩ := h.yes
  have := (endq_wayq h1).1
  show l.toArray.size ≤ _
  simpa using this
theorem ba_list (l : List UInt8) : (⟨l.toArray⟩ : ByteArray).data.toList = l := by simp
theorem way_of_at {way n u : ByteArray} {k : Int} (h1 : AtTells way n 0) (h2 : WayTells n u k) : k = 0 ∧ way = u := by
  obtain ⟨a1, a2, rfl⟩ := h1.yes
  have hg := endq_good a2
  have hw := wayq_endq a1 a2
  have hp := endq_pos way.data.toList
  rcases h2 with ⟨rfl, _, _, l, hl, rfl⟩ | ⟨_, hb, _⟩
  · rw [qnum_qtxt, hw] at hl
    obtain rfl := Option.some.inj hl
    exact ⟨rfl, ba_ext (by rw [ba_list])⟩
  · rcases hb with hb | ⟨_, hb, _⟩ | ⟨_, _, hb, _⟩
    · exact absurd hg hb.not
    · rw [qnum_qtxt] at hb; omega
    · rw [qnum_qtxt, hw] at hb; cases hb
theorem at_of_way {a v m : ByteArray} {k : Int} (h1 : WayTells a v 0) (h2 : AtTells v m k) : k = 0 ∧ a = m := by
  obtain ⟨hg, l, hl, rfl⟩ := h1.yes
  obtain ⟨b1, b2, b3⟩ := endq_wayq hl
  have hk := h2.zero (by rw [ba_list]; exact b2) (by rw [ba_list]; exact b1)
  subst hk
  obtain ⟨_, _, rfl⟩ := h2.yes
  rw [ba_list, b3]
  exact ⟨rfl, (qtxt_good hg).symm⟩
theorem med_between {a b m : ByteArray} {x y : Bool} (h1 : QTells medq a b m 0) (h2 : QLess a b true 0) (h3 : QLess a m x 0) (h4 : QLess m b y 0) : x = true ∧ y = true := by
  obtain ⟨_, _, e1⟩ := h1.yes rfl
  have hl := of_decide_eq_true (h2.yes rfl).2.2.symm
  obtain ⟨g1, g2⟩ := medq_between hl
  exact ⟨less_true h3 (by rw [e1, qnum_qtxt]; exact g1), less_true h4 (by rw [e1, qnum_qtxt]; exact g2)⟩
theorem at_left {way n l : ByteArray} {x : Bool} {k : Int} (h1 : AtTells way n 0) (h2 : AtTells (way ++ ⟨#[76]⟩) l 0) (h3 : QLess l n x k) : k = 0 ∧ true = x := by
  obtain ⟨a1, a2, rfl⟩ := h1.yes
  obtain ⟨b1, b2, rfl⟩ := h2.yes
  obtain rfl := h3.zero (endq_good b2) (endq_good a2)
  refine ⟨rfl, (less_true h3 ?_).symm⟩
  rw [qnum_qtxt, qnum_qtxt, app_list]
  exact endq_left _
theorem at_right {way n r : ByteArray} {x : Bool} {k : Int} (h1 : AtTells way n 0) (h2 : AtTells (way ++ ⟨#[82]⟩) r 0) (h3 : QLess n r x k) : k = 0 ∧ true = x := by
  obtain ⟨a1, a2, rfl⟩ := h1.yes
  obtain ⟨b1, b2, rfl⟩ := h2.yes
  obtain rfl := h3.zero (endq_good a2) (endq_good b2)
  refine ⟨rfl, (less_true h3 ?_).symm⟩
  rw [qnum_qtxt, qnum_qtxt, app_list]
  exact endq_right _
theorem at_turned {way t n m q : ByteArray} {k j : Int} (h1 : AtTells way n 0) (ht : t.data.toList = way.data.toList.map turn) (h2 : AtTells t m k) (h3 : QDivs ⟨#[49]⟩ n q j) : k = 0 ∧ j = 0 ∧ m = q := by
  obtain ⟨a1, a2, rfl⟩ := h1.yes
  have hk := h2.zero (by rw [ht]; exact turn_LR _) (by rw [ht, List.length_map]; exact a2)
  subst hk
  obtain ⟨_, _, rfl⟩ := h2.yes
  have hp := endq_pos way.data.toList
  have h0 : qnum (qtxt (endq way.data.toList)) ≠ 0 := by
    rw [qnum_qtxt]
    intro e
    rw [e] at hp
    exact absurd hp (by decide)
  have hj := h3.zero good_one (endq_good a2) h0
  subst hj
  obtain ⟨_, _, _, rfl⟩ := h3.yes rfl
  rw [qnum_qtxt, qnum_one, ht, endq_turn]
  exact ⟨rfl, rfl, rfl⟩

end Go.Proofs.Ytjeeepcnaaadmaa

/-
  PACKAGE cf: expand, Of.
-/
namespace Go.Proofs.Ytjeeepcnaaadmaa
open Go.RowKit
open Num
set_option linter.unusedVariables false
set_option maxRecDepth 100000
set_option linter.unusedSimpArgs false

theorem Rtl.den_lt {w : World} {v : Value} {q : Rat} {k : Nat} (h : Rtl w v q k) (hk : 1 ≤ k) : q.den < B ^ k := by
  obtain ⟨s, p, n, c, s', p', n', c', h1, h2, d, h3, h4⟩ := h
  rcases h4 with h4 | ⟨_, h4⟩
  · have := h3.lt
    omega
  · rw [h4]
    exact Nat.lt_of_lt_of_le (show 1 < B ^ 1 by decide) (Nat.pow_le_pow_right B_pos hk)
theorem B_pow (k : Nat) : B ^ k = 2 ^ (32 * k) := by
  rw [Nat.pow_mul]; rfl

theorem Box.grown {w w' : World} {g : Nat} {s : Bool} {sv : Value} {row : Option Nat} (h : Box w g s sv) (hg : w.grownBy w' row) (hne : row ≠ some g) : Box w' g s sv := ⟨(hg.block g h.lt (Ne.symm hne)).trans h.1, h.2⟩
theorem Whl.own {w w' : World} {v u : Value} {z : Int} {k K : Nat} {ss : List ByteArray} (h : Whl w v z k) (ho : OwnL w K u ss) (hg : w.grownBy w' u.ownBlock) : Whl w' v z k := by
  obtain ⟨s, sv, xs, h1, h2, h3⟩ := h
  exact ⟨s, sv, xs, h1, h2.own ho hg, h3⟩

set_option maxHeartbeats 4000000 in
/-- The numbers of a fraction, as texts. -/
theorem expand_rtl {w : World} {v : Value} {q : Rat} {k : Nat} (h : Rtl w v q k) (hk1 : 1 ≤ k) (hk : k ≤ 1073741824) :
    Calls Try.prog 45 #[v] w fun e w' => ∃ v, e = .returned v ∧ OwnL w' w.heap.size v ((cfq q).map ztxt) ∧ Below w.heap.size w w' := by
  obtain ⟨s1a, p1a, n1a, c1a, s1b, p1b, n1b, c1b, rfl⟩ := h.opened
  obtain ⟨ht1, d1, hu1, hd1⟩ := h.two
  have HD1 := hid hd1
  have HK := hid hk
  have HK1 := hid hk1
  obtain ⟨i0, hi, hz0, hz1, hz2⟩ := info_parts infoStr
  have hlen : (cfq q).length ≤ 64 * k + 1 := by
    have h1 := hu1.lt
    have h2 := cfl_len (32 * k) q.den q.num (by
      have h3 := Rtl.den_lt h hk1
      rw [B_pow] at h3
      exact h3)
    show (cfl q.num q.den).length ≤ _
    omega
  have HLEN := hid hlen
  have B := hid (Below.refl w.heap.size w)
  have HT1 := hid ht1
  have HU1 := hid hu1
  have hb1 := (Below.refl _ _).alloc (Nat.le_refl w.heap.size) (.cells #[.bool s1a, .slice p1a n1a c1a, .bool s1b, .slice p1b n1b c1b] 51)
  have hx2 := Nbx.new w s1a s1b (.slice p1a n1a c1a) (.slice p1b n1b c1b)
  replace HT1 := wl HT1 hb1
  replace HU1 := wl HU1 hb1
  replace B := bb B hb1
  have X1 := hid hx2
  have hs3 : (w.alloc (.cells #[.bool s1a, .slice p1a n1a c1a, .bool s1b, .slice p1b n1b c1b] 51)).heap.size = w.heap.size + 1 := by simp
  clear hb1 hx2
  clear hs3 h ht1 hu1 hd1 hk hk1 hlen
  go_enter Try.func45, Try.ntmps45
  obtain ⟨cc4a, cc4b, cc4c, cc4d⟩ := X1.out.cells
  go_wp2_with fail
  generalize hW : w.alloc (.cells #[.bool s1a, .slice p1a n1a c1a, .bool s1b, .slice p1b n1b c1b] 51) = W5 at *
  clear hW
  refine (parts_rtl (Rtl.mk2 HT1.out HU1.out HD1.out) HK1.out).mono ?_
  rintro e w6 ⟨v, u, rfl, hv, hu, hb⟩
  obtain ⟨s3, p3, n3, c3, rfl⟩ := hv.opened
  obtain ⟨s4, p4, n4, c4, rfl⟩ := hu.opened
  replace B := bb B hb
  clear cc4a cc4b cc4c cc4d
  have HA := hid hv
  have HB := hid hu
  clear hb hv hu
  have HG := hid (show w.heap.size ≤ w6.heap.size from B.out.size)
  have hb7 := (Below.refl _ _).alloc (Nat.le_refl w6.heap.size) (.cells #[.bool s3, .slice p3 n3 c3] 49)
  have hx8 := Box.new w6 s3 p3 n3 c3
  replace HA := wl HA hb7
  replace HB := wl HB hb7
  replace B := bb B hb7
  have XA := hid hx8
  have hs9 : (w6.alloc (.cells #[.bool s3, .slice p3 n3 c3] 49)).heap.size = w6.heap.size + 1 := by simp
  clear hb7 hx8
  have hb10 := (Below.refl _ _).alloc (Nat.le_refl (w6.alloc (.cells #[.bool s3, .slice p3 n3 c3] 49)).heap.size) (.cells #[.bool s4, .slice p4 n4 c4] 49)
  have hx11 := Box.new (w6.alloc (.cells #[.bool s3, .slice p3 n3 c3] 49)) s4 p4 n4 c4
  rw [hs9] at hx11
  replace XA := bx XA hb10
  replace HA := wl HA hb10
  replace HB := wl HB hb10
  replace B := bb B hb10
  have XB := hid hx11
  have hs12 : ((w6.alloc (.cells #[.bool s3, .slice p3 n3 c3] 49)).alloc (.cells #[.bool s4, .slice p4 n4 c4] 49)).heap.size = w6.heap.size + 1 + 1 := by simp [hs9]
  clear hb10 hx11
  obtain ⟨cc13a, cc13b⟩ := XA.out.both
  obtain ⟨cc14a, cc14b⟩ := XB.out.both
  go_wp2_with fail
  clear cc13a cc13b cc14a cc14b
  generalize hG : w6.heap.size = G at *
  clear hG
  go_loopg [5] q.den (fun gk l wr => ∃ (t : Int) (done : List Int) (sa : Bool) (pa : Option Addr) (na ca : Nat) (sb : Bool) (pb : Option Addr) (nb cb : Nat), Hid (Box wr G sa (.slice pa na ca)) ∧ Hid (Box wr (G + 1) sb (.slice pb nb cb)) ∧ Hid (Whl wr (.agg #[.bool sa, .slice pa na ca]) t k) ∧ Hid (Whl wr (.agg #[.bool sb, .slice pb nb cb]) (gk : Int) k) ∧ Hid (done ++ cfl t gk = cfq q) ∧ Hid (OwnL wr w.heap.size l (done.map ztxt)) ∧ Hid (Below w.heap.size w wr))
  case atStart => exact ⟨q.num, [], _, _, _, _, _, _, _, _, XA, XB, HA, HB, hid rfl, hid (OwnL.nil _ _), B⟩
  case round =>
    obtain ⟨t, done, sa, pa, na, ca, sb, pb, nb, cb, XA, XB, HA, HB, HC, HO, B⟩ := hrel
    by_cases hz : gk = 0
    · subst hz
      have HS := sgn_whl HB.out
      rw [show ((0 : Nat) : Int).sign = 0 from rfl] at HS
      obtain ⟨cc201a, cc201b⟩ := XA.out.both
      obtain ⟨cc202a, cc202b⟩ := XB.out.both
      go_wp2_with fail
      refine (HS).mono ?_
      rintro e w203 ⟨rfl, hb⟩
      replace HO := hid (HO.out.on hb)
      replace B := bb B hb
      clear cc201a cc201b cc202a cc202b
      clear hb 
      clear HS
      go_wp2_with fail
      go_ret
      have e := HC.out
      rw [cfl_zero, List.append_nil] at e
      rw [← e]
      exact ⟨_, rfl, HO.out, B.out⟩
    · have HNZ := hid hz
      have HS := sgn_whl HB.out
      rw [Int.sign_eq_one_of_pos (show (0 : Int) < (gk : Int) by omega)] at HS
      obtain ⟨cc301a, cc301b⟩ := XA.out.both
      obtain ⟨cc302a, cc302b⟩ := XB.out.both
      go_wp2_with fail
      refine (HS).mono ?_
      rintro e w303 ⟨rfl, hb⟩
      replace HO := hid (HO.out.on hb)
      replace XA := bx XA hb
      replace XB := bx XB hb
      replace HA := wl HA hb
      replace HB := wl HB hb
      replace B := bb B hb
      clear cc301a cc301b cc302a cc302b
      clear hb 
      clear HS hz
      obtain ⟨cc304a, cc304b⟩ := XA.out.both
      obtain ⟨cc305a, cc305b⟩ := XB.out.both
      go_wp2_with fail
      refine (div_whl HA.out HB.out (by have := HNZ.out; omega) (by have := HK.out; omega) (by have := HK.out; omega)).mono ?_
      rintro e w306 ⟨v, u, rfl, hv, hu, hb⟩
      replace HO := hid (HO.out.on hb)
      obtain ⟨s5, p5, n5, c5, rfl⟩ := hv.opened
      obtain ⟨s6, p6, n6, c6, rfl⟩ := hu.opened
      replace XA := bx XA hb
      replace XB := bx XB hb
      replace HB := wl HB hb
      replace B := bb B hb
      clear cc304a cc304b cc305a cc305b
      have HQ := hid hv
      have HR := hid hu
      clear hb hv hu
      have LG := hid (show G + 1 < w306.heap.size from XB.out.lt)
      have hb307 := (Below.refl _ _).alloc (Nat.le_refl w306.heap.size) (.cells #[.bool s5, .slice p5 n5 c5] 49)
      have hx308 := Box.new w306 s5 p5 n5 c5
      have L1 := hid XB.out.lt
      replace XA := bx XA hb307
      replace XB := bx XB hb307
      replace HB := wl HB hb307
      replace HQ := wl HQ hb307
      replace HR := wl HR hb307
      replace B := bb B hb307
      have XQ := hid hx308
      have hs309 : (w306.alloc (.cells #[.bool s5, .slice p5 n5 c5] 49)).heap.size = w306.heap.size + 1 := by simp
      clear hb307 hx308
      have hb310 := (Below.refl _ _).alloc (Nat.le_refl (w306.alloc (.cells #[.bool s5, .slice p5 n5 c5] 49)).heap.size) (.cells #[.bool s6, .slice p6 n6 c6] 49)
      have hx311 := Box.new (w306.alloc (.cells #[.bool s5, .slice p5 n5 c5] 49)) s6 p6 n6 c6
      rw [hs309] at hx311
      replace XA := bx XA hb310
      replace XB := bx XB hb310
      replace XQ := bx XQ hb310
      replace HB := wl HB hb310
      replace HQ := wl HQ hb310
      replace HR := wl HR hb310
      replace B := bb B hb310
      have XR := hid hx311
      have hs312 : ((w306.alloc (.cells #[.bool s5, .slice p5 n5 c5] 49)).alloc (.cells #[.bool s6, .slice p6 n6 c6] 49)).heap.size = w306.heap.size + 1 + 1 := by simp [hs309]
      clear hb310 hx311
      replace HO := hid (HO.out.on ((Below.refl _ _).alloc (Nat.le_refl _) (.cells #[.bool s5, .slice p5 n5 c5] 49)))
      replace HO := hid (HO.out.on ((Below.refl _ _).alloc (Nat.le_refl _) (.cells #[.bool s6, .slice p6 n6 c6] 49)))
      obtain ⟨cc313a, cc313b⟩ := XA.out.both
      obtain ⟨cc314a, cc314b⟩ := XB.out.both
      obtain ⟨cc315a, cc315b⟩ := XQ.out.both
      obtain ⟨cc316a, cc316b⟩ := XR.out.both
      go_wp2_with fail
      refine (string_whl HQ.out (by have := HK.out; omega)).mono ?_
      rintro e w317 ⟨rfl, hb⟩
      replace HO := hid (HO.out.on hb)
      replace XA := bx XA hb
      replace XB := bx XB hb
      replace XQ := bx XQ hb
      replace XR := bx XR hb
      replace HB := wl HB hb
      replace HR := wl HR hb
      replace B := bb B hb
      clear cc313a cc313b cc314a cc314b cc315a cc315b cc316a cc316b
      clear hb 
      obtain ⟨cc318a, cc318b⟩ := XA.out.both
      obtain ⟨cc319a, cc319b⟩ := XB.out.both
      obtain ⟨cc320a, cc320b⟩ := XQ.out.both
      obtain ⟨cc321a, cc321b⟩ := XR.out.both
      have hl := HLEN.out
      have he := HC.out
      rw [cfl_pos t HNZ.out] at he
      have hdl : done.length + 1 ≤ 64 * k + 1 := by rw [← he] at hl; simp only [List.length_append, List.length_cons] at hl; omega
      have HDL := hid hdl
      have HE := hid he
      clear hl he hdl
      have HOA := hid (HO.out.on ((Below.refl _ _).alloc (Nat.le_refl _) (.cells #[.string (ztxt (t / (gk : Int)))] 9)))
      go_wp2_with (at_builtin; refine wpList_append_ni rfl _ _ 36 rfl w.heap.size 9 i0 (.string ⟨#[]⟩) 1 16 Try.underlying36 hi hz0 hz1 hz2 rfl (by decide) _ _ _ rfl HOA.out.1 HOA.out.2 ?c0 ⟨w317.heap.size, 0, none⟩ 1 1 [.string (ztxt (t / (gk : Int)))] rfl rfl ?c1 ?c2 ?c3 ?c4 ?c5 ?c6 ?_)
      case c0 => intro u hu; simp [cells_string] at hu; subst hu; exact NI.str _
      case c1 =>
        intro j u hj
        match j, hj with
        | 0, hj => simp at hj; subst hj; simp [Addr.add]
      case c2 => intro u hu; simp at hu; subst hu; rfl
      case c3 => intro u hu; simp at hu; subst hu; exact NI.str _
      case c4 => rw [List.length_map]; have := HDL.out; have := HK.out; unfold maxLen; omega
      case c5 => rw [List.length_map]; have := HDL.out; have := HK.out; omega
      case c6 => have := B.out.size; simp; omega
      intro v' wa hown hgrow hni
      have neXA := HOA.out.ne (g := G) ((Below.heap_alloc _ _ _ XA.out.lt).trans XA.out.1) (by decide)
      have neXB := HOA.out.ne (g := G + 1) ((Below.heap_alloc _ _ _ XB.out.lt).trans XB.out.1) (by decide)
      have neXR := HOA.out.ne (g := w306.heap.size + 1) ((Below.heap_alloc _ _ _ XR.out.lt).trans XR.out.1) (by decide)
      have hb0 := (Below.refl w317.heap.size w317).alloc (Nat.le_refl _) (.cells #[.string (ztxt (t / (gk : Int)))] 9)
      replace XA := bx XA hb0
      replace XB := bx XB hb0
      replace XR := bx XR hb0
      replace HB := wl HB hb0
      replace HR := wl HR hb0
      replace B := bb B hb0
      have HO2 : Hid (OwnL wa w.heap.size v' ((done ++ [t / (gk : Int)]).map ztxt)) := hid ⟨by
          show wa.ownsRow _ _ _ _ _ _
          rw [List.map_append, List.map_append, List.length_append, List.length_map]
          rw [List.map_map]
          exact hown, hni⟩
      replace B := hid (HOA.out.grown B.out (by have := B.out.size; omega) hgrow)
      replace XA := hid (Box.grown XA.out hgrow neXA)
      replace XB := hid (Box.grown XB.out hgrow neXB)
      replace XR := hid (Box.grown XR.out hgrow neXR)
      replace HB := hid (HB.out.own HOA.out hgrow)
      replace HR := hid (HR.out.own HOA.out hgrow)
      clear hown hgrow hni neXA neXB neXR hb0 HOA HO cc318a cc318b cc319a cc319b cc320a cc320b cc321a cc321b
      obtain ⟨cc401a, cc401b⟩ := XA.out.both
      obtain ⟨cc402a, cc402b⟩ := XB.out.both
      obtain ⟨cc403a, cc403b⟩ := XR.out.both
      go_wp2_with fail
      have neXA := HO2.out.ne (g := G) XA.out.1 (by decide)
      have neXB := HO2.out.ne (g := G + 1) XB.out.1 (by decide)
      obtain ⟨cc404a, cc404b⟩ := XA.out.both
      obtain ⟨cc405a, cc405b⟩ := XB.out.both
      obtain ⟨cc406a, cc406b⟩ := XR.out.both
      obtain ⟨cc407a, cc407b, cc407c, cc407d⟩ := XA.out.stores
      obtain ⟨r408a, r408b, r408c⟩ := XA.out.last B.out (by have := LG.out; have := L1.out; have := HG.out; omega) sb pb nb cb
      replace XB := hid ((XB.out.other (g2 := G) (by have := LG.out; have := L1.out; have := HG.out; omega) 0 (.bool sb)).other (g2 := G) (by have := LG.out; have := L1.out; have := HG.out; omega) 1 (.slice pb nb cb))
      replace XR := hid ((XR.out.other (g2 := G) (by have := LG.out; have := L1.out; have := HG.out; omega) 0 (.bool sb)).other (g2 := G) (by have := LG.out; have := L1.out; have := HG.out; omega) 1 (.slice pb nb cb))
      replace HB := hid (r408c HB.out)
      replace HR := hid (r408c HR.out)
      replace XA := hid r408a
      replace B := hid r408b
      clear r408a r408b r408c
      replace HO2 := hid ((HO2.out.set neXA 0 (.bool sb)).set neXA 1 (.slice pb nb cb))
      obtain ⟨cc409a, cc409b⟩ := XR.out.both
      obtain ⟨cc410a, cc410b, cc410c, cc410d⟩ := XB.out.stores
      obtain ⟨r411a, r411b, r411c⟩ := XB.out.last B.out (by have := LG.out; have := L1.out; have := HG.out; omega) s6 p6 n6 c6
      replace XA := hid ((XA.out.other (g2 := G + 1) (by have := LG.out; have := L1.out; have := HG.out; omega) 0 (.bool s6)).other (g2 := G + 1) (by have := LG.out; have := L1.out; have := HG.out; omega) 1 (.slice p6 n6 c6))
      replace XR := hid ((XR.out.other (g2 := G + 1) (by have := LG.out; have := L1.out; have := HG.out; omega) 0 (.bool s6)).other (g2 := G + 1) (by have := LG.out; have := L1.out; have := HG.out; omega) 1 (.slice p6 n6 c6))
      replace HB := hid (r411c HB.out)
      replace HR := hid (r411c HR.out)
      replace XB := hid r411a
      replace B := hid r411b
      clear r411a r411b r411c
      replace HO2 := hid ((HO2.out.set neXB 0 (.bool s6)).set neXB 1 (.slice p6 n6 c6))
      replace XA := hid XA.out.dr
      replace XB := hid XB.out.dr
      replace XR := hid XR.out.dr
      replace HB := hid HB.out.drew
      replace HR := hid HR.out.drew
      replace B := hid (Below.drew B.out)
      have HM := hid (rest_lt t HNZ.out)
      have HR2 : Hid (Whl _ (.agg #[.bool s6, .slice p6 n6 c6]) (((t % (gk : Int)).toNat : Nat) : Int) k) := hid (by rw [HM.out.2]; exact HR.out)
      have HE2 := hid (show (done ++ [t / (gk : Int)]) ++ cfl gk (t % (gk : Int)).toNat = cfq q by rw [List.append_assoc]; exact HE.out)
      clear HR HE
      go_region_with (fail)
      all_goals
        go_wp2_with fail
        go_roundg (t % (gk : Int)).toNat
        case rel => exact ⟨gk, done ++ [t / (gk : Int)], sb, pb, nb, cb, s6, p6, n6, c6, XA, XB, HB, HR2, HE2, hid HO2.out.drew, B⟩
        case measure => exact HM.out.1

end Go.Proofs.Ytjeeepcnaaadmaa
