import Derived.Test.YtkenlaikhnoldaaBunProofPgcdYun16
import Derived.Test.YtkenlaikhnoldaaBunProofPgcdYun14
import Derived.Test.YtkenlaikhnoldaaBunProofPgcdYun18
import Derived.Test.YtkenlaikhnoldaaBunProofPgcdYun4
import Derived.Test.YtkenlaikhnoldaaBunProofPgcdYun10
import Derived.Deep.DeepCutAuto
import Derived.SliceStrings
import Derived.SizedLaws
import Derived.Carry
import Derived.ProofKit
import Derived.OpenShut
import Derived.ShutString
/-
  PACKAGE pgcd: GcdOf.
-/
namespace Go.Proofs.Ytkenlaikhnoldaa
open Go.RowKit
open Num
set_option linter.unusedVariables false
set_option maxRecDepth 100000
set_option linter.unusedSimpArgs false

theorem cml_zq {l : List Int} {n : Nat} (h : Zl l n) (hn : 1 ≤ n) : Cml (zq l) n := ⟨hn, 1, by decide, Nat.one_lt_pow (by omega) (by decide), fun i => ⟨zc l i, h i, by rw [co_zq]; show _ * (1 : Rat) = _; grind⟩⟩
theorem cle_dv {l : List Rat} {L : List Int} {M : Int} (hM : M ≠ 0) (h : ∀ i, ((zc L i : Int) : Rat) = co l i * (M : Rat)) (x : Rat) : pv (zq L) x = (M : Rat) * pv l x := by
  rw [← pv_psc]
  exact pv_congr (fun i => by rw [co_zq, h, co_psc]; grind) x
theorem dv_cle {l : List Rat} {L : List Int} {M : Int} (hM : M ≠ 0) (h : ∀ i, ((zc L i : Int) : Rat) = co l i * (M : Rat)) : Dv l (zq L) ∧ Dv (zq L) l := by
  have hr : (M : Rat) ≠ 0 := int_ne hM
  refine ⟨Dv.of (k := [(M : Rat)]) fun x => by rw [cle_dv hM h, pv_one], Dv.of (k := [1 / (M : Rat)]) fun x => ?_⟩
  rw [cle_dv hM h, pv_one]
  have := rat_inv hr
  generalize 1 / (M : Rat) = y at *
  grind
theorem nil_cle {l : List Rat} {L : List Int} {M : Int} (hl : Trm l) (hL : Ztr L) (hM : M ≠ 0) (h : ∀ i, ((zc L i : Int) : Rat) = co l i * (M : Rat)) : zq L ≠ [] ↔ l ≠ [] := by
  obtain ⟨d1, d2⟩ := dv_cle hM h
  constructor
  · rintro h1 rfl
    exact d1.ne hL.trm h1 rfl
  · rintro h1 h2
    exact d2.ne hl h1 h2
/-- Times numbers, it is the same. -/
theorem gcdp_cle {l r : List Rat} {L R : List Int} {M N : Int} (hl : Trm l) (hr : Trm r) (hL : Ztr L) (hR : Ztr R) (hM : M ≠ 0) (hN : N ≠ 0) (h : ∀ i, ((zc L i : Int) : Rat) = co l i * (M : Rat)) (h' : ∀ i, ((zc R i : Int) : Rat) = co r i * (N : Rat)) :
    gcdp (zq L) (zq R) = gcdp l r := by
  obtain ⟨d1, d2⟩ := dv_cle hM h
  obtain ⟨e1, e2⟩ := dv_cle hN h'
  have n1 := nil_cle hl hL hM h
  have n2 := nil_cle hr hR hN h'
  by_cases h0 : zq L ≠ [] ∨ zq R ≠ []
  · obtain ⟨u, v, k1, k2, k3, _⟩ := gcdp_spec hL.trm hR.trm h0
    exact gcdp_of hl hr (h0.imp n1.1 n2.1) k1 (k2.trans d2) (k3.trans e2) fun d h1 h2 => gcdp_great hL.trm hR.trm h0 (h1.trans d1) (h2.trans e1)
  · have z1 : zq L = [] := Classical.byContradiction fun e => h0 (.inl e)
    have z2 : zq R = [] := Classical.byContradiction fun e => h0 (.inr e)
    have y1 : l = [] := Classical.byContradiction fun e => n1.2 e z1
    have y2 : r = [] := Classical.byContradiction fun e => n2.2 e z2
    rw [z1, z2, y1, y2]
set_option maxHeartbeats 1000000 in
/-- What goes into both. -/
theorem gcdof_p {w : World} {v u : Value} {l r : List Rat} {m : Nat} (h : PN w v l) (h' : PN w u r) (hl : Trm l) (hr : Trm r) (hs : Cml l m) (hs' : Cml r m) (hm : m ≤ 100000) (hn : l.length ≤ 9) (hn' : r.length ≤ 9) :
    Calls Try.prog 19 #[v, u] w fun e w' => ∃ v', e = .returned v' ∧ PN w' v' (gcdp l r) ∧ Below w.heap.size w w' := by
  have H1 := hid (zclear_p h hs (by omega) (by omega))
  have HQ := hid h'
  have HT := hid hl
  have HT' := hid hr
  have HC' := hid hs'
  have HM := hid hm
  have HN := hid hn
  have HN' := hid hn'
  clear h h' hl hr hs hs' hm hn hn'
  go_enter Try.func19, Try.ntmps19
  go_wp2_with fail
  refine H1.out.mono ?_
  rintro e w1 ⟨v1, L, M, rfl, hi, hz, hle, hM, hv, hzl, hb⟩
  replace HQ := pno HQ hb
  have B := hid hb
  have I1 := hid hi
  have Z1 := hid hz
  have N1 := hid (show L.length ≤ 9 by have := HN.out; omega)
  have M1 := hid hM
  have V1 := hid hv
  have S1 := hid hzl
  clear hi hz hle hM hv hzl hb H1
  go_wp2_with fail
  refine (zclear_p HQ.out HC'.out (by have := HM.out; omega) (by have := HN'.out; omega)).mono ?_
  rintro e w2 ⟨v2, R, N, rfl, hi, hz, hle, hM, hv, hzl, hb⟩
  replace I1 := ino I1 hb
  replace B := bb B hb
  have I2 := hid hi
  have Z2 := hid hz
  have N2 := hid (show R.length ≤ 9 by have := HN'.out; omega)
  have M2 := hid hM
  have V2 := hid hv
  have S2 := hid hzl
  clear hi hz hle hM hv hzl hb
  have E := hid (gcdp_cle HT.out HT'.out Z1.out Z2.out M1.out M2.out V1.out V2.out)
  go_wp2_with fail
  refine (ggcd_p I1.out I2.out Z1.out Z2.out S1.out S2.out HM.out N1.out N2.out).mono ?_
  rintro e w3 ⟨v3, G, rfl, hi, hz, hle, hg, hzl, hb⟩
  replace B := bb B hb
  have I3 := hid hi
  have Z3 := hid hz
  have N3 := hid hle
  have G3 := hid hg
  have S3 := hid hzl
  clear hi hz hle hg hzl hb
  go_wp2_with fail
  refine (zpoly_p I3.out (by have := N3.out; omega)).mono ?_
  rintro e w4 ⟨v4, rfl, hp, hb⟩
  replace B := bb B hb
  have P4 := hid hp
  clear hp hb
  go_wp2_with fail
  refine (monicof_p P4.out Z3.out.trm (cml_zq S3.out (by omega)) (by have := HM.out; omega) (by rw [zq_len]; exact N3.out)).mono ?_
  rintro e w5 ⟨v5, rfl, hp, hb⟩
  replace B := bb B hb
  have P5 := hid hp
  clear hp hb
  go_wp2_with fail
  go_ret
  exact ⟨_, rfl, by rw [← E.out, ← G3.out]; exact P5.out, B.out⟩

end Go.Proofs.Ytkenlaikhnoldaa

/-
  PACKAGE pgcd: without, FreeOf.
-/
namespace Go.Proofs.Ytkenlaikhnoldaa
open Go.RowKit
open Num
set_option linter.unusedVariables false
set_option maxRecDepth 100000
set_option linter.unusedSimpArgs false

set_option maxHeartbeats 1000000 in
/-- How often one goes in, which does. -/
theorem without_p {w : World} {v u : Value} {lp lq : List Rat} {m n : Nat} (h : PN w v lp) (h' : PN w u lq) (hp : Trm lp) (hq : Trm lq) (h0 : lq ≠ []) (hs : Sml lp m) (hs' : Sml lq n) (hm : m ≤ 1000000) (hn : n ≤ 1000000) (hl : lp.length ≤ 9) (hl' : lq.length ≤ 9) :
    Calls Try.prog 23 #[v, u] w fun e w' => ∃ v', e = .returned v' ∧ PN w' v' (quop lp lq) ∧ Below w.heap.size w w' := by
  have hb9 : (m + 2 * n + 1) * 2 ^ (lp.length + 1) ≤ 68719476736 := by
    have h1 : 2 ^ (lp.length + 1) ≤ 2 ^ 10 := Nat.pow_le_pow_right (by omega) (by omega)
    have h2 := Nat.mul_le_mul (show m + 2 * n + 1 ≤ 3000001 by omega) h1
    omega
  have hqt : trimQ lq = lq := hq
  have H1 := hid (pdiv_p h h' hs hs' (by rw [hqt]; exact h0) hb9 (by omega) (by omega))
  rw [hqt] at H1
  have hne := errv_neq
  have hgd := errv_guard
  have HP := hid hp
  have HQ := hid hq
  have H0 := hid h0
  clear h h' hp hq h0 hs hs' hm hn hl hl' hb9 hqt
  go_enter Try.func23, Try.ntmps23
  go_wp2_with fail
  refine H1.out.mono ?_
  rintro e w1 ⟨v1, u1, k, r, rfl, h1, h2, h3, h4, h5, h6, h7, h8, h9, hb⟩
  have B := hid hb
  have P1 := hid h1
  have E := hid (quop_of HP.out HQ.out H0.out h3 h4 h5 h7)
  clear h1 h2 h3 h4 h5 h6 h7 h8 h9 hb H1
  go_wp2_with fail
  go_ret
  exact ⟨_, rfl, by rw [← E.out]; exact P1.out, B.out⟩
set_option maxHeartbeats 1000000 in
theorem without_nil {w : World} {v u : Value} {lp lq : List Rat} (h : PN w v lp) (h' : PN w u lq) (h0 : trimQ lq = []) :
    Calls Try.prog 23 #[v, u] w fun e w' => ∃ v', e = .returned v' ∧ PN w' v' [] ∧ Below w.heap.size w w' := by
  have H1 := hid (pdiv_zero h h' h0)
  rw [← errv_some (show (5 : Int) ≠ 0 by decide)] at H1
  have hne := errv_neq
  have hgd := errv_guard
  have f5 : ((5 : Int) != 0) = true := by decide
  clear h h' h0
  go_enter Try.func23, Try.ntmps23
  go_wp2_with fail
  refine H1.out.mono ?_
  rintro e w1 ⟨rfl, hb⟩
  have B := hid hb
  clear hb H1
  go_wp2_with fail
  go_ret
  exact ⟨_, rfl, PN.nil _ (by decide), B.out⟩
set_option maxHeartbeats 1000000 in
/-- Each root once. -/
theorem freeof_p {w : World} {v : Value} {l : List Rat} {m : Nat} (h : PN w v l) (ht : Trm l) (hs : Cml l m) (hm : m ≤ 90000) (hl : l.length ≤ 9) :
    Calls Try.prog 22 #[v] w fun e w' => ∃ v', e = .returned v' ∧ PN w' v' (freep l) ∧ Below w.heap.size w w' := by
  obtain ⟨hc1, hn1⟩ := cml_mnc2 ht hs hl
  obtain ⟨hc2, hn2⟩ := cml_slope2 hc1 hn1
  obtain ⟨hc3, hn3⟩ := cml_gcdp2 (trm_mnc l) (trm_slope (mnc l)) (hc1.mono (Nat.le_succ m)) hc2 hn1 hn2
  have H1 := hid (monicof_p h ht hs (by omega) hl)
  rw [freep_eq ht]
  have HM := hid hm
  have HC1 := hid hc1
  have HC2 := hid hc2
  have HC3 := hid hc3
  have HN1 := hid hn1
  have HN2 := hid hn2
  have HN3 := hid hn3
  have HTR := hid (trm_mnc l)
  generalize mnc l = q at *
  clear h ht hs hm hl hc1 hc2 hc3 hn1 hn2 hn3
  go_enter Try.func22, Try.ntmps22
  go_wp2_with fail
  refine H1.out.mono ?_
  rintro e w1 ⟨v1, rfl, hp, hb⟩
  have B := hid hb
  have P1 := hid hp
  clear hp hb H1
  go_wp2_with fail
  refine (pderiv_p P1.out HC1.out.sml (by have := HM.out; omega) (by have := HN1.out; omega)).mono ?_
  rintro e w2 ⟨v2, rfl, hp, hb⟩
  replace P1 := pno P1 hb
  replace B := bb B hb
  have P2 := hid hp
  clear hp hb
  go_wp2_with fail
  refine (gcdof_p P1.out P2.out HTR.out (trm_slope q) (HC1.out.mono (Nat.le_succ m)) HC2.out (by have := HM.out; omega) HN1.out HN2.out).mono ?_
  rintro e w3 ⟨v3, rfl, hp, hb⟩
  replace P1 := pno P1 hb
  replace B := bb B hb
  have P3 := hid hp
  clear hp hb
  by_cases h0 : gcdp q (slope q) = []
  · have hq0 : q = [] := by
      apply Classical.byContradiction
      intro hq
      obtain ⟨u, v, k1, _⟩ := gcdp_spec HTR.out (trm_slope q) (.inl hq)
      exact k1.1 h0
    have E : Hid (quop q (gcdp q (slope q)) = []) := hid (by
      rw [h0]
      unfold quop
      rw [dif_neg (by rintro ⟨_, _, h⟩; exact h rfl)])
    have H4 := hid (without_nil P1.out P3.out (by rw [h0]; rfl))
    clear h0 hq0
    go_wp2_with fail
    refine H4.out.mono ?_
    rintro e w4 ⟨v4, rfl, hp, hb⟩
    replace B := bb B hb
    have P4 := hid hp
    clear hp hb
    go_wp2_with fail
    go_ret
    exact ⟨_, rfl, by rw [E.out]; exact P4.out, B.out⟩
  · have H4 := hid (without_p P1.out P3.out HTR.out (trm_gcdp HTR.out (trm_slope q)) h0 HC1.out.sml HC3.out.sml (by have := HM.out; omega) (by have := HM.out; omega) HN1.out HN3.out)
    clear h0
    go_wp2_with fail
    refine H4.out.mono ?_
    rintro e w4 ⟨v4, rfl, hp, hb⟩
    replace B := bb B hb
    have P4 := hid hp
    clear hp hb
    go_wp2_with fail
    go_ret
    exact ⟨_, rfl, P4.out, B.out⟩

end Go.Proofs.Ytkenlaikhnoldaa

/-
  PACKAGE pgcd: lists of polynomials.
-/
namespace Go.Proofs.Ytkenlaikhnoldaa
open Go.RowKit
open Num
set_option linter.unusedVariables false
set_option maxRecDepth 100000
set_option linter.unusedSimpArgs false

theorem infoP : (Try.prog.info? 36).map (fun i => (i.zero, i.size, i.bytes)) = some (some (.slice none 0 0), 1, 24) := by kernel_rfl
/-- The i-th of some values. -/
def vat (vs : List Value) (i : Nat) : Value := vs[i]?.getD (.slice none 0 0)
/-- A list of polynomials of the call's own. -/
def OwnF (w : World) (K : Nat) (v : Value) (fs : List (List Rat)) : Prop := ∃ vs : List Value, w.ownsRow K 36 1 v vs.length vs ∧ vs.length = fs.length ∧ (∀ u ∈ vs, ∃ p n c, u = .slice p n c) ∧ (∀ g, v.ownBlock = some g → NoInt w g ∧ ∀ s, w.cell? ⟨g, 0, none⟩ ≠ some (.bool s)) ∧ ∀ i, i < fs.length → PN w (vat vs i) (fs[i]?.getD [])
theorem OwnF.nil (w : World) (K : Nat) : OwnF w K (.slice none 0 0) [] := ⟨[], World.ownsRow_nil w _ _ _, rfl, fun u hu => by simp at hu, fun g hg => by simp [Value.ownBlock] at hg, fun i hi => by simp at hi⟩
theorem OwnF.lt {w : World} {K g : Nat} {v : Value} {fs : List (List Rat)} (h : OwnF w K v fs) (hg : v.ownBlock = some g) : K ≤ g ∧ g < w.heap.size := by
  obtain ⟨vs, h1, _⟩ := h
  exact World.ownsRow.lt h1 g hg
theorem OwnF.on {w w' : World} {K : Nat} {v : Value} {fs : List (List Rat)} (h : OwnF w K v fs) (hb : Below w.heap.size w w') : OwnF w' K v fs := by
  have hlt := fun g hg => (h.lt (g := g) hg).2
  obtain ⟨vs, ⟨h0, h1⟩, h2, h3, h4, h5⟩ := h
  refine ⟨vs, ⟨h0, ?_⟩, h2, h3, fun g hg => ⟨(h4 g hg).1.below hb (hlt g hg), fun s => by rw [hb.cell (p := ⟨g, 0, none⟩) (hlt g hg)]; exact (h4 g hg).2 s⟩, fun i hi => (h5 i hi).on hb⟩
  rcases h1 with h1 | ⟨g, cap, cur, rfl, hK, h1, h6⟩
  · exact .inl h1
  · exact .inr ⟨g, cap, cur, rfl, hK, (hb.block g (Array.getElem?_eq_some_iff.1 h1).1).trans h1, h6⟩
theorem PN.gb {w w' : World} {v : Value} {l : List Rat} {g : Nat} (h : PN w v l) (hg : w.grownBy w' (some g)) (hn : NoInt w g) (hb : ∀ s, w.cell? ⟨g, 0, none⟩ ≠ some (.bool s)) : PN w' v l := by
  obtain ⟨a, c, rs, h1, h2, h3, h4⟩ := h
  refine ⟨a, c, rs, h1, h2, h3, fun i hi => ?_⟩
  obtain ⟨b, e, hl, hA, hq⟩ := h4 i hi
  obtain ⟨b', e', _, hA', _⟩ := h4 0 (by omega)
  have hbb : b' = b := by rw [e] at e'; cases e'; rfl
  subst hbb
  have hne : b' ≠ g := by
    rintro rfl
    exact hb _ hA'.1
  exact ⟨b', e, Nat.lt_of_lt_of_le hl hg.size, hA.kept (hg.block b' hl (fun e => hne (Option.some.inj e))), hq.grown hn hg⟩
/-- 'append(factors, one)'. -/
theorem wpList_append_f {w : World} {ops : Array Oper} {rest : List Oper} {o : Oper} {a : Act} {Q : Exit → Act → World → Prop} (hgd : o.guard = none) (s x : Operand)
    (ho : o.op = .call { callee := .builtin .append, args := #[s, x], argTypes := #[39, 39] })
    (K : Nat) (v : Value) (fs : List (List Rat)) (hs : a.eval s = v) (hown : OwnF w K v fs) (hK : K ≤ w.heap.size) (hl : fs.length ≤ 1000)
    (ad : Nat) (c : Nat) (hx : a.eval x = .slice (some ⟨ad, 0, none⟩) 1 c) {p : Option Addr} {n c' : Nat} {l : List Rat} (q0 : w.cell? ⟨ad, 0, none⟩ = some (.slice p n c')) (hp : PN w (.slice p n c') l)
    {w0 : World} {K0 : Nat} (hK0 : K0 ≤ K) (hB : Below K0 w0 w)
    (h : ∀ v' w', OwnF w' K v' (fs ++ [l]) → (∀ u r, PN w u r → PN w' u r) → Below K0 w0 w' → wpList Try.prog ops Q rest (a.put o.dst v') w') : wpList Try.prog ops Q (o :: rest) a w := by
  obtain ⟨i, hi, hz0, hz1, hz2⟩ := info_parts infoP
  have hlt := fun g hg => hown.lt (g := g) hg
  obtain ⟨vs, h1, h2, h3, h4, h5⟩ := hown
  refine wpList_append_ni hgd s x 39 ho K 36 i (.slice none 0 0) 1 24 Try.underlying39 hi hz0 hz1 hz2 rfl (by decide) v vs.length vs hs h1 (fun g hg => (h4 g hg).1) ?_ ⟨ad, 0, none⟩ 1 c [.slice p n c'] hx rfl ?_ ?_ ?_ ?_ ?_ hK ?_
  · intro u hu
    simp [Value.cells] at hu
    subst hu
    exact NI.slc _ _ _
  · intro j u hj
    match j, hj with
    | 0, hj => simp at hj; subst hj; simpa [Addr.add] using q0
  · intro u hu; simp at hu; subst hu; rfl
  · intro u hu; simp at hu; subst hu; exact NI.slc _ _ _
  · unfold maxLen; omega
  · omega
  · intro v' w' g1 g2 g3
    have hB2 : Below K0 w0 w' := hB.grown g2 (by omega) fun g hg => Nat.le_trans hK0 (hlt g hg).1
    have hP : ∀ u r, PN w u r → PN w' u r := by
      intro u r hu
      cases ho : v.ownBlock with
      | none =>
        rw [ho] at g2
        exact hu.on ((Below.refl w.heap.size w).grown g2 (Nat.le_refl _) fun g hg => by cases hg)
      | some g =>
        rw [ho] at g2
        exact hu.gb g2 (h4 g ho).1 (h4 g ho).2
    refine h v' w' ⟨vs ++ [.slice p n c'], by rw [List.length_append]; exact g1, by rw [List.length_append, List.length_append, h2]; rfl, fun u hu => ?_, fun g hg => ⟨g3 g hg, fun s => ?_⟩, fun i hi => ?_⟩ hP hB2
    · rcases List.mem_append.1 hu with hu | hu
      · exact h3 u hu
      · simp at hu; exact ⟨_, _, _, hu⟩
    · rcases g1.2 with ⟨_, h0⟩ | ⟨g', cap, cur, rfl, hK', e1, e2, e3, e4, e5⟩
      · omega
      · simp [Value.ownBlock] at hg
        subst hg
        have hc : ∃ u, cur[0]? = some u ∧ ∃ p n c, u = .slice p n c := by
          have h6 : (vs ++ [.slice p n c'])[0]? ≠ none := by simp
          obtain ⟨u, hu⟩ := Option.ne_none_iff_exists'.1 h6
          have hu2 := hu
          rw [← e5, List.getElem?_take, if_pos (by omega), Array.getElem?_toList] at hu2
          refine ⟨u, hu2, ?_⟩
          have hm := List.mem_of_getElem? hu
          rcases List.mem_append.1 hm with hm | hm
          · exact h3 u hm
          · simp at hm; exact ⟨_, _, _, hm⟩
        obtain ⟨u, hu, p2, n2, c2, rfl⟩ := hc
        simp [World.cell?, e1, hu]
    · rw [List.length_append, List.length_singleton] at hi
      by_cases hlt2 : i < fs.length
      · have e1 : vat (vs ++ [.slice p n c']) i = vat vs i := by unfold vat; rw [List.getElem?_append_left (by omega)]
        rw [e1, List.getElem?_append_left hlt2]
        exact hP _ _ (h5 i hlt2)
      · obtain rfl : i = fs.length := by omega
        have e1 : vat (vs ++ [.slice p n c']) fs.length = .slice p n c' := by unfold vat; rw [← h2, List.getElem?_concat_length]; rfl
        rw [e1, List.getElem?_concat_length]
        exact hP _ _ hp

end Go.Proofs.Ytkenlaikhnoldaa

/-
  PACKAGE pgcd: YunOf.
-/
namespace Go.Proofs.Ytkenlaikhnoldaa
open Go.RowKit
open Num
set_option linter.unusedVariables false
set_option maxRecDepth 100000
set_option linter.unusedSimpArgs false

set_option maxHeartbeats 4000000 in
/-- The roots by how often they are. -/
theorem yunof_p {w : World} {v : Value} {l : List Rat} {m : Nat} (h : PN w v l) (ht : Trm l) (hs : Cml l m) (hm : m ≤ 40000) (hl : l.length ≤ 9) :
    Calls Try.prog 13 #[v] w fun e w' => ∃ v' n, e = .returned v' ∧ OwnF w' w.heap.size v' ((List.range n).map (yf l)) ∧ n ≤ 9 ∧ (freep (yp l n)).length ≤ 1 ∧ (∀ k, k < n → 2 ≤ (freep (yp l k)).length) ∧ Below w.heap.size w w' := by
  have H1 := hid (freeof_p h ht hs (by omega) hl)
  have HP := hid h
  have HT := hid ht
  have HS := hid hs
  have HM := hid hm
  have HL := hid hl
  obtain ⟨a0, c0, rfl, hn0, hc0⟩ := h.opened
  clear h ht hs hm hl
  go_enter Try.func13, Try.ntmps13
  go_wp2_with fail
  refine H1.out.mono ?_
  rintro e w1 ⟨v1, rfl, hp, hb⟩
  replace HP := pno HP hb
  have B := hid hb
  have HR := hid hp
  clear hp hb H1 hn0 hc0
  obtain ⟨a1, c1, rfl, hn1, hc1⟩ := HR.out.opened
  go_wp2_with fail
  go_loopw [0, 3, 4] (fun x y z wr => ∃ i : Nat, Hid (∀ k, k < i → 2 ≤ (freep (yp l k)).length) ∧ i + (yp l i).length ≤ 9 ∧ Hid (PN wr x (yp l i)) ∧ Hid (OwnF wr w.heap.size y ((List.range i).map (yf l))) ∧ Hid (PN wr z (freep (yp l i))) ∧ Hid (Below w.heap.size w wr)) (fun x _ _ _ => sln x)
  case atStart => exact ⟨0, hid (fun k hk => by omega), by have := HL.out; show 0 + l.length ≤ 9; omega, HP, hid (OwnF.nil _ _), HR, B⟩
  case round =>
    clear HP HR B hn1 hc1
    obtain ⟨i, HK, hi9, HP, HO, HR, B⟩ := hrel
    obtain ⟨ax, cx, rfl, hnx, hcx⟩ := HP.out.opened
    obtain ⟨az, cz, rfl, hnz, hcz⟩ := HR.out.opened
    unfold maxLen at hcx hcz
    by_cases h2 : 2 ≤ (freep (yp l i)).length
    · have hl0 : l ≠ [] := by rintro rfl; exact yp_nil_free i HK.out h2
      obtain ⟨s1, s2, s3, _⟩ := yp_spec HT.out hl0 i
      obtain ⟨t1, t2, _⟩ := yp_spec HT.out hl0 (i + 1)
      obtain ⟨c1, c2⟩ := cml_yp HT.out hl0 HS.out HL.out i
      obtain ⟨d1, d2⟩ := cml_yp HT.out hl0 HS.out HL.out (i + 1)
      obtain ⟨f1, f2⟩ := cml_freep s1 c1 c2
      obtain ⟨g1, g2⟩ := cml_freep t1 d1 d2
      have hf := yfree_mnc HT.out hl0 i
      have hf' := yfree_mnc HT.out hl0 (i + 1)
      have HYL := hid (y_len HT.out hl0 i h2)
      have hM := HM.out
      have H1 := hid (without_p HP.out HR.out s1 hf.trm hf.1 c1.sml f1.sml (by omega) (by omega) c2 f2)
      have H2 := hid (fun (w' : World) (v' : Value) (h : PN w' v' (yp l (i + 1))) => freeof_p h t1 d1 (by omega) d2)
      have H3 := hid (fun (w' : World) (v' u' : Value) (h : PN w' v' (freep (yp l i))) (h' : PN w' u' (freep (yp l (i + 1)))) => without_p h h' hf.trm hf'.trm hf'.1 f1.sml g1.sml (by omega) (by omega) f2 g2)
      have HH2 := hid h2
      have hlt : (1 : Int) < ((freep (yp l i)).length : Int) := by omega
      have hlt2 : 1 < (freep (yp l i)).length := by omega
      clear s1 s2 s3 t1 t2 c1 c2 d1 d2 f1 f2 g1 g2 hf hf' h2 hl0 hM
      go_wp2_with fail
      refine H1.out.mono ?_
      rintro e w2 ⟨v2, rfl, hp, hb⟩
      replace HR := pno HR hb
      replace HO := hid (HO.out.on hb)
      replace B := bb B hb
      have P2 := hid (show PN w2 v2 (yp l (i + 1)) from hp)
      clear hp hb H1
      go_wp2_with fail
      refine (H2.out _ _ P2.out).mono ?_
      rintro e w3 ⟨v3, rfl, hp, hb⟩
      replace HR := pno HR hb
      replace P2 := pno P2 hb
      replace HO := hid (HO.out.on hb)
      replace B := bb B hb
      have P3 := hid hp
      clear hp hb H2
      go_wp2_with fail
      refine (H3.out _ _ _ HR.out P3.out).mono ?_
      rintro e w4 ⟨v4, rfl, hp, hb⟩
      replace P2 := pno P2 hb
      replace P3 := pno P3 hb
      replace HO := hid (HO.out.on hb)
      replace B := bb B hb
      have P4 := hid (show PN w4 v4 (yf l i) from hp)
      clear hp hb H3 hlt hlt2 HR
      obtain ⟨p4, n4, rfl, _, _⟩ := P4.out.opened
      have hb5 := (Below.refl w4.heap.size w4).alloc (Nat.le_refl _) (.cells #[.slice p4 (yf l i).length n4] 36)
      have cd0 : (w4.alloc (.cells #[.slice p4 (yf l i).length n4] 36)).cell? ⟨w4.heap.size, 0, none⟩ = some (.slice p4 (yf l i).length n4) := by
        have hx : (w4.alloc (.cells #[.slice p4 (yf l i).length n4] 36)).heap[w4.heap.size]? = some (.cells #[.slice p4 (yf l i).length n4] 36 (0, 0)) := by
          show (w4.heap.push _)[w4.heap.size]? = _
          simp
        simp only [World.cell?, hx]
        rfl
      have hKK : w.heap.size ≤ (w4.alloc (.cells #[.slice p4 (yf l i).length n4] 36)).heap.size := Nat.le_trans B.out.size hb5.size
      replace P2 := pno P2 hb5
      replace P3 := pno P3 hb5
      replace P4 := pno P4 hb5
      replace HO := hid (HO.out.on hb5)
      replace B := bb B hb5
      have hll : ((List.range i).map (yf l)).length ≤ 1000 := by rw [List.length_map, List.length_range]; omega
      go_wp2_with (at_builtin; refine wpList_append_f rfl _ _ rfl w.heap.size _ ((List.range i).map (yf l)) rfl HO.out hKK hll w4.heap.size 1 rfl cd0 P4.out (Nat.le_refl _) B.out ?_)
      intro v' wa hown hpn hB2
      have HO2 : Hid (OwnF wa w.heap.size v' ((List.range (i + 1)).map (yf l))) := hid (by rw [List.range_succ, List.map_append]; exact hown)
      replace P2 := hid (hpn _ _ P2.out)
      replace P3 := hid (hpn _ _ P3.out)
      replace B := hid hB2
      clear hown hpn hB2 hKK hll cd0 P4 HO hb5
      obtain ⟨p2, n2, rfl, _, _⟩ := P2.out.opened
      go_wp2_with fail
      go_roundw
      case rel => exact ⟨i + 1, hid (fun k hk => if h : k < i then HK.out k h else (show i = k by omega) ▸ HH2.out), by have := HYL.out; omega, P2, HO2, P3, B⟩
      case measure => have := HYL.out; simp [sln]; omega
    · have hlt : ¬ (1 : Int) < ((freep (yp l i)).length : Int) := by omega
      have hlt2 : ¬ 1 < (freep (yp l i)).length := by omega
      have H9 := hid (show (freep (yp l i)).length ≤ 1 by omega)
      go_wp2_with fail
      go_ret
      exact ⟨_, rfl, i, HO.out, by omega, H9.out, HK.out, B.out⟩

end Go.Proofs.Ytkenlaikhnoldaa

/-
  PACKAGE pgcd: Monic, Gcd, Free, of texts.
-/
namespace Go.Proofs.Ytkenlaikhnoldaa
open Go.RowKit
open Num
set_option linter.unusedVariables false
set_option maxRecDepth 100000
set_option linter.unusedSimpArgs false

/-- What a function of one list tells: a list, or nothing and an error. -/
def PUn (f : List Rat → List Rat) (p ss : List ByteArray) (k : Int) : Prop := (k = 0 ∧ GoodP p ∧ ss = (f (rdp p)).map qtxt) ∨ (k ≠ 0 ∧ BadP p k ∧ ss = [])
theorem GoodP.cml {p : List ByteArray} (h : GoodP p) : Cml (rdp p) 227 := h.sml.cml.mono (by have := h.1; rw [rdp_len]; omega)
theorem GoodP.len {p : List ByteArray} (h : GoodP p) : (rdp p).length ≤ 9 := by rw [rdp_len]; exact h.1
theorem GoodP.trm {p : List ByteArray} (h : GoodP p) : Trm (rdp p) := h.2.2

set_option maxHeartbeats 1000000 in
theorem monic_any {w : World} {v : Value} {p : List ByteArray} (h : TxsW w v p) (hs : Szs p) :
    Calls Try.prog 6 #[v] w fun e w' => ∃ r ss k, e = .returned (.tuple #[r, errv k]) ∧ OwnS w' w.heap.size r ss ∧ PUn mnc p ss k ∧ Below w.heap.size w w' := by
  have H1 := hid (pread_any h hs)
  have hne := errv_neq
  have hgd := errv_guard
  clear h hs
  go_enter Try.func6, Try.ntmps6
  go_wp2_with fail
  refine H1.out.mono ?_
  rintro e w1 ⟨x, k, rfl, hr, _, hb⟩
  have B := hid hb
  rcases hr with ⟨rfl, hg, hp⟩ | ⟨hk, hw, rfl⟩
  · have HG := hid hg
    have HP := hid hp
    have HC := hid (cml_mnc2 HG.out.trm HG.out.cml HG.out.len)
    clear hb hg hp
    go_wp2_with fail
    refine (monicof_p HP.out HG.out.trm HG.out.cml (by decide) HG.out.len).mono ?_
    rintro e w2 ⟨r, rfl, hr, hb2⟩
    replace B := bb B hb2
    have HR := hid hr
    clear hb2 hr
    go_wp2_with fail
    refine (texts_s HR.out (trm_mnc _) HC.out.1.sml (by decide) (by have := HC.out.2; omega)).mono ?_
    rintro e w3 ⟨s, rfl, ho, hb3⟩
    have HO := hid (show OwnS w3 w.heap.size s _ from ⟨ho.1.mono B.out.size, ho.2⟩)
    replace B := bb B hb3
    clear hb3 ho
    go_wp2_with fail
    go_ret2
    exact ⟨_, _, 0, rfl, HO.out, .inl ⟨rfl, HG.out, rfl⟩, B.out⟩
  · have HK := hid hk
    have HW := hid hw
    have f1 : (k != 0) = true := by simpa using hk
    clear hb hw
    go_wp2_with fail
    go_ret2
    exact ⟨_, [], k, rfl, OwnS.nil _ _, .inr ⟨HK.out, HW.out, rfl⟩, B.out⟩

set_option maxHeartbeats 1000000 in
theorem gcd_any {w : World} {v u : Value} {p q : List ByteArray} (h : TxsW w v p) (h' : TxsW w u q) (hs : Szs p) (hs' : Szs q) :
    Calls Try.prog 10 #[v, u] w fun e w' => ∃ r ss k, e = .returned (.tuple #[r, errv k]) ∧ OwnS w' w.heap.size r ss ∧ PTells gcdp p q ss k ∧ Below w.heap.size w w' := by
  have H1 := hid (pread_any h hs)
  have H2 := hid (fun (w' : World) (hb : Below w.heap.size w w') => pread_any (h'.on hb) hs')
  have hne := errv_neq
  have hgd := errv_guard
  clear h h' hs hs'
  go_enter Try.func10, Try.ntmps10
  go_wp2_with fail
  refine H1.out.mono ?_
  rintro e w1 ⟨x, k, rfl, hr, _, hb⟩
  have B := hid hb
  have R := hid hr
  clear hb hr
  by_cases hk : k = 0
  · obtain ⟨hg, hp⟩ := R.out.yes hk
    have HG := hid hg
    have HP := hid hp
    clear hg hp
    subst hk
    go_wp2_with fail
    refine (H2.out _ B.out).mono ?_
    rintro e w2 ⟨y, z, rfl, hr2, _, hb2⟩
    replace HP := pno HP hb2
    replace B := bb B hb2
    have R2 := hid hr2
    clear hb2 hr2
    by_cases hk2 : z = 0
    · obtain ⟨hg2, hp2⟩ := R2.out.yes hk2
      have HG2 := hid hg2
      have HP2 := hid hp2
      have HC := hid (cml_gcdp2 HG.out.trm HG2.out.trm HG.out.cml HG2.out.cml HG.out.len HG2.out.len)
      clear hg2 hp2
      subst hk2
      go_wp2_with fail
      refine (gcdof_p HP.out HP2.out HG.out.trm HG2.out.trm HG.out.cml HG2.out.cml (by decide) HG.out.len HG2.out.len).mono ?_
      rintro e w3 ⟨r, rfl, hr, hb3⟩
      replace B := bb B hb3
      have HR := hid hr
      clear hb3 hr
      go_wp2_with fail
      refine (texts_s HR.out (trm_gcdp HG.out.trm HG2.out.trm) HC.out.1.sml (by decide) (by have := HC.out.2; omega)).mono ?_
      rintro e w4 ⟨s, rfl, ho, hb4⟩
      have HO := hid (show OwnS w4 w.heap.size s _ from ⟨ho.1.mono B.out.size, ho.2⟩)
      replace B := bb B hb4
      clear hb4 ho
      go_wp2_with fail
      go_ret2
      exact ⟨_, _, 0, rfl, HO.out, .inl ⟨rfl, HG.out, HG2.out, rfl⟩, B.out⟩
    · have HB := hid (R2.out.no hk2).1
      have HK2 := hid hk2
      have f2 : (z != 0) = true := by simpa using hk2
      go_wp2_with fail
      go_ret2
      exact ⟨_, [], z, rfl, OwnS.nil _ _, .inr ⟨HK2.out, .inr ⟨HG.out, HB.out⟩, rfl⟩, B.out⟩
  · have HB := hid (R.out.no hk).1
    have HK := hid hk
    have f1 : (k != 0) = true := by simpa using hk
    go_wp2_with fail
    go_ret2
    exact ⟨_, [], k, rfl, OwnS.nil _ _, .inr ⟨HK.out, .inl HB.out, rfl⟩, B.out⟩

end Go.Proofs.Ytkenlaikhnoldaa

/-
  PACKAGE pgcd: Yun, of texts.
-/
namespace Go.Proofs.Ytkenlaikhnoldaa
open Go.RowKit
open Num
set_option linter.unusedVariables false
set_option maxRecDepth 100000
set_option linter.unusedSimpArgs false

theorem yf_dv {p : List Rat} (hp : Trm p) (h0 : p ≠ []) (n : Nat) : Dv (yf p n) p := by
  obtain ⟨h1, h2, h3, _⟩ := yp_spec hp h0 n
  have e := quop_dv (yfree_mnc hp h0 n).trm (yfree_mnc hp h0 (n + 1)).trm (yfree_mnc hp h0 (n + 1)).1 (yfree_dv hp h0 n)
  refine Dv.trans ?_ ((freep_dv h1 h2).trans h3)
  refine Dv.of (k := freep (yp p (n + 1))) fun x => ?_
  have h4 : pv (freep (yp p n)) x = pv (mulp (quop (freep (yp p n)) (freep (yp p (n + 1)))) (freep (yp p (n + 1)))) x := by rw [e]
  rw [h4, pv_mulp]
  show _ = _ * pv (quop (freep (yp p n)) (freep (yp p (n + 1)))) x
  grind
theorem cml_yf {p : List Rat} {m : Nat} (hp : Trm p) (h0 : p ≠ []) (h : Cml p m) (hl : p.length ≤ 9) (n : Nat) : Cml (yf p n) (m + 7) ∧ (yf p n).length ≤ 9 :=
  ⟨h.dv (yf_mnc hp h0 n) hp h0 (yf_dv hp h0 n) hl, Nat.le_trans ((yf_dv hp h0 n).len (yf_mnc hp h0 n).trm hp h0) hl⟩
theorem infoL : (Try.prog.info? 22).map (fun i => (i.zero, i.size, i.bytes)) = some (some (.slice none 0 0), 1, 24) := by kernel_rfl
theorem OwnF.opened {w : World} {K : Nat} {v : Value} {fs : List (List Rat)} (h : OwnF w K v fs) : ∃ a c, v = .slice a fs.length c ∧ c ≤ maxLen := by
  obtain ⟨vs, ⟨h0, h1⟩, h2, _⟩ := h
  rcases h1 with ⟨rfl, h1⟩ | ⟨g, cap, cur, rfl, _, _, _, h3, _⟩
  · exact ⟨none, 0, by rw [← h2, h1], Nat.zero_le _⟩
  · exact ⟨_, cap, by rw [h2], h3⟩
theorem OwnF.at {w : World} {K n cap : Nat} {a : Option Addr} {fs : List (List Rat)} (h : OwnF w K (.slice a n cap) fs) {i : Nat} (hi : i < fs.length) : ∃ g p m c, a = some ⟨g, 0, none⟩ ∧ g < w.heap.size ∧ w.cell? ⟨g, i, none⟩ = some (.slice p m c) ∧ PN w (.slice p m c) (fs[i]?.getD []) := by
  obtain ⟨vs, ⟨h0, h1⟩, h2, h3, _, h5⟩ := h
  rcases h1 with ⟨_, h1⟩ | ⟨g, cap', cur, e, _, h1, _, _, _, h4⟩
  · omega
  · cases e
    have hp := h5 i hi
    have hv : vs[i]? = some (vat vs i) := by unfold vat; rw [List.getElem?_eq_getElem (by omega)]; rfl
    obtain ⟨p, m, c, e⟩ := h3 (vat vs i) (List.mem_of_getElem? hv)
    rw [e] at hv hp
    refine ⟨g, p, m, c, rfl, (Array.getElem?_eq_some_iff.1 h1).1, ?_, hp⟩
    rw [← h4, List.getElem?_take, if_pos (by omega), Array.getElem?_toList] at hv
    simp [World.cell?, h1, hv]
/-- Block b holds n lists of texts, and may be written. -/
def YRw (w : World) (b n : Nat) (rs : Nat → Value) : Prop := ∃ cur, w.heap[b]? = some (.cells cur 22 (0, 0)) ∧ cur.size = n ∧ ∀ i, i < n → cur[i]? = some (rs i)
theorem YRw.lt {w : World} {b n : Nat} {rs : Nat → Value} (h : YRw w b n rs) : b < w.heap.size := by
  obtain ⟨cur, h, _⟩ := h
  exact (Array.getElem?_eq_some_iff.1 h).1
theorem YRw.on {w w' : World} {b n : Nat} {rs : Nat → Value} (h : YRw w b n rs) (hb : Below w.heap.size w w') : YRw w' b n rs := by
  have hl := h.lt
  obtain ⟨cur, h, h2⟩ := h
  exact ⟨cur, (hb.block b hl).trans h, h2⟩
theorem YRw.cell {w : World} {b n : Nat} {rs : Nat → Value} (h : YRw w b n rs) {i : Nat} (hi : i < n) : w.cell? ⟨b, i, none⟩ = some (rs i) := by
  obtain ⟨cur, h, _, h2⟩ := h
  simp [World.cell?, h, h2 i hi]
theorem YRw.stores {w : World} {b n : Nat} {rs : Nat → Value} (h : YRw w b n rs) {i : Nat} (hi : i < n) : w.cell? ⟨b, i, none⟩ = some (rs i) ∧ w.frozen? ⟨b, i, none⟩ = false := by
  refine ⟨h.cell hi, ?_⟩
  obtain ⟨cur, h, _⟩ := h
  simp [World.frozen?, h]
theorem YRw.put {w : World} {b n : Nat} {rs : Nat → Value} (h : YRw w b n rs) {i : Nat} (hi : i < n) (u : Value) : YRw (w.setCell ⟨b, i, none⟩ u) b n (fun k => if k = i then u else rs k) := by
  obtain ⟨cur, h, hs, h2⟩ := h
  refine ⟨cur.setIfInBounds i u, heap_set h u, by simp [hs], fun k hk => ?_⟩
  show (cur.setIfInBounds i u)[k]? = some (if k = i then u else rs k)
  by_cases hki : k = i
  · subst hki
    rw [if_pos rfl, Array.getElem?_setIfInBounds_self_of_lt (by omega)]
  · rw [if_neg hki, Array.getElem?_setIfInBounds_ne (by omega)]
    exact h2 k hk
/-- 'make([][]string, n)'. -/
theorem wpList_make_ys (w : World) {ops : Array Oper} {rest : List Oper} {o : Oper} {a : Act} {Q : Exit → Act → World → Prop}
    (hg : o.guard = none) (l c : Operand) (t : TypeId) (hop : o.op = Op.makeSlice t l c) (h1 : Try.prog.underlying t = some (.slice 22))
    (n : Nat) (hl : a.eval l = .int .i64 n) (hc : a.eval c = .int .i64 n) (hb : n ≤ 1000000000000)
    (hK : ∀ w', YRw w' w.heap.size n (fun _ => .slice none 0 0) → Below w.heap.size w w' → w'.heap.size = w.heap.size + 1 → wpList Try.prog ops Q rest (a.put o.dst (.slice (some ⟨w.heap.size, 0, none⟩) n n)) w') :
    wpList Try.prog ops Q (o :: rest) a w := by
  obtain ⟨i, hi, hz0, hz1, hz2⟩ := info_parts infoL
  refine wpList_plain hg fun K hK' => ?_
  have hr := run_make (P := Try.prog) w t _ i _ h1 hi hz0 .i64 .i64 (n : Int) (n : Int) (by omega) (by omega) (by rw [hz2]; omega) (by omega)
  simp only [Int.toNat_natCast] at hr
  unfold Oper.wp
  simp [execOp, hop, hl, hc, hr, Result.andThen]
  rw [hz1]
  refine hK' _ _ (hK _ ⟨_, by show (w.heap.push _)[w.heap.size]? = _; simp; rfl, by simp [madeCells], fun j hj => ?_⟩ ((Below.refl _ _).alloc (Nat.le_refl _) _) (by simp))
  have hcs : (Value.slice none 0 0).cells = #[.slice none 0 0] := by simp [Value.cells]
  rw [hcs]
  simp [madeCells, hj, Nat.mod_one]
/-- A list of lists of texts of the call's own, all apart. -/
def OwnY (w : World) (K : Nat) (v : Value) (n : Nat) (f : Nat → List ByteArray) : Prop := ∃ b rs, v = .slice (some ⟨b, 0, none⟩) n n ∧ K ≤ b ∧ n ≤ 9 ∧ YRw w b n rs ∧ (∀ i, i < n → OwnS w (b + 1) (rs i) (f i)) ∧ ∀ i j, i < j → j < n → ∀ g, (rs i).ownBlock = some g → (rs j).ownBlock ≠ some g
theorem OwnS.put {w : World} {K b i : Nat} {v u : Value} {ss : List ByteArray} (h : OwnS w K v ss) (hb : b < K) : OwnS (w.setCell ⟨b, i, none⟩ u) K v ss := ⟨ownsRow_setCell_below h.1 hb u, h.2⟩
theorem OwnS.on {w w' : World} {K : Nat} {v : Value} {ss : List ByteArray} (h : OwnS w K v ss) (hb : Below w.heap.size w w') : OwnS w' K v ss := ⟨h.1.on hb, h.2⟩
/-- What Yun tells. -/
def GYun (p : List ByteArray) (n : Nat) (k : Int) : Prop := (k = 0 ∧ GoodP p ∧ (freep (yp (rdp p) n)).length ≤ 1 ∧ ∀ i, i < n → 2 ≤ (freep (yp (rdp p) i)).length) ∨ (k ≠ 0 ∧ BadP p k ∧ n = 0)
set_option maxHeartbeats 4000000 in
theorem yun_any {w : World} {v : Value} {p : List ByteArray} (h : TxsW w v p) (hs : Szs p) :
    Calls Try.prog 5 #[v] w fun e w' => ∃ r n k, e = .returned (.tuple #[r, errv k]) ∧ GYun p n k ∧ (k = 0 → OwnY w' w.heap.size r n fun i => (yf (rdp p) i).map qtxt) ∧ (k ≠ 0 → r = .slice none 0 0) ∧ Below w.heap.size w w' := by
  have H1 := hid (pread_any h hs)
  have hne := errv_neq
  have hgd := errv_guard
  clear h hs
  go_enter Try.func5, Try.ntmps5
  go_wp2_with fail
  refine H1.out.mono ?_
  rintro e w1 ⟨x, k, rfl, hr, _, hb⟩
  have B := hid hb
  rcases hr with ⟨rfl, hg, hp⟩ | ⟨hk, hw, rfl⟩
  · have HG := hid hg
    have HP := hid hp
    clear hb hg hp
    go_wp2_with fail
    refine (yunof_p HP.out HG.out.trm HG.out.cml (by decide) HG.out.len).mono ?_
    rintro e w2 ⟨v2, n, rfl, ho, hn9, hf, hk2, hb2⟩
    replace HP := pno HP hb2
    replace B := bb B hb2
    have HO := hid ho
    have HF := hid hf
    have HK := hid hk2
    clear hb2 ho hf hk2
    obtain ⟨a2, c2, rfl, hc2⟩ := HO.out.opened
    have hln : ((List.range n).map (yf (rdp p))).length = n := by rw [List.length_map, List.length_range]
    have HLN := hid hln
    rw [hln] at HO ⊢
    unfold maxLen at hc2
    clear hln
    have HB2 := hid B.out.size
    go_wp2_with (refine wpList_make_ys _ rfl _ _ _ rfl Try.underlying24 n rfl rfl (by omega) ?_)
    intro w3 hrow hb3 hs3
    replace B := bb B hb3
    have B2 := hid hb3
    have ROW := hid hrow
    clear hrow hb3 hs3
    obtain ⟨b0, hb0⟩ : ∃ b0, b0 = w2.heap.size := ⟨_, rfl⟩
    have HE0 := hid hb0
    rw [← hb0] at ROW HB2 ⊢
    clear hb0
    go_wp2_with fail
    have W0 : ∃ rs : Nat → Value, Hid (YRw w3 b0 n rs) := ⟨_, ROW⟩
    clear ROW
    obtain ⟨rs0, ROW⟩ := W0
    go_loopw [25] (fun x wr => ∃ (i : Nat) (rs : Nat → Value), i ≤ n ∧ x = .int .i64 i ∧ Hid (YRw wr b0 n rs) ∧ Hid (∀ t, t < i → OwnS wr (b0 + 1) (rs t) ((yf (rdp p) t).map qtxt)) ∧ Hid (∀ s t, s < t → t < i → ∀ g, (rs s).ownBlock = some g → (rs t).ownBlock ≠ some g) ∧ Hid (Below w2.heap.size w2 wr) ∧ Hid (Below w.heap.size w wr)) (fun x _ => n - (intOf x).toNat)
    case atStart => exact ⟨0, rs0, by omega, rfl, ROW, hid (fun t ht => by omega), hid (fun s t _ ht => by omega), B2, B⟩
    case round =>
      clear ROW B B2
      obtain ⟨i, rs, hi, rfl, ROW, HT, HA, B2, B⟩ := hrel
      by_cases hlt : i < n
      · have hp0 : rdp p ≠ [] := by
          intro e
          have h1 := HK.out 0 (by omega)
          rw [e] at h1
          exact yp_nil_free 0 (fun k hk => by omega) h1
        obtain ⟨g, p5, m5, c5, rfl, hg5, cd5, hq5⟩ := (HO.out.on B2.out).at (i := i) (by rw [HLN.out]; exact hlt)
        have e5 : ((List.range n).map (yf (rdp p)))[i]?.getD [] = yf (rdp p) i := by
          rw [List.getElem?_map, List.getElem?_range hlt]; rfl
        rw [e5] at hq5
        obtain ⟨q1, q2⟩ := cml_yf HG.out.trm hp0 HG.out.cml HG.out.len i
        have H5 := hid (texts_s hq5 (yf_mnc HG.out.trm hp0 i).trm q1.sml (by decide) (by omega))
        clear e5 hq5 q1 q2 hp0
        go_wp2_with fail
        refine H5.out.mono ?_
        rintro e w4 ⟨u, rfl, ho, hb4⟩
        have LB := hid ROW.out.lt
        have HU := hid (show OwnS w4 (b0 + 1) u _ from ⟨ho.1.mono (by have := LB.out; omega), ho.2⟩)
        have HUL := hid (fun g (hg : u.ownBlock = some g) => (ho.1.lt g hg).1)
        have HAL := hid (fun t (ht : t < i) g (hg : (rs t).ownBlock = some g) => ((HT.out t ht).1.lt g hg).2)
        replace ROW := hid (ROW.out.on hb4)
        replace HT : Hid (∀ t, t < i → OwnS w4 (b0 + 1) (rs t) ((yf (rdp p) t).map qtxt)) := hid (fun t ht => (HT.out t ht).on hb4)
        replace B := bb B hb4
        replace B2 := bb B2 hb4
        obtain ⟨pu, cu, eu, _⟩ := ho.1.txs
        rw [List.length_map] at eu
        subst eu
        clear hb4 ho H5 cd5 hg5
        have cc := ROW.out.stores hlt
        have ROW2 := hid (ROW.out.put hlt (.slice pu (yf (rdp p) i).length cu))
        replace B2 := hid (B2.out.setCell (p := ⟨b0, i, none⟩) (by have := HE0.out; show w2.heap.size ≤ b0; omega) (.slice pu (yf (rdp p) i).length cu))
        replace B := hid (B.out.setCell (p := ⟨b0, i, none⟩) (by have := HB2.out; show w.heap.size ≤ b0; omega) (.slice pu (yf (rdp p) i).length cu))
        go_wp2_with fail
        go_roundw
        case rel => exact ⟨i + 1, (fun k => if k = i then .slice pu (yf (rdp p) i).length cu else rs k), by omega, by go_num, ROW2, hid (fun t ht => by
            show OwnS _ _ (if t = i then _ else rs t) _
            by_cases e : t = i
            · subst e; rw [if_pos rfl]; exact HU.out.put (by omega)
            · rw [if_neg e]; exact (HT.out t (by omega)).put (by omega)), hid (fun s t hst ht g hg => by
            change (if s = i then _ else rs s).ownBlock = some g at hg
            show (if t = i then _ else rs t).ownBlock ≠ some g
            by_cases e : t = i
            · subst e
              rw [if_neg (by omega)] at hg
              rw [if_pos rfl]
              intro e2
              have h1 := HUL.out g e2
              have h2 := HAL.out s hst g hg
              omega
            · rw [if_neg (by omega)] at hg
              rw [if_neg e]
              exact HA.out s t hst (by omega) g hg), B2, B⟩
        case measure => simp [intOf]; omega
      · obtain rfl : i = n := by omega
        go_wp2_with fail
        go_ret2
        exact ⟨_, i, 0, rfl, .inl ⟨rfl, HG.out, HF.out, HK.out⟩, fun _ => ⟨b0, rs, rfl, HB2.out, hn9, ROW.out, HT.out, HA.out⟩, fun h => absurd rfl h, B.out⟩
  · have HK := hid hk
    have HW := hid hw
    have f1 : (k != 0) = true := by simpa using hk
    clear hb hw
    go_wp2_with fail
    go_ret2
    exact ⟨_, 0, k, rfl, .inr ⟨HK.out, HW.out, rfl⟩, fun h => absurd h HK.out, fun _ => rfl, B.out⟩

end Go.Proofs.Ytkenlaikhnoldaa

/-
  LAWS of package pgcd: what they have in common.
-/
namespace Go.Proofs.Ytkenlaikhnoldaa
open Go.RowKit
open Num
set_option linter.unusedVariables false
set_option maxRecDepth 100000
set_option linter.unusedSimpArgs false

theorem PUn.ok {f : List Rat → List Rat} {p ss : List ByteArray} {k : Int} (h : PUn f p ss k) (hk : k = 0) : GoodP p ∧ ss = (f (rdp p)).map qtxt := by
  rcases h with ⟨_, h⟩ | ⟨h, _⟩
  · exact h
  · exact absurd hk h
theorem PUn.no {f : List Rat → List Rat} {p ss : List ByteArray} {k : Int} (h : PUn f p ss k) (hk : k ≠ 0) : BadP p k ∧ ss = [] := by
  rcases h with ⟨h, _⟩ | ⟨_, h⟩
  · exact absurd h hk
  · exact h
theorem PUn.yes {f : List Rat → List Rat} {p ss : List ByteArray} {k : Int} (h : PUn f p ss k) (hp : GoodP p) : k = 0 ∧ ss = (f (rdp p)).map qtxt := by
  rcases h with ⟨h1, _, h2⟩ | ⟨_, h, _⟩
  · exact ⟨h1, h2⟩
  · exact absurd hp h.not
theorem PDivs.good {p q ks rs : List ByteArray} {k : Int} (h : PDivs p q ks rs k) (hp : GoodP p) (hq : GoodP q) (h0 : rdp q ≠ []) : k = 0 := by
  rcases h with ⟨h, _⟩ | ⟨_, _, _, h, _⟩ | ⟨_, h, _⟩
  · exact h
  · exact absurd h h0
  · exact absurd ⟨hp, hq⟩ h.not
/-- Nothing is left: it goes in. -/
theorem PDivs.left {p q ks rs : List ByteArray} {k : Int} (h : PDivs p q ks rs k) (hk : k = 0) : rs = [] ↔ Dv (rdp q) (rdp p) := by
  obtain ⟨h1, h2, h3, y, r, _, hr, hl, e, _, rfl⟩ := h.ok hk
  constructor
  · intro h4
    refine dv_rem (y := y) e ?_
    exact List.map_eq_nil_iff.1 h4
  · intro h4
    rw [rem_nil h2.trm h3 hr hl e h4]; rfl
def pm101 : List ByteArray := [⟨#[45, 49]⟩, ⟨#[48]⟩, ⟨#[49]⟩]
def two22 : List ByteArray := [⟨#[50]⟩, ⟨#[50]⟩]
theorem good_101 : GoodP pm101 := by
  refine ⟨by decide, fun i hi => ?_, trm_of_last (.inr (by decide +kernel))⟩
  rcases (show i = 0 ∨ i = 1 ∨ i = 2 by simp [pm101] at hi; omega) with rfl | rfl | rfl <;> exact ⟨by decide, by decide⟩
theorem good_22 : GoodP two22 := by
  refine ⟨by decide, fun i hi => ?_, trm_of_last (.inr (by decide +kernel))⟩
  rcases (show i = 0 ∨ i = 1 by simp [two22] at hi; omega) with rfl | rfl <;> exact ⟨by decide, by decide⟩
theorem szs_101 : Szs pm101 := fun i hi => by
  rcases (show i = 0 ∨ i = 1 ∨ i = 2 by simp [pm101] at hi; omega) with rfl | rfl | rfl <;> decide
theorem szs_22 : Szs two22 := fun i hi => by
  rcases (show i = 0 ∨ i = 1 by simp [two22] at hi; omega) with rfl | rfl <;> decide
theorem gold_gcd : gcdp (rdp pm101) (rdp two22) = rdp one11 := by
  have e1 : rdp pm101 = [-1, 0, 1] := by decide +kernel
  have e2 : rdp two22 = [2, 2] := by decide +kernel
  have e3 : rdp one11 = [1, 1] := by decide +kernel
  rw [e1, e2, e3]
  refine (gcdp_of (trm_of_last (.inr (by decide +kernel))) (trm_of_last (.inr (by decide +kernel))) (.inl (by simp)) ⟨by simp, rfl⟩ ?_ ?_ fun d h1 h2 => ?_).symm
  · exact Dv.of (k := [-1, 1]) fun x => by show -1 + x * (0 + x * (1 + x * 0)) = (-1 + x * (1 + x * 0)) * (1 + x * (1 + x * 0)); grind
  · exact Dv.of (k := [2]) fun x => by show 2 + x * (2 + x * 0) = (2 + x * 0) * (1 + x * (1 + x * 0)); grind
  · refine h2.comb h2 (u := [1 / 2]) (v := []) fun x => ?_
    show 1 + x * (1 + x * 0) = (1 / 2 + x * 0) * (2 + x * (2 + x * 0)) + 0 * (2 + x * (2 + x * 0))
    grind

end Go.Proofs.Ytkenlaikhnoldaa

/-
  LAWS of package pgcd: what PgcdYun asks.
-/
namespace Go.Proofs.Ytkenlaikhnoldaa
open Go.RowKit
open Num
set_option linter.unusedVariables false
set_option maxRecDepth 100000
set_option linter.unusedSimpArgs false

theorem y_at {wa wr : World} {b n i : Nat} {rs : Nat → Value} {q : List Rat} (h : YRw wa b n rs) (hs : ∀ t, t < n → OwnS wa (b + 1) (rs t) ((yf q t).map qtxt)) (hb : Below wa.heap.size wa wr) (hi : i < n) :
    ∃ pi ci, wr.cell? ⟨b, i, none⟩ = some (.slice pi (yf q i).length ci) ∧ TxsW wr (.slice pi (yf q i).length ci) ((yf q i).map qtxt) ∧ Szs ((yf q i).map qtxt) := by
  have h1 := (h.on hb).cell hi
  have h2 := (hs i hi).on hb
  obtain ⟨pi, ci, e, _⟩ := h2.1.txs
  have h3 := h2.1.txs.weak
  rw [List.length_map] at e
  rw [e] at h1 h3
  exact ⟨pi, ci, h1, h3, h2.2⟩
theorem y_zero {q : List Rat} {n : Nat} (hq : Trm q) (hl : q.length < 2) (hk : ∀ i, i < n → 2 ≤ (freep (yp q i)).length) : n = 0 := by
  rcases n with _ | n
  · rfl
  · have h1 := hk 0 (by omega)
    have h1 : 2 ≤ (freep q).length := h1
    by_cases h0 : q = []
    · rw [h0, freep_nil] at h1; simp at h1
    · have := (freep_dv hq h0).len (mnc_freep hq h0).trm hq h0
      omega
theorem y_pos {q : List Rat} {n : Nat} (hq : Trm q) (hl : 2 ≤ q.length) (hf : (freep (yp q n)).length ≤ 1) : n ≠ 0 := by
  rintro rfl
  have h0 : q ≠ [] := by rintro rfl; simp at hl
  obtain ⟨π, hi, hd⟩ := irr_ex _ q hq (Nat.le_refl _) hl
  have h1 := vl_pos hi hq h0 hd
  have h2 := y_end hq h0 hf hi
  omega
theorem mulp_one_r {l : List Rat} (h : Trm l) : mulp l [1] = l := trm_pv (trm_mulp _ _) h fun x => by rw [pv_mulp, pv_one]; grind
theorem mulp_assoc (a b c : List Rat) : mulp (mulp a b) c = mulp a (mulp b c) := trm_pv (trm_mulp _ _) (trm_mulp _ _) fun x => by rw [pv_mulp, pv_mulp, pv_mulp, pv_mulp]; grind
theorem one_is : [(⟨#[49]⟩ : ByteArray)] = ([1] : List Rat).map qtxt := by decide +kernel
theorem PTells.sub {f : List Rat → List Rat → List Rat} {p q ss : List ByteArray} {k : Int} (h : PTells f p q ss k) (hk : k ≠ 0) (hp : GoodP p) : ¬ GoodP q := fun hq => hk (h.yes hp hq).1

end Go.Proofs.Ytkenlaikhnoldaa

/-
  LAWS of package pgcd: common.
-/
namespace Go.Proofs.Ytkenlaikhnoldaa
open Go.RowKit
open Num
set_option linter.unusedVariables false
set_option maxRecDepth 100000
set_option linter.unusedSimpArgs false

set_option maxHeartbeats 2000000 in
theorem common_true (w : World) :
    Calls Try.prog 4 #[] w fun e w' => e = .returned (.bool true) ∧ Below w.heap.size w w' := by
  have hne := errv_neq
  have heq := errv_eql
  have hgd := errv_guard
  have t1 := one_text (Nat.le_refl w.heap.size) pm101 (by decide)
  have hb1 := (Below.refl w.heap.size w).alloc (Nat.le_refl _) (.cells #[.string ⟨#[45, 49]⟩, .string ⟨#[48]⟩, .string ⟨#[49]⟩] 9)
  have t2 := one_text (Nat.le_refl (w.alloc (.cells #[.string ⟨#[45, 49]⟩, .string ⟨#[48]⟩, .string ⟨#[49]⟩] 9)).heap.size) two22 (by decide)
  have hb2 := (Below.refl (w.alloc (.cells #[.string ⟨#[45, 49]⟩, .string ⟨#[48]⟩, .string ⟨#[49]⟩] 9)).heap.size _).alloc (Nat.le_refl _) (.cells #[.string ⟨#[50]⟩, .string ⟨#[50]⟩] 9)
  have B := hid (hb1.trans (hb2.mono hb1.size))
  have HM := gcd_any (t1.on hb2).txs.weak t2.txs.weak szs_101 szs_22
  have hs : (w.alloc (.cells #[.string ⟨#[45, 49]⟩, .string ⟨#[48]⟩, .string ⟨#[49]⟩] 9)).heap.size = w.heap.size + 1 := by simp
  rw [hs] at HM
  have HM := hid HM
  clear t1 t2 hb1 hb2 hs
  go_enter Try.func4, Try.ntmps4
  go_wp2_with fail
  refine HM.out.mono ?_
  rintro e w3 ⟨r, ss, k, rfl, ho, ht, hb⟩
  replace B := bb B hb
  obtain ⟨rfl, rfl⟩ := ht.yes good_101 good_22
  rw [gold_gcd, qtxt_rdp good_11.2.1] at ho
  have t3 := one_text (Nat.le_refl w3.heap.size) one11 (by decide)
  have hb3 := (Below.refl w3.heap.size w3).alloc (Nat.le_refl _) (.cells #[.string ⟨#[49]⟩, .string ⟨#[49]⟩] 9)
  have HS := same_texts (ho.1.on hb3).txs t3.txs
  rw [decide_eq_true rfl] at HS
  have HS := hid HS
  replace B := bb B hb3
  clear ho hb hb3 t3 HM ht
  go_wp2_with fail
  refine HS.out.mono ?_
  rintro e w4 ⟨rfl, hb⟩
  replace B := bb B hb
  clear hb HS
  go_wp2_with fail
  go_ret
  exact ⟨rfl, B.out⟩

end Go.Proofs.Ytkenlaikhnoldaa

/-
  LAW: PgcdYun.
-/
namespace Go.Proofs.Ytkenlaikhnoldaa
open Go.RowKit
open Num
set_option linter.unusedVariables false
set_option maxRecDepth 100000
set_option linter.unusedSimpArgs false

set_option maxHeartbeats 8000000 in
theorem pyun_walk {w : World} {v_ : Value} {p : List ByteArray} (hp : TxsW w v_ p) (sp : Szs p) :
    Calls Try.prog 3 #[v_] w fun e w' => e = .returned (.bool true) ∧ Below w.heap.size w w' := by
  have hne := errv_neq
  have heq := errv_eql
  have hgd := errv_guard
  have h2_ := hp
  obtain ⟨pp, cp, rfl, hlp, hcp, _⟩ := h2_
  unfold maxLen at hcp
  have TXp := hid hp
  have SZp := hid sp
  have B := hid (Below.refl w.heap.size w)
  clear hp sp
  go_enter Try.func3, Try.ntmps3
  go_wp2_with fail
  refine (common_true _).mono ?_
  rintro e w1 ⟨rfl, b1⟩
  replace TXp := hid (TXp.out.on b1)
  replace B := bb B b1
  clear b1
  go_wp2_with fail
  refine (yun_any TXp.out SZp.out).mono ?_
  rintro e w2 ⟨r, n, k, rfl, hy, hown, hnil, b2⟩
  replace TXp := hid (TXp.out.on b2)
  replace B := bb B b2
  clear b2
  by_cases hk : k = 0
  · rcases hy with ⟨_, hg, hf, hk2⟩ | ⟨h, _⟩
    case inr => exact absurd hk h
    have HG := hid hg
    have HF := hid hf
    have HK := hid hk2
    obtain ⟨b0, rs, rfl, hb0, hn9, yr, hs, _⟩ := hown hk
    subst hk
    have YR := hid yr
    have HS := hid hs
    clear hg hf hk2 yr hs hown hnil hb0
    by_cases hp2 : p.length < 2
    · obtain rfl := y_zero HG.out.trm (by rw [rdp_len]; exact hp2) HK.out
      have hpi : (p.length : Int) < 2 := by omega
      go_wp2_with fail
      go_ret
      exact ⟨rfl, B.out⟩
    · have hpi : ¬ (p.length : Int) < 2 := by omega
      have hq2 : 2 ≤ (rdp p).length := by rw [rdp_len]; omega
      have HQ0 := hid (show rdp p ≠ [] by intro e; rw [e] at hq2; simp at hq2)
      obtain ⟨j, rfl⟩ : ∃ j, n = j + 1 := ⟨n - 1, by have := y_pos HG.out.trm hq2 HF.out; omega⟩
      have HLA := hid (y_last HG.out.trm HQ0.out HF.out (HK.out j (by omega)))
      clear hq2
      go_wp2_with fail
      refine (monic_any TXp.out SZp.out).mono ?_
      rintro e w3 ⟨vm, ms, km, rfl, om, tm, b3⟩
      obtain ⟨rfl, em⟩ := tm.yes HG.out
      replace YR := hid (YR.out.on b3)
      replace HS : Hid (∀ t, t < j + 1 → OwnS w3 (b0 + 1) (rs t) ((yf (rdp p) t).map qtxt)) := hid (fun t ht => (HS.out t ht).on b3)
      replace B := bb B b3
      have TFm := hid om.1.txs
      have EM := hid em
      clear b3 om tm em
      obtain ⟨pj, cj, cdj, _, _⟩ := y_at YR.out HS.out (Below.refl _ _) (i := j) (by omega)
      have hjl : ¬ (((yf (rdp p) j).length : Nat) : Int) < 2 := by have := HLA.out; omega
      have hjl2 : ¬ (yf (rdp p) j).length < 2 := by have := HLA.out; omega
      have hj0 : (0 : Int) ≤ (j : Int) := by omega
      have hj1 : (j : Int) < (j : Int) + 1 := by omega
      have hjz : ((j : Int) + 1 == 0) = false := by rw [beq_eq_false_iff_ne]; omega
      have t1 := one_text (Nat.le_refl w3.heap.size) [⟨#[49]⟩] (by decide)
      have hb4 := (Below.refl w3.heap.size w3).alloc (Nat.le_refl _) (.cells #[.string ⟨#[49]⟩] 9)
      have HA0 := hid (show TxsW (w3.alloc (.cells #[.string ⟨#[49]⟩] 9)) (.slice (some ⟨w3.heap.size, 0, none⟩) 1 1) [⟨#[49]⟩] ∧ Txs (w3.alloc (.cells #[.string ⟨#[49]⟩] 9)) (.slice (some ⟨w3.heap.size, 0, none⟩) 1 1) [⟨#[49]⟩] ∧ Szs [⟨#[49]⟩] from ⟨t1.txs.weak, t1.txs, fun i hi => by
        obtain rfl : i = 0 := by simp at hi; exact hi
        decide⟩)
      have EA0 := hid one_is
      replace YR := hid (YR.out.on hb4)
      replace HS : Hid (∀ t, t < j + 1 → OwnS _ (b0 + 1) (rs t) ((yf (rdp p) t).map qtxt)) := hid (fun t ht => (HS.out t ht).on hb4)
      replace TFm := hid (TFm.out.on hb4)
      replace B := bb B hb4
      clear t1 hb4
      go_wp2_with fail
      generalize hW : w3.alloc (.cells #[.string ⟨#[49]⟩] 9) = wa at *
      clear hW cdj hjl hjl2
      have BA := hid (Below.refl wa.heap.size wa)
      go_loopw [8, 9] (fun x y wr => ∃ (i : Nat) (al : List ByteArray), i ≤ j + 1 ∧ y = .int .i64 i ∧ Hid (TxsW wr x al ∧ Txs wr x al ∧ Szs al) ∧ Hid (al = (ypr (rdp p) i).map qtxt) ∧ Hid (Below wa.heap.size wa wr)) (fun _ y _ => j + 1 - (intOf y).toNat)
      case atStart => exact ⟨0, _, by omega, rfl, HA0, EA0, BA⟩
      case round =>
        clear BA HA0 EA0
        obtain ⟨i, al, hi, rfl, HA, EA, BA⟩ := hrel
        obtain ⟨px, cx, rfl, _, _, _⟩ := HA.out.1
        by_cases hlt : i < j + 1
        · have HLT := hid hlt
          have hii : (i : Int) < (j : Int) + 1 := by omega
          have hi0 : (0 : Int) ≤ (i : Int) := by omega
          go_wp2_with fail
          go_loopw [8, 10] (fun x z wr => ∃ (k : Nat) (al : List ByteArray), k ≤ i + 1 ∧ z = .int .i64 k ∧ Hid (TxsW wr x al ∧ Txs wr x al ∧ Szs al) ∧ Hid (al = (mulp (ypr (rdp p) i) (powp (yf (rdp p) i) k)).map qtxt) ∧ Hid (Below wa.heap.size wa wr)) (fun _ z _ => i + 1 - (intOf z).toNat)
          case atStart => exact ⟨0, al, by omega, rfl, HA, hid (EA.out.trans (congrArg (List.map qtxt) (mulp_one_r (ypr_mnc HG.out.trm HQ0.out i).trm).symm)), BA⟩
          case round =>
            clear BA HA EA
            obtain ⟨k, al, hk, rfl, HA, EA, BA⟩ := hrel
            obtain ⟨px, cx, rfl, _, _, _⟩ := HA.out.1
            obtain ⟨pi, ci, cdi, txi, szi⟩ := y_at YR.out HS.out BA.out (i := i) hlt
            have TXi := hid txi
            have SZi := hid szi
            clear txi szi
            by_cases hltk : k < i + 1
            · have hki : (k : Int) ≤ (i : Int) := by omega
              have hki2 : k ≤ i := by omega
              go_wp2_with fail
              refine (pmuls_any HA.out.1 TXi.out HA.out.2.2 SZi.out).mono ?_
              rintro e w5 ⟨v5, ss, k5, rfl, o5, t5, b5⟩
              have T5 := hid t5
              have HA5 := hid (show TxsW w5 v5 ss ∧ Txs w5 v5 ss ∧ Szs ss from ⟨o5.1.txs.weak, o5.1.txs, o5.2⟩)
              replace HA := hid (show TxsW w5 _ al ∧ Txs w5 _ al ∧ Szs al from ⟨HA.out.1.on b5, HA.out.2.1.on b5, HA.out.2.2⟩)
              replace TXi := hid (TXi.out.on b5)
              replace cdi := (b5.cell (p := ⟨b0, i, none⟩) (YR.out.on BA.out).lt).trans cdi
              replace BA := bb BA b5
              clear t5 o5 b5
              by_cases hk5 : k5 = 0
              · obtain ⟨_, _, e5⟩ := T5.out.ok hk5
                have EA5 := hid (show ss = (mulp (ypr (rdp p) i) (powp (yf (rdp p) i) (k + 1))).map qtxt by
                  rw [e5, EA.out, rdp_map, rdp_map, mulp_assoc]; rfl)
                subst hk5
                clear e5
                go_wp2_with fail
                go_roundw
                case rel => exact ⟨k + 1, ss, by omega, by go_num, HA5, EA5, BA⟩
                case measure => simp [intOf]; omega
              · have f5 : (k5 != 0) = true := by simpa using hk5
                go_wp2_with fail
                refine (pcheck_any HA.out.1 HA.out.2.2).mono ?_
                rintro e w6 ⟨k6, rfl, t6, b6⟩
                have T6 := hid t6
                replace TXi := hid (TXi.out.on b6)
                replace cdi := (b6.cell (p := ⟨b0, i, none⟩) (YR.out.on BA.out).lt).trans cdi
                replace BA := bb BA b6
                clear t6 b6
                by_cases hk6 : k6 = 0
                · have hga : GoodP al := by
                    rcases T6.out with ⟨_, h⟩ | ⟨h, _⟩
                    · exact h
                    · exact absurd hk6 h
                  have hbi := hid (T5.out.sub hk5 hga)
                  subst hk6
                  clear hga
                  go_wp2_with fail
                  refine (pcheck_any TXi.out SZi.out).mono ?_
                  rintro e w7 ⟨k7, rfl, t7, b7⟩
                  have hk7 : k7 ≠ 0 := fun e => by
                    rcases t7 with ⟨_, h⟩ | ⟨h, _⟩
                    · exact hbi.out h
                    · exact h e
                  have f7 : (k7 != 0) = true := by simpa using hk7
                  replace BA := bb BA b7
                  clear t7 b7
                  go_wp2_with fail
                  go_ret
                  exact ⟨rfl, B.out.trans (BA.out.mono B.out.size)⟩
                · have f6 : (k6 != 0) = true := by simpa using hk6
                  go_wp2_with fail
                  go_ret
                  exact ⟨rfl, B.out.trans (BA.out.mono B.out.size)⟩
            · obtain rfl : k = i + 1 := by omega
              have hki : ¬ ((i : Int) + 1 ≤ (i : Int)) := by omega
              go_wp2_with fail
              refine (pderivs_any TXi.out SZi.out).mono ?_
              rintro e w5 ⟨v5, ds, k5, rfl, o5, t5, b5⟩
              have T5 := hid t5
              have TXd := hid o5.1.txs.weak
              have SZd := hid o5.2
              replace HA := hid (show TxsW w5 _ al ∧ Txs w5 _ al ∧ Szs al from ⟨HA.out.1.on b5, HA.out.2.1.on b5, HA.out.2.2⟩)
              replace TXi := hid (TXi.out.on b5)
              replace cdi := (b5.cell (p := ⟨b0, i, none⟩) (YR.out.on BA.out).lt).trans cdi
              replace BA := bb BA b5
              clear t5 o5 b5
              go_wp2_with fail
              refine (gcd_any TXi.out TXd.out SZi.out SZd.out).mono ?_
              rintro e w6 ⟨v6, gs, k6, rfl, o6, t6, b6⟩
              have T6 := hid t6
              have TXg := hid o6.1.txs
              replace HA := hid (show TxsW w6 _ al ∧ Txs w6 _ al ∧ Szs al from ⟨HA.out.1.on b6, HA.out.2.1.on b6, HA.out.2.2⟩)
              replace BA := bb BA b6
              clear t6 o6 b6 TXi TXd cdi SZd SZi
              obtain ⟨pg, cg, rfl, _, _, _⟩ := TXg.out
              by_cases hk5 : k5 = 0
              · by_cases hk6 : k6 = 0
                · have hgl : gs.length = 1 := by
                    obtain ⟨_, e5⟩ := T5.out.ok hk5
                    rw [(T6.out.ok hk6).2.2, e5, rdp_map, rdp_map, yf_sqfree HG.out.trm HQ0.out i]; rfl
                  subst hk5
                  subst hk6
                  rw [hgl]
                  clear hgl T5 T6 TXg
                  go_wp2_with fail
                  go_loopw [17] (fun z wr => ∃ k : Nat, k ≤ i ∧ z = .int .i64 k ∧ Hid (TxsW wr (.slice px al.length cx) al ∧ Txs wr (.slice px al.length cx) al ∧ Szs al) ∧ Hid (Below wa.heap.size wa wr)) (fun z _ => i - (intOf z).toNat)
                  case atStart => exact ⟨0, by omega, rfl, HA, BA⟩
                  case round =>
                    clear BA HA
                    obtain ⟨k, hk, rfl, HA, BA⟩ := hrel
                    by_cases hltk : k < i
                    · have HKI := hid hltk
                      have hkii : (k : Int) < (i : Int) := by omega
                      obtain ⟨pi, ci, cdi, txi, szi⟩ := y_at YR.out HS.out BA.out (i := i) hlt
                      obtain ⟨pk, ck, cdk, txk, szk⟩ := y_at YR.out HS.out BA.out (i := k) (by omega)
                      have TXi := hid txi
                      have SZi := hid szi
                      have TXk := hid txk
                      have SZk := hid szk
                      have CI := hid cdi
                      have CK := hid cdk
                      have LB := hid (YR.out.on BA.out).lt
                      clear txi szi txk szk cdi cdk
                      go_upto_region 30 with fail
                      refine region_ops (by kernel_rfl) (by kernel_rfl) (fun a f a' w' => ∃ u18 u19 u130 u131 u132 u133 u134 u135 u136 u137 u138 u139 u140 u141 vr ve : Value, a' = { tmps := ((((((((((((((a.tmps.setIfInBounds 18 u18).setIfInBounds 19 u19).setIfInBounds 130 u130).setIfInBounds 131 u131).setIfInBounds 132 u132).setIfInBounds 133 u133).setIfInBounds 134 u134).setIfInBounds 135 u135).setIfInBounds 136 u136).setIfInBounds 137 u137).setIfInBounds 138 u138).setIfInBounds 139 u139).setIfInBounds 140 u140).setIfInBounds 141 u141), defers := a.defers } ∧ Hid (Below wr.heap.size wr w') ∧ Hid (f 0 = true → u131 = .slice (some ⟨b0, 0, none⟩) (j + 1) (j + 1)) ∧ Hid (f 1 = true → u132 = .int .i64 (i : Int)) ∧ Hid (f 2 = true → u133 = .pointer (some ⟨b0, i, none⟩)) ∧ Hid (f 3 = true → u134 = .slice pi (yf (rdp p) i).length ci) ∧ Hid (f 4 = true → u135 = .slice (some ⟨b0, 0, none⟩) (j + 1) (j + 1)) ∧ Hid (f 5 = true → u136 = .int .i64 (k : Int)) ∧ Hid (f 6 = true → u137 = .pointer (some ⟨b0, k, none⟩)) ∧ Hid (f 7 = true → u138 = .slice pk (yf (rdp p) k).length ck) ∧ Hid (f 8 = true → (u139 = .tuple #[vr, ve] ∧ ∃ ss kk, ve = errv kk ∧ Txs w' vr ss ∧ PTells gcdp ((yf (rdp p) i).map qtxt) ((yf (rdp p) k).map qtxt) ss kk)) ∧ Hid (f 9 = true → u130 = .tuple #[vr, ve]) ∧ Hid (f 10 = true → u140 = vr) ∧ Hid (f 11 = true → u141 = ve) ∧ Hid (f 12 = true → u18 = vr) ∧ Hid (f 13 = true → u19 = ve) ∧ (f 9 = true → f 8 = true) ∧ (f 10 = true → f 9 = true) ∧ (f 11 = true → f 9 = true) ∧ (f 12 = true → f 10 = true) ∧ (f 13 = true → f 11 = true)) ?h0 ⟨?s0, ?s1, ?s2, ?s3, ?s4, ?s5, ?s6, ?s7, ?s8, ?s9, ?s10, ?s11, ?s12, ?s13, trivial⟩ ?hend
                      case h0 =>
                        simp only [List.setIfInBounds_toArray, List.set_cons_zero, List.set_cons_succ]
                        exact ⟨_, _, _, _, _, _, _, _, _, _, _, _, _, _, .nilIface, .nilIface, rfl, hid (Below.drew (Below.refl _ _)), hid (fun h => by cases h), hid (fun h => by cases h), hid (fun h => by cases h), hid (fun h => by cases h), hid (fun h => by cases h), hid (fun h => by cases h), hid (fun h => by cases h), hid (fun h => by cases h), hid (fun h => by cases h), hid (fun h => by cases h), hid (fun h => by cases h), hid (fun h => by cases h), hid (fun h => by cases h), hid (fun h => by cases h), fun h => h, fun h => h, fun h => h, fun h => h, fun h => h⟩
                      case s0 =>
                        rintro f a1 w1 ⟨u18, u19, u130, u131, u132, u133, u134, u135, u136, u137, u138, u139, u140, u141, vr, ve, rfl, HBW, h0, h1, h2, h3, h4, h5, h6, h7, h8, h9, h10, h11, h12, h13, o9_8, o10_9, o11_9, o12_10, o13_11⟩ hf hd K hK
                        simp only [List.setIfInBounds_toArray, List.set_cons_zero, List.set_cons_succ] at hK ⊢
                        replace hK := hid hK
                        go_simp
                        exact hK.out _ _ ⟨_, _, _, _, _, _, _, _, _, _, _, _, _, _, vr, ve, rfl, HBW, hid (fun h => rfl), hid (fun h => h1.out h), hid (fun h => h2.out h), hid (fun h => h3.out h), hid (fun h => h4.out h), hid (fun h => h5.out h), hid (fun h => h6.out h), hid (fun h => h7.out h), hid (fun h => h8.out h), hid (fun h => h9.out h), hid (fun h => h10.out h), hid (fun h => h11.out h), hid (fun h => h12.out h), hid (fun h => h13.out h), fun h => o9_8 h, fun h => o10_9 h, fun h => o11_9 h, fun h => o12_10 h, fun h => o13_11 h⟩
                      case s1 =>
                        rintro f a1 w1 ⟨u18, u19, u130, u131, u132, u133, u134, u135, u136, u137, u138, u139, u140, u141, vr, ve, rfl, HBW, h0, h1, h2, h3, h4, h5, h6, h7, h8, h9, h10, h11, h12, h13, o9_8, o10_9, o11_9, o12_10, o13_11⟩ hf hd K hK
                        simp only [List.setIfInBounds_toArray, List.set_cons_zero, List.set_cons_succ] at hK ⊢
                        replace hK := hid hK
                        go_simp
                        exact hK.out _ _ ⟨_, _, _, _, _, _, _, _, _, _, _, _, _, _, vr, ve, rfl, HBW, hid (fun h => h0.out h), hid (fun h => rfl), hid (fun h => h2.out h), hid (fun h => h3.out h), hid (fun h => h4.out h), hid (fun h => h5.out h), hid (fun h => h6.out h), hid (fun h => h7.out h), hid (fun h => h8.out h), hid (fun h => h9.out h), hid (fun h => h10.out h), hid (fun h => h11.out h), hid (fun h => h12.out h), hid (fun h => h13.out h), fun h => o9_8 h, fun h => o10_9 h, fun h => o11_9 h, fun h => o12_10 h, fun h => o13_11 h⟩
                      case s2 =>
                        rintro f a1 w1 ⟨u18, u19, u130, u131, u132, u133, u134, u135, u136, u137, u138, u139, u140, u141, vr, ve, rfl, HBW, h0, h1, h2, h3, h4, h5, h6, h7, h8, h9, h10, h11, h12, h13, o9_8, o10_9, o11_9, o12_10, o13_11⟩ hf hd K hK
                        simp only [List.setIfInBounds_toArray, List.set_cons_zero, List.set_cons_succ] at hK ⊢
                        replace hK := hid hK
                        simp [Region.binds] at hd
                        obtain rfl := h0.out (by simp only [hd])
                        obtain rfl := h1.out (by simp only [hd])
                        have hii : (i : Int) < (j : Int) + 1 := by have := HLT.out; omega
                        go_simp
                        exact hK.out _ _ ⟨_, _, _, _, _, _, _, _, _, _, _, _, _, _, vr, ve, rfl, HBW, hid (fun h => rfl), hid (fun h => rfl), hid (fun h => rfl), hid (fun h => h3.out h), hid (fun h => h4.out h), hid (fun h => h5.out h), hid (fun h => h6.out h), hid (fun h => h7.out h), hid (fun h => h8.out h), hid (fun h => h9.out h), hid (fun h => h10.out h), hid (fun h => h11.out h), hid (fun h => h12.out h), hid (fun h => h13.out h), fun h => o9_8 h, fun h => o10_9 h, fun h => o11_9 h, fun h => o12_10 h, fun h => o13_11 h⟩
                      case s3 =>
                        rintro f a1 w1 ⟨u18, u19, u130, u131, u132, u133, u134, u135, u136, u137, u138, u139, u140, u141, vr, ve, rfl, HBW, h0, h1, h2, h3, h4, h5, h6, h7, h8, h9, h10, h11, h12, h13, o9_8, o10_9, o11_9, o12_10, o13_11⟩ hf hd K hK
                        simp only [List.setIfInBounds_toArray, List.set_cons_zero, List.set_cons_succ] at hK ⊢
                        replace hK := hid hK
                        simp [Region.binds] at hd
                        obtain rfl := h2.out (by simp only [hd])
                        have y1 := (HBW.out.cell (p := ⟨b0, i, none⟩) LB.out).trans CI.out
                        go_simp
                        exact hK.out _ _ ⟨_, _, _, _, _, _, _, _, _, _, _, _, _, _, vr, ve, rfl, HBW, hid (fun h => h0.out h), hid (fun h => h1.out h), hid (fun h => rfl), hid (fun h => rfl), hid (fun h => h4.out h), hid (fun h => h5.out h), hid (fun h => h6.out h), hid (fun h => h7.out h), hid (fun h => h8.out h), hid (fun h => h9.out h), hid (fun h => h10.out h), hid (fun h => h11.out h), hid (fun h => h12.out h), hid (fun h => h13.out h), fun h => o9_8 h, fun h => o10_9 h, fun h => o11_9 h, fun h => o12_10 h, fun h => o13_11 h⟩
                      case s4 =>
                        rintro f a1 w1 ⟨u18, u19, u130, u131, u132, u133, u134, u135, u136, u137, u138, u139, u140, u141, vr, ve, rfl, HBW, h0, h1, h2, h3, h4, h5, h6, h7, h8, h9, h10, h11, h12, h13, o9_8, o10_9, o11_9, o12_10, o13_11⟩ hf hd K hK
                        simp only [List.setIfInBounds_toArray, List.set_cons_zero, List.set_cons_succ] at hK ⊢
                        replace hK := hid hK
                        go_simp
                        exact hK.out _ _ ⟨_, _, _, _, _, _, _, _, _, _, _, _, _, _, vr, ve, rfl, HBW, hid (fun h => h0.out h), hid (fun h => h1.out h), hid (fun h => h2.out h), hid (fun h => h3.out h), hid (fun h => rfl), hid (fun h => h5.out h), hid (fun h => h6.out h), hid (fun h => h7.out h), hid (fun h => h8.out h), hid (fun h => h9.out h), hid (fun h => h10.out h), hid (fun h => h11.out h), hid (fun h => h12.out h), hid (fun h => h13.out h), fun h => o9_8 h, fun h => o10_9 h, fun h => o11_9 h, fun h => o12_10 h, fun h => o13_11 h⟩
                      case s5 =>
                        rintro f a1 w1 ⟨u18, u19, u130, u131, u132, u133, u134, u135, u136, u137, u138, u139, u140, u141, vr, ve, rfl, HBW, h0, h1, h2, h3, h4, h5, h6, h7, h8, h9, h10, h11, h12, h13, o9_8, o10_9, o11_9, o12_10, o13_11⟩ hf hd K hK
                        simp only [List.setIfInBounds_toArray, List.set_cons_zero, List.set_cons_succ] at hK ⊢
                        replace hK := hid hK
                        go_simp
                        exact hK.out _ _ ⟨_, _, _, _, _, _, _, _, _, _, _, _, _, _, vr, ve, rfl, HBW, hid (fun h => h0.out h), hid (fun h => h1.out h), hid (fun h => h2.out h), hid (fun h => h3.out h), hid (fun h => h4.out h), hid (fun h => rfl), hid (fun h => h6.out h), hid (fun h => h7.out h), hid (fun h => h8.out h), hid (fun h => h9.out h), hid (fun h => h10.out h), hid (fun h => h11.out h), hid (fun h => h12.out h), hid (fun h => h13.out h), fun h => o9_8 h, fun h => o10_9 h, fun h => o11_9 h, fun h => o12_10 h, fun h => o13_11 h⟩
                      case s6 =>
                        rintro f a1 w1 ⟨u18, u19, u130, u131, u132, u133, u134, u135, u136, u137, u138, u139, u140, u141, vr, ve, rfl, HBW, h0, h1, h2, h3, h4, h5, h6, h7, h8, h9, h10, h11, h12, h13, o9_8, o10_9, o11_9, o12_10, o13_11⟩ hf hd K hK
                        simp only [List.setIfInBounds_toArray, List.set_cons_zero, List.set_cons_succ] at hK ⊢
                        replace hK := hid hK
                        simp [Region.binds] at hd
                        obtain rfl := h4.out (by simp only [hd])
                        obtain rfl := h5.out (by simp only [hd])
                        have hii : (k : Int) < (j : Int) + 1 := by have := HLT.out; have := HKI.out; omega
                        go_simp
                        exact hK.out _ _ ⟨_, _, _, _, _, _, _, _, _, _, _, _, _, _, vr, ve, rfl, HBW, hid (fun h => h0.out h), hid (fun h => h1.out h), hid (fun h => h2.out h), hid (fun h => h3.out h), hid (fun h => rfl), hid (fun h => rfl), hid (fun h => rfl), hid (fun h => h7.out h), hid (fun h => h8.out h), hid (fun h => h9.out h), hid (fun h => h10.out h), hid (fun h => h11.out h), hid (fun h => h12.out h), hid (fun h => h13.out h), fun h => o9_8 h, fun h => o10_9 h, fun h => o11_9 h, fun h => o12_10 h, fun h => o13_11 h⟩
                      case s7 =>
                        rintro f a1 w1 ⟨u18, u19, u130, u131, u132, u133, u134, u135, u136, u137, u138, u139, u140, u141, vr, ve, rfl, HBW, h0, h1, h2, h3, h4, h5, h6, h7, h8, h9, h10, h11, h12, h13, o9_8, o10_9, o11_9, o12_10, o13_11⟩ hf hd K hK
                        simp only [List.setIfInBounds_toArray, List.set_cons_zero, List.set_cons_succ] at hK ⊢
                        replace hK := hid hK
                        simp [Region.binds] at hd
                        obtain rfl := h6.out (by simp only [hd])
                        have y1 := (HBW.out.cell (p := ⟨b0, k, none⟩) LB.out).trans CK.out
                        go_simp
                        exact hK.out _ _ ⟨_, _, _, _, _, _, _, _, _, _, _, _, _, _, vr, ve, rfl, HBW, hid (fun h => h0.out h), hid (fun h => h1.out h), hid (fun h => h2.out h), hid (fun h => h3.out h), hid (fun h => h4.out h), hid (fun h => h5.out h), hid (fun h => rfl), hid (fun h => rfl), hid (fun h => h8.out h), hid (fun h => h9.out h), hid (fun h => h10.out h), hid (fun h => h11.out h), hid (fun h => h12.out h), hid (fun h => h13.out h), fun h => o9_8 h, fun h => o10_9 h, fun h => o11_9 h, fun h => o12_10 h, fun h => o13_11 h⟩
                      case s8 =>
                        rintro f a1 w1 ⟨u18, u19, u130, u131, u132, u133, u134, u135, u136, u137, u138, u139, u140, u141, vr, ve, rfl, HBW, h0, h1, h2, h3, h4, h5, h6, h7, h8, h9, h10, h11, h12, h13, o9_8, o10_9, o11_9, o12_10, o13_11⟩ hf hd K hK
                        simp only [List.setIfInBounds_toArray, List.set_cons_zero, List.set_cons_succ] at hK ⊢
                        replace hK := hid hK
                        simp [Region.binds] at hd
                        obtain rfl := h3.out (by simp only [hd])
                        obtain rfl := h7.out (by simp only [hd])
                        go_simp
                        refine (gcd_any (TXi.out.on HBW.out) (TXk.out.on HBW.out) SZi.out SZk.out).mono ?_
                        rintro e w2 ⟨vr, ss, kk, rfl, ho, ht, hb⟩
                        go_wp2_with fail
                        exact hK.out _ _ ⟨_, _, _, _, _, _, _, _, _, _, _, _, _, _, vr, errv kk, rfl, hid (below_next HBW.out hb), hid (fun h => h0.out h), hid (fun h => h1.out h), hid (fun h => h2.out h), hid (fun h => rfl), hid (fun h => h4.out h), hid (fun h => h5.out h), hid (fun h => h6.out h), hid (fun h => rfl), hid (fun h => ⟨rfl, ss, kk, rfl, ho.1.txs, ht⟩), hid (fun h => absurd (o9_8 h) (by rw [hf]; decide)), hid (fun h => absurd (o9_8 (o10_9 h)) (by rw [hf]; decide)), hid (fun h => absurd (o9_8 (o11_9 h)) (by rw [hf]; decide)), hid (fun h => absurd (o9_8 (o10_9 (o12_10 h))) (by rw [hf]; decide)), hid (fun h => absurd (o9_8 (o11_9 (o13_11 h))) (by rw [hf]; decide)), fun _ => rfl, fun h => o10_9 h, fun h => o11_9 h, fun h => o12_10 h, fun h => o13_11 h⟩
                      case s9 =>
                        rintro f a1 w1 ⟨u18, u19, u130, u131, u132, u133, u134, u135, u136, u137, u138, u139, u140, u141, vr, ve, rfl, HBW, h0, h1, h2, h3, h4, h5, h6, h7, h8, h9, h10, h11, h12, h13, o9_8, o10_9, o11_9, o12_10, o13_11⟩ hf hd K hK
                        simp only [List.setIfInBounds_toArray, List.set_cons_zero, List.set_cons_succ] at hK ⊢
                        replace hK := hid hK
                        simp [Region.binds] at hd
                        have h8a := h8.out (by simp only [hd])
                        obtain ⟨e8, r8⟩ := h8a
                        subst e8
                        go_simp
                        exact hK.out _ _ ⟨_, _, _, _, _, _, _, _, _, _, _, _, _, _, vr, ve, rfl, HBW, hid (fun h => h0.out h), hid (fun h => h1.out h), hid (fun h => h2.out h), hid (fun h => h3.out h), hid (fun h => h4.out h), hid (fun h => h5.out h), hid (fun h => h6.out h), hid (fun h => h7.out h), hid (fun h => h8.out h), hid (fun h => rfl), hid (fun h => h10.out h), hid (fun h => h11.out h), hid (fun h => h12.out h), hid (fun h => h13.out h), fun _ => (show f 8 = true from by simp only [hd]), fun _ => rfl, fun _ => rfl, fun h => o12_10 h, fun h => o13_11 h⟩
                      case s10 =>
                        rintro f a1 w1 ⟨u18, u19, u130, u131, u132, u133, u134, u135, u136, u137, u138, u139, u140, u141, vr, ve, rfl, HBW, h0, h1, h2, h3, h4, h5, h6, h7, h8, h9, h10, h11, h12, h13, o9_8, o10_9, o11_9, o12_10, o13_11⟩ hf hd K hK
                        simp only [List.setIfInBounds_toArray, List.set_cons_zero, List.set_cons_succ] at hK ⊢
                        replace hK := hid hK
                        simp [Region.binds] at hd
                        obtain rfl := h9.out (by simp only [hd])
                        go_simp
                        exact hK.out _ _ ⟨_, _, _, _, _, _, _, _, _, _, _, _, _, _, vr, ve, rfl, HBW, hid (fun h => h0.out h), hid (fun h => h1.out h), hid (fun h => h2.out h), hid (fun h => h3.out h), hid (fun h => h4.out h), hid (fun h => h5.out h), hid (fun h => h6.out h), hid (fun h => h7.out h), hid (fun h => h8.out h), hid (fun h => rfl), hid (fun h => rfl), hid (fun h => h11.out h), hid (fun h => h12.out h), hid (fun h => h13.out h), fun h => o9_8 h, fun _ => (show f 9 = true from by simp only [hd]), fun h => o11_9 h, fun _ => rfl, fun h => o13_11 h⟩
                      case s11 =>
                        rintro f a1 w1 ⟨u18, u19, u130, u131, u132, u133, u134, u135, u136, u137, u138, u139, u140, u141, vr, ve, rfl, HBW, h0, h1, h2, h3, h4, h5, h6, h7, h8, h9, h10, h11, h12, h13, o9_8, o10_9, o11_9, o12_10, o13_11⟩ hf hd K hK
                        simp only [List.setIfInBounds_toArray, List.set_cons_zero, List.set_cons_succ] at hK ⊢
                        replace hK := hid hK
                        simp [Region.binds] at hd
                        obtain rfl := h9.out (by simp only [hd])
                        go_simp
                        exact hK.out _ _ ⟨_, _, _, _, _, _, _, _, _, _, _, _, _, _, vr, ve, rfl, HBW, hid (fun h => h0.out h), hid (fun h => h1.out h), hid (fun h => h2.out h), hid (fun h => h3.out h), hid (fun h => h4.out h), hid (fun h => h5.out h), hid (fun h => h6.out h), hid (fun h => h7.out h), hid (fun h => h8.out h), hid (fun h => rfl), hid (fun h => h10.out h), hid (fun h => rfl), hid (fun h => h12.out h), hid (fun h => h13.out h), fun h => o9_8 h, fun h => o10_9 h, fun _ => (show f 9 = true from by simp only [hd]), fun h => o12_10 h, fun _ => rfl⟩
                      case s12 =>
                        rintro f a1 w1 ⟨u18, u19, u130, u131, u132, u133, u134, u135, u136, u137, u138, u139, u140, u141, vr, ve, rfl, HBW, h0, h1, h2, h3, h4, h5, h6, h7, h8, h9, h10, h11, h12, h13, o9_8, o10_9, o11_9, o12_10, o13_11⟩ hf hd K hK
                        simp only [List.setIfInBounds_toArray, List.set_cons_zero, List.set_cons_succ] at hK ⊢
                        replace hK := hid hK
                        simp [Region.binds] at hd
                        have e10 := h10.out (by simp only [hd])
                        go_simp
                        exact hK.out _ _ ⟨_, _, _, _, _, _, _, _, _, _, _, _, _, _, vr, ve, rfl, HBW, hid (fun h => h0.out h), hid (fun h => h1.out h), hid (fun h => h2.out h), hid (fun h => h3.out h), hid (fun h => h4.out h), hid (fun h => h5.out h), hid (fun h => h6.out h), hid (fun h => h7.out h), hid (fun h => h8.out h), hid (fun h => h9.out h), hid (fun h => rfl), hid (fun h => h11.out h), hid (fun h => rfl), hid (fun h => h13.out h), fun h => o9_8 h, fun h => o10_9 h, fun h => o11_9 h, fun _ => (show f 10 = true from by simp only [hd]), fun h => o13_11 h⟩
                      case s13 =>
                        rintro f a1 w1 ⟨u18, u19, u130, u131, u132, u133, u134, u135, u136, u137, u138, u139, u140, u141, vr, ve, rfl, HBW, h0, h1, h2, h3, h4, h5, h6, h7, h8, h9, h10, h11, h12, h13, o9_8, o10_9, o11_9, o12_10, o13_11⟩ hf hd K hK
                        simp only [List.setIfInBounds_toArray, List.set_cons_zero, List.set_cons_succ] at hK ⊢
                        replace hK := hid hK
                        simp [Region.binds] at hd
                        have e11 := h11.out (by simp only [hd])
                        go_simp
                        exact hK.out _ _ ⟨_, _, _, _, _, _, _, _, _, _, _, _, _, _, vr, ve, rfl, HBW, hid (fun h => h0.out h), hid (fun h => h1.out h), hid (fun h => h2.out h), hid (fun h => h3.out h), hid (fun h => h4.out h), hid (fun h => h5.out h), hid (fun h => h6.out h), hid (fun h => h7.out h), hid (fun h => h8.out h), hid (fun h => h9.out h), hid (fun h => h10.out h), hid (fun h => rfl), hid (fun h => h12.out h), hid (fun h => rfl), fun h => o9_8 h, fun h => o10_9 h, fun h => o11_9 h, fun h => o12_10 h, fun _ => (show f 11 = true from by simp only [hd])⟩
                      case hend =>
                        rintro f a1 w' ⟨u18, u19, u130, u131, u132, u133, u134, u135, u136, u137, u138, u139, u140, u141, vr, ve, rfl, HBW, h0, h1, h2, h3, h4, h5, h6, h7, h8, h9, h10, h11, h12, h13, _⟩ hall
                        simp only [List.setIfInBounds_toArray, List.set_cons_zero, List.set_cons_succ]
                        obtain ⟨_, ss, kk, eve, htx, ht⟩ := h8.out (hall 8 (by decide))
                        obtain rfl := h12.out (hall 12 (by decide))
                        obtain rfl := h13.out (hall 13 (by decide))
                        subst eve
                        have T8 := hid ht
                        have TX8 := hid htx
                        replace HA := hid (show TxsW w' _ al ∧ Txs w' _ al ∧ Szs al from ⟨HA.out.1.on HBW.out, HA.out.2.1.on HBW.out, HA.out.2.2⟩)
                        replace BA := bb BA HBW.out
                        clear HBW hall ht htx h0 h1 h2 h3 h4 h5 h6 h7 h8 h9 h10 h11 h12 h13 TXi TXk CI CK LB
                        obtain ⟨p8, c8, rfl, _, _, _⟩ := TX8.out
                        by_cases hk8 : kk = 0
                        · have hsl : ss.length = 1 := by
                            rw [(T8.out.ok hk8).2.2, rdp_map, rdp_map, yf_apart HG.out.trm HQ0.out (by have := HKI.out; omega)]; rfl
                          subst hk8
                          rw [hsl]
                          clear hsl
                          go_wp2_with fail
                          go_roundw
                          case rel => exact ⟨k + 1, by omega, by go_num, HA, BA⟩
                          case measure => simp [intOf]; omega
                        · have f8 : (kk == 0) = false := by simpa using hk8
                          go_wp2_with fail
                          go_roundw
                          case rel => exact ⟨k + 1, by omega, by go_num, HA, BA⟩
                          case measure => simp [intOf]; omega
                    · obtain rfl : k = i := by omega
                      go_wp2_with fail
                      go_roundw
                      case rel => exact ⟨k + 1, al, by omega, by go_num, HA, EA, BA⟩
                      case measure => simp [intOf]; omega
                · have f6 : (k6 == 0) = false := by simpa using hk6
                  subst hk5
                  clear T5 T6 TXg
                  go_wp2_with fail
                  go_loopw [17] (fun z wr => ∃ k : Nat, k ≤ i ∧ z = .int .i64 k ∧ Hid (TxsW wr (.slice px al.length cx) al ∧ Txs wr (.slice px al.length cx) al ∧ Szs al) ∧ Hid (Below wa.heap.size wa wr)) (fun z _ => i - (intOf z).toNat)
                  case atStart => exact ⟨0, by omega, rfl, HA, BA⟩
                  case round =>
                    clear BA HA
                    obtain ⟨k, hk, rfl, HA, BA⟩ := hrel
                    by_cases hltk : k < i
                    · have HKI := hid hltk
                      have hkii : (k : Int) < (i : Int) := by omega
                      obtain ⟨pi, ci, cdi, txi, szi⟩ := y_at YR.out HS.out BA.out (i := i) hlt
                      obtain ⟨pk, ck, cdk, txk, szk⟩ := y_at YR.out HS.out BA.out (i := k) (by omega)
                      have TXi := hid txi
                      have SZi := hid szi
                      have TXk := hid txk
                      have SZk := hid szk
                      have CI := hid cdi
                      have CK := hid cdk
                      have LB := hid (YR.out.on BA.out).lt
                      clear txi szi txk szk cdi cdk
                      go_upto_region 30 with fail
                      refine region_ops (by kernel_rfl) (by kernel_rfl) (fun a f a' w' => ∃ u18 u19 u130 u131 u132 u133 u134 u135 u136 u137 u138 u139 u140 u141 vr ve : Value, a' = { tmps := ((((((((((((((a.tmps.setIfInBounds 18 u18).setIfInBounds 19 u19).setIfInBounds 130 u130).setIfInBounds 131 u131).setIfInBounds 132 u132).setIfInBounds 133 u133).setIfInBounds 134 u134).setIfInBounds 135 u135).setIfInBounds 136 u136).setIfInBounds 137 u137).setIfInBounds 138 u138).setIfInBounds 139 u139).setIfInBounds 140 u140).setIfInBounds 141 u141), defers := a.defers } ∧ Hid (Below wr.heap.size wr w') ∧ Hid (f 0 = true → u131 = .slice (some ⟨b0, 0, none⟩) (j + 1) (j + 1)) ∧ Hid (f 1 = true → u132 = .int .i64 (i : Int)) ∧ Hid (f 2 = true → u133 = .pointer (some ⟨b0, i, none⟩)) ∧ Hid (f 3 = true → u134 = .slice pi (yf (rdp p) i).length ci) ∧ Hid (f 4 = true → u135 = .slice (some ⟨b0, 0, none⟩) (j + 1) (j + 1)) ∧ Hid (f 5 = true → u136 = .int .i64 (k : Int)) ∧ Hid (f 6 = true → u137 = .pointer (some ⟨b0, k, none⟩)) ∧ Hid (f 7 = true → u138 = .slice pk (yf (rdp p) k).length ck) ∧ Hid (f 8 = true → (u139 = .tuple #[vr, ve] ∧ ∃ ss kk, ve = errv kk ∧ Txs w' vr ss ∧ PTells gcdp ((yf (rdp p) i).map qtxt) ((yf (rdp p) k).map qtxt) ss kk)) ∧ Hid (f 9 = true → u130 = .tuple #[vr, ve]) ∧ Hid (f 10 = true → u140 = vr) ∧ Hid (f 11 = true → u141 = ve) ∧ Hid (f 12 = true → u18 = vr) ∧ Hid (f 13 = true → u19 = ve) ∧ (f 9 = true → f 8 = true) ∧ (f 10 = true → f 9 = true) ∧ (f 11 = true → f 9 = true) ∧ (f 12 = true → f 10 = true) ∧ (f 13 = true → f 11 = true)) ?h0 ⟨?s0, ?s1, ?s2, ?s3, ?s4, ?s5, ?s6, ?s7, ?s8, ?s9, ?s10, ?s11, ?s12, ?s13, trivial⟩ ?hend
                      case h0 =>
                        simp only [List.setIfInBounds_toArray, List.set_cons_zero, List.set_cons_succ]
                        exact ⟨_, _, _, _, _, _, _, _, _, _, _, _, _, _, .nilIface, .nilIface, rfl, hid (Below.drew (Below.refl _ _)), hid (fun h => by cases h), hid (fun h => by cases h), hid (fun h => by cases h), hid (fun h => by cases h), hid (fun h => by cases h), hid (fun h => by cases h), hid (fun h => by cases h), hid (fun h => by cases h), hid (fun h => by cases h), hid (fun h => by cases h), hid (fun h => by cases h), hid (fun h => by cases h), hid (fun h => by cases h), hid (fun h => by cases h), fun h => h, fun h => h, fun h => h, fun h => h, fun h => h⟩
                      case s0 =>
                        rintro f a1 w1 ⟨u18, u19, u130, u131, u132, u133, u134, u135, u136, u137, u138, u139, u140, u141, vr, ve, rfl, HBW, h0, h1, h2, h3, h4, h5, h6, h7, h8, h9, h10, h11, h12, h13, o9_8, o10_9, o11_9, o12_10, o13_11⟩ hf hd K hK
                        simp only [List.setIfInBounds_toArray, List.set_cons_zero, List.set_cons_succ] at hK ⊢
                        replace hK := hid hK
                        go_simp
                        exact hK.out _ _ ⟨_, _, _, _, _, _, _, _, _, _, _, _, _, _, vr, ve, rfl, HBW, hid (fun h => rfl), hid (fun h => h1.out h), hid (fun h => h2.out h), hid (fun h => h3.out h), hid (fun h => h4.out h), hid (fun h => h5.out h), hid (fun h => h6.out h), hid (fun h => h7.out h), hid (fun h => h8.out h), hid (fun h => h9.out h), hid (fun h => h10.out h), hid (fun h => h11.out h), hid (fun h => h12.out h), hid (fun h => h13.out h), fun h => o9_8 h, fun h => o10_9 h, fun h => o11_9 h, fun h => o12_10 h, fun h => o13_11 h⟩
                      case s1 =>
                        rintro f a1 w1 ⟨u18, u19, u130, u131, u132, u133, u134, u135, u136, u137, u138, u139, u140, u141, vr, ve, rfl, HBW, h0, h1, h2, h3, h4, h5, h6, h7, h8, h9, h10, h11, h12, h13, o9_8, o10_9, o11_9, o12_10, o13_11⟩ hf hd K hK
                        simp only [List.setIfInBounds_toArray, List.set_cons_zero, List.set_cons_succ] at hK ⊢
                        replace hK := hid hK
                        go_simp
                        exact hK.out _ _ ⟨_, _, _, _, _, _, _, _, _, _, _, _, _, _, vr, ve, rfl, HBW, hid (fun h => h0.out h), hid (fun h => rfl), hid (fun h => h2.out h), hid (fun h => h3.out h), hid (fun h => h4.out h), hid (fun h => h5.out h), hid (fun h => h6.out h), hid (fun h => h7.out h), hid (fun h => h8.out h), hid (fun h => h9.out h), hid (fun h => h10.out h), hid (fun h => h11.out h), hid (fun h => h12.out h), hid (fun h => h13.out h), fun h => o9_8 h, fun h => o10_9 h, fun h => o11_9 h, fun h => o12_10 h, fun h => o13_11 h⟩
                      case s2 =>
                        rintro f a1 w1 ⟨u18, u19, u130, u131, u132, u133, u134, u135, u136, u137, u138, u139, u140, u141, vr, ve, rfl, HBW, h0, h1, h2, h3, h4, h5, h6, h7, h8, h9, h10, h11, h12, h13, o9_8, o10_9, o11_9, o12_10, o13_11⟩ hf hd K hK
                        simp only [List.setIfInBounds_toArray, List.set_cons_zero, List.set_cons_succ] at hK ⊢
                        replace hK := hid hK
                        simp [Region.binds] at hd
                        obtain rfl := h0.out (by simp only [hd])
                        obtain rfl := h1.out (by simp only [hd])
                        have hii : (i : Int) < (j : Int) + 1 := by have := HLT.out; omega
                        go_simp
                        exact hK.out _ _ ⟨_, _, _, _, _, _, _, _, _, _, _, _, _, _, vr, ve, rfl, HBW, hid (fun h => rfl), hid (fun h => rfl), hid (fun h => rfl), hid (fun h => h3.out h), hid (fun h => h4.out h), hid (fun h => h5.out h), hid (fun h => h6.out h), hid (fun h => h7.out h), hid (fun h => h8.out h), hid (fun h => h9.out h), hid (fun h => h10.out h), hid (fun h => h11.out h), hid (fun h => h12.out h), hid (fun h => h13.out h), fun h => o9_8 h, fun h => o10_9 h, fun h => o11_9 h, fun h => o12_10 h, fun h => o13_11 h⟩
                      case s3 =>
                        rintro f a1 w1 ⟨u18, u19, u130, u131, u132, u133, u134, u135, u136, u137, u138, u139, u140, u141, vr, ve, rfl, HBW, h0, h1, h2, h3, h4, h5, h6, h7, h8, h9, h10, h11, h12, h13, o9_8, o10_9, o11_9, o12_10, o13_11⟩ hf hd K hK
                        simp only [List.setIfInBounds_toArray, List.set_cons_zero, List.set_cons_succ] at hK ⊢
                        replace hK := hid hK
                        simp [Region.binds] at hd
                        obtain rfl := h2.out (by simp only [hd])
                        have y1 := (HBW.out.cell (p := ⟨b0, i, none⟩) LB.out).trans CI.out
                        go_simp
                        exact hK.out _ _ ⟨_, _, _, _, _, _, _, _, _, _, _, _, _, _, vr, ve, rfl, HBW, hid (fun h => h0.out h), hid (fun h => h1.out h), hid (fun h => rfl), hid (fun h => rfl), hid (fun h => h4.out h), hid (fun h => h5.out h), hid (fun h => h6.out h), hid (fun h => h7.out h), hid (fun h => h8.out h), hid (fun h => h9.out h), hid (fun h => h10.out h), hid (fun h => h11.out h), hid (fun h => h12.out h), hid (fun h => h13.out h), fun h => o9_8 h, fun h => o10_9 h, fun h => o11_9 h, fun h => o12_10 h, fun h => o13_11 h⟩
                      case s4 =>
                        rintro f a1 w1 ⟨u18, u19, u130, u131, u132, u133, u134, u135, u136, u137, u138, u139, u140, u141, vr, ve, rfl, HBW, h0, h1, h2, h3, h4, h5, h6, h7, h8, h9, h10, h11, h12, h13, o9_8, o10_9, o11_9, o12_10, o13_11⟩ hf hd K hK
                        simp only [List.setIfInBounds_toArray, List.set_cons_zero, List.set_cons_succ] at hK ⊢
                        replace hK := hid hK
                        go_simp
                        exact hK.out _ _ ⟨_, _, _, _, _, _, _, _, _, _, _, _, _, _, vr, ve, rfl, HBW, hid (fun h => h0.out h), hid (fun h => h1.out h), hid (fun h => h2.out h), hid (fun h => h3.out h), hid (fun h => rfl), hid (fun h => h5.out h), hid (fun h => h6.out h), hid (fun h => h7.out h), hid (fun h => h8.out h), hid (fun h => h9.out h), hid (fun h => h10.out h), hid (fun h => h11.out h), hid (fun h => h12.out h), hid (fun h => h13.out h), fun h => o9_8 h, fun h => o10_9 h, fun h => o11_9 h, fun h => o12_10 h, fun h => o13_11 h⟩
                      case s5 =>
                        rintro f a1 w1 ⟨u18, u19, u130, u131, u132, u133, u134, u135, u136, u137, u138, u139, u140, u141, vr, ve, rfl, HBW, h0, h1, h2, h3, h4, h5, h6, h7, h8, h9, h10, h11, h12, h13, o9_8, o10_9, o11_9, o12_10, o13_11⟩ hf hd K hK
                        simp only [List.setIfInBounds_toArray, List.set_cons_zero, List.set_cons_succ] at hK ⊢
                        replace hK := hid hK
                        go_simp
                        exact hK.out _ _ ⟨_, _, _, _, _, _, _, _, _, _, _, _, _, _, vr, ve, rfl, HBW, hid (fun h => h0.out h), hid (fun h => h1.out h), hid (fun h => h2.out h), hid (fun h => h3.out h), hid (fun h => h4.out h), hid (fun h => rfl), hid (fun h => h6.out h), hid (fun h => h7.out h), hid (fun h => h8.out h), hid (fun h => h9.out h), hid (fun h => h10.out h), hid (fun h => h11.out h), hid (fun h => h12.out h), hid (fun h => h13.out h), fun h => o9_8 h, fun h => o10_9 h, fun h => o11_9 h, fun h => o12_10 h, fun h => o13_11 h⟩
                      case s6 =>
                        rintro f a1 w1 ⟨u18, u19, u130, u131, u132, u133, u134, u135, u136, u137, u138, u139, u140, u141, vr, ve, rfl, HBW, h0, h1, h2, h3, h4, h5, h6, h7, h8, h9, h10, h11, h12, h13, o9_8, o10_9, o11_9, o12_10, o13_11⟩ hf hd K hK
                        simp only [List.setIfInBounds_toArray, List.set_cons_zero, List.set_cons_succ] at hK ⊢
                        replace hK := hid hK
                        simp [Region.binds] at hd
                        obtain rfl := h4.out (by simp only [hd])
                        obtain rfl := h5.out (by simp only [hd])
                        have hii : (k : Int) < (j : Int) + 1 := by have := HLT.out; have := HKI.out; omega
                        go_simp
                        exact hK.out _ _ ⟨_, _, _, _, _, _, _, _, _, _, _, _, _, _, vr, ve, rfl, HBW, hid (fun h => h0.out h), hid (fun h => h1.out h), hid (fun h => h2.out h), hid (fun h => h3.out h), hid (fun h => rfl), hid (fun h => rfl), hid (fun h => rfl), hid (fun h => h7.out h), hid (fun h => h8.out h), hid (fun h => h9.out h), hid (fun h => h10.out h), hid (fun h => h11.out h), hid (fun h => h12.out h), hid (fun h => h13.out h), fun h => o9_8 h, fun h => o10_9 h, fun h => o11_9 h, fun h => o12_10 h, fun h => o13_11 h⟩
                      case s7 =>
                        rintro f a1 w1 ⟨u18, u19, u130, u131, u132, u133, u134, u135, u136, u137, u138, u139, u140, u141, vr, ve, rfl, HBW, h0, h1, h2, h3, h4, h5, h6, h7, h8, h9, h10, h11, h12, h13, o9_8, o10_9, o11_9, o12_10, o13_11⟩ hf hd K hK
                        simp only [List.setIfInBounds_toArray, List.set_cons_zero, List.set_cons_succ] at hK ⊢
                        replace hK := hid hK
                        simp [Region.binds] at hd
                        obtain rfl := h6.out (by simp only [hd])
                        have y1 := (HBW.out.cell (p := ⟨b0, k, none⟩) LB.out).trans CK.out
                        go_simp
                        exact hK.out _ _ ⟨_, _, _, _, _, _, _, _, _, _, _, _, _, _, vr, ve, rfl, HBW, hid (fun h => h0.out h), hid (fun h => h1.out h), hid (fun h => h2.out h), hid (fun h => h3.out h), hid (fun h => h4.out h), hid (fun h => h5.out h), hid (fun h => rfl), hid (fun h => rfl), hid (fun h => h8.out h), hid (fun h => h9.out h), hid (fun h => h10.out h), hid (fun h => h11.out h), hid (fun h => h12.out h), hid (fun h => h13.out h), fun h => o9_8 h, fun h => o10_9 h, fun h => o11_9 h, fun h => o12_10 h, fun h => o13_11 h⟩
                      case s8 =>
                        rintro f a1 w1 ⟨u18, u19, u130, u131, u132, u133, u134, u135, u136, u137, u138, u139, u140, u141, vr, ve, rfl, HBW, h0, h1, h2, h3, h4, h5, h6, h7, h8, h9, h10, h11, h12, h13, o9_8, o10_9, o11_9, o12_10, o13_11⟩ hf hd K hK
                        simp only [List.setIfInBounds_toArray, List.set_cons_zero, List.set_cons_succ] at hK ⊢
                        replace hK := hid hK
                        simp [Region.binds] at hd
                        obtain rfl := h3.out (by simp only [hd])
                        obtain rfl := h7.out (by simp only [hd])
                        go_simp
                        refine (gcd_any (TXi.out.on HBW.out) (TXk.out.on HBW.out) SZi.out SZk.out).mono ?_
                        rintro e w2 ⟨vr, ss, kk, rfl, ho, ht, hb⟩
                        go_wp2_with fail
                        exact hK.out _ _ ⟨_, _, _, _, _, _, _, _, _, _, _, _, _, _, vr, errv kk, rfl, hid (below_next HBW.out hb), hid (fun h => h0.out h), hid (fun h => h1.out h), hid (fun h => h2.out h), hid (fun h => rfl), hid (fun h => h4.out h), hid (fun h => h5.out h), hid (fun h => h6.out h), hid (fun h => rfl), hid (fun h => ⟨rfl, ss, kk, rfl, ho.1.txs, ht⟩), hid (fun h => absurd (o9_8 h) (by rw [hf]; decide)), hid (fun h => absurd (o9_8 (o10_9 h)) (by rw [hf]; decide)), hid (fun h => absurd (o9_8 (o11_9 h)) (by rw [hf]; decide)), hid (fun h => absurd (o9_8 (o10_9 (o12_10 h))) (by rw [hf]; decide)), hid (fun h => absurd (o9_8 (o11_9 (o13_11 h))) (by rw [hf]; decide)), fun _ => rfl, fun h => o10_9 h, fun h => o11_9 h, fun h => o12_10 h, fun h => o13_11 h⟩
                      case s9 =>
                        rintro f a1 w1 ⟨u18, u19, u130, u131, u132, u133, u134, u135, u136, u137, u138, u139, u140, u141, vr, ve, rfl, HBW, h0, h1, h2, h3, h4, h5, h6, h7, h8, h9, h10, h11, h12, h13, o9_8, o10_9, o11_9, o12_10, o13_11⟩ hf hd K hK
                        simp only [List.setIfInBounds_toArray, List.set_cons_zero, List.set_cons_succ] at hK ⊢
                        replace hK := hid hK
                        simp [Region.binds] at hd
                        have h8a := h8.out (by simp only [hd])
                        obtain ⟨e8, r8⟩ := h8a
                        subst e8
                        go_simp
                        exact hK.out _ _ ⟨_, _, _, _, _, _, _, _, _, _, _, _, _, _, vr, ve, rfl, HBW, hid (fun h => h0.out h), hid (fun h => h1.out h), hid (fun h => h2.out h), hid (fun h => h3.out h), hid (fun h => h4.out h), hid (fun h => h5.out h), hid (fun h => h6.out h), hid (fun h => h7.out h), hid (fun h => h8.out h), hid (fun h => rfl), hid (fun h => h10.out h), hid (fun h => h11.out h), hid (fun h => h12.out h), hid (fun h => h13.out h), fun _ => (show f 8 = true from by simp only [hd]), fun _ => rfl, fun _ => rfl, fun h => o12_10 h, fun h => o13_11 h⟩
                      case s10 =>
                        rintro f a1 w1 ⟨u18, u19, u130, u131, u132, u133, u134, u135, u136, u137, u138, u139, u140, u141, vr, ve, rfl, HBW, h0, h1, h2, h3, h4, h5, h6, h7, h8, h9, h10, h11, h12, h13, o9_8, o10_9, o11_9, o12_10, o13_11⟩ hf hd K hK
                        simp only [List.setIfInBounds_toArray, List.set_cons_zero, List.set_cons_succ] at hK ⊢
                        replace hK := hid hK
                        simp [Region.binds] at hd
                        obtain rfl := h9.out (by simp only [hd])
                        go_simp
                        exact hK.out _ _ ⟨_, _, _, _, _, _, _, _, _, _, _, _, _, _, vr, ve, rfl, HBW, hid (fun h => h0.out h), hid (fun h => h1.out h), hid (fun h => h2.out h), hid (fun h => h3.out h), hid (fun h => h4.out h), hid (fun h => h5.out h), hid (fun h => h6.out h), hid (fun h => h7.out h), hid (fun h => h8.out h), hid (fun h => rfl), hid (fun h => rfl), hid (fun h => h11.out h), hid (fun h => h12.out h), hid (fun h => h13.out h), fun h => o9_8 h, fun _ => (show f 9 = true from by simp only [hd]), fun h => o11_9 h, fun _ => rfl, fun h => o13_11 h⟩
                      case s11 =>
                        rintro f a1 w1 ⟨u18, u19, u130, u131, u132, u133, u134, u135, u136, u137, u138, u139, u140, u141, vr, ve, rfl, HBW, h0, h1, h2, h3, h4, h5, h6, h7, h8, h9, h10, h11, h12, h13, o9_8, o10_9, o11_9, o12_10, o13_11⟩ hf hd K hK
                        simp only [List.setIfInBounds_toArray, List.set_cons_zero, List.set_cons_succ] at hK ⊢
                        replace hK := hid hK
                        simp [Region.binds] at hd
                        obtain rfl := h9.out (by simp only [hd])
                        go_simp
                        exact hK.out _ _ ⟨_, _, _, _, _, _, _, _, _, _, _, _, _, _, vr, ve, rfl, HBW, hid (fun h => h0.out h), hid (fun h => h1.out h), hid (fun h => h2.out h), hid (fun h => h3.out h), hid (fun h => h4.out h), hid (fun h => h5.out h), hid (fun h => h6.out h), hid (fun h => h7.out h), hid (fun h => h8.out h), hid (fun h => rfl), hid (fun h => h10.out h), hid (fun h => rfl), hid (fun h => h12.out h), hid (fun h => h13.out h), fun h => o9_8 h, fun h => o10_9 h, fun _ => (show f 9 = true from by simp only [hd]), fun h => o12_10 h, fun _ => rfl⟩
                      case s12 =>
                        rintro f a1 w1 ⟨u18, u19, u130, u131, u132, u133, u134, u135, u136, u137, u138, u139, u140, u141, vr, ve, rfl, HBW, h0, h1, h2, h3, h4, h5, h6, h7, h8, h9, h10, h11, h12, h13, o9_8, o10_9, o11_9, o12_10, o13_11⟩ hf hd K hK
                        simp only [List.setIfInBounds_toArray, List.set_cons_zero, List.set_cons_succ] at hK ⊢
                        replace hK := hid hK
                        simp [Region.binds] at hd
                        have e10 := h10.out (by simp only [hd])
                        go_simp
                        exact hK.out _ _ ⟨_, _, _, _, _, _, _, _, _, _, _, _, _, _, vr, ve, rfl, HBW, hid (fun h => h0.out h), hid (fun h => h1.out h), hid (fun h => h2.out h), hid (fun h => h3.out h), hid (fun h => h4.out h), hid (fun h => h5.out h), hid (fun h => h6.out h), hid (fun h => h7.out h), hid (fun h => h8.out h), hid (fun h => h9.out h), hid (fun h => rfl), hid (fun h => h11.out h), hid (fun h => rfl), hid (fun h => h13.out h), fun h => o9_8 h, fun h => o10_9 h, fun h => o11_9 h, fun _ => (show f 10 = true from by simp only [hd]), fun h => o13_11 h⟩
                      case s13 =>
                        rintro f a1 w1 ⟨u18, u19, u130, u131, u132, u133, u134, u135, u136, u137, u138, u139, u140, u141, vr, ve, rfl, HBW, h0, h1, h2, h3, h4, h5, h6, h7, h8, h9, h10, h11, h12, h13, o9_8, o10_9, o11_9, o12_10, o13_11⟩ hf hd K hK
                        simp only [List.setIfInBounds_toArray, List.set_cons_zero, List.set_cons_succ] at hK ⊢
                        replace hK := hid hK
                        simp [Region.binds] at hd
                        have e11 := h11.out (by simp only [hd])
                        go_simp
                        exact hK.out _ _ ⟨_, _, _, _, _, _, _, _, _, _, _, _, _, _, vr, ve, rfl, HBW, hid (fun h => h0.out h), hid (fun h => h1.out h), hid (fun h => h2.out h), hid (fun h => h3.out h), hid (fun h => h4.out h), hid (fun h => h5.out h), hid (fun h => h6.out h), hid (fun h => h7.out h), hid (fun h => h8.out h), hid (fun h => h9.out h), hid (fun h => h10.out h), hid (fun h => rfl), hid (fun h => h12.out h), hid (fun h => rfl), fun h => o9_8 h, fun h => o10_9 h, fun h => o11_9 h, fun h => o12_10 h, fun _ => (show f 11 = true from by simp only [hd])⟩
                      case hend =>
                        rintro f a1 w' ⟨u18, u19, u130, u131, u132, u133, u134, u135, u136, u137, u138, u139, u140, u141, vr, ve, rfl, HBW, h0, h1, h2, h3, h4, h5, h6, h7, h8, h9, h10, h11, h12, h13, _⟩ hall
                        simp only [List.setIfInBounds_toArray, List.set_cons_zero, List.set_cons_succ]
                        obtain ⟨_, ss, kk, eve, htx, ht⟩ := h8.out (hall 8 (by decide))
                        obtain rfl := h12.out (hall 12 (by decide))
                        obtain rfl := h13.out (hall 13 (by decide))
                        subst eve
                        have T8 := hid ht
                        have TX8 := hid htx
                        replace HA := hid (show TxsW w' _ al ∧ Txs w' _ al ∧ Szs al from ⟨HA.out.1.on HBW.out, HA.out.2.1.on HBW.out, HA.out.2.2⟩)
                        replace BA := bb BA HBW.out
                        clear HBW hall ht htx h0 h1 h2 h3 h4 h5 h6 h7 h8 h9 h10 h11 h12 h13 TXi TXk CI CK LB
                        obtain ⟨p8, c8, rfl, _, _, _⟩ := TX8.out
                        by_cases hk8 : kk = 0
                        · have hsl : ss.length = 1 := by
                            rw [(T8.out.ok hk8).2.2, rdp_map, rdp_map, yf_apart HG.out.trm HQ0.out (by have := HKI.out; omega)]; rfl
                          subst hk8
                          rw [hsl]
                          clear hsl
                          go_wp2_with fail
                          go_roundw
                          case rel => exact ⟨k + 1, by omega, by go_num, HA, BA⟩
                          case measure => simp [intOf]; omega
                        · have f8 : (kk == 0) = false := by simpa using hk8
                          go_wp2_with fail
                          go_roundw
                          case rel => exact ⟨k + 1, by omega, by go_num, HA, BA⟩
                          case measure => simp [intOf]; omega
                    · obtain rfl : k = i := by omega
                      go_wp2_with fail
                      go_roundw
                      case rel => exact ⟨k + 1, al, by omega, by go_num, HA, EA, BA⟩
                      case measure => simp [intOf]; omega
              · have f5 : (k5 == 0) = false := by simpa using hk5
                clear T5 T6 TXg
                go_wp2_with fail
                go_loopw [17] (fun z wr => ∃ k : Nat, k ≤ i ∧ z = .int .i64 k ∧ Hid (TxsW wr (.slice px al.length cx) al ∧ Txs wr (.slice px al.length cx) al ∧ Szs al) ∧ Hid (Below wa.heap.size wa wr)) (fun z _ => i - (intOf z).toNat)
                case atStart => exact ⟨0, by omega, rfl, HA, BA⟩
                case round =>
                  clear BA HA
                  obtain ⟨k, hk, rfl, HA, BA⟩ := hrel
                  by_cases hltk : k < i
                  · have HKI := hid hltk
                    have hkii : (k : Int) < (i : Int) := by omega
                    obtain ⟨pi, ci, cdi, txi, szi⟩ := y_at YR.out HS.out BA.out (i := i) hlt
                    obtain ⟨pk, ck, cdk, txk, szk⟩ := y_at YR.out HS.out BA.out (i := k) (by omega)
                    have TXi := hid txi
                    have SZi := hid szi
                    have TXk := hid txk
                    have SZk := hid szk
                    have CI := hid cdi
                    have CK := hid cdk
                    have LB := hid (YR.out.on BA.out).lt
                    clear txi szi txk szk cdi cdk
                    go_upto_region 30 with fail
                    refine region_ops (by kernel_rfl) (by kernel_rfl) (fun a f a' w' => ∃ u18 u19 u130 u131 u132 u133 u134 u135 u136 u137 u138 u139 u140 u141 vr ve : Value, a' = { tmps := ((((((((((((((a.tmps.setIfInBounds 18 u18).setIfInBounds 19 u19).setIfInBounds 130 u130).setIfInBounds 131 u131).setIfInBounds 132 u132).setIfInBounds 133 u133).setIfInBounds 134 u134).setIfInBounds 135 u135).setIfInBounds 136 u136).setIfInBounds 137 u137).setIfInBounds 138 u138).setIfInBounds 139 u139).setIfInBounds 140 u140).setIfInBounds 141 u141), defers := a.defers } ∧ Hid (Below wr.heap.size wr w') ∧ Hid (f 0 = true → u131 = .slice (some ⟨b0, 0, none⟩) (j + 1) (j + 1)) ∧ Hid (f 1 = true → u132 = .int .i64 (i : Int)) ∧ Hid (f 2 = true → u133 = .pointer (some ⟨b0, i, none⟩)) ∧ Hid (f 3 = true → u134 = .slice pi (yf (rdp p) i).length ci) ∧ Hid (f 4 = true → u135 = .slice (some ⟨b0, 0, none⟩) (j + 1) (j + 1)) ∧ Hid (f 5 = true → u136 = .int .i64 (k : Int)) ∧ Hid (f 6 = true → u137 = .pointer (some ⟨b0, k, none⟩)) ∧ Hid (f 7 = true → u138 = .slice pk (yf (rdp p) k).length ck) ∧ Hid (f 8 = true → (u139 = .tuple #[vr, ve] ∧ ∃ ss kk, ve = errv kk ∧ Txs w' vr ss ∧ PTells gcdp ((yf (rdp p) i).map qtxt) ((yf (rdp p) k).map qtxt) ss kk)) ∧ Hid (f 9 = true → u130 = .tuple #[vr, ve]) ∧ Hid (f 10 = true → u140 = vr) ∧ Hid (f 11 = true → u141 = ve) ∧ Hid (f 12 = true → u18 = vr) ∧ Hid (f 13 = true → u19 = ve) ∧ (f 9 = true → f 8 = true) ∧ (f 10 = true → f 9 = true) ∧ (f 11 = true → f 9 = true) ∧ (f 12 = true → f 10 = true) ∧ (f 13 = true → f 11 = true)) ?h0 ⟨?s0, ?s1, ?s2, ?s3, ?s4, ?s5, ?s6, ?s7, ?s8, ?s9, ?s10, ?s11, ?s12, ?s13, trivial⟩ ?hend
                    case h0 =>
                      simp only [List.setIfInBounds_toArray, List.set_cons_zero, List.set_cons_succ]
                      exact ⟨_, _, _, _, _, _, _, _, _, _, _, _, _, _, .nilIface, .nilIface, rfl, hid (Below.drew (Below.refl _ _)), hid (fun h => by cases h), hid (fun h => by cases h), hid (fun h => by cases h), hid (fun h => by cases h), hid (fun h => by cases h), hid (fun h => by cases h), hid (fun h => by cases h), hid (fun h => by cases h), hid (fun h => by cases h), hid (fun h => by cases h), hid (fun h => by cases h), hid (fun h => by cases h), hid (fun h => by cases h), hid (fun h => by cases h), fun h => h, fun h => h, fun h => h, fun h => h, fun h => h⟩
                    case s0 =>
                      rintro f a1 w1 ⟨u18, u19, u130, u131, u132, u133, u134, u135, u136, u137, u138, u139, u140, u141, vr, ve, rfl, HBW, h0, h1, h2, h3, h4, h5, h6, h7, h8, h9, h10, h11, h12, h13, o9_8, o10_9, o11_9, o12_10, o13_11⟩ hf hd K hK
                      simp only [List.setIfInBounds_toArray, List.set_cons_zero, List.set_cons_succ] at hK ⊢
                      replace hK := hid hK
                      go_simp
                      exact hK.out _ _ ⟨_, _, _, _, _, _, _, _, _, _, _, _, _, _, vr, ve, rfl, HBW, hid (fun h => rfl), hid (fun h => h1.out h), hid (fun h => h2.out h), hid (fun h => h3.out h), hid (fun h => h4.out h), hid (fun h => h5.out h), hid (fun h => h6.out h), hid (fun h => h7.out h), hid (fun h => h8.out h), hid (fun h => h9.out h), hid (fun h => h10.out h), hid (fun h => h11.out h), hid (fun h => h12.out h), hid (fun h => h13.out h), fun h => o9_8 h, fun h => o10_9 h, fun h => o11_9 h, fun h => o12_10 h, fun h => o13_11 h⟩
                    case s1 =>
                      rintro f a1 w1 ⟨u18, u19, u130, u131, u132, u133, u134, u135, u136, u137, u138, u139, u140, u141, vr, ve, rfl, HBW, h0, h1, h2, h3, h4, h5, h6, h7, h8, h9, h10, h11, h12, h13, o9_8, o10_9, o11_9, o12_10, o13_11⟩ hf hd K hK
                      simp only [List.setIfInBounds_toArray, List.set_cons_zero, List.set_cons_succ] at hK ⊢
                      replace hK := hid hK
                      go_simp
                      exact hK.out _ _ ⟨_, _, _, _, _, _, _, _, _, _, _, _, _, _, vr, ve, rfl, HBW, hid (fun h => h0.out h), hid (fun h => rfl), hid (fun h => h2.out h), hid (fun h => h3.out h), hid (fun h => h4.out h), hid (fun h => h5.out h), hid (fun h => h6.out h), hid (fun h => h7.out h), hid (fun h => h8.out h), hid (fun h => h9.out h), hid (fun h => h10.out h), hid (fun h => h11.out h), hid (fun h => h12.out h), hid (fun h => h13.out h), fun h => o9_8 h, fun h => o10_9 h, fun h => o11_9 h, fun h => o12_10 h, fun h => o13_11 h⟩
                    case s2 =>
                      rintro f a1 w1 ⟨u18, u19, u130, u131, u132, u133, u134, u135, u136, u137, u138, u139, u140, u141, vr, ve, rfl, HBW, h0, h1, h2, h3, h4, h5, h6, h7, h8, h9, h10, h11, h12, h13, o9_8, o10_9, o11_9, o12_10, o13_11⟩ hf hd K hK
                      simp only [List.setIfInBounds_toArray, List.set_cons_zero, List.set_cons_succ] at hK ⊢
                      replace hK := hid hK
                      simp [Region.binds] at hd
                      obtain rfl := h0.out (by simp only [hd])
                      obtain rfl := h1.out (by simp only [hd])
                      have hii : (i : Int) < (j : Int) + 1 := by have := HLT.out; omega
                      go_simp
                      exact hK.out _ _ ⟨_, _, _, _, _, _, _, _, _, _, _, _, _, _, vr, ve, rfl, HBW, hid (fun h => rfl), hid (fun h => rfl), hid (fun h => rfl), hid (fun h => h3.out h), hid (fun h => h4.out h), hid (fun h => h5.out h), hid (fun h => h6.out h), hid (fun h => h7.out h), hid (fun h => h8.out h), hid (fun h => h9.out h), hid (fun h => h10.out h), hid (fun h => h11.out h), hid (fun h => h12.out h), hid (fun h => h13.out h), fun h => o9_8 h, fun h => o10_9 h, fun h => o11_9 h, fun h => o12_10 h, fun h => o13_11 h⟩
                    case s3 =>
                      rintro f a1 w1 ⟨u18, u19, u130, u131, u132, u133, u134, u135, u136, u137, u138, u139, u140, u141, vr, ve, rfl, HBW, h0, h1, h2, h3, h4, h5, h6, h7, h8, h9, h10, h11, h12, h13, o9_8, o10_9, o11_9, o12_10, o13_11⟩ hf hd K hK
                      simp only [List.setIfInBounds_toArray, List.set_cons_zero, List.set_cons_succ] at hK ⊢
                      replace hK := hid hK
                      simp [Region.binds] at hd
                      obtain rfl := h2.out (by simp only [hd])
                      have y1 := (HBW.out.cell (p := ⟨b0, i, none⟩) LB.out).trans CI.out
                      go_simp
                      exact hK.out _ _ ⟨_, _, _, _, _, _, _, _, _, _, _, _, _, _, vr, ve, rfl, HBW, hid (fun h => h0.out h), hid (fun h => h1.out h), hid (fun h => rfl), hid (fun h => rfl), hid (fun h => h4.out h), hid (fun h => h5.out h), hid (fun h => h6.out h), hid (fun h => h7.out h), hid (fun h => h8.out h), hid (fun h => h9.out h), hid (fun h => h10.out h), hid (fun h => h11.out h), hid (fun h => h12.out h), hid (fun h => h13.out h), fun h => o9_8 h, fun h => o10_9 h, fun h => o11_9 h, fun h => o12_10 h, fun h => o13_11 h⟩
                    case s4 =>
                      rintro f a1 w1 ⟨u18, u19, u130, u131, u132, u133, u134, u135, u136, u137, u138, u139, u140, u141, vr, ve, rfl, HBW, h0, h1, h2, h3, h4, h5, h6, h7, h8, h9, h10, h11, h12, h13, o9_8, o10_9, o11_9, o12_10, o13_11⟩ hf hd K hK
                      simp only [List.setIfInBounds_toArray, List.set_cons_zero, List.set_cons_succ] at hK ⊢
                      replace hK := hid hK
                      go_simp
                      exact hK.out _ _ ⟨_, _, _, _, _, _, _, _, _, _, _, _, _, _, vr, ve, rfl, HBW, hid (fun h => h0.out h), hid (fun h => h1.out h), hid (fun h => h2.out h), hid (fun h => h3.out h), hid (fun h => rfl), hid (fun h => h5.out h), hid (fun h => h6.out h), hid (fun h => h7.out h), hid (fun h => h8.out h), hid (fun h => h9.out h), hid (fun h => h10.out h), hid (fun h => h11.out h), hid (fun h => h12.out h), hid (fun h => h13.out h), fun h => o9_8 h, fun h => o10_9 h, fun h => o11_9 h, fun h => o12_10 h, fun h => o13_11 h⟩
                    case s5 =>
                      rintro f a1 w1 ⟨u18, u19, u130, u131, u132, u133, u134, u135, u136, u137, u138, u139, u140, u141, vr, ve, rfl, HBW, h0, h1, h2, h3, h4, h5, h6, h7, h8, h9, h10, h11, h12, h13, o9_8, o10_9, o11_9, o12_10, o13_11⟩ hf hd K hK
                      simp only [List.setIfInBounds_toArray, List.set_cons_zero, List.set_cons_succ] at hK ⊢
                      replace hK := hid hK
                      go_simp
                      exact hK.out _ _ ⟨_, _, _, _, _, _, _, _, _, _, _, _, _, _, vr, ve, rfl, HBW, hid (fun h => h0.out h), hid (fun h => h1.out h), hid (fun h => h2.out h), hid (fun h => h3.out h), hid (fun h => h4.out h), hid (fun h => rfl), hid (fun h => h6.out h), hid (fun h => h7.out h), hid (fun h => h8.out h), hid (fun h => h9.out h), hid (fun h => h10.out h), hid (fun h => h11.out h), hid (fun h => h12.out h), hid (fun h => h13.out h), fun h => o9_8 h, fun h => o10_9 h, fun h => o11_9 h, fun h => o12_10 h, fun h => o13_11 h⟩
                    case s6 =>
                      rintro f a1 w1 ⟨u18, u19, u130, u131, u132, u133, u134, u135, u136, u137, u138, u139, u140, u141, vr, ve, rfl, HBW, h0, h1, h2, h3, h4, h5, h6, h7, h8, h9, h10, h11, h12, h13, o9_8, o10_9, o11_9, o12_10, o13_11⟩ hf hd K hK
                      simp only [List.setIfInBounds_toArray, List.set_cons_zero, List.set_cons_succ] at hK ⊢
                      replace hK := hid hK
                      simp [Region.binds] at hd
                      obtain rfl := h4.out (by simp only [hd])
                      obtain rfl := h5.out (by simp only [hd])
                      have hii : (k : Int) < (j : Int) + 1 := by have := HLT.out; have := HKI.out; omega
                      go_simp
                      exact hK.out _ _ ⟨_, _, _, _, _, _, _, _, _, _, _, _, _, _, vr, ve, rfl, HBW, hid (fun h => h0.out h), hid (fun h => h1.out h), hid (fun h => h2.out h), hid (fun h => h3.out h), hid (fun h => rfl), hid (fun h => rfl), hid (fun h => rfl), hid (fun h => h7.out h), hid (fun h => h8.out h), hid (fun h => h9.out h), hid (fun h => h10.out h), hid (fun h => h11.out h), hid (fun h => h12.out h), hid (fun h => h13.out h), fun h => o9_8 h, fun h => o10_9 h, fun h => o11_9 h, fun h => o12_10 h, fun h => o13_11 h⟩
                    case s7 =>
                      rintro f a1 w1 ⟨u18, u19, u130, u131, u132, u133, u134, u135, u136, u137, u138, u139, u140, u141, vr, ve, rfl, HBW, h0, h1, h2, h3, h4, h5, h6, h7, h8, h9, h10, h11, h12, h13, o9_8, o10_9, o11_9, o12_10, o13_11⟩ hf hd K hK
                      simp only [List.setIfInBounds_toArray, List.set_cons_zero, List.set_cons_succ] at hK ⊢
                      replace hK := hid hK
                      simp [Region.binds] at hd
                      obtain rfl := h6.out (by simp only [hd])
                      have y1 := (HBW.out.cell (p := ⟨b0, k, none⟩) LB.out).trans CK.out
                      go_simp
                      exact hK.out _ _ ⟨_, _, _, _, _, _, _, _, _, _, _, _, _, _, vr, ve, rfl, HBW, hid (fun h => h0.out h), hid (fun h => h1.out h), hid (fun h => h2.out h), hid (fun h => h3.out h), hid (fun h => h4.out h), hid (fun h => h5.out h), hid (fun h => rfl), hid (fun h => rfl), hid (fun h => h8.out h), hid (fun h => h9.out h), hid (fun h => h10.out h), hid (fun h => h11.out h), hid (fun h => h12.out h), hid (fun h => h13.out h), fun h => o9_8 h, fun h => o10_9 h, fun h => o11_9 h, fun h => o12_10 h, fun h => o13_11 h⟩
                    case s8 =>
                      rintro f a1 w1 ⟨u18, u19, u130, u131, u132, u133, u134, u135, u136, u137, u138, u139, u140, u141, vr, ve, rfl, HBW, h0, h1, h2, h3, h4, h5, h6, h7, h8, h9, h10, h11, h12, h13, o9_8, o10_9, o11_9, o12_10, o13_11⟩ hf hd K hK
                      simp only [List.setIfInBounds_toArray, List.set_cons_zero, List.set_cons_succ] at hK ⊢
                      replace hK := hid hK
                      simp [Region.binds] at hd
                      obtain rfl := h3.out (by simp only [hd])
                      obtain rfl := h7.out (by simp only [hd])
                      go_simp
                      refine (gcd_any (TXi.out.on HBW.out) (TXk.out.on HBW.out) SZi.out SZk.out).mono ?_
                      rintro e w2 ⟨vr, ss, kk, rfl, ho, ht, hb⟩
                      go_wp2_with fail
                      exact hK.out _ _ ⟨_, _, _, _, _, _, _, _, _, _, _, _, _, _, vr, errv kk, rfl, hid (below_next HBW.out hb), hid (fun h => h0.out h), hid (fun h => h1.out h), hid (fun h => h2.out h), hid (fun h => rfl), hid (fun h => h4.out h), hid (fun h => h5.out h), hid (fun h => h6.out h), hid (fun h => rfl), hid (fun h => ⟨rfl, ss, kk, rfl, ho.1.txs, ht⟩), hid (fun h => absurd (o9_8 h) (by rw [hf]; decide)), hid (fun h => absurd (o9_8 (o10_9 h)) (by rw [hf]; decide)), hid (fun h => absurd (o9_8 (o11_9 h)) (by rw [hf]; decide)), hid (fun h => absurd (o9_8 (o10_9 (o12_10 h))) (by rw [hf]; decide)), hid (fun h => absurd (o9_8 (o11_9 (o13_11 h))) (by rw [hf]; decide)), fun _ => rfl, fun h => o10_9 h, fun h => o11_9 h, fun h => o12_10 h, fun h => o13_11 h⟩
                    case s9 =>
                      rintro f a1 w1 ⟨u18, u19, u130, u131, u132, u133, u134, u135, u136, u137, u138, u139, u140, u141, vr, ve, rfl, HBW, h0, h1, h2, h3, h4, h5, h6, h7, h8, h9, h10, h11, h12, h13, o9_8, o10_9, o11_9, o12_10, o13_11⟩ hf hd K hK
                      simp only [List.setIfInBounds_toArray, List.set_cons_zero, List.set_cons_succ] at hK ⊢
                      replace hK := hid hK
                      simp [Region.binds] at hd
                      have h8a := h8.out (by simp only [hd])
                      obtain ⟨e8, r8⟩ := h8a
                      subst e8
                      go_simp
                      exact hK.out _ _ ⟨_, _, _, _, _, _, _, _, _, _, _, _, _, _, vr, ve, rfl, HBW, hid (fun h => h0.out h), hid (fun h => h1.out h), hid (fun h => h2.out h), hid (fun h => h3.out h), hid (fun h => h4.out h), hid (fun h => h5.out h), hid (fun h => h6.out h), hid (fun h => h7.out h), hid (fun h => h8.out h), hid (fun h => rfl), hid (fun h => h10.out h), hid (fun h => h11.out h), hid (fun h => h12.out h), hid (fun h => h13.out h), fun _ => (show f 8 = true from by simp only [hd]), fun _ => rfl, fun _ => rfl, fun h => o12_10 h, fun h => o13_11 h⟩
                    case s10 =>
                      rintro f a1 w1 ⟨u18, u19, u130, u131, u132, u133, u134, u135, u136, u137, u138, u139, u140, u141, vr, ve, rfl, HBW, h0, h1, h2, h3, h4, h5, h6, h7, h8, h9, h10, h11, h12, h13, o9_8, o10_9, o11_9, o12_10, o13_11⟩ hf hd K hK
                      simp only [List.setIfInBounds_toArray, List.set_cons_zero, List.set_cons_succ] at hK ⊢
                      replace hK := hid hK
                      simp [Region.binds] at hd
                      obtain rfl := h9.out (by simp only [hd])
                      go_simp
                      exact hK.out _ _ ⟨_, _, _, _, _, _, _, _, _, _, _, _, _, _, vr, ve, rfl, HBW, hid (fun h => h0.out h), hid (fun h => h1.out h), hid (fun h => h2.out h), hid (fun h => h3.out h), hid (fun h => h4.out h), hid (fun h => h5.out h), hid (fun h => h6.out h), hid (fun h => h7.out h), hid (fun h => h8.out h), hid (fun h => rfl), hid (fun h => rfl), hid (fun h => h11.out h), hid (fun h => h12.out h), hid (fun h => h13.out h), fun h => o9_8 h, fun _ => (show f 9 = true from by simp only [hd]), fun h => o11_9 h, fun _ => rfl, fun h => o13_11 h⟩
                    case s11 =>
                      rintro f a1 w1 ⟨u18, u19, u130, u131, u132, u133, u134, u135, u136, u137, u138, u139, u140, u141, vr, ve, rfl, HBW, h0, h1, h2, h3, h4, h5, h6, h7, h8, h9, h10, h11, h12, h13, o9_8, o10_9, o11_9, o12_10, o13_11⟩ hf hd K hK
                      simp only [List.setIfInBounds_toArray, List.set_cons_zero, List.set_cons_succ] at hK ⊢
                      replace hK := hid hK
                      simp [Region.binds] at hd
                      obtain rfl := h9.out (by simp only [hd])
                      go_simp
                      exact hK.out _ _ ⟨_, _, _, _, _, _, _, _, _, _, _, _, _, _, vr, ve, rfl, HBW, hid (fun h => h0.out h), hid (fun h => h1.out h), hid (fun h => h2.out h), hid (fun h => h3.out h), hid (fun h => h4.out h), hid (fun h => h5.out h), hid (fun h => h6.out h), hid (fun h => h7.out h), hid (fun h => h8.out h), hid (fun h => rfl), hid (fun h => h10.out h), hid (fun h => rfl), hid (fun h => h12.out h), hid (fun h => h13.out h), fun h => o9_8 h, fun h => o10_9 h, fun _ => (show f 9 = true from by simp only [hd]), fun h => o12_10 h, fun _ => rfl⟩
                    case s12 =>
                      rintro f a1 w1 ⟨u18, u19, u130, u131, u132, u133, u134, u135, u136, u137, u138, u139, u140, u141, vr, ve, rfl, HBW, h0, h1, h2, h3, h4, h5, h6, h7, h8, h9, h10, h11, h12, h13, o9_8, o10_9, o11_9, o12_10, o13_11⟩ hf hd K hK
                      simp only [List.setIfInBounds_toArray, List.set_cons_zero, List.set_cons_succ] at hK ⊢
                      replace hK := hid hK
                      simp [Region.binds] at hd
                      have e10 := h10.out (by simp only [hd])
                      go_simp
                      exact hK.out _ _ ⟨_, _, _, _, _, _, _, _, _, _, _, _, _, _, vr, ve, rfl, HBW, hid (fun h => h0.out h), hid (fun h => h1.out h), hid (fun h => h2.out h), hid (fun h => h3.out h), hid (fun h => h4.out h), hid (fun h => h5.out h), hid (fun h => h6.out h), hid (fun h => h7.out h), hid (fun h => h8.out h), hid (fun h => h9.out h), hid (fun h => rfl), hid (fun h => h11.out h), hid (fun h => rfl), hid (fun h => h13.out h), fun h => o9_8 h, fun h => o10_9 h, fun h => o11_9 h, fun _ => (show f 10 = true from by simp only [hd]), fun h => o13_11 h⟩
                    case s13 =>
                      rintro f a1 w1 ⟨u18, u19, u130, u131, u132, u133, u134, u135, u136, u137, u138, u139, u140, u141, vr, ve, rfl, HBW, h0, h1, h2, h3, h4, h5, h6, h7, h8, h9, h10, h11, h12, h13, o9_8, o10_9, o11_9, o12_10, o13_11⟩ hf hd K hK
                      simp only [List.setIfInBounds_toArray, List.set_cons_zero, List.set_cons_succ] at hK ⊢
                      replace hK := hid hK
                      simp [Region.binds] at hd
                      have e11 := h11.out (by simp only [hd])
                      go_simp
                      exact hK.out _ _ ⟨_, _, _, _, _, _, _, _, _, _, _, _, _, _, vr, ve, rfl, HBW, hid (fun h => h0.out h), hid (fun h => h1.out h), hid (fun h => h2.out h), hid (fun h => h3.out h), hid (fun h => h4.out h), hid (fun h => h5.out h), hid (fun h => h6.out h), hid (fun h => h7.out h), hid (fun h => h8.out h), hid (fun h => h9.out h), hid (fun h => h10.out h), hid (fun h => rfl), hid (fun h => h12.out h), hid (fun h => rfl), fun h => o9_8 h, fun h => o10_9 h, fun h => o11_9 h, fun h => o12_10 h, fun _ => (show f 11 = true from by simp only [hd])⟩
                    case hend =>
                      rintro f a1 w' ⟨u18, u19, u130, u131, u132, u133, u134, u135, u136, u137, u138, u139, u140, u141, vr, ve, rfl, HBW, h0, h1, h2, h3, h4, h5, h6, h7, h8, h9, h10, h11, h12, h13, _⟩ hall
                      simp only [List.setIfInBounds_toArray, List.set_cons_zero, List.set_cons_succ]
                      obtain ⟨_, ss, kk, eve, htx, ht⟩ := h8.out (hall 8 (by decide))
                      obtain rfl := h12.out (hall 12 (by decide))
                      obtain rfl := h13.out (hall 13 (by decide))
                      subst eve
                      have T8 := hid ht
                      have TX8 := hid htx
                      replace HA := hid (show TxsW w' _ al ∧ Txs w' _ al ∧ Szs al from ⟨HA.out.1.on HBW.out, HA.out.2.1.on HBW.out, HA.out.2.2⟩)
                      replace BA := bb BA HBW.out
                      clear HBW hall ht htx h0 h1 h2 h3 h4 h5 h6 h7 h8 h9 h10 h11 h12 h13 TXi TXk CI CK LB
                      obtain ⟨p8, c8, rfl, _, _, _⟩ := TX8.out
                      by_cases hk8 : kk = 0
                      · have hsl : ss.length = 1 := by
                          rw [(T8.out.ok hk8).2.2, rdp_map, rdp_map, yf_apart HG.out.trm HQ0.out (by have := HKI.out; omega)]; rfl
                        subst hk8
                        rw [hsl]
                        clear hsl
                        go_wp2_with fail
                        go_roundw
                        case rel => exact ⟨k + 1, by omega, by go_num, HA, BA⟩
                        case measure => simp [intOf]; omega
                      · have f8 : (kk == 0) = false := by simpa using hk8
                        go_wp2_with fail
                        go_roundw
                        case rel => exact ⟨k + 1, by omega, by go_num, HA, BA⟩
                        case measure => simp [intOf]; omega
                  · obtain rfl : k = i := by omega
                    go_wp2_with fail
                    go_roundw
                    case rel => exact ⟨k + 1, al, by omega, by go_num, HA, EA, BA⟩
                    case measure => simp [intOf]; omega
        · obtain rfl : i = j + 1 := by omega
          have HSM := hid (show al = ms by rw [EA.out, EM.out, ypr_all HG.out.trm HQ0.out HF.out])
          have HSA := same_texts HA.out.2.1 (TFm.out.on BA.out)
          rw [decide_eq_true HSM.out] at HSA
          have HSA := hid HSA
          go_wp2_with fail
          refine HSA.out.mono ?_
          rintro e w5 ⟨rfl, b5⟩
          replace BA := bb BA b5
          clear b5 HSA
          go_wp2_with fail
          go_ret
          exact ⟨rfl, B.out.trans (BA.out.mono B.out.size)⟩
  · obtain rfl := hnil hk
    have f1 : (k != 0) = true := by simpa using hk
    clear hown hy
    go_wp2_with fail
    go_ret
    exact ⟨rfl, B.out⟩

end Go.Proofs.Ytkenlaikhnoldaa

/-
  The law PgcdYun of package abacistlaw2: whatever lists of texts and texts come in, the call returns true, and they read behind it as they did before. No condition.
-/
namespace Go.Proofs.Ytkenlaikhnoldaa.pgcdYun
open Go.ChangeShapes Go.WideShapes Go.ChangeAt Go.RowKit
open Go.ChangeMaps (open_string shut_string)
set_option linter.unusedVariables false

theorem own : ownKnob Try.prog.godebug = none := by kernel_rfl
theorem laidOut : laidOutB Try.prog = true := by kernel_rfl
theorem cellsS : Try.prog.cellsOf 9 = 1 := by kernel_rfl
theorem bytesS : Try.prog.bytesOf 9 = 16 := by kernel_rfl

set_option maxRecDepth 100000 in
theorem lifted (os : Os) (started : os.Started) (H : Type) (enc : TypeId × Value → H) :
    ReturnsInHanded {} Try.checked os 3 .any (Rows.pgcdYunSpec.pre6 enc Try.prog Try.f3 Rows.pgcdYunRow.domain false) (Rows.pgcdYunSpec.post enc Try.prog Try.f3 false true false false) := by
  refine returnsInHanded_of_change_sized (C := Try.checked) own started (by kernel_rfl) Try.func3
    (ChangeSpec.witness6 (enc := enc) (C := Try.checked) false ⟨#[], #[.slice none 0 0], []⟩ 8 (by kernel_rfl) (by kernel_rfl) (by kernel_rfl) (by kernel_rfl)) ?_
  intro W base args ds gs before hval0 hW hcnd hsz0 _
  have hval : ∀ (j : Nat) t v, Try.f3.params[j]? = some t → args[j]? = some v → Value.okWide Try.prog W .any base t v := hval0
  have hW' := hW
  obtain ⟨p, q, hA0, hV, rfl, hfz, hnd⟩ := hW
  have hA : DataW.TrodAll enc Try.prog W 0 (fun _ => true) true Try.f3.params.toList args.toList ds p := hA0
  rw [Try.params3] at hA hval
  have hsz : (DataW.weightsEach Try.prog (Try.f3.params.toList ++ Rows.pgcdYunSpec.plain.varTypes Try.prog) (ds ++ gs)).all (· ≤ reachBytes) = true := hsz0
  rw [Try.params3] at hsz
  obtain ⟨v0, vs0, d0, ds0, p0, q0, hargs, rfl, rfl, h0, r0⟩ := trodAll_cons hA
  obtain ⟨rfl, rfl, rfl⟩ := trodAll_nil r0
  obtain rfl : args = #[v0] := by cases args; simp_all
  obtain ⟨rfl, rfl⟩ := trodVars_none hV
  obtain ⟨pa0, len0, cap0, rfl⟩ := okWide_slice Try.underlying22 (hval 0 22 v0 rfl rfl)
  have h0k := h0
  obtain ⟨fuel0, hf0⟩ := h0
  clear hA0 hval0
  have hlt0 : ∀ y ∈ p0, y.block < W.heap.size := fun y hy => hW'.lt y (by simp [hy])
  have T0 : ∃ ss : List ByteArray, TxsW W (.slice pa0 len0 cap0) ss ∧ Szs ss ∧ ss.length * 16 ≤ 140737488355328 := by
    rcases open_strings Try.underlying22 Try.underlying9 cellsS hf0 with ⟨hcs, hx⟩ | ⟨b, len', cap', ss, hcs, _, hl, hm, hz, hx, hcell, hws⟩
    · simp [Value.cells] at hcs
      obtain ⟨rfl, rfl, rfl⟩ := hcs
      exact ⟨[], (Txs.nil W).weak, Szs.nil, by decide⟩
    · simp [Value.cells] at hcs
      obtain ⟨rfl, rfl, rfl⟩ := hcs
      simp only [Prod.mk.injEq] at hx
      obtain ⟨rfl, hx2⟩ := hx
      simp only [if_true] at hz
      have hlen : (ss.take len0).length = len0 := by rw [List.length_take]; omega
      have hreach : len0 * 16 ≤ 140737488355328 := by
        have := sized_slice hsz (j := 0) (t := 22) (e := 9) rfl rfl Try.underlying22
        rw [bytesS] at this
        simp only [strs, List.length_map, List.length_take, List.length_drop, reachBytes] at this
        omega
      refine ⟨ss.take len0, ?_, ?_, by rw [hlen]; exact hreach⟩
      · refine ⟨some b, cap0, by rw [hlen], by rw [hlen]; exact hl, hm, fun i hi => ?_⟩
        have hi2 : i < len0 := by rw [← hlen]; exact hi
        have h2 := hcell i (by omega)
        obtain ⟨g, off, spot⟩ := b
        have hspot : spot = none := by simpa [Addr.add] using World.cell?_spot (hcell 0 (by omega))
        subst hspot
        have hbW : g < W.heap.size := hlt0 (.cell g off) (by rw [hx2]; exact MemPlace.mem_row.2 ⟨0, by omega, by simp⟩)
        refine ⟨g, off, rfl, hbW, ?_⟩
        rw [add_plain, List.getD_eq_getElem?_getD, List.getElem?_eq_getElem (by omega), Option.getD_some] at h2
        rw [h2, tx_lt hi, List.getElem_take]
      · intro i hi
        rw [tx_lt hi]
        exact hws _ (List.mem_of_mem_take (List.getElem_mem hi))
  obtain ⟨l0, t0, s0, z0⟩ := T0
  refine (pyun_walk t0 s0).mono fun e W' ⟨he, hg⟩ => ?_
  subst he
  refine ⟨_, rfl, _, _, _, [] ++ [], p0 ++ [], [], hW', ?_, ?_, rfl, hg.frame _, fun h => by cases h⟩
  · exact trodAll_cons_mk (shut_bool Try.underlying4 _) trodAll_mk0
  · exact (trodAll_cons_mk (Below.trod laidOut (by kernel_rfl) (of_decide_eq_true (by kernel_rfl)) h0k hg hlt0) trodAll_mk0)

/-- The law PgcdYun: every input. -/
theorem proved : Rows.PgcdYunSaid :=
  OpenClaim.holds_of_wide 3 Try.f3 rfl rfl rfl rfl rfl rfl rfl ⟨rfl, rfl, rfl, rfl, rfl⟩ rfl rfl rfl rfl rfl (by kernel_rfl) Try.func3 (by kernel_rfl)
    (of_decide_eq_true (by kernel_rfl)) (by unfold Func.isWrapper; first | (rw [if_pos (by decide +kernel)]; kernel_rfl) | (rw [if_neg (by decide +kernel)]; exact ⟨rfl, rfl⟩))
    (fun os started H enc _ => lifted os started H enc)
#print axioms proved
end Go.Proofs.Ytkenlaikhnoldaa.pgcdYun
