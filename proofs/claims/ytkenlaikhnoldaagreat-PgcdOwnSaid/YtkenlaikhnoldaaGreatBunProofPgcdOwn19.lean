import Derived.Test.YtkenlaikhnoldaaGreatBunProofPgcdOwn17
import Derived.Test.YtkenlaikhnoldaaGreatBunProofPgcdOwn14
import Derived.Test.YtkenlaikhnoldaaGreatBunProofPgcdOwn18
import Derived.Test.YtkenlaikhnoldaaGreatBunProofPgcdOwn4
import Derived.Test.YtkenlaikhnoldaaGreatBunProofPgcdOwn10
import Derived.SliceStrings
import Derived.SizedLaws
import Derived.Carry
import Derived.ProofKit
import Derived.OpenShut
import Derived.ShutString
/-
  PACKAGE pgcd: GcdOf.
-/
namespace Go.Proofs.YtkenlaikhnoldaaGreat
open Go.RowKit
open Num
set_option linter.unusedVariables false
set_option maxRecDepth 100000
set_option linter.unusedSimpArgs false

theorem cml_zq {l : List Int} {n : Nat} (h : Zl l n) (hn : 1 ≤ n) : Cml (zq l) n := ⟨hn, 1, by decide, Nat.one_lt_pow (by omega) (by decide), fun i => ⟨zc l i, h i, by rw [co_zq]; show _ * (1 : Rat) = _; grind⟩⟩
theorem cle_dv {l : List Rat} {L : List Int} {M : Int} (hM : M ≠ 0) (h : ∀ i, ((zc L i : Int) : Rat) = co l i * (M : Rat)) (x : Rat) : pv (zq L) x = (M : Rat) * pv l x := by
  rw [← pv_psc]
  exact pv_congr (fun i => by rw [co_zq, h, co_psc]; grind) x
theorem dv_cle {l : List Rat} {L : List Int} {M : Int} (hM : M ≠ 0) (h : ∀ i, ((zc L i : Int) : Rat) = co l i * (M : Rat)) : Dv l (zq L) ∧ Dv (zq L) l := by
  have hr : (M : Rat) ≠ 0 := int_ne hM
  refine ⟨Dv.of (k := [(M : Rat)]) fun x => by rw [cle_dv hM h, pv_one], Dv.of (k := [1 / (M : Rat)]) fun x => ?_⟩
  rw [cle_dv hM h, pv_one]
  have := rat_inv hr
  generalize 1 / (M : Rat) = y at *
  grind
theorem nil_cle {l : List Rat} {L : List Int} {M : Int} (hl : Trm l) (hL : Ztr L) (hM : M ≠ 0) (h : ∀ i, ((zc L i : Int) : Rat) = co l i * (M : Rat)) : zq L ≠ [] ↔ l ≠ [] := by
  obtain ⟨d1, d2⟩ := dv_cle hM h
  constructor
  · rintro h1 rfl
    exact d1.ne hL.trm h1 rfl
  · rintro h1 h2
    exact d2.ne hl h1 h2
/-- Times numbers, it is the same. -/
theorem gcdp_cle {l r : List Rat} {L R : List Int} {M N : Int} (hl : Trm l) (hr : Trm r) (hL : Ztr L) (hR : Ztr R) (hM : M ≠ 0) (hN : N ≠ 0) (h : ∀ i, ((zc L i : Int) : Rat) = co l i * (M : Rat)) (h' : ∀ i, ((zc R i : Int) : Rat) = co r i * (N : Rat)) :
    gcdp (zq L) (zq R) = gcdp l r := by
  obtain ⟨d1, d2⟩ := dv_cle hM h
  obtain ⟨e1, e2⟩ := dv_cle hN h'
  have n1 := nil_cle hl hL hM h
  have n2 := nil_cle hr hR hN h'
  by_cases h0 : zq L ≠ [] ∨ zq R ≠ []
  · obtain ⟨u, v, k1, k2, k3, _⟩ := gcdp_spec hL.trm hR.trm h0
    exact gcdp_of hl hr (h0.imp n1.1 n2.1) k1 (k2.trans d2) (k3.trans e2) fun d h1 h2 => gcdp_great hL.trm hR.trm h0 (h1.trans d1) (h2.trans e1)
  · have z1 : zq L = [] := Classical.byContradiction fun e => h0 (.inl e)
    have z2 : zq R = [] := Classical.byContradiction fun e => h0 (.inr e)
    have y1 : l = [] := Classical.byContradiction fun e => n1.2 e z1
    have y2 : r = [] := Classical.byContradiction fun e => n2.2 e z2
    rw [z1, z2, y1, y2]
set_option maxHeartbeats 1000000 in
/-- What goes into both. -/
theorem gcdof_p {w : World} {v u : Value} {l r : List Rat} {m : Nat} (h : PN w v l) (h' : PN w u r) (hl : Trm l) (hr : Trm r) (hs : Cml l m) (hs' : Cml r m) (hm : m ≤ 100000) (hn : l.length ≤ 9) (hn' : r.length ≤ 9) :
    Calls Tryz.prog 15 #[v, u] w fun e w' => ∃ v', e = .returned v' ∧ PN w' v' (gcdp l r) ∧ Below w.heap.size w w' := by
  have H1 := hid (zclear_p h hs (by omega) (by omega))
  have HQ := hid h'
  have HT := hid hl
  have HT' := hid hr
  have HC' := hid hs'
  have HM := hid hm
  have HN := hid hn
  have HN' := hid hn'
  clear h h' hl hr hs hs' hm hn hn'
  go_enter Tryz.func15, Tryz.ntmps15
  go_wp2_with fail
  refine H1.out.mono ?_
  rintro e w1 ⟨v1, L, M, rfl, hi, hz, hle, hM, hv, hzl, hb⟩
  replace HQ := pno HQ hb
  have B := hid hb
  have I1 := hid hi
  have Z1 := hid hz
  have N1 := hid (show L.length ≤ 9 by have := HN.out; omega)
  have M1 := hid hM
  have V1 := hid hv
  have S1 := hid hzl
  clear hi hz hle hM hv hzl hb H1
  go_wp2_with fail
  refine (zclear_p HQ.out HC'.out (by have := HM.out; omega) (by have := HN'.out; omega)).mono ?_
  rintro e w2 ⟨v2, R, N, rfl, hi, hz, hle, hM, hv, hzl, hb⟩
  replace I1 := ino I1 hb
  replace B := bb B hb
  have I2 := hid hi
  have Z2 := hid hz
  have N2 := hid (show R.length ≤ 9 by have := HN'.out; omega)
  have M2 := hid hM
  have V2 := hid hv
  have S2 := hid hzl
  clear hi hz hle hM hv hzl hb
  have E := hid (gcdp_cle HT.out HT'.out Z1.out Z2.out M1.out M2.out V1.out V2.out)
  go_wp2_with fail
  refine (ggcd_p I1.out I2.out Z1.out Z2.out S1.out S2.out HM.out N1.out N2.out).mono ?_
  rintro e w3 ⟨v3, G, rfl, hi, hz, hle, hg, hzl, hb⟩
  replace B := bb B hb
  have I3 := hid hi
  have Z3 := hid hz
  have N3 := hid hle
  have G3 := hid hg
  have S3 := hid hzl
  clear hi hz hle hg hzl hb
  go_wp2_with fail
  refine (zpoly_p I3.out (by have := N3.out; omega)).mono ?_
  rintro e w4 ⟨v4, rfl, hp, hb⟩
  replace B := bb B hb
  have P4 := hid hp
  clear hp hb
  go_wp2_with fail
  refine (monicof_p P4.out Z3.out.trm (cml_zq S3.out (by omega)) (by have := HM.out; omega) (by rw [zq_len]; exact N3.out)).mono ?_
  rintro e w5 ⟨v5, rfl, hp, hb⟩
  replace B := bb B hb
  have P5 := hid hp
  clear hp hb
  go_wp2_with fail
  go_ret
  exact ⟨_, rfl, by rw [← E.out, ← G3.out]; exact P5.out, B.out⟩

end Go.Proofs.YtkenlaikhnoldaaGreat

/-
  PACKAGE pgcd: without, FreeOf.
-/
namespace Go.Proofs.YtkenlaikhnoldaaGreat
open Go.RowKit
open Num
set_option linter.unusedVariables false
set_option maxRecDepth 100000
set_option linter.unusedSimpArgs false

set_option maxHeartbeats 1000000 in
/-- How often one goes in, which does. -/
theorem without_p {w : World} {v u : Value} {lp lq : List Rat} {m n : Nat} (h : PN w v lp) (h' : PN w u lq) (hp : Trm lp) (hq : Trm lq) (h0 : lq ≠ []) (hs : Sml lp m) (hs' : Sml lq n) (hm : m ≤ 1000000) (hn : n ≤ 1000000) (hl : lp.length ≤ 9) (hl' : lq.length ≤ 9) :
    Calls Tryz.prog 30 #[v, u] w fun e w' => ∃ v', e = .returned v' ∧ PN w' v' (quop lp lq) ∧ Below w.heap.size w w' := by
  have hb9 : (m + 2 * n + 1) * 2 ^ (lp.length + 1) ≤ 68719476736 := by
    have h1 : 2 ^ (lp.length + 1) ≤ 2 ^ 10 := Nat.pow_le_pow_right (by omega) (by omega)
    have h2 := Nat.mul_le_mul (show m + 2 * n + 1 ≤ 3000001 by omega) h1
    omega
  have hqt : trimQ lq = lq := hq
  have H1 := hid (pdiv_p h h' hs hs' (by rw [hqt]; exact h0) hb9 (by omega) (by omega))
  rw [hqt] at H1
  have hne := errv_neq
  have hgd := errv_guard
  have HP := hid hp
  have HQ := hid hq
  have H0 := hid h0
  clear h h' hp hq h0 hs hs' hm hn hl hl' hb9 hqt
  go_enter Tryz.func30, Tryz.ntmps30
  go_wp2_with fail
  refine H1.out.mono ?_
  rintro e w1 ⟨v1, u1, k, r, rfl, h1, h2, h3, h4, h5, h6, h7, h8, h9, hb⟩
  have B := hid hb
  have P1 := hid h1
  have E := hid (quop_of HP.out HQ.out H0.out h3 h4 h5 h7)
  clear h1 h2 h3 h4 h5 h6 h7 h8 h9 hb H1
  go_wp2_with fail
  go_ret
  exact ⟨_, rfl, by rw [← E.out]; exact P1.out, B.out⟩
set_option maxHeartbeats 1000000 in
theorem without_nil {w : World} {v u : Value} {lp lq : List Rat} (h : PN w v lp) (h' : PN w u lq) (h0 : trimQ lq = []) :
    Calls Tryz.prog 30 #[v, u] w fun e w' => ∃ v', e = .returned v' ∧ PN w' v' [] ∧ Below w.heap.size w w' := by
  have H1 := hid (pdiv_zero h h' h0)
  rw [← errv_some (show (5 : Int) ≠ 0 by decide)] at H1
  have hne := errv_neq
  have hgd := errv_guard
  have f5 : ((5 : Int) != 0) = true := by decide
  clear h h' h0
  go_enter Tryz.func30, Tryz.ntmps30
  go_wp2_with fail
  refine H1.out.mono ?_
  rintro e w1 ⟨rfl, hb⟩
  have B := hid hb
  clear hb H1
  go_wp2_with fail
  go_ret
  exact ⟨_, rfl, PN.nil _ (by decide), B.out⟩
set_option maxHeartbeats 1000000 in
/-- Each root once. -/
theorem freeof_p {w : World} {v : Value} {l : List Rat} {m : Nat} (h : PN w v l) (ht : Trm l) (hs : Cml l m) (hm : m ≤ 90000) (hl : l.length ≤ 9) :
    Calls Tryz.prog 18 #[v] w fun e w' => ∃ v', e = .returned v' ∧ PN w' v' (freep l) ∧ Below w.heap.size w w' := by
  obtain ⟨hc1, hn1⟩ := cml_mnc2 ht hs hl
  obtain ⟨hc2, hn2⟩ := cml_slope2 hc1 hn1
  obtain ⟨hc3, hn3⟩ := cml_gcdp2 (trm_mnc l) (trm_slope (mnc l)) (hc1.mono (Nat.le_succ m)) hc2 hn1 hn2
  have H1 := hid (monicof_p h ht hs (by omega) hl)
  rw [freep_eq ht]
  have HM := hid hm
  have HC1 := hid hc1
  have HC2 := hid hc2
  have HC3 := hid hc3
  have HN1 := hid hn1
  have HN2 := hid hn2
  have HN3 := hid hn3
  have HTR := hid (trm_mnc l)
  generalize mnc l = q at *
  clear h ht hs hm hl hc1 hc2 hc3 hn1 hn2 hn3
  go_enter Tryz.func18, Tryz.ntmps18
  go_wp2_with fail
  refine H1.out.mono ?_
  rintro e w1 ⟨v1, rfl, hp, hb⟩
  have B := hid hb
  have P1 := hid hp
  clear hp hb H1
  go_wp2_with fail
  refine (pderiv_p P1.out HC1.out.sml (by have := HM.out; omega) (by have := HN1.out; omega)).mono ?_
  rintro e w2 ⟨v2, rfl, hp, hb⟩
  replace P1 := pno P1 hb
  replace B := bb B hb
  have P2 := hid hp
  clear hp hb
  go_wp2_with fail
  refine (gcdof_p P1.out P2.out HTR.out (trm_slope q) (HC1.out.mono (Nat.le_succ m)) HC2.out (by have := HM.out; omega) HN1.out HN2.out).mono ?_
  rintro e w3 ⟨v3, rfl, hp, hb⟩
  replace P1 := pno P1 hb
  replace B := bb B hb
  have P3 := hid hp
  clear hp hb
  by_cases h0 : gcdp q (slope q) = []
  · have hq0 : q = [] := by
      apply Classical.byContradiction
      intro hq
      obtain ⟨u, v, k1, _⟩ := gcdp_spec HTR.out (trm_slope q) (.inl hq)
      exact k1.1 h0
    have E : Hid (quop q (gcdp q (slope q)) = []) := hid (by
      rw [h0]
      unfold quop
      rw [dif_neg (by rintro ⟨_, _, h⟩; exact h rfl)])
    have H4 := hid (without_nil P1.out P3.out (by rw [h0]; rfl))
    clear h0 hq0
    go_wp2_with fail
    refine H4.out.mono ?_
    rintro e w4 ⟨v4, rfl, hp, hb⟩
    replace B := bb B hb
    have P4 := hid hp
    clear hp hb
    go_wp2_with fail
    go_ret
    exact ⟨_, rfl, by rw [E.out]; exact P4.out, B.out⟩
  · have H4 := hid (without_p P1.out P3.out HTR.out (trm_gcdp HTR.out (trm_slope q)) h0 HC1.out.sml HC3.out.sml (by have := HM.out; omega) (by have := HM.out; omega) HN1.out HN3.out)
    clear h0
    go_wp2_with fail
    refine H4.out.mono ?_
    rintro e w4 ⟨v4, rfl, hp, hb⟩
    replace B := bb B hb
    have P4 := hid hp
    clear hp hb
    go_wp2_with fail
    go_ret
    exact ⟨_, rfl, P4.out, B.out⟩

end Go.Proofs.YtkenlaikhnoldaaGreat

/-
  PACKAGE pgcd: lists of polynomials.
-/
namespace Go.Proofs.YtkenlaikhnoldaaGreat
open Go.RowKit
open Num
set_option linter.unusedVariables false
set_option maxRecDepth 100000
set_option linter.unusedSimpArgs false

theorem infoP : (Tryz.prog.info? 39).map (fun i => (i.zero, i.size, i.bytes)) = some (some (.slice none 0 0), 1, 24) := by kernel_rfl
/-- The i-th of some values. -/
def vat (vs : List Value) (i : Nat) : Value := vs[i]?.getD (.slice none 0 0)
/-- A list of polynomials of the call's own. -/
def OwnF (w : World) (K : Nat) (v : Value) (fs : List (List Rat)) : Prop := ∃ vs : List Value, w.ownsRow K 39 1 v vs.length vs ∧ vs.length = fs.length ∧ (∀ u ∈ vs, ∃ p n c, u = .slice p n c) ∧ (∀ g, v.ownBlock = some g → NoInt w g ∧ ∀ s, w.cell? ⟨g, 0, none⟩ ≠ some (.bool s)) ∧ ∀ i, i < fs.length → PN w (vat vs i) (fs[i]?.getD [])
theorem OwnF.nil (w : World) (K : Nat) : OwnF w K (.slice none 0 0) [] := ⟨[], World.ownsRow_nil w _ _ _, rfl, fun u hu => by simp at hu, fun g hg => by simp [Value.ownBlock] at hg, fun i hi => by simp at hi⟩
theorem OwnF.lt {w : World} {K g : Nat} {v : Value} {fs : List (List Rat)} (h : OwnF w K v fs) (hg : v.ownBlock = some g) : K ≤ g ∧ g < w.heap.size := by
  obtain ⟨vs, h1, _⟩ := h
  exact World.ownsRow.lt h1 g hg
theorem OwnF.on {w w' : World} {K : Nat} {v : Value} {fs : List (List Rat)} (h : OwnF w K v fs) (hb : Below w.heap.size w w') : OwnF w' K v fs := by
  have hlt := fun g hg => (h.lt (g := g) hg).2
  obtain ⟨vs, ⟨h0, h1⟩, h2, h3, h4, h5⟩ := h
  refine ⟨vs, ⟨h0, ?_⟩, h2, h3, fun g hg => ⟨(h4 g hg).1.below hb (hlt g hg), fun s => by rw [hb.cell (p := ⟨g, 0, none⟩) (hlt g hg)]; exact (h4 g hg).2 s⟩, fun i hi => (h5 i hi).on hb⟩
  rcases h1 with h1 | ⟨g, cap, cur, rfl, hK, h1, h6⟩
  · exact .inl h1
  · exact .inr ⟨g, cap, cur, rfl, hK, (hb.block g (Array.getElem?_eq_some_iff.1 h1).1).trans h1, h6⟩
theorem PN.gb {w w' : World} {v : Value} {l : List Rat} {g : Nat} (h : PN w v l) (hg : w.grownBy w' (some g)) (hn : NoInt w g) (hb : ∀ s, w.cell? ⟨g, 0, none⟩ ≠ some (.bool s)) : PN w' v l := by
  obtain ⟨a, c, rs, h1, h2, h3, h4⟩ := h
  refine ⟨a, c, rs, h1, h2, h3, fun i hi => ?_⟩
  obtain ⟨b, e, hl, hA, hq⟩ := h4 i hi
  obtain ⟨b', e', _, hA', _⟩ := h4 0 (by omega)
  have hbb : b' = b := by rw [e] at e'; cases e'; rfl
  subst hbb
  have hne : b' ≠ g := by
    rintro rfl
    exact hb _ hA'.1
  exact ⟨b', e, Nat.lt_of_lt_of_le hl hg.size, hA.kept (hg.block b' hl (fun e => hne (Option.some.inj e))), hq.grown hn hg⟩
/-- 'append(factors, one)'. -/
theorem wpList_append_f {w : World} {ops : Array Oper} {rest : List Oper} {o : Oper} {a : Act} {Q : Exit → Act → World → Prop} (hgd : o.guard = none) (s x : Operand)
    (ho : o.op = .call { callee := .builtin .append, args := #[s, x], argTypes := #[45, 45] })
    (K : Nat) (v : Value) (fs : List (List Rat)) (hs : a.eval s = v) (hown : OwnF w K v fs) (hK : K ≤ w.heap.size) (hl : fs.length ≤ 1000)
    (ad : Nat) (c : Nat) (hx : a.eval x = .slice (some ⟨ad, 0, none⟩) 1 c) {p : Option Addr} {n c' : Nat} {l : List Rat} (q0 : w.cell? ⟨ad, 0, none⟩ = some (.slice p n c')) (hp : PN w (.slice p n c') l)
    {w0 : World} {K0 : Nat} (hK0 : K0 ≤ K) (hB : Below K0 w0 w)
    (h : ∀ v' w', OwnF w' K v' (fs ++ [l]) → (∀ u r, PN w u r → PN w' u r) → Below K0 w0 w' → wpList Tryz.prog ops Q rest (a.put o.dst v') w') : wpList Tryz.prog ops Q (o :: rest) a w := by
  obtain ⟨i, hi, hz0, hz1, hz2⟩ := info_parts infoP
  have hlt := fun g hg => hown.lt (g := g) hg
  obtain ⟨vs, h1, h2, h3, h4, h5⟩ := hown
  refine wpList_append_ni hgd s x 45 ho K 39 i (.slice none 0 0) 1 24 Tryz.underlying45 hi hz0 hz1 hz2 rfl (by decide) v vs.length vs hs h1 (fun g hg => (h4 g hg).1) ?_ ⟨ad, 0, none⟩ 1 c [.slice p n c'] hx rfl ?_ ?_ ?_ ?_ ?_ hK ?_
  · intro u hu
    simp [Value.cells] at hu
    subst hu
    exact NI.slc _ _ _
  · intro j u hj
    match j, hj with
    | 0, hj => simp at hj; subst hj; simpa [Addr.add] using q0
  · intro u hu; simp at hu; subst hu; rfl
  · intro u hu; simp at hu; subst hu; exact NI.slc _ _ _
  · unfold maxLen; omega
  · omega
  · intro v' w' g1 g2 g3
    have hB2 : Below K0 w0 w' := hB.grown g2 (by omega) fun g hg => Nat.le_trans hK0 (hlt g hg).1
    have hP : ∀ u r, PN w u r → PN w' u r := by
      intro u r hu
      cases ho : v.ownBlock with
      | none =>
        rw [ho] at g2
        exact hu.on ((Below.refl w.heap.size w).grown g2 (Nat.le_refl _) fun g hg => by cases hg)
      | some g =>
        rw [ho] at g2
        exact hu.gb g2 (h4 g ho).1 (h4 g ho).2
    refine h v' w' ⟨vs ++ [.slice p n c'], by rw [List.length_append]; exact g1, by rw [List.length_append, List.length_append, h2]; rfl, fun u hu => ?_, fun g hg => ⟨g3 g hg, fun s => ?_⟩, fun i hi => ?_⟩ hP hB2
    · rcases List.mem_append.1 hu with hu | hu
      · exact h3 u hu
      · simp at hu; exact ⟨_, _, _, hu⟩
    · rcases g1.2 with ⟨_, h0⟩ | ⟨g', cap, cur, rfl, hK', e1, e2, e3, e4, e5⟩
      · omega
      · simp [Value.ownBlock] at hg
        subst hg
        have hc : ∃ u, cur[0]? = some u ∧ ∃ p n c, u = .slice p n c := by
          have h6 : (vs ++ [.slice p n c'])[0]? ≠ none := by simp
          obtain ⟨u, hu⟩ := Option.ne_none_iff_exists'.1 h6
          have hu2 := hu
          rw [← e5, List.getElem?_take, if_pos (by omega), Array.getElem?_toList] at hu2
          refine ⟨u, hu2, ?_⟩
          have hm := List.mem_of_getElem? hu
          rcases List.mem_append.1 hm with hm | hm
          · exact h3 u hm
          · simp at hm; exact ⟨_, _, _, hm⟩
        obtain ⟨u, hu, p2, n2, c2, rfl⟩ := hc
        simp [World.cell?, e1, hu]
    · rw [List.length_append, List.length_singleton] at hi
      by_cases hlt2 : i < fs.length
      · have e1 : vat (vs ++ [.slice p n c']) i = vat vs i := by unfold vat; rw [List.getElem?_append_left (by omega)]
        rw [e1, List.getElem?_append_left hlt2]
        exact hP _ _ (h5 i hlt2)
      · obtain rfl : i = fs.length := by omega
        have e1 : vat (vs ++ [.slice p n c']) fs.length = .slice p n c' := by unfold vat; rw [← h2, List.getElem?_concat_length]; rfl
        rw [e1, List.getElem?_concat_length]
        exact hP _ _ hp

end Go.Proofs.YtkenlaikhnoldaaGreat

/-
  PACKAGE pgcd: YunOf.
-/
namespace Go.Proofs.YtkenlaikhnoldaaGreat
open Go.RowKit
open Num
set_option linter.unusedVariables false
set_option maxRecDepth 100000
set_option linter.unusedSimpArgs false

set_option maxHeartbeats 4000000 in
/-- The roots by how often they are. -/
theorem yunof_p {w : World} {v : Value} {l : List Rat} {m : Nat} (h : PN w v l) (ht : Trm l) (hs : Cml l m) (hm : m ≤ 40000) (hl : l.length ≤ 9) :
    Calls Tryz.prog 19 #[v] w fun e w' => ∃ v' n, e = .returned v' ∧ OwnF w' w.heap.size v' ((List.range n).map (yf l)) ∧ n ≤ 9 ∧ (freep (yp l n)).length ≤ 1 ∧ (∀ k, k < n → 2 ≤ (freep (yp l k)).length) ∧ Below w.heap.size w w' := by
  have H1 := hid (freeof_p h ht hs (by omega) hl)
  have HP := hid h
  have HT := hid ht
  have HS := hid hs
  have HM := hid hm
  have HL := hid hl
  obtain ⟨a0, c0, rfl, hn0, hc0⟩ := h.opened
  clear h ht hs hm hl
  go_enter Tryz.func19, Tryz.ntmps19
  go_wp2_with fail
  refine H1.out.mono ?_
  rintro e w1 ⟨v1, rfl, hp, hb⟩
  replace HP := pno HP hb
  have B := hid hb
  have HR := hid hp
  clear hp hb H1 hn0 hc0
  obtain ⟨a1, c1, rfl, hn1, hc1⟩ := HR.out.opened
  go_wp2_with fail
  go_loopw [0, 3, 4] (fun x y z wr => ∃ i : Nat, Hid (∀ k, k < i → 2 ≤ (freep (yp l k)).length) ∧ i + (yp l i).length ≤ 9 ∧ Hid (PN wr x (yp l i)) ∧ Hid (OwnF wr w.heap.size y ((List.range i).map (yf l))) ∧ Hid (PN wr z (freep (yp l i))) ∧ Hid (Below w.heap.size w wr)) (fun x _ _ _ => sln x)
  case atStart => exact ⟨0, hid (fun k hk => by omega), by have := HL.out; show 0 + l.length ≤ 9; omega, HP, hid (OwnF.nil _ _), HR, B⟩
  case round =>
    clear HP HR B hn1 hc1
    obtain ⟨i, HK, hi9, HP, HO, HR, B⟩ := hrel
    obtain ⟨ax, cx, rfl, hnx, hcx⟩ := HP.out.opened
    obtain ⟨az, cz, rfl, hnz, hcz⟩ := HR.out.opened
    unfold maxLen at hcx hcz
    by_cases h2 : 2 ≤ (freep (yp l i)).length
    · have hl0 : l ≠ [] := by rintro rfl; exact yp_nil_free i HK.out h2
      obtain ⟨s1, s2, s3, _⟩ := yp_spec HT.out hl0 i
      obtain ⟨t1, t2, _⟩ := yp_spec HT.out hl0 (i + 1)
      obtain ⟨c1, c2⟩ := cml_yp HT.out hl0 HS.out HL.out i
      obtain ⟨d1, d2⟩ := cml_yp HT.out hl0 HS.out HL.out (i + 1)
      obtain ⟨f1, f2⟩ := cml_freep s1 c1 c2
      obtain ⟨g1, g2⟩ := cml_freep t1 d1 d2
      have hf := yfree_mnc HT.out hl0 i
      have hf' := yfree_mnc HT.out hl0 (i + 1)
      have HYL := hid (y_len HT.out hl0 i h2)
      have hM := HM.out
      have H1 := hid (without_p HP.out HR.out s1 hf.trm hf.1 c1.sml f1.sml (by omega) (by omega) c2 f2)
      have H2 := hid (fun (w' : World) (v' : Value) (h : PN w' v' (yp l (i + 1))) => freeof_p h t1 d1 (by omega) d2)
      have H3 := hid (fun (w' : World) (v' u' : Value) (h : PN w' v' (freep (yp l i))) (h' : PN w' u' (freep (yp l (i + 1)))) => without_p h h' hf.trm hf'.trm hf'.1 f1.sml g1.sml (by omega) (by omega) f2 g2)
      have HH2 := hid h2
      have hlt : (1 : Int) < ((freep (yp l i)).length : Int) := by omega
      have hlt2 : 1 < (freep (yp l i)).length := by omega
      clear s1 s2 s3 t1 t2 c1 c2 d1 d2 f1 f2 g1 g2 hf hf' h2 hl0 hM
      go_wp2_with fail
      refine H1.out.mono ?_
      rintro e w2 ⟨v2, rfl, hp, hb⟩
      replace HR := pno HR hb
      replace HO := hid (HO.out.on hb)
      replace B := bb B hb
      have P2 := hid (show PN w2 v2 (yp l (i + 1)) from hp)
      clear hp hb H1
      go_wp2_with fail
      refine (H2.out _ _ P2.out).mono ?_
      rintro e w3 ⟨v3, rfl, hp, hb⟩
      replace HR := pno HR hb
      replace P2 := pno P2 hb
      replace HO := hid (HO.out.on hb)
      replace B := bb B hb
      have P3 := hid hp
      clear hp hb H2
      go_wp2_with fail
      refine (H3.out _ _ _ HR.out P3.out).mono ?_
      rintro e w4 ⟨v4, rfl, hp, hb⟩
      replace P2 := pno P2 hb
      replace P3 := pno P3 hb
      replace HO := hid (HO.out.on hb)
      replace B := bb B hb
      have P4 := hid (show PN w4 v4 (yf l i) from hp)
      clear hp hb H3 hlt hlt2 HR
      obtain ⟨p4, n4, rfl, _, _⟩ := P4.out.opened
      have hb5 := (Below.refl w4.heap.size w4).alloc (Nat.le_refl _) (.cells #[.slice p4 (yf l i).length n4] 39)
      have cd0 : (w4.alloc (.cells #[.slice p4 (yf l i).length n4] 39)).cell? ⟨w4.heap.size, 0, none⟩ = some (.slice p4 (yf l i).length n4) := by
        have hx : (w4.alloc (.cells #[.slice p4 (yf l i).length n4] 39)).heap[w4.heap.size]? = some (.cells #[.slice p4 (yf l i).length n4] 39 (0, 0)) := by
          show (w4.heap.push _)[w4.heap.size]? = _
          simp
        simp only [World.cell?, hx]
        rfl
      have hKK : w.heap.size ≤ (w4.alloc (.cells #[.slice p4 (yf l i).length n4] 39)).heap.size := Nat.le_trans B.out.size hb5.size
      replace P2 := pno P2 hb5
      replace P3 := pno P3 hb5
      replace P4 := pno P4 hb5
      replace HO := hid (HO.out.on hb5)
      replace B := bb B hb5
      have hll : ((List.range i).map (yf l)).length ≤ 1000 := by rw [List.length_map, List.length_range]; omega
      go_wp2_with (at_builtin; refine wpList_append_f rfl _ _ rfl w.heap.size _ ((List.range i).map (yf l)) rfl HO.out hKK hll w4.heap.size 1 rfl cd0 P4.out (Nat.le_refl _) B.out ?_)
      intro v' wa hown hpn hB2
      have HO2 : Hid (OwnF wa w.heap.size v' ((List.range (i + 1)).map (yf l))) := hid (by rw [List.range_succ, List.map_append]; exact hown)
      replace P2 := hid (hpn _ _ P2.out)
      replace P3 := hid (hpn _ _ P3.out)
      replace B := hid hB2
      clear hown hpn hB2 hKK hll cd0 P4 HO hb5
      obtain ⟨p2, n2, rfl, _, _⟩ := P2.out.opened
      go_wp2_with fail
      go_roundw
      case rel => exact ⟨i + 1, hid (fun k hk => if h : k < i then HK.out k h else (show i = k by omega) ▸ HH2.out), by have := HYL.out; omega, P2, HO2, P3, B⟩
      case measure => have := HYL.out; simp [sln]; omega
    · have hlt : ¬ (1 : Int) < ((freep (yp l i)).length : Int) := by omega
      have hlt2 : ¬ 1 < (freep (yp l i)).length := by omega
      have H9 := hid (show (freep (yp l i)).length ≤ 1 by omega)
      go_wp2_with fail
      go_ret
      exact ⟨_, rfl, i, HO.out, by omega, H9.out, HK.out, B.out⟩

end Go.Proofs.YtkenlaikhnoldaaGreat

/-
  PACKAGE pgcd: Monic, Gcd, Free, of texts.
-/
namespace Go.Proofs.YtkenlaikhnoldaaGreat
open Go.RowKit
open Num
set_option linter.unusedVariables false
set_option maxRecDepth 100000
set_option linter.unusedSimpArgs false

/-- What a function of one list tells: a list, or nothing and an error. -/
def PUn (f : List Rat → List Rat) (p ss : List ByteArray) (k : Int) : Prop := (k = 0 ∧ GoodP p ∧ ss = (f (rdp p)).map qtxt) ∨ (k ≠ 0 ∧ BadP p k ∧ ss = [])
theorem GoodP.cml {p : List ByteArray} (h : GoodP p) : Cml (rdp p) 227 := h.sml.cml.mono (by have := h.1; rw [rdp_len]; omega)
theorem GoodP.len {p : List ByteArray} (h : GoodP p) : (rdp p).length ≤ 9 := by rw [rdp_len]; exact h.1
theorem GoodP.trm {p : List ByteArray} (h : GoodP p) : Trm (rdp p) := h.2.2

set_option maxHeartbeats 1000000 in
theorem monic_any {w : World} {v : Value} {p : List ByteArray} (h : TxsW w v p) (hs : Szs p) :
    Calls Tryz.prog 6 #[v] w fun e w' => ∃ r ss k, e = .returned (.tuple #[r, errv k]) ∧ OwnS w' w.heap.size r ss ∧ PUn mnc p ss k ∧ Below w.heap.size w w' := by
  have H1 := hid (pread_any h hs)
  have hne := errv_neq
  have hgd := errv_guard
  clear h hs
  go_enter Tryz.func6, Tryz.ntmps6
  go_wp2_with fail
  refine H1.out.mono ?_
  rintro e w1 ⟨x, k, rfl, hr, _, hb⟩
  have B := hid hb
  rcases hr with ⟨rfl, hg, hp⟩ | ⟨hk, hw, rfl⟩
  · have HG := hid hg
    have HP := hid hp
    have HC := hid (cml_mnc2 HG.out.trm HG.out.cml HG.out.len)
    clear hb hg hp
    go_wp2_with fail
    refine (monicof_p HP.out HG.out.trm HG.out.cml (by decide) HG.out.len).mono ?_
    rintro e w2 ⟨r, rfl, hr, hb2⟩
    replace B := bb B hb2
    have HR := hid hr
    clear hb2 hr
    go_wp2_with fail
    refine (texts_s HR.out (trm_mnc _) HC.out.1.sml (by decide) (by have := HC.out.2; omega)).mono ?_
    rintro e w3 ⟨s, rfl, ho, hb3⟩
    have HO := hid (show OwnS w3 w.heap.size s _ from ⟨ho.1.mono B.out.size, ho.2⟩)
    replace B := bb B hb3
    clear hb3 ho
    go_wp2_with fail
    go_ret2
    exact ⟨_, _, 0, rfl, HO.out, .inl ⟨rfl, HG.out, rfl⟩, B.out⟩
  · have HK := hid hk
    have HW := hid hw
    have f1 : (k != 0) = true := by simpa using hk
    clear hb hw
    go_wp2_with fail
    go_ret2
    exact ⟨_, [], k, rfl, OwnS.nil _ _, .inr ⟨HK.out, HW.out, rfl⟩, B.out⟩

set_option maxHeartbeats 1000000 in
theorem gcd_any {w : World} {v u : Value} {p q : List ByteArray} (h : TxsW w v p) (h' : TxsW w u q) (hs : Szs p) (hs' : Szs q) :
    Calls Tryz.prog 5 #[v, u] w fun e w' => ∃ r ss k, e = .returned (.tuple #[r, errv k]) ∧ OwnS w' w.heap.size r ss ∧ PTells gcdp p q ss k ∧ Below w.heap.size w w' := by
  have H1 := hid (pread_any h hs)
  have H2 := hid (fun (w' : World) (hb : Below w.heap.size w w') => pread_any (h'.on hb) hs')
  have hne := errv_neq
  have hgd := errv_guard
  clear h h' hs hs'
  go_enter Tryz.func5, Tryz.ntmps5
  go_wp2_with fail
  refine H1.out.mono ?_
  rintro e w1 ⟨x, k, rfl, hr, _, hb⟩
  have B := hid hb
  have R := hid hr
  clear hb hr
  by_cases hk : k = 0
  · obtain ⟨hg, hp⟩ := R.out.yes hk
    have HG := hid hg
    have HP := hid hp
    clear hg hp
    subst hk
    go_wp2_with fail
    refine (H2.out _ B.out).mono ?_
    rintro e w2 ⟨y, z, rfl, hr2, _, hb2⟩
    replace HP := pno HP hb2
    replace B := bb B hb2
    have R2 := hid hr2
    clear hb2 hr2
    by_cases hk2 : z = 0
    · obtain ⟨hg2, hp2⟩ := R2.out.yes hk2
      have HG2 := hid hg2
      have HP2 := hid hp2
      have HC := hid (cml_gcdp2 HG.out.trm HG2.out.trm HG.out.cml HG2.out.cml HG.out.len HG2.out.len)
      clear hg2 hp2
      subst hk2
      go_wp2_with fail
      refine (gcdof_p HP.out HP2.out HG.out.trm HG2.out.trm HG.out.cml HG2.out.cml (by decide) HG.out.len HG2.out.len).mono ?_
      rintro e w3 ⟨r, rfl, hr, hb3⟩
      replace B := bb B hb3
      have HR := hid hr
      clear hb3 hr
      go_wp2_with fail
      refine (texts_s HR.out (trm_gcdp HG.out.trm HG2.out.trm) HC.out.1.sml (by decide) (by have := HC.out.2; omega)).mono ?_
      rintro e w4 ⟨s, rfl, ho, hb4⟩
      have HO := hid (show OwnS w4 w.heap.size s _ from ⟨ho.1.mono B.out.size, ho.2⟩)
      replace B := bb B hb4
      clear hb4 ho
      go_wp2_with fail
      go_ret2
      exact ⟨_, _, 0, rfl, HO.out, .inl ⟨rfl, HG.out, HG2.out, rfl⟩, B.out⟩
    · have HB := hid (R2.out.no hk2).1
      have HK2 := hid hk2
      have f2 : (z != 0) = true := by simpa using hk2
      go_wp2_with fail
      go_ret2
      exact ⟨_, [], z, rfl, OwnS.nil _ _, .inr ⟨HK2.out, .inr ⟨HG.out, HB.out⟩, rfl⟩, B.out⟩
  · have HB := hid (R.out.no hk).1
    have HK := hid hk
    have f1 : (k != 0) = true := by simpa using hk
    go_wp2_with fail
    go_ret2
    exact ⟨_, [], k, rfl, OwnS.nil _ _, .inr ⟨HK.out, .inl HB.out, rfl⟩, B.out⟩

set_option maxHeartbeats 1000000 in
theorem free_any {w : World} {v : Value} {p : List ByteArray} (h : TxsW w v p) (hs : Szs p) :
    Calls Tryz.prog 7 #[v] w fun e w' => ∃ r ss k, e = .returned (.tuple #[r, errv k]) ∧ OwnS w' w.heap.size r ss ∧ PUn freep p ss k ∧ Below w.heap.size w w' := by
  have H1 := hid (pread_any h hs)
  have hne := errv_neq
  have hgd := errv_guard
  clear h hs
  go_enter Tryz.func7, Tryz.ntmps7
  go_wp2_with fail
  refine H1.out.mono ?_
  rintro e w1 ⟨x, k, rfl, hr, _, hb⟩
  have B := hid hb
  rcases hr with ⟨rfl, hg, hp⟩ | ⟨hk, hw, rfl⟩
  · have HG := hid hg
    have HP := hid hp
    have HC := hid (cml_freep HG.out.trm HG.out.cml HG.out.len)
    clear hb hg hp
    go_wp2_with fail
    refine (freeof_p HP.out HG.out.trm HG.out.cml (by decide) HG.out.len).mono ?_
    rintro e w2 ⟨r, rfl, hr, hb2⟩
    replace B := bb B hb2
    have HR := hid hr
    clear hb2 hr
    go_wp2_with fail
    refine (texts_s HR.out (trm_freep HG.out.trm) HC.out.1.sml (by decide) (by have := HC.out.2; omega)).mono ?_
    rintro e w3 ⟨s, rfl, ho, hb3⟩
    have HO := hid (show OwnS w3 w.heap.size s _ from ⟨ho.1.mono B.out.size, ho.2⟩)
    replace B := bb B hb3
    clear hb3 ho
    go_wp2_with fail
    go_ret2
    exact ⟨_, _, 0, rfl, HO.out, .inl ⟨rfl, HG.out, rfl⟩, B.out⟩
  · have HK := hid hk
    have HW := hid hw
    have f1 : (k != 0) = true := by simpa using hk
    clear hb hw
    go_wp2_with fail
    go_ret2
    exact ⟨_, [], k, rfl, OwnS.nil _ _, .inr ⟨HK.out, HW.out, rfl⟩, B.out⟩

end Go.Proofs.YtkenlaikhnoldaaGreat

/-
  PACKAGE pgcd: Yun, of texts.
-/
namespace Go.Proofs.YtkenlaikhnoldaaGreat
open Go.RowKit
open Num
set_option linter.unusedVariables false
set_option maxRecDepth 100000
set_option linter.unusedSimpArgs false

theorem yf_dv {p : List Rat} (hp : Trm p) (h0 : p ≠ []) (n : Nat) : Dv (yf p n) p := by
  obtain ⟨h1, h2, h3, _⟩ := yp_spec hp h0 n
  have e := quop_dv (yfree_mnc hp h0 n).trm (yfree_mnc hp h0 (n + 1)).trm (yfree_mnc hp h0 (n + 1)).1 (yfree_dv hp h0 n)
  refine Dv.trans ?_ ((freep_dv h1 h2).trans h3)
  refine Dv.of (k := freep (yp p (n + 1))) fun x => ?_
  have h4 : pv (freep (yp p n)) x = pv (mulp (quop (freep (yp p n)) (freep (yp p (n + 1)))) (freep (yp p (n + 1)))) x := by rw [e]
  rw [h4, pv_mulp]
  show _ = _ * pv (quop (freep (yp p n)) (freep (yp p (n + 1)))) x
  grind
theorem cml_yf {p : List Rat} {m : Nat} (hp : Trm p) (h0 : p ≠ []) (h : Cml p m) (hl : p.length ≤ 9) (n : Nat) : Cml (yf p n) (m + 7) ∧ (yf p n).length ≤ 9 :=
  ⟨h.dv (yf_mnc hp h0 n) hp h0 (yf_dv hp h0 n) hl, Nat.le_trans ((yf_dv hp h0 n).len (yf_mnc hp h0 n).trm hp h0) hl⟩
theorem infoL : (Tryz.prog.info? 22).map (fun i => (i.zero, i.size, i.bytes)) = some (some (.slice none 0 0), 1, 24) := by kernel_rfl
theorem OwnF.opened {w : World} {K : Nat} {v : Value} {fs : List (List Rat)} (h : OwnF w K v fs) : ∃ a c, v = .slice a fs.length c ∧ c ≤ maxLen := by
  obtain ⟨vs, ⟨h0, h1⟩, h2, _⟩ := h
  rcases h1 with ⟨rfl, h1⟩ | ⟨g, cap, cur, rfl, _, _, _, h3, _⟩
  · exact ⟨none, 0, by rw [← h2, h1], Nat.zero_le _⟩
  · exact ⟨_, cap, by rw [h2], h3⟩
theorem OwnF.at {w : World} {K n cap : Nat} {a : Option Addr} {fs : List (List Rat)} (h : OwnF w K (.slice a n cap) fs) {i : Nat} (hi : i < fs.length) : ∃ g p m c, a = some ⟨g, 0, none⟩ ∧ g < w.heap.size ∧ w.cell? ⟨g, i, none⟩ = some (.slice p m c) ∧ PN w (.slice p m c) (fs[i]?.getD []) := by
  obtain ⟨vs, ⟨h0, h1⟩, h2, h3, _, h5⟩ := h
  rcases h1 with ⟨_, h1⟩ | ⟨g, cap', cur, e, _, h1, _, _, _, h4⟩
  · omega
  · cases e
    have hp := h5 i hi
    have hv : vs[i]? = some (vat vs i) := by unfold vat; rw [List.getElem?_eq_getElem (by omega)]; rfl
    obtain ⟨p, m, c, e⟩ := h3 (vat vs i) (List.mem_of_getElem? hv)
    rw [e] at hv hp
    refine ⟨g, p, m, c, rfl, (Array.getElem?_eq_some_iff.1 h1).1, ?_, hp⟩
    rw [← h4, List.getElem?_take, if_pos (by omega), Array.getElem?_toList] at hv
    simp [World.cell?, h1, hv]
/-- Block b holds n lists of texts, and may be written. -/
def YRw (w : World) (b n : Nat) (rs : Nat → Value) : Prop := ∃ cur, w.heap[b]? = some (.cells cur 22 (0, 0)) ∧ cur.size = n ∧ ∀ i, i < n → cur[i]? = some (rs i)
theorem YRw.lt {w : World} {b n : Nat} {rs : Nat → Value} (h : YRw w b n rs) : b < w.heap.size := by
  obtain ⟨cur, h, _⟩ := h
  exact (Array.getElem?_eq_some_iff.1 h).1
theorem YRw.on {w w' : World} {b n : Nat} {rs : Nat → Value} (h : YRw w b n rs) (hb : Below w.heap.size w w') : YRw w' b n rs := by
  have hl := h.lt
  obtain ⟨cur, h, h2⟩ := h
  exact ⟨cur, (hb.block b hl).trans h, h2⟩
theorem YRw.cell {w : World} {b n : Nat} {rs : Nat → Value} (h : YRw w b n rs) {i : Nat} (hi : i < n) : w.cell? ⟨b, i, none⟩ = some (rs i) := by
  obtain ⟨cur, h, _, h2⟩ := h
  simp [World.cell?, h, h2 i hi]
theorem YRw.stores {w : World} {b n : Nat} {rs : Nat → Value} (h : YRw w b n rs) {i : Nat} (hi : i < n) : w.cell? ⟨b, i, none⟩ = some (rs i) ∧ w.frozen? ⟨b, i, none⟩ = false := by
  refine ⟨h.cell hi, ?_⟩
  obtain ⟨cur, h, _⟩ := h
  simp [World.frozen?, h]
theorem YRw.put {w : World} {b n : Nat} {rs : Nat → Value} (h : YRw w b n rs) {i : Nat} (hi : i < n) (u : Value) : YRw (w.setCell ⟨b, i, none⟩ u) b n (fun k => if k = i then u else rs k) := by
  obtain ⟨cur, h, hs, h2⟩ := h
  refine ⟨cur.setIfInBounds i u, heap_set h u, by simp [hs], fun k hk => ?_⟩
  show (cur.setIfInBounds i u)[k]? = some (if k = i then u else rs k)
  by_cases hki : k = i
  · subst hki
    rw [if_pos rfl, Array.getElem?_setIfInBounds_self_of_lt (by omega)]
  · rw [if_neg hki, Array.getElem?_setIfInBounds_ne (by omega)]
    exact h2 k hk
/-- 'make([][]string, n)'. -/
theorem wpList_make_ys (w : World) {ops : Array Oper} {rest : List Oper} {o : Oper} {a : Act} {Q : Exit → Act → World → Prop}
    (hg : o.guard = none) (l c : Operand) (t : TypeId) (hop : o.op = Op.makeSlice t l c) (h1 : Tryz.prog.underlying t = some (.slice 22))
    (n : Nat) (hl : a.eval l = .int .i64 n) (hc : a.eval c = .int .i64 n) (hb : n ≤ 1000000000000)
    (hK : ∀ w', YRw w' w.heap.size n (fun _ => .slice none 0 0) → Below w.heap.size w w' → w'.heap.size = w.heap.size + 1 → wpList Tryz.prog ops Q rest (a.put o.dst (.slice (some ⟨w.heap.size, 0, none⟩) n n)) w') :
    wpList Tryz.prog ops Q (o :: rest) a w := by
  obtain ⟨i, hi, hz0, hz1, hz2⟩ := info_parts infoL
  refine wpList_plain hg fun K hK' => ?_
  have hr := run_make (P := Tryz.prog) w t _ i _ h1 hi hz0 .i64 .i64 (n : Int) (n : Int) (by omega) (by omega) (by rw [hz2]; omega) (by omega)
  simp only [Int.toNat_natCast] at hr
  unfold Oper.wp
  simp [execOp, hop, hl, hc, hr, Result.andThen]
  rw [hz1]
  refine hK' _ _ (hK _ ⟨_, by show (w.heap.push _)[w.heap.size]? = _; simp; rfl, by simp [madeCells], fun j hj => ?_⟩ ((Below.refl _ _).alloc (Nat.le_refl _) _) (by simp))
  have hcs : (Value.slice none 0 0).cells = #[.slice none 0 0] := by simp [Value.cells]
  rw [hcs]
  simp [madeCells, hj, Nat.mod_one]
/-- A list of lists of texts of the call's own, all apart. -/
def OwnY (w : World) (K : Nat) (v : Value) (n : Nat) (f : Nat → List ByteArray) : Prop := ∃ b rs, v = .slice (some ⟨b, 0, none⟩) n n ∧ K ≤ b ∧ n ≤ 9 ∧ YRw w b n rs ∧ (∀ i, i < n → OwnS w (b + 1) (rs i) (f i)) ∧ ∀ i j, i < j → j < n → ∀ g, (rs i).ownBlock = some g → (rs j).ownBlock ≠ some g
theorem OwnS.put {w : World} {K b i : Nat} {v u : Value} {ss : List ByteArray} (h : OwnS w K v ss) (hb : b < K) : OwnS (w.setCell ⟨b, i, none⟩ u) K v ss := ⟨ownsRow_setCell_below h.1 hb u, h.2⟩
theorem OwnS.on {w w' : World} {K : Nat} {v : Value} {ss : List ByteArray} (h : OwnS w K v ss) (hb : Below w.heap.size w w') : OwnS w' K v ss := ⟨h.1.on hb, h.2⟩
/-- What Yun tells. -/
def GYun (p : List ByteArray) (n : Nat) (k : Int) : Prop := (k = 0 ∧ GoodP p ∧ (freep (yp (rdp p) n)).length ≤ 1 ∧ ∀ i, i < n → 2 ≤ (freep (yp (rdp p) i)).length) ∨ (k ≠ 0 ∧ BadP p k ∧ n = 0)
set_option maxHeartbeats 4000000 in
theorem yun_any {w : World} {v : Value} {p : List ByteArray} (h : TxsW w v p) (hs : Szs p) :
    Calls Tryz.prog 8 #[v] w fun e w' => ∃ r n k, e = .returned (.tuple #[r, errv k]) ∧ GYun p n k ∧ (k = 0 → OwnY w' w.heap.size r n fun i => (yf (rdp p) i).map qtxt) ∧ (k ≠ 0 → r = .slice none 0 0) ∧ Below w.heap.size w w' := by
  have H1 := hid (pread_any h hs)
  have hne := errv_neq
  have hgd := errv_guard
  clear h hs
  go_enter Tryz.func8, Tryz.ntmps8
  go_wp2_with fail
  refine H1.out.mono ?_
  rintro e w1 ⟨x, k, rfl, hr, _, hb⟩
  have B := hid hb
  rcases hr with ⟨rfl, hg, hp⟩ | ⟨hk, hw, rfl⟩
  · have HG := hid hg
    have HP := hid hp
    clear hb hg hp
    go_wp2_with fail
    refine (yunof_p HP.out HG.out.trm HG.out.cml (by decide) HG.out.len).mono ?_
    rintro e w2 ⟨v2, n, rfl, ho, hn9, hf, hk2, hb2⟩
    replace HP := pno HP hb2
    replace B := bb B hb2
    have HO := hid ho
    have HF := hid hf
    have HK := hid hk2
    clear hb2 ho hf hk2
    obtain ⟨a2, c2, rfl, hc2⟩ := HO.out.opened
    have hln : ((List.range n).map (yf (rdp p))).length = n := by rw [List.length_map, List.length_range]
    have HLN := hid hln
    rw [hln] at HO ⊢
    unfold maxLen at hc2
    clear hln
    have HB2 := hid B.out.size
    go_wp2_with (refine wpList_make_ys _ rfl _ _ _ rfl Tryz.underlying29 n rfl rfl (by omega) ?_)
    intro w3 hrow hb3 hs3
    replace B := bb B hb3
    have B2 := hid hb3
    have ROW := hid hrow
    clear hrow hb3 hs3
    obtain ⟨b0, hb0⟩ : ∃ b0, b0 = w2.heap.size := ⟨_, rfl⟩
    have HE0 := hid hb0
    rw [← hb0] at ROW HB2 ⊢
    clear hb0
    go_wp2_with fail
    have W0 : ∃ rs : Nat → Value, Hid (YRw w3 b0 n rs) := ⟨_, ROW⟩
    clear ROW
    obtain ⟨rs0, ROW⟩ := W0
    go_loopw [25] (fun x wr => ∃ (i : Nat) (rs : Nat → Value), i ≤ n ∧ x = .int .i64 i ∧ Hid (YRw wr b0 n rs) ∧ Hid (∀ t, t < i → OwnS wr (b0 + 1) (rs t) ((yf (rdp p) t).map qtxt)) ∧ Hid (∀ s t, s < t → t < i → ∀ g, (rs s).ownBlock = some g → (rs t).ownBlock ≠ some g) ∧ Hid (Below w2.heap.size w2 wr) ∧ Hid (Below w.heap.size w wr)) (fun x _ => n - (intOf x).toNat)
    case atStart => exact ⟨0, rs0, by omega, rfl, ROW, hid (fun t ht => by omega), hid (fun s t _ ht => by omega), B2, B⟩
    case round =>
      clear ROW B B2
      obtain ⟨i, rs, hi, rfl, ROW, HT, HA, B2, B⟩ := hrel
      by_cases hlt : i < n
      · have hp0 : rdp p ≠ [] := by
          intro e
          have h1 := HK.out 0 (by omega)
          rw [e] at h1
          exact yp_nil_free 0 (fun k hk => by omega) h1
        obtain ⟨g, p5, m5, c5, rfl, hg5, cd5, hq5⟩ := (HO.out.on B2.out).at (i := i) (by rw [HLN.out]; exact hlt)
        have e5 : ((List.range n).map (yf (rdp p)))[i]?.getD [] = yf (rdp p) i := by
          rw [List.getElem?_map, List.getElem?_range hlt]; rfl
        rw [e5] at hq5
        obtain ⟨q1, q2⟩ := cml_yf HG.out.trm hp0 HG.out.cml HG.out.len i
        have H5 := hid (texts_s hq5 (yf_mnc HG.out.trm hp0 i).trm q1.sml (by decide) (by omega))
        clear e5 hq5 q1 q2 hp0
        go_wp2_with fail
        refine H5.out.mono ?_
        rintro e w4 ⟨u, rfl, ho, hb4⟩
        have LB := hid ROW.out.lt
        have HU := hid (show OwnS w4 (b0 + 1) u _ from ⟨ho.1.mono (by have := LB.out; omega), ho.2⟩)
        have HUL := hid (fun g (hg : u.ownBlock = some g) => (ho.1.lt g hg).1)
        have HAL := hid (fun t (ht : t < i) g (hg : (rs t).ownBlock = some g) => ((HT.out t ht).1.lt g hg).2)
        replace ROW := hid (ROW.out.on hb4)
        replace HT : Hid (∀ t, t < i → OwnS w4 (b0 + 1) (rs t) ((yf (rdp p) t).map qtxt)) := hid (fun t ht => (HT.out t ht).on hb4)
        replace B := bb B hb4
        replace B2 := bb B2 hb4
        obtain ⟨pu, cu, eu, _⟩ := ho.1.txs
        rw [List.length_map] at eu
        subst eu
        clear hb4 ho H5 cd5 hg5
        have cc := ROW.out.stores hlt
        have ROW2 := hid (ROW.out.put hlt (.slice pu (yf (rdp p) i).length cu))
        replace B2 := hid (B2.out.setCell (p := ⟨b0, i, none⟩) (by have := HE0.out; show w2.heap.size ≤ b0; omega) (.slice pu (yf (rdp p) i).length cu))
        replace B := hid (B.out.setCell (p := ⟨b0, i, none⟩) (by have := HB2.out; show w.heap.size ≤ b0; omega) (.slice pu (yf (rdp p) i).length cu))
        go_wp2_with fail
        go_roundw
        case rel => exact ⟨i + 1, (fun k => if k = i then .slice pu (yf (rdp p) i).length cu else rs k), by omega, by go_num, ROW2, hid (fun t ht => by
            show OwnS _ _ (if t = i then _ else rs t) _
            by_cases e : t = i
            · subst e; rw [if_pos rfl]; exact HU.out.put (by omega)
            · rw [if_neg e]; exact (HT.out t (by omega)).put (by omega)), hid (fun s t hst ht g hg => by
            change (if s = i then _ else rs s).ownBlock = some g at hg
            show (if t = i then _ else rs t).ownBlock ≠ some g
            by_cases e : t = i
            · subst e
              rw [if_neg (by omega)] at hg
              rw [if_pos rfl]
              intro e2
              have h1 := HUL.out g e2
              have h2 := HAL.out s hst g hg
              omega
            · rw [if_neg (by omega)] at hg
              rw [if_neg e]
              exact HA.out s t hst (by omega) g hg), B2, B⟩
        case measure => simp [intOf]; omega
      · obtain rfl : i = n := by omega
        go_wp2_with fail
        go_ret2
        exact ⟨_, i, 0, rfl, .inl ⟨rfl, HG.out, HF.out, HK.out⟩, fun _ => ⟨b0, rs, rfl, HB2.out, hn9, ROW.out, HT.out, HA.out⟩, fun h => absurd rfl h, B.out⟩
  · have HK := hid hk
    have HW := hid hw
    have f1 : (k != 0) = true := by simpa using hk
    clear hb hw
    go_wp2_with fail
    go_ret2
    exact ⟨_, 0, k, rfl, .inr ⟨HK.out, HW.out, rfl⟩, fun h => absurd h HK.out, fun _ => rfl, B.out⟩

end Go.Proofs.YtkenlaikhnoldaaGreat

/-
  THE LAW PgcdOwn: what it asks.
-/
namespace Go.Proofs.YtkenlaikhnoldaaGreat
open Go.RowKit
open Num
set_option linter.unusedVariables false
set_option maxRecDepth 100000
set_option linter.unusedSimpArgs false

theorem PUn.det {f : List Rat → List Rat} {p ss tt : List ByteArray} {k l : Int} (h : PUn f p ss k) (h' : PUn f p tt l) : k = l ∧ ss = tt := by
  rcases h with ⟨rfl, h1, rfl⟩ | ⟨h0, h1, rfl⟩ <;> rcases h' with ⟨rfl, h1', rfl⟩ | ⟨h0', h1', rfl⟩
  · exact ⟨rfl, rfl⟩
  · exact absurd h1 h1'.not
  · exact absurd h1' h1.not
  · exact ⟨h1.det h1', rfl⟩
theorem GYun.det {p : List ByteArray} {n m : Nat} {k l : Int} (h : GYun p n k) (h' : GYun p m l) : k = l ∧ n = m := by
  rcases h with ⟨rfl, h1, h2, h3⟩ | ⟨h0, h1, rfl⟩ <;> rcases h' with ⟨rfl, h1', h2', h3'⟩ | ⟨h0', h1', rfl⟩
  · refine ⟨rfl, ?_⟩
    rcases Nat.lt_trichotomy n m with h | h | h
    · have := h3' n h; omega
    · exact h
    · have := h3 m h; omega
  · exact absurd h1 h1'.not
  · exact absurd h1' h1.not
  · exact ⟨h1.det h1', rfl⟩
theorem PUn.short {f : List Rat → List Rat} {p ss : List ByteArray} {k : Int} (h : PUn f p ss k) (hf : GoodP p → (f (rdp p)).length ≤ 9) : ss.length ≤ 1000 := by
  rcases h with ⟨_, h1, rfl⟩ | ⟨_, _, rfl⟩
  · have h3 := hf h1
    rw [List.length_map]
    omega
  · simp
theorem gcd_short {p q ss : List ByteArray} {k : Int} (h : PTells gcdp p q ss k) : ss.length ≤ 1000 := by
  rcases h with ⟨_, h1, h2, rfl⟩ | ⟨_, _, rfl⟩
  · have h3 := (cml_gcdp2 h1.trm h2.trm h1.cml h2.cml h1.len h2.len).2
    rw [List.length_map]
    omega
  · simp
theorem GYun.short {p : List ByteArray} {n : Nat} {k : Int} (h : GYun p n k) : ∀ i, i < n → ((yf (rdp p) i).map qtxt).length ≤ 1000 := by
  intro i hi
  rcases h with ⟨rfl, h1, h2, h3⟩ | ⟨h0, h1, rfl⟩
  · have hp0 : rdp p ≠ [] := by
      intro e
      have h4 := h3 0 (by omega)
      rw [e] at h4
      exact yp_nil_free 0 (fun k hk => by omega) h4
    have h5 := (cml_yf h1.trm hp0 h1.cml h1.len i).2
    rw [List.length_map]
    omega
  · omega

/-- What Yun told: a row of lists, all apart; the row's block below all of theirs; theirs below hi. -/
def YV (w : World) (K : Nat) (v : Value) (n : Nat) (f : Nat → List ByteArray) (b hi : Nat) (rv : Nat → Value) : Prop :=
  (K ≤ b ∧ b ≤ hi ∧ n ≤ 9) ∧ OwnR w K v n rv ∧ (∀ g, v.ownBlock = some g → g < b) ∧ (∀ i, i < n → OwnT w b (rv i) (f i)) ∧ (∀ i, i < n → ∀ g, (rv i).ownBlock = some g → g < hi) ∧ ∀ i j g, i < n → j < n → i ≠ j → (rv i).ownBlock = some g → (rv j).ownBlock ≠ some g
theorem YV.on {w w' : World} {K n b hi : Nat} {v : Value} {f : Nat → List ByteArray} {rv : Nat → Value} (h : YV w K v n f b hi rv) (hb : Below w.heap.size w w') : YV w' K v n f b hi rv :=
  ⟨h.1, h.2.1.on hb, h.2.2.1, fun i hi => (h.2.2.2.1 i hi).on hb, h.2.2.2.2⟩
theorem YV.spr {w w' : World} {K n b hi lo hi' : Nat} {v : Value} {f : Nat → List ByteArray} {rv : Nat → Value} (h : YV w K v n f b hi rv) (hs : SpR lo hi' w w') (hh : hi' ≤ K) : YV w' K v n f b hi rv :=
  ⟨h.1, h.2.1.spr hs (fun g hg => .inr (Nat.le_trans hh (h.2.1.lt hg).1)), h.2.2.1, fun i hi => (h.2.2.2.1 i hi).spr hs (fun g hg => .inr (by have h1 := (World.ownsRow.lt (h.2.2.2.1 i hi) g hg).1; have h2 := h.1.1; omega)), h.2.2.2.2⟩
theorem yv_of {w : World} {p : List ByteArray} {K n : Nat} {k : Int} {r : Value} (t : GYun p n k) (h1 : k = 0 → OwnY w K r n fun i => (yf (rdp p) i).map qtxt) (h2 : k ≠ 0 → r = .slice none 0 0) (hK : K ≤ w.heap.size) :
    ∃ b rv, YV w K r n (fun i => (yf (rdp p) i).map qtxt) b w.heap.size rv := by
  by_cases h0 : k = 0
  · obtain ⟨b, rs, rfl, hb, h9, ⟨cur, hc, hs, hr⟩, ho, ha⟩ := h1 h0
    have hlt := (Array.getElem?_eq_some_iff.1 hc).1
    refine ⟨b + 1, rs, ⟨by omega, by omega, h9⟩, ⟨cur.toList, ⟨by simp [hs], .inr ⟨b, n, cur, rfl, hb, hc, Nat.le_refl _, by unfold maxLen; omega, by omega, List.take_of_length_le (by simp [hs])⟩⟩, fun i hi => by rw [Array.getElem?_toList]; exact hr i hi⟩, fun g hg => ?_, fun i hi => (ho i hi).1, fun i hi g hg => (World.ownsRow.lt (ho i hi).1 g hg).2, fun i j g hi hj hij hg => ?_⟩
    · simp [Value.ownBlock] at hg
      omega
    · rcases Nat.lt_or_gt_of_ne hij with h | h
      · exact ha i j h hj g hg
      · exact fun e => ha j i h hi g e hg
  · obtain rfl := h2 h0
    obtain rfl : n = 0 := by
      rcases t with ⟨h, _⟩ | ⟨_, _, h⟩
      · exact absurd h h0
      · exact h
    exact ⟨K, fun _ => .slice none 0 0, ⟨Nat.le_refl _, hK, by omega⟩, OwnR.nil _ _ _, fun g hg => by simp [Value.ownBlock] at hg, fun i hi => by omega, fun i hi => by omega, fun i j g hi => by omega⟩

set_option maxHeartbeats 1000000 in
theorem spoil_none (w : World) (lo hi : Nat) (x : ByteArray) :
    Calls Tryz.prog 10 #[.slice none 0 0, .string x] w fun e w' => e = .returned (.tuple #[]) ∧ SpR lo hi w w' := by
  go_enter Tryz.func10, Tryz.ntmps10
  go_wp2_with fail
  go_loopw [4] (fun i wr => i = .int .i64 0 ∧ ∃ j, wr = w.drewN j) (fun i _ => 0)
  case atStart => exact ⟨rfl, 0, rfl⟩
  case round =>
    obtain ⟨rfl, j, rfl⟩ := hrel
    go_wp2_with fail
    go_end0
    exact ⟨rfl, (SpR.refl _ _ _).drewN _⟩
theorem spoil_y {w : World} {K n b hi : Nat} {v : Value} {f : Nat → List ByteArray} {rv : Nat → Value} (h : YV w K v n f b hi rv) (x : ByteArray) :
    Calls Tryz.prog 10 #[v, .string x] w fun e w' => e = .returned (.tuple #[]) ∧ SpR b hi w w' := by
  obtain ⟨⟨h1, h2, h9⟩, h3, h4, h5, h6, h7⟩ := h
  rcases h3.opened with ⟨rfl, rfl⟩ | ⟨g, c, rfl, hg1, hg2, _, _, hc⟩
  · exact spoil_none w b hi x
  · exact spoil_rows hg2 (.inl (h4 g rfl)) hc h5 (fun i hi g hg => ⟨(World.ownsRow.lt (h5 i hi) g hg).1, h6 i hi g hg⟩) h7 (by omega) x

/-- Three, and others behind them. -/
def cat3 {α : Type} (a b c : α) (f : Nat → α) : Nat → α
  | 0 => a | 1 => b | 2 => c | i + 3 => f i
theorem all3 {P : Nat → Prop} (h0 : P 0) (h1 : P 1) (h2 : P 2) : ∀ i, i < 3 → P i := by
  intro i hi
  rcases i with _ | _ | _ | i
  · exact h0
  · exact h1
  · exact h2
  · omega
theorem all3n {P : Nat → Prop} {n : Nat} (h0 : P 0) (h1 : P 1) (h2 : P 2) (h3 : ∀ i, i < n → P (i + 3)) : ∀ i, i < 3 + n → P i := by
  intro i hi
  rcases i with _ | _ | _ | i
  · exact h0
  · exact h1
  · exact h2
  · exact h3 i (by omega)
theorem lit3 (w : World) {K : Nat} (a b c : Value) (f : Nat → Value) (hK : K ≤ w.heap.size) : OwnR (w.alloc (.cells #[a, b, c] 22)) K (.slice (some ⟨w.heap.size, 0, none⟩) 3 3) 3 (cat3 a b c f) :=
  OwnR.lit w _ _ hK rfl (by decide) (all3 rfl rfl rfl)
theorem cell3 (w : World) (a b c : Value) (f : Nat → Value) : ∀ i, i < 3 → (w.alloc (.cells #[a, b, c] 22)).cell? ⟨w.heap.size, i, none⟩ = some (cat3 a b c f i) := by
  rcases (lit3 w a b c f (Nat.le_refl _)).opened with ⟨h, _⟩ | ⟨g, c', e, _, _, _, _, h⟩
  · cases h
  · cases e
    exact h
/-- The three, and what Yun told, in one row. -/
theorem append_y {w : World} {K n b hi : Nat} {v : Value} {f : Nat → List ByteArray} {rv : Nat → Value} (a1 a2 a3 : Value) (h : YV w K v n f b hi rv) :
    ∃ v' w', (Builtin.append_ #[29, 29] 29 #[.slice (some ⟨w.heap.size, 0, none⟩) 3 3, v]).run Tryz.prog (w.alloc (.cells #[a1, a2, a3] 22)) = .ok v' w' ∧ OwnR w' w.heap.size v' (3 + n) (cat3 a1 a2 a3 rv) ∧ Below w.heap.size w w' := by
  have hb := (Below.refl w.heap.size w).alloc (Nat.le_refl _) (.cells #[a1, a2, a3] 22)
  obtain ⟨v', w', e, h1, h2⟩ := append_r (lit3 w a1 a2 a3 rv (Nat.le_refl _)) (h.2.1.on hb) (fun i hi => by
    obtain ⟨p, c, e, _⟩ := (h.2.2.2.1 i hi).txs
    exact ⟨_, _, _, e⟩) hb.size (by have := h.1.2.2; omega) 29
  refine ⟨v', w', e, h1.congr fun i hi => ?_, hb.grown h2 hb.size fun g hg => by
    simp [Value.ownBlock] at hg
    omega⟩
  by_cases hi3 : i < 3
  · rw [if_pos hi3]
  · rw [if_neg hi3]
    obtain ⟨j, rfl⟩ : ∃ j, i = j + 3 := ⟨i - 3, by omega⟩
    simp [cat3]
theorem spoil3 {w : World} {b lo hi z3 z4 : Nat} {r1 r2 r3 : Value} {l1 l2 l3 : List ByteArray} (rv : Nat → Value) (hb : b < w.heap.size) (hbr : b < lo ∨ hi ≤ b) (hc : ∀ i, i < 3 → w.cell? ⟨b, i, none⟩ = some (cat3 r1 r2 r3 rv i)) (o1 : OwnT w lo r1 l1) (o2 : OwnT w lo r2 l2) (o3 : OwnT w lo r3 l3)
    (d1 : ∀ g, r1.ownBlock = some g → lo ≤ g ∧ g < z3) (d2 : ∀ g, r2.ownBlock = some g → z3 ≤ g ∧ g < z4) (d3 : ∀ g, r3.ownBlock = some g → z4 ≤ g ∧ g < hi) (hs : lo ≤ z3 ∧ z3 ≤ z4 ∧ z4 ≤ hi) (x : ByteArray) :
    Calls Tryz.prog 10 #[.slice (some ⟨b, 0, none⟩) 3 3, .string x] w fun e w' => e = .returned (.tuple #[]) ∧ SpR lo hi w w' := by
  refine spoil_rows (sf := cat3 l1 l2 l3 fun _ => []) hb hbr hc (all3 o1 o2 o3) (all3 (fun g hg => by have := d1 g hg; omega) (fun g hg => by have := d2 g hg; omega) (fun g hg => by have := d3 g hg; omega)) ?_ (by decide) x
  intro i j g hi_ hj_ hij
  revert hij
  refine all3 (P := fun i => i ≠ j → (cat3 r1 r2 r3 rv i).ownBlock = some g → (cat3 r1 r2 r3 rv j).ownBlock ≠ some g) ?_ ?_ ?_ i hi_
  · refine all3 (P := fun j => 0 ≠ j → (cat3 r1 r2 r3 rv 0).ownBlock = some g → (cat3 r1 r2 r3 rv j).ownBlock ≠ some g) ?_ ?_ ?_ j hj_
    · exact fun h => absurd rfl h
    · exact fun _ h1 h2 => by have a := d1 g h1; have b := d2 g h2; omega
    · exact fun _ h1 h2 => by have a := d1 g h1; have b := d3 g h2; omega
  · refine all3 (P := fun j => 1 ≠ j → (cat3 r1 r2 r3 rv 1).ownBlock = some g → (cat3 r1 r2 r3 rv j).ownBlock ≠ some g) ?_ ?_ ?_ j hj_
    · exact fun _ h1 h2 => by have a := d2 g h1; have b := d1 g h2; omega
    · exact fun h => absurd rfl h
    · exact fun _ h1 h2 => by have a := d2 g h1; have b := d3 g h2; omega
  · refine all3 (P := fun j => 2 ≠ j → (cat3 r1 r2 r3 rv 2).ownBlock = some g → (cat3 r1 r2 r3 rv j).ownBlock ≠ some g) ?_ ?_ ?_ j hj_
    · exact fun _ h1 h2 => by have a := d3 g h1; have b := d1 g h2; omega
    · exact fun _ h1 h2 => by have a := d3 g h1; have b := d2 g h2; omega
    · exact fun h => absurd rfl h

end Go.Proofs.YtkenlaikhnoldaaGreat

/-
  THE LAW PgcdOwn.
-/
namespace Go.Proofs.YtkenlaikhnoldaaGreat
open Go.RowKit
open Num
set_option linter.unusedVariables false
set_option maxRecDepth 100000
set_option linter.unusedSimpArgs false

set_option maxHeartbeats 4000000 in
theorem gown_walk {w : World} {v_ u_ : Value} {p q : List ByteArray} {x : ByteArray} (hp : TxsW w v_ p) (hq : TxsW w u_ q) (sp : Szs p) (sq : Szs q) (zx : x.size ≤ maxLen) (mp : p.length * 16 ≤ 140737488355328) (mq : q.length * 16 ≤ 140737488355328) :
    Calls Tryz.prog 3 #[v_, u_, .string x] w fun e w' => e = .returned (.bool true) ∧ Below w.heap.size w w' := by
  have hne := errv_neq
  have heq := errv_eql
  have hgd := errv_guard
  have TP := hid hp
  have TQ := hid hq
  have SZp := hid sp
  have SZq := hid sq
  have RP := hid mp
  have RQ := hid mq
  have B := hid (Below.refl w.heap.size w)
  clear hp hq sp sq mp mq
  go_enter Tryz.func3, Tryz.ntmps3
  go_wp2_with fail
  refine (copied_any TP.out RP.out).mono ?_
  rintro e w1 ⟨u, rfl, ou, b1⟩
  replace B := bb B b1
  go_wp2_with fail
  refine (copied_any (TQ.out.on B.out) RQ.out).mono ?_
  rintro e w2 ⟨v, rfl, ov, b2⟩
  replace B := bb B b2
  have UL : Hid (∀ g, u.ownBlock = some g → g < w2.heap.size) := hid (fun g hg => Nat.lt_of_lt_of_le (World.ownsRow.lt ou g hg).2 b2.size)
  have VL : Hid (∀ g, v.ownBlock = some g → g < w2.heap.size) := hid (fun g hg => (World.ownsRow.lt ov g hg).2)
  have TFu := hid (ou.on b2).txs
  have TFv := hid ov.txs
  have TXu := hid TFu.out.weak
  have TXv := hid TFv.out.weak
  have WS := hid B.out.size
  clear ou ov b1 b2
  have ZZ := hid (Nat.le_refl w2.heap.size)
  have ZP := ZZ
  go_wp2_with fail
  refine (gcd_any TXu.out TXv.out SZp.out SZq.out).mono ?_
  rintro e w3 ⟨r1, l1, k3, rfl, o3, t3, b3⟩
  replace TFu := hid (TFu.out.on b3)
  replace TFv := hid (TFv.out.on b3)
  replace TXu := hid (TXu.out.on b3)
  replace TXv := hid (TXv.out.on b3)
  replace ZZ := hid (Nat.le_trans ZZ.out b3.size)
  replace B := bb B b3
  obtain ⟨Pr1, Cr1, Er1, _⟩ := ownT_form o3.1
  subst Er1
  have Dr1 : Hid (∀ g, (Value.slice Pr1 l1.length Cr1).ownBlock = some g → w2.heap.size ≤ g ∧ g < w3.heap.size) := hid (fun g hg => World.ownsRow.lt o3.1 g hg)
  have Rr1 := hid (o3.1.mono (L := w2.heap.size) ZP.out)
  have S3 : Hid (w2.heap.size ≤ w3.heap.size) := hid b3.size
  have T3 := hid t3
  clear b3 t3 o3 ZP
  have ZP := ZZ
  go_wp2_with fail
  refine (monic_any TXu.out SZp.out).mono ?_
  rintro e w4 ⟨r2, l2, k4, rfl, o4, t4, b4⟩
  replace TFu := hid (TFu.out.on b4)
  replace TFv := hid (TFv.out.on b4)
  replace TXu := hid (TXu.out.on b4)
  replace TXv := hid (TXv.out.on b4)
  replace ZZ := hid (Nat.le_trans ZZ.out b4.size)
  replace Rr1 := hid (Rr1.out.on b4)
  replace B := bb B b4
  obtain ⟨Pr2, Cr2, Er2, _⟩ := ownT_form o4.1
  subst Er2
  have Dr2 : Hid (∀ g, (Value.slice Pr2 l2.length Cr2).ownBlock = some g → w3.heap.size ≤ g ∧ g < w4.heap.size) := hid (fun g hg => World.ownsRow.lt o4.1 g hg)
  have Rr2 := hid (o4.1.mono (L := w2.heap.size) ZP.out)
  have S4 : Hid (w3.heap.size ≤ w4.heap.size) := hid b4.size
  have T4 := hid t4
  clear b4 t4 o4 ZP
  have ZP := ZZ
  go_wp2_with fail
  refine (free_any TXu.out SZp.out).mono ?_
  rintro e w5 ⟨r3, l3, k5, rfl, o5, t5, b5⟩
  replace TFu := hid (TFu.out.on b5)
  replace TFv := hid (TFv.out.on b5)
  replace TXu := hid (TXu.out.on b5)
  replace TXv := hid (TXv.out.on b5)
  replace ZZ := hid (Nat.le_trans ZZ.out b5.size)
  replace Rr1 := hid (Rr1.out.on b5)
  replace Rr2 := hid (Rr2.out.on b5)
  replace B := bb B b5
  obtain ⟨Pr3, Cr3, Er3, _⟩ := ownT_form o5.1
  subst Er3
  have Dr3 : Hid (∀ g, (Value.slice Pr3 l3.length Cr3).ownBlock = some g → w4.heap.size ≤ g ∧ g < w5.heap.size) := hid (fun g hg => World.ownsRow.lt o5.1 g hg)
  have Rr3 := hid (o5.1.mono (L := w2.heap.size) ZP.out)
  have S5 : Hid (w4.heap.size ≤ w5.heap.size) := hid b5.size
  have T5 := hid t5
  clear b5 t5 o5 ZP
  have ZP := ZZ
  go_wp2_with fail
  refine (yun_any TXu.out SZp.out).mono ?_
  rintro e w6 ⟨y, n, k6, rfl, t6, oy, ony, b6⟩
  replace TFu := hid (TFu.out.on b6)
  replace TFv := hid (TFv.out.on b6)
  replace TXu := hid (TXu.out.on b6)
  replace TXv := hid (TXv.out.on b6)
  replace ZZ := hid (Nat.le_trans ZZ.out b6.size)
  replace Rr1 := hid (Rr1.out.on b6)
  replace Rr2 := hid (Rr2.out.on b6)
  replace Rr3 := hid (Rr3.out.on b6)
  replace B := bb B b6
  obtain ⟨yb, yr, hy⟩ := yv_of t6 oy ony b6.size
  have YV1 := hid hy
  have S6 := hid b6.size
  have T6 := hid t6
  clear b6 t6 oy ony ZP hy
  have SH1 := hid (gcd_short T3.out)
  have SH2 := hid (T4.out.short fun h => (cml_mnc2 h.trm h.cml h.len).2)
  have SH3 := hid (T5.out.short fun h => (cml_freep h.trm h.cml h.len).2)
  have SH6 := hid T6.out.short
  have YY := hid (Nat.le_refl w6.heap.size)
  obtain ⟨x1, w7, hrun, hx, b7⟩ := append_y (Value.slice Pr1 l1.length Cr1) (Value.slice Pr2 l2.length Cr2) (Value.slice Pr3 l3.length Cr3) YV1.out
  replace TFu := hid (TFu.out.on b7)
  replace TFv := hid (TFv.out.on b7)
  replace TXu := hid (TXu.out.on b7)
  replace TXv := hid (TXv.out.on b7)
  replace ZZ := hid (Nat.le_trans ZZ.out b7.size)
  replace Rr1 := hid (Rr1.out.on b7)
  replace Rr2 := hid (Rr2.out.on b7)
  replace Rr3 := hid (Rr3.out.on b7)
  replace YV1 := hid (YV1.out.on b7)
  replace YY := hid (Nat.le_trans YY.out b7.size)
  replace B := bb B b7
  obtain ⟨xg, xc, rfl, hxK, hxl, _, _, hxc⟩ := hx.full (by omega)
  have HX := hid hxl
  have HXC := hid hxc
  have HXT : Hid (∀ i, i < 3 + n → TxsW w7 (cat3 (Value.slice Pr1 l1.length Cr1) (Value.slice Pr2 l2.length Cr2) (Value.slice Pr3 l3.length Cr3) yr i) ((cat3 l1 l2 l3 fun i => (yf (rdp p) i).map qtxt) i)) := hid (all3n Rr1.out.txs.weak Rr2.out.txs.weak Rr3.out.txs.weak fun i hi => (YV1.out.2.2.2.1 i hi).txs.weak)
  have HXL : Hid (∀ i, i < 3 + n → ((cat3 l1 l2 l3 fun i => (yf (rdp p) i).map qtxt) i).length ≤ 1000000) := hid (all3n (Nat.le_trans SH1.out (by decide)) (Nat.le_trans SH2.out (by decide)) (Nat.le_trans SH3.out (by decide)) fun i hi => Nat.le_trans (SH6.out i hi) (by decide))
  have N9 := YV1.out.1.2.2
  have YP := YY
  clear hx hxK hxl hxc b7 SH1 SH2 SH3 SH6
  go_wp2_with (at_builtin; refine wpList_append_run rfl _ _ 29 rfl _ _ _ rfl rfl hrun ?_)
  clear hrun
  go_wp2_with fail
  refine (table_any HX.out HXC.out HXT.out HXL.out (by omega)).mono ?_
  rintro e w8 ⟨all, cv, rfl, oa, ot, b8⟩
  replace TFu := hid (TFu.out.on b8)
  replace TFv := hid (TFv.out.on b8)
  replace TXu := hid (TXu.out.on b8)
  replace TXv := hid (TXv.out.on b8)
  replace ZZ := hid (Nat.le_trans ZZ.out b8.size)
  replace Rr1 := hid (Rr1.out.on b8)
  replace Rr2 := hid (Rr2.out.on b8)
  replace Rr3 := hid (Rr3.out.on b8)
  replace YV1 := hid (YV1.out.on b8)
  replace YY := hid (Nat.le_trans YY.out b8.size)
  replace B := bb B b8
  obtain ⟨ba, ca, rfl, hK, hL, _, _, hC⟩ := oa.full (by omega)
  have A1 := hid hC
  have A1L := hid hL
  have A1H := hid (Nat.le_trans YP.out hK)
  have CC : Hid (∀ i, i < 3 + n → Txs w8 (cv i) ((cat3 l1 l2 l3 fun i => (yf (rdp p) i).map qtxt) i)) := hid (fun i hi => (ot i hi).txs)
  have CB : Hid (∀ i, i < 3 + n → ∀ g, (cv i).ownBlock = some g → w6.heap.size ≤ g) := hid (fun i hi g hg => Nat.le_trans YP.out (World.ownsRow.lt (ot i hi) g hg).1)
  clear b8 oa ot hK hL hC HX HXC HXT HXL YP
  have hl1 := (Below.refl w8.heap.size w8).alloc (Nat.le_refl _) (.cells #[(Value.slice Pr1 l1.length Cr1), (Value.slice Pr2 l2.length Cr2), (Value.slice Pr3 l3.length Cr3)] 22)
  have YP := YY
  replace TFu := hid (TFu.out.on hl1)
  replace TFv := hid (TFv.out.on hl1)
  replace TXu := hid (TXu.out.on hl1)
  replace TXv := hid (TXv.out.on hl1)
  replace ZZ := hid (Nat.le_trans ZZ.out hl1.size)
  replace Rr1 := hid (Rr1.out.on hl1)
  replace Rr2 := hid (Rr2.out.on hl1)
  replace Rr3 := hid (Rr3.out.on hl1)
  replace YV1 := hid (YV1.out.on hl1)
  replace YY := hid (Nat.le_trans YY.out hl1.size)
  replace A1 : Hid (∀ i, i < 3 + n → _) := hid (fun i hi => (World.cell?_of_block (hl1.block ba A1L.out)).trans (A1.out i hi))
  replace A1L := hid (Nat.lt_of_lt_of_le A1L.out hl1.size)
  replace CC : Hid (∀ i, i < 3 + n → Txs _ (cv i) _) := hid (fun i hi => (CC.out i hi).on hl1)
  replace B := bb B hl1
  have HSP := hid (spoil3 (w := (w8.alloc (.cells #[(Value.slice Pr1 l1.length Cr1), (Value.slice Pr2 l2.length Cr2), (Value.slice Pr3 l3.length Cr3)] 22))) (b := w8.heap.size) (lo := w2.heap.size) (hi := w5.heap.size) yr (by simp) (.inr (by have h1 := YP.out; have h2 := S6.out; omega)) (cell3 w8 (Value.slice Pr1 l1.length Cr1) (Value.slice Pr2 l2.length Cr2) (Value.slice Pr3 l3.length Cr3) yr) Rr1.out Rr2.out Rr3.out Dr1.out Dr2.out Dr3.out (by have h1 := S3.out; have h2 := S4.out; have h3 := S5.out; omega) x)
  clear hl1 YP YY ZZ Rr1 Rr2 Rr3 Dr1 Dr2 Dr3
  go_wp2_with fail
  refine HSP.out.mono ?_
  rintro e w9 ⟨rfl, b9⟩
  replace B := hid (b9.below B.out WS.out B.out.size)
  replace TFu := hid (TFu.out.spr b9 (fun g hg => .inl (UL.out g hg)))
  replace TXu := hid TFu.out.weak
  replace TFv := hid (TFv.out.spr b9 (fun g hg => .inl (VL.out g hg)))
  replace TXv := hid TFv.out.weak
  replace CC : Hid (∀ i, i < 3 + n → Txs _ (cv i) _) := hid (fun i hi => (CC.out i hi).spr b9 (fun g hg => .inr (Nat.le_trans S6.out (CB.out i hi g hg))))
  replace A1 : Hid (∀ i, i < 3 + n → _) := hid (fun i hi => (World.cell?_of_block (b9.2.2.2.2 ba A1L.out (.inr (Nat.le_trans S6.out (A1H.out))))).trans (A1.out i hi))
  replace A1L := hid (Nat.lt_of_lt_of_le A1L.out b9.2.2.2.1)
  replace YV1 := hid (YV1.out.spr b9 (Nat.le_refl _))
  clear b9 HSP
  go_wp2_with fail
  refine (spoil_y YV1.out x).mono ?_
  rintro e w10 ⟨rfl, c10⟩
  have b10 := c10.mono (lo' := w2.heap.size) (by have h1 := YV1.out.1.1; have h2 := S3.out; have h3 := S4.out; have h4 := S5.out; omega) (Nat.le_refl _)
  replace B := hid (b10.below B.out WS.out B.out.size)
  replace TFu := hid (TFu.out.spr b10 (fun g hg => .inl (UL.out g hg)))
  replace TXu := hid TFu.out.weak
  replace TFv := hid (TFv.out.spr b10 (fun g hg => .inl (VL.out g hg)))
  replace TXv := hid TFv.out.weak
  replace CC : Hid (∀ i, i < 3 + n → Txs _ (cv i) _) := hid (fun i hi => (CC.out i hi).spr b10 (fun g hg => .inr (CB.out i hi g hg)))
  replace A1 : Hid (∀ i, i < 3 + n → _) := hid (fun i hi => (World.cell?_of_block (b10.2.2.2.2 ba A1L.out (.inr (A1H.out)))).trans (A1.out i hi))
  replace A1L := hid (Nat.lt_of_lt_of_le A1L.out b10.2.2.2.1)
  clear b10 c10 YV1 UL VL A1H CB S3 S4 S5 S6
  go_wp2_with fail
  refine (same_w TFu.out (TP.out.on B.out)).mono ?_
  rintro e w11 ⟨rfl, b11⟩
  replace TFu := hid (TFu.out.on b11)
  replace TFv := hid (TFv.out.on b11)
  replace TXu := hid (TXu.out.on b11)
  replace TXv := hid (TXv.out.on b11)
  replace A1 : Hid (∀ i, i < 3 + n → _) := hid (fun i hi => (World.cell?_of_block (b11.block ba A1L.out)).trans (A1.out i hi))
  replace A1L := hid (Nat.lt_of_lt_of_le A1L.out b11.size)
  replace CC : Hid (∀ i, i < 3 + n → Txs _ (cv i) _) := hid (fun i hi => (CC.out i hi).on b11)
  replace B := bb B b11
  clear b11
  go_wp2_with fail
  refine (same_w TFv.out (TQ.out.on B.out)).mono ?_
  rintro e w12 ⟨rfl, b12⟩
  replace TFu := hid (TFu.out.on b12)
  replace TFv := hid (TFv.out.on b12)
  replace TXu := hid (TXu.out.on b12)
  replace TXv := hid (TXv.out.on b12)
  replace A1 : Hid (∀ i, i < 3 + n → _) := hid (fun i hi => (World.cell?_of_block (b12.block ba A1L.out)).trans (A1.out i hi))
  replace A1L := hid (Nat.lt_of_lt_of_le A1L.out b12.size)
  replace CC : Hid (∀ i, i < 3 + n → Txs _ (cv i) _) := hid (fun i hi => (CC.out i hi).on b12)
  replace B := bb B b12
  clear b12
  clear TP TQ RP RQ
  go_wp2_with fail
  refine (gcd_any TXu.out TXv.out SZp.out SZq.out).mono ?_
  rintro e w13 ⟨q1, m1, k13, rfl, o13, t13, b13⟩
  replace TFu := hid (TFu.out.on b13)
  replace TFv := hid (TFv.out.on b13)
  replace TXu := hid (TXu.out.on b13)
  replace TXv := hid (TXv.out.on b13)
  replace A1 : Hid (∀ i, i < 3 + n → _) := hid (fun i hi => (World.cell?_of_block (b13.block ba A1L.out)).trans (A1.out i hi))
  replace A1L := hid (Nat.lt_of_lt_of_le A1L.out b13.size)
  replace CC : Hid (∀ i, i < 3 + n → Txs _ (cv i) _) := hid (fun i hi => (CC.out i hi).on b13)
  replace B := bb B b13
  obtain ⟨Pq1, Cq1, Eq1, _⟩ := ownT_form o13.1
  subst Eq1
  have Rq1 := hid o13.1.txs
  have T13 := hid t13
  clear b13 t13 o13
  go_wp2_with fail
  refine (monic_any TXu.out SZp.out).mono ?_
  rintro e w14 ⟨q2, m2, k14, rfl, o14, t14, b14⟩
  replace TFu := hid (TFu.out.on b14)
  replace TFv := hid (TFv.out.on b14)
  replace TXu := hid (TXu.out.on b14)
  replace TXv := hid (TXv.out.on b14)
  replace A1 : Hid (∀ i, i < 3 + n → _) := hid (fun i hi => (World.cell?_of_block (b14.block ba A1L.out)).trans (A1.out i hi))
  replace A1L := hid (Nat.lt_of_lt_of_le A1L.out b14.size)
  replace CC : Hid (∀ i, i < 3 + n → Txs _ (cv i) _) := hid (fun i hi => (CC.out i hi).on b14)
  replace Rq1 := hid (Rq1.out.on b14)
  replace B := bb B b14
  obtain ⟨Pq2, Cq2, Eq2, _⟩ := ownT_form o14.1
  subst Eq2
  have Rq2 := hid o14.1.txs
  have T14 := hid t14
  clear b14 t14 o14
  go_wp2_with fail
  refine (free_any TXu.out SZp.out).mono ?_
  rintro e w15 ⟨q3, m3, k15, rfl, o15, t15, b15⟩
  replace TFu := hid (TFu.out.on b15)
  replace TFv := hid (TFv.out.on b15)
  replace TXu := hid (TXu.out.on b15)
  replace TXv := hid (TXv.out.on b15)
  replace A1 : Hid (∀ i, i < 3 + n → _) := hid (fun i hi => (World.cell?_of_block (b15.block ba A1L.out)).trans (A1.out i hi))
  replace A1L := hid (Nat.lt_of_lt_of_le A1L.out b15.size)
  replace CC : Hid (∀ i, i < 3 + n → Txs _ (cv i) _) := hid (fun i hi => (CC.out i hi).on b15)
  replace Rq1 := hid (Rq1.out.on b15)
  replace Rq2 := hid (Rq2.out.on b15)
  replace B := bb B b15
  obtain ⟨Pq3, Cq3, Eq3, _⟩ := ownT_form o15.1
  subst Eq3
  have Rq3 := hid o15.1.txs
  have T15 := hid t15
  clear b15 t15 o15
  go_wp2_with fail
  refine (yun_any TXu.out SZp.out).mono ?_
  rintro e w16 ⟨y2, n2, k16, rfl, t16, oy, ony, b16⟩
  replace TFu := hid (TFu.out.on b16)
  replace TFv := hid (TFv.out.on b16)
  replace TXu := hid (TXu.out.on b16)
  replace TXv := hid (TXv.out.on b16)
  replace A1 : Hid (∀ i, i < 3 + n → _) := hid (fun i hi => (World.cell?_of_block (b16.block ba A1L.out)).trans (A1.out i hi))
  replace A1L := hid (Nat.lt_of_lt_of_le A1L.out b16.size)
  replace CC : Hid (∀ i, i < 3 + n → Txs _ (cv i) _) := hid (fun i hi => (CC.out i hi).on b16)
  replace Rq1 := hid (Rq1.out.on b16)
  replace Rq2 := hid (Rq2.out.on b16)
  replace Rq3 := hid (Rq3.out.on b16)
  replace B := bb B b16
  obtain ⟨yb2, yr2, hy⟩ := yv_of t16 oy ony b16.size
  have YV2 := hid hy
  have T16 := hid t16
  clear b16 t16 oy ony hy
  obtain ⟨hk, hl⟩ := T3.out.det T13.out
  clear T3 T13
  subst hk
  subst hl
  obtain ⟨hk, hl⟩ := T4.out.det T14.out
  clear T4 T14
  subst hk
  subst hl
  obtain ⟨hk, hl⟩ := T5.out.det T15.out
  clear T5 T15
  subst hk
  subst hl
  obtain ⟨hk, hl⟩ := T6.out.det T16.out
  clear T6 T16
  subst hk
  subst hl
  obtain ⟨x2, w17, hrun, hx, b17⟩ := append_y (Value.slice Pq1 l1.length Cq1) (Value.slice Pq2 l2.length Cq2) (Value.slice Pq3 l3.length Cq3) YV2.out
  replace TFu := hid (TFu.out.on b17)
  replace TFv := hid (TFv.out.on b17)
  replace TXu := hid (TXu.out.on b17)
  replace TXv := hid (TXv.out.on b17)
  replace A1 : Hid (∀ i, i < 3 + n → _) := hid (fun i hi => (World.cell?_of_block (b17.block ba A1L.out)).trans (A1.out i hi))
  replace A1L := hid (Nat.lt_of_lt_of_le A1L.out b17.size)
  replace CC : Hid (∀ i, i < 3 + n → Txs _ (cv i) _) := hid (fun i hi => (CC.out i hi).on b17)
  replace Rq1 := hid (Rq1.out.on b17)
  replace Rq2 := hid (Rq2.out.on b17)
  replace Rq3 := hid (Rq3.out.on b17)
  replace YV2 := hid (YV2.out.on b17)
  replace B := bb B b17
  obtain ⟨xg2, xc2, rfl, _, hxl, _, _, hxc⟩ := hx.full (by omega)
  have HSR := hid (same_rows (w := w17) (n1 := xc2) (n2 := ca) hxl A1L.out hxc A1.out (all3n (P := fun i => Txs w17 (cat3 (Value.slice Pq1 l1.length Cq1) (Value.slice Pq2 l2.length Cq2) (Value.slice Pq3 l3.length Cq3) yr2 i) ((cat3 l1 l2 l3 fun i => (yf (rdp p) i).map qtxt) i)) Rq1.out Rq2.out Rq3.out fun i hi => (YV2.out.2.2.2.1 i hi).txs) CC.out (by omega))
  clear hx hxl hxc A1 A1L CC Rq1 Rq2 Rq3 YV2 TXu TXv TFu TFv b17
  go_wp2_with (at_builtin; refine wpList_append_run rfl _ _ 29 rfl _ _ _ rfl rfl hrun ?_)
  clear hrun
  go_wp2_with fail
  refine (HSR.out).mono ?_
  rintro e w18 ⟨rfl, b18⟩
  replace B := bb B b18
  clear b18 HSR
  go_wp2_with fail
  replace B := hid (Below.drew B.out)
  go_region_held3 (fun w' => True) (trivial) (first
    | (go_at_call 13; refine (awake_true _).mono ?_; rintro e w30 ⟨rfl, hb30⟩; replace B := bb B hb30; clear hb30)
    | fail)
  go_wp2_with fail
  go_ret
  exact ⟨rfl, B.out⟩

end Go.Proofs.YtkenlaikhnoldaaGreat

/-
  The law PgcdOwn of package abacistlaw5: whatever lists of texts and texts come in, the call returns true, and they read behind it as they did before. No condition.
-/
namespace Go.Proofs.YtkenlaikhnoldaaGreat.pgcdOwn
open Go.ChangeShapes Go.WideShapes Go.ChangeAt Go.RowKit
open Go.ChangeMaps (open_string shut_string)
set_option linter.unusedVariables false

theorem own : ownKnob Tryz.prog.godebug = none := by kernel_rfl
theorem laidOut : laidOutB Tryz.prog = true := by kernel_rfl
theorem cellsS : Tryz.prog.cellsOf 9 = 1 := by kernel_rfl
theorem bytesS : Tryz.prog.bytesOf 9 = 16 := by kernel_rfl

set_option maxRecDepth 100000 in
theorem lifted (os : Os) (started : os.Started) (H : Type) (enc : TypeId × Value → H) :
    ReturnsInHanded {} Tryz.checked os 3 .any (Rows.pgcdOwnSpec.pre6 enc Tryz.prog Tryz.f3 Rows.pgcdOwnRow.domain false) (Rows.pgcdOwnSpec.post enc Tryz.prog Tryz.f3 false true false false) := by
  refine returnsInHanded_of_change_sized (C := Tryz.checked) own started (by kernel_rfl) Tryz.func3
    (ChangeSpec.witness6 (enc := enc) (C := Tryz.checked) false ⟨#[], #[.slice none 0 0, .slice none 0 0, .string ByteArray.empty], []⟩ 8 (by kernel_rfl) (by kernel_rfl) (by kernel_rfl) (by kernel_rfl)) ?_
  intro W base args ds gs before hval0 hW hcnd hsz0 _
  have hval : ∀ (j : Nat) t v, Tryz.f3.params[j]? = some t → args[j]? = some v → Value.okWide Tryz.prog W .any base t v := hval0
  have hW' := hW
  obtain ⟨p, q, hA0, hV, rfl, hfz, hnd⟩ := hW
  have hA : DataW.TrodAll enc Tryz.prog W 0 (fun _ => true) true Tryz.f3.params.toList args.toList ds p := hA0
  rw [Tryz.params3] at hA hval
  have hsz : (DataW.weightsEach Tryz.prog (Tryz.f3.params.toList ++ Rows.pgcdOwnSpec.plain.varTypes Tryz.prog) (ds ++ gs)).all (· ≤ reachBytes) = true := hsz0
  rw [Tryz.params3] at hsz
  obtain ⟨v0, vs0, d0, ds0, p0, q0, hargs, rfl, rfl, h0, r0⟩ := trodAll_cons hA
  obtain ⟨v1, vs1, d1, ds1, p1, q1, rfl, rfl, rfl, h1, r1⟩ := trodAll_cons r0
  obtain ⟨v2, vs2, d2, ds2, p2, q2, rfl, rfl, rfl, h2, r2⟩ := trodAll_cons r1
  obtain ⟨rfl, rfl, rfl⟩ := trodAll_nil r2
  obtain rfl : args = #[v0, v1, v2] := by cases args; simp_all
  obtain ⟨rfl, rfl⟩ := trodVars_none hV
  obtain ⟨a2, rfl, rfl, rfl, w2⟩ := open_string Tryz.underlying9 (hval 2 9 v2 rfl rfl) h2
  obtain ⟨pa0, len0, cap0, rfl⟩ := okWide_slice Tryz.underlying22 (hval 0 22 v0 rfl rfl)
  have h0k := h0
  obtain ⟨fuel0, hf0⟩ := h0
  obtain ⟨pa1, len1, cap1, rfl⟩ := okWide_slice Tryz.underlying22 (hval 1 22 v1 rfl rfl)
  have h1k := h1
  obtain ⟨fuel1, hf1⟩ := h1
  clear hA0 hval0
  have hlt0 : ∀ y ∈ p0, y.block < W.heap.size := fun y hy => hW'.lt y (by simp [hy])
  have hlt1 : ∀ y ∈ p1, y.block < W.heap.size := fun y hy => hW'.lt y (by simp [hy])
  have T0 : ∃ ss : List ByteArray, TxsW W (.slice pa0 len0 cap0) ss ∧ Szs ss ∧ ss.length * 16 ≤ 140737488355328 := by
    rcases open_strings Tryz.underlying22 Tryz.underlying9 cellsS hf0 with ⟨hcs, hx⟩ | ⟨b, len', cap', ss, hcs, _, hl, hm, hz, hx, hcell, hws⟩
    · simp [Value.cells] at hcs
      obtain ⟨rfl, rfl, rfl⟩ := hcs
      exact ⟨[], (Txs.nil W).weak, Szs.nil, by decide⟩
    · simp [Value.cells] at hcs
      obtain ⟨rfl, rfl, rfl⟩ := hcs
      simp only [Prod.mk.injEq] at hx
      obtain ⟨rfl, hx2⟩ := hx
      simp only [if_true] at hz
      have hlen : (ss.take len0).length = len0 := by rw [List.length_take]; omega
      have hreach : len0 * 16 ≤ 140737488355328 := by
        have := sized_slice hsz (j := 0) (t := 22) (e := 9) rfl rfl Tryz.underlying22
        rw [bytesS] at this
        simp only [strs, List.length_map, List.length_take, List.length_drop, reachBytes] at this
        omega
      refine ⟨ss.take len0, ?_, ?_, by rw [hlen]; exact hreach⟩
      · refine ⟨some b, cap0, by rw [hlen], by rw [hlen]; exact hl, hm, fun i hi => ?_⟩
        have hi2 : i < len0 := by rw [← hlen]; exact hi
        have h2 := hcell i (by omega)
        obtain ⟨g, off, spot⟩ := b
        have hspot : spot = none := by simpa [Addr.add] using World.cell?_spot (hcell 0 (by omega))
        subst hspot
        have hbW : g < W.heap.size := hlt0 (.cell g off) (by rw [hx2]; exact MemPlace.mem_row.2 ⟨0, by omega, by simp⟩)
        refine ⟨g, off, rfl, hbW, ?_⟩
        rw [add_plain, List.getD_eq_getElem?_getD, List.getElem?_eq_getElem (by omega), Option.getD_some] at h2
        rw [h2, tx_lt hi, List.getElem_take]
      · intro i hi
        rw [tx_lt hi]
        exact hws _ (List.mem_of_mem_take (List.getElem_mem hi))
  obtain ⟨l0, t0, s0, z0⟩ := T0
  have T1 : ∃ ss : List ByteArray, TxsW W (.slice pa1 len1 cap1) ss ∧ Szs ss ∧ ss.length * 16 ≤ 140737488355328 := by
    rcases open_strings Tryz.underlying22 Tryz.underlying9 cellsS hf1 with ⟨hcs, hx⟩ | ⟨b, len', cap', ss, hcs, _, hl, hm, hz, hx, hcell, hws⟩
    · simp [Value.cells] at hcs
      obtain ⟨rfl, rfl, rfl⟩ := hcs
      exact ⟨[], (Txs.nil W).weak, Szs.nil, by decide⟩
    · simp [Value.cells] at hcs
      obtain ⟨rfl, rfl, rfl⟩ := hcs
      simp only [Prod.mk.injEq] at hx
      obtain ⟨rfl, hx2⟩ := hx
      simp only [if_true] at hz
      have hlen : (ss.take len1).length = len1 := by rw [List.length_take]; omega
      have hreach : len1 * 16 ≤ 140737488355328 := by
        have := sized_slice hsz (j := 1) (t := 22) (e := 9) rfl rfl Tryz.underlying22
        rw [bytesS] at this
        simp only [strs, List.length_map, List.length_take, List.length_drop, reachBytes] at this
        omega
      refine ⟨ss.take len1, ?_, ?_, by rw [hlen]; exact hreach⟩
      · refine ⟨some b, cap1, by rw [hlen], by rw [hlen]; exact hl, hm, fun i hi => ?_⟩
        have hi2 : i < len1 := by rw [← hlen]; exact hi
        have h2 := hcell i (by omega)
        obtain ⟨g, off, spot⟩ := b
        have hspot : spot = none := by simpa [Addr.add] using World.cell?_spot (hcell 0 (by omega))
        subst hspot
        have hbW : g < W.heap.size := hlt1 (.cell g off) (by rw [hx2]; exact MemPlace.mem_row.2 ⟨0, by omega, by simp⟩)
        refine ⟨g, off, rfl, hbW, ?_⟩
        rw [add_plain, List.getD_eq_getElem?_getD, List.getElem?_eq_getElem (by omega), Option.getD_some] at h2
        rw [h2, tx_lt hi, List.getElem_take]
      · intro i hi
        rw [tx_lt hi]
        exact hws _ (List.mem_of_mem_take (List.getElem_mem hi))
  obtain ⟨l1, t1, s1, z1⟩ := T1
  refine (gown_walk t0 t1 s0 s1 w2 z0 z1).mono fun e W' ⟨he, hg⟩ => ?_
  subst he
  refine ⟨_, rfl, _, _, _, [] ++ [], p0 ++ (p1 ++ ([] ++ [])), [], hW', ?_, ?_, rfl, hg.frame _, fun h => by cases h⟩
  · exact trodAll_cons_mk (shut_bool Tryz.underlying4 _) trodAll_mk0
  · exact (trodAll_cons_mk (Below.trod laidOut (by kernel_rfl) (of_decide_eq_true (by kernel_rfl)) h0k hg hlt0) (trodAll_cons_mk (Below.trod laidOut (by kernel_rfl) (of_decide_eq_true (by kernel_rfl)) h1k hg hlt1) (trodAll_cons_mk (shut_string Tryz.underlying9 w2) trodAll_mk0)))

/-- The law PgcdOwn: every input. -/
theorem proved : Rows.PgcdOwnSaid :=
  OpenClaim.holds_of_wide 3 Tryz.f3 rfl rfl rfl rfl rfl rfl rfl ⟨rfl, rfl, rfl, rfl, rfl⟩ rfl rfl rfl rfl rfl (by kernel_rfl) Tryz.func3 (by kernel_rfl)
    (of_decide_eq_true (by kernel_rfl)) (by unfold Func.isWrapper; first | (rw [if_pos (by decide +kernel)]; kernel_rfl) | (rw [if_neg (by decide +kernel)]; exact ⟨rfl, rfl⟩))
    (fun os started H enc _ => lifted os started H enc)
#print axioms proved
end Go.Proofs.YtkenlaikhnoldaaGreat.pgcdOwn
