import Derived.Test.YtdifiimaifmcpaaGreatDoorBunProofPgcdTells25
import Derived.Test.YtdifiimaifmcpaaGreatDoorBunProofPgcdTells20
import Derived.Test.YtdifiimaifmcpaaGreatDoorBunProofPgcdTells26
import Derived.Test.YtdifiimaifmcpaaGreatDoorBunProofPgcdTells19
/-
  PACKAGE pgcd: GcdOf.
-/
namespace Go.Proofs.YtdifiimaifmcpaaGreatDoor
open Go.RowKit
open Num
set_option linter.unusedVariables false
set_option maxRecDepth 100000
set_option linter.unusedSimpArgs false

theorem cml_zq {l : List Int} {n : Nat} (h : Zl l n) (hn : 1 ≤ n) : Cml (zq l) n := ⟨hn, 1, by decide, Nat.one_lt_pow (by omega) (by decide), fun i => ⟨zc l i, h i, by rw [co_zq]; show _ * (1 : Rat) = _; grind⟩⟩
theorem cle_dv {l : List Rat} {L : List Int} {M : Int} (hM : M ≠ 0) (h : ∀ i, ((zc L i : Int) : Rat) = co l i * (M : Rat)) (x : Rat) : pv (zq L) x = (M : Rat) * pv l x := by
  rw [← pv_psc]
  exact pv_congr (fun i => by rw [co_zq, h, co_psc]; grind) x
theorem dv_cle {l : List Rat} {L : List Int} {M : Int} (hM : M ≠ 0) (h : ∀ i, ((zc L i : Int) : Rat) = co l i * (M : Rat)) : Dv l (zq L) ∧ Dv (zq L) l := by
  have hr : (M : Rat) ≠ 0 := int_ne hM
  refine ⟨Dv.of (k := [(M : Rat)]) fun x => by rw [cle_dv hM h, pv_one], Dv.of (k := [1 / (M : Rat)]) fun x => ?_⟩
  rw [cle_dv hM h, pv_one]
  have := rat_inv hr
  generalize 1 / (M : Rat) = y at *
  grind
theorem nil_cle {l : List Rat} {L : List Int} {M : Int} (hl : Trm l) (hL : Ztr L) (hM : M ≠ 0) (h : ∀ i, ((zc L i : Int) : Rat) = co l i * (M : Rat)) : zq L ≠ [] ↔ l ≠ [] := by
  obtain ⟨d1, d2⟩ := dv_cle hM h
  constructor
  · rintro h1 rfl
    exact d1.ne hL.trm h1 rfl
  · rintro h1 h2
    exact d2.ne hl h1 h2
/-- Times numbers, it is the same. -/
theorem gcdp_cle {l r : List Rat} {L R : List Int} {M N : Int} (hl : Trm l) (hr : Trm r) (hL : Ztr L) (hR : Ztr R) (hM : M ≠ 0) (hN : N ≠ 0) (h : ∀ i, ((zc L i : Int) : Rat) = co l i * (M : Rat)) (h' : ∀ i, ((zc R i : Int) : Rat) = co r i * (N : Rat)) :
    gcdp (zq L) (zq R) = gcdp l r := by
  obtain ⟨d1, d2⟩ := dv_cle hM h
  obtain ⟨e1, e2⟩ := dv_cle hN h'
  have n1 := nil_cle hl hL hM h
  have n2 := nil_cle hr hR hN h'
  by_cases h0 : zq L ≠ [] ∨ zq R ≠ []
  · obtain ⟨u, v, k1, k2, k3, _⟩ := gcdp_spec hL.trm hR.trm h0
    exact gcdp_of hl hr (h0.imp n1.1 n2.1) k1 (k2.trans d2) (k3.trans e2) fun d h1 h2 => gcdp_great hL.trm hR.trm h0 (h1.trans d1) (h2.trans e1)
  · have z1 : zq L = [] := Classical.byContradiction fun e => h0 (.inl e)
    have z2 : zq R = [] := Classical.byContradiction fun e => h0 (.inr e)
    have y1 : l = [] := Classical.byContradiction fun e => n1.2 e z1
    have y2 : r = [] := Classical.byContradiction fun e => n2.2 e z2
    rw [z1, z2, y1, y2]
set_option maxHeartbeats 1000000 in
/-- What goes into both. -/
theorem gcdof_p {w : World} {v u : Value} {l r : List Rat} {m : Nat} (h : PN w v l) (h' : PN w u r) (hl : Trm l) (hr : Trm r) (hs : Cml l m) (hs' : Cml r m) (hm : m ≤ 100000) (hn : l.length ≤ 9) (hn' : r.length ≤ 9) :
    Calls Tryz.prog 29 #[v, u] w fun e w' => ∃ v', e = .returned v' ∧ PN w' v' (gcdp l r) ∧ Below w.heap.size w w' := by
  have H1 := hid (zclear_p h hs (by omega) (by omega))
  have HQ := hid h'
  have HT := hid hl
  have HT' := hid hr
  have HC' := hid hs'
  have HM := hid hm
  have HN := hid hn
  have HN' := hid hn'
  clear h h' hl hr hs hs' hm hn hn'
  go_enter Tryz.func29, Tryz.ntmps29
  go_wp2_with fail
  refine H1.out.mono ?_
  rintro e w1 ⟨v1, L, M, rfl, hi, hz, hle, hM, hv, hzl, hb⟩
  replace HQ := pno HQ hb
  have B := hid hb
  have I1 := hid hi
  have Z1 := hid hz
  have N1 := hid (show L.length ≤ 9 by have := HN.out; omega)
  have M1 := hid hM
  have V1 := hid hv
  have S1 := hid hzl
  clear hi hz hle hM hv hzl hb H1
  go_wp2_with fail
  refine (zclear_p HQ.out HC'.out (by have := HM.out; omega) (by have := HN'.out; omega)).mono ?_
  rintro e w2 ⟨v2, R, N, rfl, hi, hz, hle, hM, hv, hzl, hb⟩
  replace I1 := ino I1 hb
  replace B := bb B hb
  have I2 := hid hi
  have Z2 := hid hz
  have N2 := hid (show R.length ≤ 9 by have := HN'.out; omega)
  have M2 := hid hM
  have V2 := hid hv
  have S2 := hid hzl
  clear hi hz hle hM hv hzl hb
  have E := hid (gcdp_cle HT.out HT'.out Z1.out Z2.out M1.out M2.out V1.out V2.out)
  go_wp2_with fail
  refine (ggcd_p I1.out I2.out Z1.out Z2.out S1.out S2.out HM.out N1.out N2.out).mono ?_
  rintro e w3 ⟨v3, G, rfl, hi, hz, hle, hg, hzl, hb⟩
  replace B := bb B hb
  have I3 := hid hi
  have Z3 := hid hz
  have N3 := hid hle
  have G3 := hid hg
  have S3 := hid hzl
  clear hi hz hle hg hzl hb
  go_wp2_with fail
  refine (zpoly_p I3.out (by have := N3.out; omega)).mono ?_
  rintro e w4 ⟨v4, rfl, hp, hb⟩
  replace B := bb B hb
  have P4 := hid hp
  clear hp hb
  go_wp2_with fail
  refine (monicof_p P4.out Z3.out.trm (cml_zq S3.out (by omega)) (by have := HM.out; omega) (by rw [zq_len]; exact N3.out)).mono ?_
  rintro e w5 ⟨v5, rfl, hp, hb⟩
  replace B := bb B hb
  have P5 := hid hp
  clear hp hb
  go_wp2_with fail
  go_ret
  exact ⟨_, rfl, by rw [← E.out, ← G3.out]; exact P5.out, B.out⟩

end Go.Proofs.YtdifiimaifmcpaaGreatDoor

/-
  PACKAGE pgcd: without, FreeOf.
-/
namespace Go.Proofs.YtdifiimaifmcpaaGreatDoor
open Go.RowKit
open Num
set_option linter.unusedVariables false
set_option maxRecDepth 100000
set_option linter.unusedSimpArgs false

set_option maxHeartbeats 1000000 in
/-- How often one goes in, which does. -/
theorem without_p {w : World} {v u : Value} {lp lq : List Rat} {m n : Nat} (h : PN w v lp) (h' : PN w u lq) (hp : Trm lp) (hq : Trm lq) (h0 : lq ≠ []) (hs : Sml lp m) (hs' : Sml lq n) (hm : m ≤ 1000000) (hn : n ≤ 1000000) (hl : lp.length ≤ 9) (hl' : lq.length ≤ 9) :
    Calls Tryz.prog 45 #[v, u] w fun e w' => ∃ v', e = .returned v' ∧ PN w' v' (quop lp lq) ∧ Below w.heap.size w w' := by
  have hb9 : (m + 2 * n + 1) * 2 ^ (lp.length + 1) ≤ 68719476736 := by
    have h1 : 2 ^ (lp.length + 1) ≤ 2 ^ 10 := Nat.pow_le_pow_right (by omega) (by omega)
    have h2 := Nat.mul_le_mul (show m + 2 * n + 1 ≤ 3000001 by omega) h1
    omega
  have hqt : trimQ lq = lq := hq
  have H1 := hid (pdiv_p h h' hs hs' (by rw [hqt]; exact h0) hb9 (by omega) (by omega))
  rw [hqt] at H1
  have hne := errv_neq
  have hgd := errv_guard
  have HP := hid hp
  have HQ := hid hq
  have H0 := hid h0
  clear h h' hp hq h0 hs hs' hm hn hl hl' hb9 hqt
  go_enter Tryz.func45, Tryz.ntmps45
  go_wp2_with fail
  refine H1.out.mono ?_
  rintro e w1 ⟨v1, u1, k, r, rfl, h1, h2, h3, h4, h5, h6, h7, h8, h9, hb⟩
  have B := hid hb
  have P1 := hid h1
  have E := hid (quop_of HP.out HQ.out H0.out h3 h4 h5 h7)
  clear h1 h2 h3 h4 h5 h6 h7 h8 h9 hb H1
  go_wp2_with fail
  go_ret
  exact ⟨_, rfl, by rw [← E.out]; exact P1.out, B.out⟩
set_option maxHeartbeats 1000000 in
theorem without_nil {w : World} {v u : Value} {lp lq : List Rat} (h : PN w v lp) (h' : PN w u lq) (h0 : trimQ lq = []) :
    Calls Tryz.prog 45 #[v, u] w fun e w' => ∃ v', e = .returned v' ∧ PN w' v' [] ∧ Below w.heap.size w w' := by
  have H1 := hid (pdiv_zero h h' h0)
  rw [← errv_some (show (5 : Int) ≠ 0 by decide)] at H1
  have hne := errv_neq
  have hgd := errv_guard
  have f5 : ((5 : Int) != 0) = true := by decide
  clear h h' h0
  go_enter Tryz.func45, Tryz.ntmps45
  go_wp2_with fail
  refine H1.out.mono ?_
  rintro e w1 ⟨rfl, hb⟩
  have B := hid hb
  clear hb H1
  go_wp2_with fail
  go_ret
  exact ⟨_, rfl, PN.nil _ (by decide), B.out⟩
set_option maxHeartbeats 1000000 in
/-- Each root once. -/
theorem freeof_p {w : World} {v : Value} {l : List Rat} {m : Nat} (h : PN w v l) (ht : Trm l) (hs : Cml l m) (hm : m ≤ 90000) (hl : l.length ≤ 9) :
    Calls Tryz.prog 28 #[v] w fun e w' => ∃ v', e = .returned v' ∧ PN w' v' (freep l) ∧ Below w.heap.size w w' := by
  obtain ⟨hc1, hn1⟩ := cml_mnc2 ht hs hl
  obtain ⟨hc2, hn2⟩ := cml_slope2 hc1 hn1
  obtain ⟨hc3, hn3⟩ := cml_gcdp2 (trm_mnc l) (trm_slope (mnc l)) (hc1.mono (Nat.le_succ m)) hc2 hn1 hn2
  have H1 := hid (monicof_p h ht hs (by omega) hl)
  rw [freep_eq ht]
  have HM := hid hm
  have HC1 := hid hc1
  have HC2 := hid hc2
  have HC3 := hid hc3
  have HN1 := hid hn1
  have HN2 := hid hn2
  have HN3 := hid hn3
  have HTR := hid (trm_mnc l)
  generalize mnc l = q at *
  clear h ht hs hm hl hc1 hc2 hc3 hn1 hn2 hn3
  go_enter Tryz.func28, Tryz.ntmps28
  go_wp2_with fail
  refine H1.out.mono ?_
  rintro e w1 ⟨v1, rfl, hp, hb⟩
  have B := hid hb
  have P1 := hid hp
  clear hp hb H1
  go_wp2_with fail
  refine (pderiv_p P1.out HC1.out.sml (by have := HM.out; omega) (by have := HN1.out; omega)).mono ?_
  rintro e w2 ⟨v2, rfl, hp, hb⟩
  replace P1 := pno P1 hb
  replace B := bb B hb
  have P2 := hid hp
  clear hp hb
  go_wp2_with fail
  refine (gcdof_p P1.out P2.out HTR.out (trm_slope q) (HC1.out.mono (Nat.le_succ m)) HC2.out (by have := HM.out; omega) HN1.out HN2.out).mono ?_
  rintro e w3 ⟨v3, rfl, hp, hb⟩
  replace P1 := pno P1 hb
  replace B := bb B hb
  have P3 := hid hp
  clear hp hb
  by_cases h0 : gcdp q (slope q) = []
  · have hq0 : q = [] := by
      apply Classical.byContradiction
      intro hq
      obtain ⟨u, v, k1, _⟩ := gcdp_spec HTR.out (trm_slope q) (.inl hq)
      exact k1.1 h0
    have E : Hid (quop q (gcdp q (slope q)) = []) := hid (by
      rw [h0]
      unfold quop
      rw [dif_neg (by rintro ⟨_, _, h⟩; exact h rfl)])
    have H4 := hid (without_nil P1.out P3.out (by rw [h0]; rfl))
    clear h0 hq0
    go_wp2_with fail
    refine H4.out.mono ?_
    rintro e w4 ⟨v4, rfl, hp, hb⟩
    replace B := bb B hb
    have P4 := hid hp
    clear hp hb
    go_wp2_with fail
    go_ret
    exact ⟨_, rfl, by rw [E.out]; exact P4.out, B.out⟩
  · have H4 := hid (without_p P1.out P3.out HTR.out (trm_gcdp HTR.out (trm_slope q)) h0 HC1.out.sml HC3.out.sml (by have := HM.out; omega) (by have := HM.out; omega) HN1.out HN3.out)
    clear h0
    go_wp2_with fail
    refine H4.out.mono ?_
    rintro e w4 ⟨v4, rfl, hp, hb⟩
    replace B := bb B hb
    have P4 := hid hp
    clear hp hb
    go_wp2_with fail
    go_ret
    exact ⟨_, rfl, P4.out, B.out⟩

end Go.Proofs.YtdifiimaifmcpaaGreatDoor

/-
  PACKAGE pgcd: Monic, Gcd, Free, of texts.
-/
namespace Go.Proofs.YtdifiimaifmcpaaGreatDoor
open Go.RowKit
open Num
set_option linter.unusedVariables false
set_option maxRecDepth 100000
set_option linter.unusedSimpArgs false

/-- What a function of one list tells: a list, or nothing and an error. -/
def PUn (f : List Rat → List Rat) (p ss : List ByteArray) (k : Int) : Prop := (k = 0 ∧ GoodP p ∧ ss = (f (rdp p)).map qtxt) ∨ (k ≠ 0 ∧ BadP p k ∧ ss = [])
theorem GoodP.cml {p : List ByteArray} (h : GoodP p) : Cml (rdp p) 227 := h.sml.cml.mono (by have := h.1; rw [rdp_len]; omega)
theorem GoodP.len {p : List ByteArray} (h : GoodP p) : (rdp p).length ≤ 9 := by rw [rdp_len]; exact h.1
theorem GoodP.trm {p : List ByteArray} (h : GoodP p) : Trm (rdp p) := h.2.2

set_option maxHeartbeats 1000000 in
theorem monic_any {w : World} {v : Value} {p : List ByteArray} (h : TxsW w v p) (hs : Szs p) :
    Calls Tryz.prog 9 #[v] w fun e w' => ∃ r ss k, e = .returned (.tuple #[r, errv k]) ∧ OwnS w' w.heap.size r ss ∧ PUn mnc p ss k ∧ Below w.heap.size w w' := by
  have H1 := hid (pread_any h hs)
  have hne := errv_neq
  have hgd := errv_guard
  clear h hs
  go_enter Tryz.func9, Tryz.ntmps9
  go_wp2_with fail
  refine H1.out.mono ?_
  rintro e w1 ⟨x, k, rfl, hr, _, hb⟩
  have B := hid hb
  rcases hr with ⟨rfl, hg, hp⟩ | ⟨hk, hw, rfl⟩
  · have HG := hid hg
    have HP := hid hp
    have HC := hid (cml_mnc2 HG.out.trm HG.out.cml HG.out.len)
    clear hb hg hp
    go_wp2_with fail
    refine (monicof_p HP.out HG.out.trm HG.out.cml (by decide) HG.out.len).mono ?_
    rintro e w2 ⟨r, rfl, hr, hb2⟩
    replace B := bb B hb2
    have HR := hid hr
    clear hb2 hr
    go_wp2_with fail
    refine (texts_s HR.out (trm_mnc _) HC.out.1.sml (by decide) (by have := HC.out.2; omega)).mono ?_
    rintro e w3 ⟨s, rfl, ho, hb3⟩
    have HO := hid (show OwnS w3 w.heap.size s _ from ⟨ho.1.mono B.out.size, ho.2⟩)
    replace B := bb B hb3
    clear hb3 ho
    go_wp2_with fail
    go_ret2
    exact ⟨_, _, 0, rfl, HO.out, .inl ⟨rfl, HG.out, rfl⟩, B.out⟩
  · have HK := hid hk
    have HW := hid hw
    have f1 : (k != 0) = true := by simpa using hk
    clear hb hw
    go_wp2_with fail
    go_ret2
    exact ⟨_, [], k, rfl, OwnS.nil _ _, .inr ⟨HK.out, HW.out, rfl⟩, B.out⟩

set_option maxHeartbeats 1000000 in
theorem gcd_any {w : World} {v u : Value} {p q : List ByteArray} (h : TxsW w v p) (h' : TxsW w u q) (hs : Szs p) (hs' : Szs q) :
    Calls Tryz.prog 15 #[v, u] w fun e w' => ∃ r ss k, e = .returned (.tuple #[r, errv k]) ∧ OwnS w' w.heap.size r ss ∧ PTells gcdp p q ss k ∧ Below w.heap.size w w' := by
  have H1 := hid (pread_any h hs)
  have H2 := hid (fun (w' : World) (hb : Below w.heap.size w w') => pread_any (h'.on hb) hs')
  have hne := errv_neq
  have hgd := errv_guard
  clear h h' hs hs'
  go_enter Tryz.func15, Tryz.ntmps15
  go_wp2_with fail
  refine H1.out.mono ?_
  rintro e w1 ⟨x, k, rfl, hr, _, hb⟩
  have B := hid hb
  have R := hid hr
  clear hb hr
  by_cases hk : k = 0
  · obtain ⟨hg, hp⟩ := R.out.yes hk
    have HG := hid hg
    have HP := hid hp
    clear hg hp
    subst hk
    go_wp2_with fail
    refine (H2.out _ B.out).mono ?_
    rintro e w2 ⟨y, z, rfl, hr2, _, hb2⟩
    replace HP := pno HP hb2
    replace B := bb B hb2
    have R2 := hid hr2
    clear hb2 hr2
    by_cases hk2 : z = 0
    · obtain ⟨hg2, hp2⟩ := R2.out.yes hk2
      have HG2 := hid hg2
      have HP2 := hid hp2
      have HC := hid (cml_gcdp2 HG.out.trm HG2.out.trm HG.out.cml HG2.out.cml HG.out.len HG2.out.len)
      clear hg2 hp2
      subst hk2
      go_wp2_with fail
      refine (gcdof_p HP.out HP2.out HG.out.trm HG2.out.trm HG.out.cml HG2.out.cml (by decide) HG.out.len HG2.out.len).mono ?_
      rintro e w3 ⟨r, rfl, hr, hb3⟩
      replace B := bb B hb3
      have HR := hid hr
      clear hb3 hr
      go_wp2_with fail
      refine (texts_s HR.out (trm_gcdp HG.out.trm HG2.out.trm) HC.out.1.sml (by decide) (by have := HC.out.2; omega)).mono ?_
      rintro e w4 ⟨s, rfl, ho, hb4⟩
      have HO := hid (show OwnS w4 w.heap.size s _ from ⟨ho.1.mono B.out.size, ho.2⟩)
      replace B := bb B hb4
      clear hb4 ho
      go_wp2_with fail
      go_ret2
      exact ⟨_, _, 0, rfl, HO.out, .inl ⟨rfl, HG.out, HG2.out, rfl⟩, B.out⟩
    · have HB := hid (R2.out.no hk2).1
      have HK2 := hid hk2
      have f2 : (z != 0) = true := by simpa using hk2
      go_wp2_with fail
      go_ret2
      exact ⟨_, [], z, rfl, OwnS.nil _ _, .inr ⟨HK2.out, .inr ⟨HG.out, HB.out⟩, rfl⟩, B.out⟩
  · have HB := hid (R.out.no hk).1
    have HK := hid hk
    have f1 : (k != 0) = true := by simpa using hk
    go_wp2_with fail
    go_ret2
    exact ⟨_, [], k, rfl, OwnS.nil _ _, .inr ⟨HK.out, .inl HB.out, rfl⟩, B.out⟩

set_option maxHeartbeats 1000000 in
theorem free_any {w : World} {v : Value} {p : List ByteArray} (h : TxsW w v p) (hs : Szs p) :
    Calls Tryz.prog 12 #[v] w fun e w' => ∃ r ss k, e = .returned (.tuple #[r, errv k]) ∧ OwnS w' w.heap.size r ss ∧ PUn freep p ss k ∧ Below w.heap.size w w' := by
  have H1 := hid (pread_any h hs)
  have hne := errv_neq
  have hgd := errv_guard
  clear h hs
  go_enter Tryz.func12, Tryz.ntmps12
  go_wp2_with fail
  refine H1.out.mono ?_
  rintro e w1 ⟨x, k, rfl, hr, _, hb⟩
  have B := hid hb
  rcases hr with ⟨rfl, hg, hp⟩ | ⟨hk, hw, rfl⟩
  · have HG := hid hg
    have HP := hid hp
    have HC := hid (cml_freep HG.out.trm HG.out.cml HG.out.len)
    clear hb hg hp
    go_wp2_with fail
    refine (freeof_p HP.out HG.out.trm HG.out.cml (by decide) HG.out.len).mono ?_
    rintro e w2 ⟨r, rfl, hr, hb2⟩
    replace B := bb B hb2
    have HR := hid hr
    clear hb2 hr
    go_wp2_with fail
    refine (texts_s HR.out (trm_freep HG.out.trm) HC.out.1.sml (by decide) (by have := HC.out.2; omega)).mono ?_
    rintro e w3 ⟨s, rfl, ho, hb3⟩
    have HO := hid (show OwnS w3 w.heap.size s _ from ⟨ho.1.mono B.out.size, ho.2⟩)
    replace B := bb B hb3
    clear hb3 ho
    go_wp2_with fail
    go_ret2
    exact ⟨_, _, 0, rfl, HO.out, .inl ⟨rfl, HG.out, rfl⟩, B.out⟩
  · have HK := hid hk
    have HW := hid hw
    have f1 : (k != 0) = true := by simpa using hk
    clear hb hw
    go_wp2_with fail
    go_ret2
    exact ⟨_, [], k, rfl, OwnS.nil _ _, .inr ⟨HK.out, HW.out, rfl⟩, B.out⟩

end Go.Proofs.YtdifiimaifmcpaaGreatDoor

/-
  LAWS of package pgcd: what they have in common.
-/
namespace Go.Proofs.YtdifiimaifmcpaaGreatDoor
open Go.RowKit
open Num
set_option linter.unusedVariables false
set_option maxRecDepth 100000
set_option linter.unusedSimpArgs false

theorem PUn.ok {f : List Rat → List Rat} {p ss : List ByteArray} {k : Int} (h : PUn f p ss k) (hk : k = 0) : GoodP p ∧ ss = (f (rdp p)).map qtxt := by
  rcases h with ⟨_, h⟩ | ⟨h, _⟩
  · exact h
  · exact absurd hk h
theorem PUn.no {f : List Rat → List Rat} {p ss : List ByteArray} {k : Int} (h : PUn f p ss k) (hk : k ≠ 0) : BadP p k ∧ ss = [] := by
  rcases h with ⟨h, _⟩ | ⟨_, h⟩
  · exact absurd h hk
  · exact h
theorem PUn.yes {f : List Rat → List Rat} {p ss : List ByteArray} {k : Int} (h : PUn f p ss k) (hp : GoodP p) : k = 0 ∧ ss = (f (rdp p)).map qtxt := by
  rcases h with ⟨h1, _, h2⟩ | ⟨_, h, _⟩
  · exact ⟨h1, h2⟩
  · exact absurd hp h.not
theorem PDivs.good {p q ks rs : List ByteArray} {k : Int} (h : PDivs p q ks rs k) (hp : GoodP p) (hq : GoodP q) (h0 : rdp q ≠ []) : k = 0 := by
  rcases h with ⟨h, _⟩ | ⟨_, _, _, h, _⟩ | ⟨_, h, _⟩
  · exact h
  · exact absurd h h0
  · exact absurd ⟨hp, hq⟩ h.not
/-- Nothing is left: it goes in. -/
theorem PDivs.left {p q ks rs : List ByteArray} {k : Int} (h : PDivs p q ks rs k) (hk : k = 0) : rs = [] ↔ Dv (rdp q) (rdp p) := by
  obtain ⟨h1, h2, h3, y, r, _, hr, hl, e, _, rfl⟩ := h.ok hk
  constructor
  · intro h4
    refine dv_rem (y := y) e ?_
    exact List.map_eq_nil_iff.1 h4
  · intro h4
    rw [rem_nil h2.trm h3 hr hl e h4]; rfl
def pm101 : List ByteArray := [⟨#[45, 49]⟩, ⟨#[48]⟩, ⟨#[49]⟩]
def two22 : List ByteArray := [⟨#[50]⟩, ⟨#[50]⟩]
theorem good_101 : GoodP pm101 := by
  refine ⟨by decide, fun i hi => ?_, trm_of_last (.inr (by decide +kernel))⟩
  rcases (show i = 0 ∨ i = 1 ∨ i = 2 by simp [pm101] at hi; omega) with rfl | rfl | rfl <;> exact ⟨by decide, by decide⟩
theorem good_22 : GoodP two22 := by
  refine ⟨by decide, fun i hi => ?_, trm_of_last (.inr (by decide +kernel))⟩
  rcases (show i = 0 ∨ i = 1 by simp [two22] at hi; omega) with rfl | rfl <;> exact ⟨by decide, by decide⟩
theorem szs_101 : Szs pm101 := fun i hi => by
  rcases (show i = 0 ∨ i = 1 ∨ i = 2 by simp [pm101] at hi; omega) with rfl | rfl | rfl <;> decide
theorem szs_22 : Szs two22 := fun i hi => by
  rcases (show i = 0 ∨ i = 1 by simp [two22] at hi; omega) with rfl | rfl <;> decide
theorem gold_gcd : gcdp (rdp pm101) (rdp two22) = rdp one11 := by
  have e1 : rdp pm101 = [-1, 0, 1] := by decide +kernel
  have e2 : rdp two22 = [2, 2] := by decide +kernel
  have e3 : rdp one11 = [1, 1] := by decide +kernel
  rw [e1, e2, e3]
  refine (gcdp_of (trm_of_last (.inr (by decide +kernel))) (trm_of_last (.inr (by decide +kernel))) (.inl (by simp)) ⟨by simp, rfl⟩ ?_ ?_ fun d h1 h2 => ?_).symm
  · exact Dv.of (k := [-1, 1]) fun x => by show -1 + x * (0 + x * (1 + x * 0)) = (-1 + x * (1 + x * 0)) * (1 + x * (1 + x * 0)); grind
  · exact Dv.of (k := [2]) fun x => by show 2 + x * (2 + x * 0) = (2 + x * 0) * (1 + x * (1 + x * 0)); grind
  · refine h2.comb h2 (u := [1 / 2]) (v := []) fun x => ?_
    show 1 + x * (1 + x * 0) = (1 / 2 + x * 0) * (2 + x * (2 + x * 0)) + 0 * (2 + x * (2 + x * 0))
    grind

end Go.Proofs.YtdifiimaifmcpaaGreatDoor

/-
  LAWS of package pgcd: common.
-/
namespace Go.Proofs.YtdifiimaifmcpaaGreatDoor
open Go.RowKit
open Num
set_option linter.unusedVariables false
set_option maxRecDepth 100000
set_option linter.unusedSimpArgs false

set_option maxHeartbeats 2000000 in
theorem common_true (w : World) :
    Calls Tryz.prog 4 #[] w fun e w' => e = .returned (.bool true) ∧ Below w.heap.size w w' := by
  have hne := errv_neq
  have heq := errv_eql
  have hgd := errv_guard
  have t1 := one_text (Nat.le_refl w.heap.size) pm101 (by decide)
  have hb1 := (Below.refl w.heap.size w).alloc (Nat.le_refl _) (.cells #[.string ⟨#[45, 49]⟩, .string ⟨#[48]⟩, .string ⟨#[49]⟩] 9)
  have t2 := one_text (Nat.le_refl (w.alloc (.cells #[.string ⟨#[45, 49]⟩, .string ⟨#[48]⟩, .string ⟨#[49]⟩] 9)).heap.size) two22 (by decide)
  have hb2 := (Below.refl (w.alloc (.cells #[.string ⟨#[45, 49]⟩, .string ⟨#[48]⟩, .string ⟨#[49]⟩] 9)).heap.size _).alloc (Nat.le_refl _) (.cells #[.string ⟨#[50]⟩, .string ⟨#[50]⟩] 9)
  have B := hid (hb1.trans (hb2.mono hb1.size))
  have HM := gcd_any (t1.on hb2).txs.weak t2.txs.weak szs_101 szs_22
  have hs : (w.alloc (.cells #[.string ⟨#[45, 49]⟩, .string ⟨#[48]⟩, .string ⟨#[49]⟩] 9)).heap.size = w.heap.size + 1 := by simp
  rw [hs] at HM
  have HM := hid HM
  clear t1 t2 hb1 hb2 hs
  go_enter Tryz.func4, Tryz.ntmps4
  go_wp2_with fail
  refine HM.out.mono ?_
  rintro e w3 ⟨r, ss, k, rfl, ho, ht, hb⟩
  replace B := bb B hb
  obtain ⟨rfl, rfl⟩ := ht.yes good_101 good_22
  rw [gold_gcd, qtxt_rdp good_11.2.1] at ho
  have t3 := one_text (Nat.le_refl w3.heap.size) one11 (by decide)
  have hb3 := (Below.refl w3.heap.size w3).alloc (Nat.le_refl _) (.cells #[.string ⟨#[49]⟩, .string ⟨#[49]⟩] 9)
  have HS := same_texts (ho.1.on hb3).txs t3.txs
  rw [decide_eq_true rfl] at HS
  have HS := hid HS
  replace B := bb B hb3
  clear ho hb hb3 t3 HM ht
  go_wp2_with fail
  refine HS.out.mono ?_
  rintro e w4 ⟨rfl, hb⟩
  replace B := bb B hb
  clear hb HS
  go_wp2_with fail
  go_ret
  exact ⟨rfl, B.out⟩

end Go.Proofs.YtdifiimaifmcpaaGreatDoor
