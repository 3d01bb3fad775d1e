import Derived.Test.YtdifiimaifmcpaaBunProofPgcdTimes17
import Derived.Test.YtdifiimaifmcpaaBunProofPgcdTimes14
import Derived.Test.YtdifiimaifmcpaaBunProofPgcdTimes18
import Derived.SliceStrings
import Derived.SizedLaws
import Derived.Carry
import Derived.ProofKit
import Derived.OpenShut
import Derived.ShutString
/-
  PACKAGE pgcd: GcdOf.
-/
namespace Go.Proofs.Ytdifiimaifmcpaa
open Go.RowKit
open Num
set_option linter.unusedVariables false
set_option maxRecDepth 100000
set_option linter.unusedSimpArgs false

theorem cml_zq {l : List Int} {n : Nat} (h : Zl l n) (hn : 1 ≤ n) : Cml (zq l) n := ⟨hn, 1, by decide, Nat.one_lt_pow (by omega) (by decide), fun i => ⟨zc l i, h i, by rw [co_zq]; show _ * (1 : Rat) = _; grind⟩⟩
theorem cle_dv {l : List Rat} {L : List Int} {M : Int} (hM : M ≠ 0) (h : ∀ i, ((zc L i : Int) : Rat) = co l i * (M : Rat)) (x : Rat) : pv (zq L) x = (M : Rat) * pv l x := by
  rw [← pv_psc]
  exact pv_congr (fun i => by rw [co_zq, h, co_psc]; grind) x
theorem dv_cle {l : List Rat} {L : List Int} {M : Int} (hM : M ≠ 0) (h : ∀ i, ((zc L i : Int) : Rat) = co l i * (M : Rat)) : Dv l (zq L) ∧ Dv (zq L) l := by
  have hr : (M : Rat) ≠ 0 := int_ne hM
  refine ⟨Dv.of (k := [(M : Rat)]) fun x => by rw [cle_dv hM h, pv_one], Dv.of (k := [1 / (M : Rat)]) fun x => ?_⟩
  rw [cle_dv hM h, pv_one]
  have := rat_inv hr
  generalize 1 / (M : Rat) = y at *
  grind
theorem nil_cle {l : List Rat} {L : List Int} {M : Int} (hl : Trm l) (hL : Ztr L) (hM : M ≠ 0) (h : ∀ i, ((zc L i : Int) : Rat) = co l i * (M : Rat)) : zq L ≠ [] ↔ l ≠ [] := by
  obtain ⟨d1, d2⟩ := dv_cle hM h
  constructor
  · rintro h1 rfl
    exact d1.ne hL.trm h1 rfl
  · rintro h1 h2
    exact d2.ne hl h1 h2
/-- Times numbers, it is the same. -/
theorem gcdp_cle {l r : List Rat} {L R : List Int} {M N : Int} (hl : Trm l) (hr : Trm r) (hL : Ztr L) (hR : Ztr R) (hM : M ≠ 0) (hN : N ≠ 0) (h : ∀ i, ((zc L i : Int) : Rat) = co l i * (M : Rat)) (h' : ∀ i, ((zc R i : Int) : Rat) = co r i * (N : Rat)) :
    gcdp (zq L) (zq R) = gcdp l r := by
  obtain ⟨d1, d2⟩ := dv_cle hM h
  obtain ⟨e1, e2⟩ := dv_cle hN h'
  have n1 := nil_cle hl hL hM h
  have n2 := nil_cle hr hR hN h'
  by_cases h0 : zq L ≠ [] ∨ zq R ≠ []
  · obtain ⟨u, v, k1, k2, k3, _⟩ := gcdp_spec hL.trm hR.trm h0
    exact gcdp_of hl hr (h0.imp n1.1 n2.1) k1 (k2.trans d2) (k3.trans e2) fun d h1 h2 => gcdp_great hL.trm hR.trm h0 (h1.trans d1) (h2.trans e1)
  · have z1 : zq L = [] := Classical.byContradiction fun e => h0 (.inl e)
    have z2 : zq R = [] := Classical.byContradiction fun e => h0 (.inr e)
    have y1 : l = [] := Classical.byContradiction fun e => n1.2 e z1
    have y2 : r = [] := Classical.byContradiction fun e => n2.2 e z2
    rw [z1, z2, y1, y2]
set_option maxHeartbeats 1000000 in
/-- What goes into both. -/
theorem gcdof_p {w : World} {v u : Value} {l r : List Rat} {m : Nat} (h : PN w v l) (h' : PN w u r) (hl : Trm l) (hr : Trm r) (hs : Cml l m) (hs' : Cml r m) (hm : m ≤ 100000) (hn : l.length ≤ 9) (hn' : r.length ≤ 9) :
    Calls Try.prog 18 #[v, u] w fun e w' => ∃ v', e = .returned v' ∧ PN w' v' (gcdp l r) ∧ Below w.heap.size w w' := by
  have H1 := hid (zclear_p h hs (by omega) (by omega))
  have HQ := hid h'
  have HT := hid hl
  have HT' := hid hr
  have HC' := hid hs'
  have HM := hid hm
  have HN := hid hn
  have HN' := hid hn'
  clear h h' hl hr hs hs' hm hn hn'
  go_enter Try.func18, Try.ntmps18
  go_wp2_with fail
  refine H1.out.mono ?_
  rintro e w1 ⟨v1, L, M, rfl, hi, hz, hle, hM, hv, hzl, hb⟩
  replace HQ := pno HQ hb
  have B := hid hb
  have I1 := hid hi
  have Z1 := hid hz
  have N1 := hid (show L.length ≤ 9 by have := HN.out; omega)
  have M1 := hid hM
  have V1 := hid hv
  have S1 := hid hzl
  clear hi hz hle hM hv hzl hb H1
  go_wp2_with fail
  refine (zclear_p HQ.out HC'.out (by have := HM.out; omega) (by have := HN'.out; omega)).mono ?_
  rintro e w2 ⟨v2, R, N, rfl, hi, hz, hle, hM, hv, hzl, hb⟩
  replace I1 := ino I1 hb
  replace B := bb B hb
  have I2 := hid hi
  have Z2 := hid hz
  have N2 := hid (show R.length ≤ 9 by have := HN'.out; omega)
  have M2 := hid hM
  have V2 := hid hv
  have S2 := hid hzl
  clear hi hz hle hM hv hzl hb
  have E := hid (gcdp_cle HT.out HT'.out Z1.out Z2.out M1.out M2.out V1.out V2.out)
  go_wp2_with fail
  refine (ggcd_p I1.out I2.out Z1.out Z2.out S1.out S2.out HM.out N1.out N2.out).mono ?_
  rintro e w3 ⟨v3, G, rfl, hi, hz, hle, hg, hzl, hb⟩
  replace B := bb B hb
  have I3 := hid hi
  have Z3 := hid hz
  have N3 := hid hle
  have G3 := hid hg
  have S3 := hid hzl
  clear hi hz hle hg hzl hb
  go_wp2_with fail
  refine (zpoly_p I3.out (by have := N3.out; omega)).mono ?_
  rintro e w4 ⟨v4, rfl, hp, hb⟩
  replace B := bb B hb
  have P4 := hid hp
  clear hp hb
  go_wp2_with fail
  refine (monicof_p P4.out Z3.out.trm (cml_zq S3.out (by omega)) (by have := HM.out; omega) (by rw [zq_len]; exact N3.out)).mono ?_
  rintro e w5 ⟨v5, rfl, hp, hb⟩
  replace B := bb B hb
  have P5 := hid hp
  clear hp hb
  go_wp2_with fail
  go_ret
  exact ⟨_, rfl, by rw [← E.out, ← G3.out]; exact P5.out, B.out⟩

end Go.Proofs.Ytdifiimaifmcpaa

/-
  PACKAGE pgcd: without, FreeOf.
-/
namespace Go.Proofs.Ytdifiimaifmcpaa
open Go.RowKit
open Num
set_option linter.unusedVariables false
set_option maxRecDepth 100000
set_option linter.unusedSimpArgs false

set_option maxHeartbeats 1000000 in
/-- How often one goes in, which does. -/
theorem without_p {w : World} {v u : Value} {lp lq : List Rat} {m n : Nat} (h : PN w v lp) (h' : PN w u lq) (hp : Trm lp) (hq : Trm lq) (h0 : lq ≠ []) (hs : Sml lp m) (hs' : Sml lq n) (hm : m ≤ 1000000) (hn : n ≤ 1000000) (hl : lp.length ≤ 9) (hl' : lq.length ≤ 9) :
    Calls Try.prog 38 #[v, u] w fun e w' => ∃ v', e = .returned v' ∧ PN w' v' (quop lp lq) ∧ Below w.heap.size w w' := by
  have hb9 : (m + 2 * n + 1) * 2 ^ (lp.length + 1) ≤ 68719476736 := by
    have h1 : 2 ^ (lp.length + 1) ≤ 2 ^ 10 := Nat.pow_le_pow_right (by omega) (by omega)
    have h2 := Nat.mul_le_mul (show m + 2 * n + 1 ≤ 3000001 by omega) h1
    omega
  have hqt : trimQ lq = lq := hq
  have H1 := hid (pdiv_p h h' hs hs' (by rw [hqt]; exact h0) hb9 (by omega) (by omega))
  rw [hqt] at H1
  have hne := errv_neq
  have hgd := errv_guard
  have HP := hid hp
  have HQ := hid hq
  have H0 := hid h0
  clear h h' hp hq h0 hs hs' hm hn hl hl' hb9 hqt
  go_enter Try.func38, Try.ntmps38
  go_wp2_with fail
  refine H1.out.mono ?_
  rintro e w1 ⟨v1, u1, k, r, rfl, h1, h2, h3, h4, h5, h6, h7, h8, h9, hb⟩
  have B := hid hb
  have P1 := hid h1
  have E := hid (quop_of HP.out HQ.out H0.out h3 h4 h5 h7)
  clear h1 h2 h3 h4 h5 h6 h7 h8 h9 hb H1
  go_wp2_with fail
  go_ret
  exact ⟨_, rfl, by rw [← E.out]; exact P1.out, B.out⟩
set_option maxHeartbeats 1000000 in
theorem without_nil {w : World} {v u : Value} {lp lq : List Rat} (h : PN w v lp) (h' : PN w u lq) (h0 : trimQ lq = []) :
    Calls Try.prog 38 #[v, u] w fun e w' => ∃ v', e = .returned v' ∧ PN w' v' [] ∧ Below w.heap.size w w' := by
  have H1 := hid (pdiv_zero h h' h0)
  rw [← errv_some (show (5 : Int) ≠ 0 by decide)] at H1
  have hne := errv_neq
  have hgd := errv_guard
  have f5 : ((5 : Int) != 0) = true := by decide
  clear h h' h0
  go_enter Try.func38, Try.ntmps38
  go_wp2_with fail
  refine H1.out.mono ?_
  rintro e w1 ⟨rfl, hb⟩
  have B := hid hb
  clear hb H1
  go_wp2_with fail
  go_ret
  exact ⟨_, rfl, PN.nil _ (by decide), B.out⟩
set_option maxHeartbeats 1000000 in
/-- Each root once. -/
theorem freeof_p {w : World} {v : Value} {l : List Rat} {m : Nat} (h : PN w v l) (ht : Trm l) (hs : Cml l m) (hm : m ≤ 90000) (hl : l.length ≤ 9) :
    Calls Try.prog 28 #[v] w fun e w' => ∃ v', e = .returned v' ∧ PN w' v' (freep l) ∧ Below w.heap.size w w' := by
  obtain ⟨hc1, hn1⟩ := cml_mnc2 ht hs hl
  obtain ⟨hc2, hn2⟩ := cml_slope2 hc1 hn1
  obtain ⟨hc3, hn3⟩ := cml_gcdp2 (trm_mnc l) (trm_slope (mnc l)) (hc1.mono (Nat.le_succ m)) hc2 hn1 hn2
  have H1 := hid (monicof_p h ht hs (by omega) hl)
  rw [freep_eq ht]
  have HM := hid hm
  have HC1 := hid hc1
  have HC2 := hid hc2
  have HC3 := hid hc3
  have HN1 := hid hn1
  have HN2 := hid hn2
  have HN3 := hid hn3
  have HTR := hid (trm_mnc l)
  generalize mnc l = q at *
  clear h ht hs hm hl hc1 hc2 hc3 hn1 hn2 hn3
  go_enter Try.func28, Try.ntmps28
  go_wp2_with fail
  refine H1.out.mono ?_
  rintro e w1 ⟨v1, rfl, hp, hb⟩
  have B := hid hb
  have P1 := hid hp
  clear hp hb H1
  go_wp2_with fail
  refine (pderiv_p P1.out HC1.out.sml (by have := HM.out; omega) (by have := HN1.out; omega)).mono ?_
  rintro e w2 ⟨v2, rfl, hp, hb⟩
  replace P1 := pno P1 hb
  replace B := bb B hb
  have P2 := hid hp
  clear hp hb
  go_wp2_with fail
  refine (gcdof_p P1.out P2.out HTR.out (trm_slope q) (HC1.out.mono (Nat.le_succ m)) HC2.out (by have := HM.out; omega) HN1.out HN2.out).mono ?_
  rintro e w3 ⟨v3, rfl, hp, hb⟩
  replace P1 := pno P1 hb
  replace B := bb B hb
  have P3 := hid hp
  clear hp hb
  by_cases h0 : gcdp q (slope q) = []
  · have hq0 : q = [] := by
      apply Classical.byContradiction
      intro hq
      obtain ⟨u, v, k1, _⟩ := gcdp_spec HTR.out (trm_slope q) (.inl hq)
      exact k1.1 h0
    have E : Hid (quop q (gcdp q (slope q)) = []) := hid (by
      rw [h0]
      unfold quop
      rw [dif_neg (by rintro ⟨_, _, h⟩; exact h rfl)])
    have H4 := hid (without_nil P1.out P3.out (by rw [h0]; rfl))
    clear h0 hq0
    go_wp2_with fail
    refine H4.out.mono ?_
    rintro e w4 ⟨v4, rfl, hp, hb⟩
    replace B := bb B hb
    have P4 := hid hp
    clear hp hb
    go_wp2_with fail
    go_ret
    exact ⟨_, rfl, by rw [E.out]; exact P4.out, B.out⟩
  · have H4 := hid (without_p P1.out P3.out HTR.out (trm_gcdp HTR.out (trm_slope q)) h0 HC1.out.sml HC3.out.sml (by have := HM.out; omega) (by have := HM.out; omega) HN1.out HN3.out)
    clear h0
    go_wp2_with fail
    refine H4.out.mono ?_
    rintro e w4 ⟨v4, rfl, hp, hb⟩
    replace B := bb B hb
    have P4 := hid hp
    clear hp hb
    go_wp2_with fail
    go_ret
    exact ⟨_, rfl, P4.out, B.out⟩

end Go.Proofs.Ytdifiimaifmcpaa

/-
  PACKAGE pgcd: Monic, Gcd, Free, of texts.
-/
namespace Go.Proofs.Ytdifiimaifmcpaa
open Go.RowKit
open Num
set_option linter.unusedVariables false
set_option maxRecDepth 100000
set_option linter.unusedSimpArgs false

/-- What a function of one list tells: a list, or nothing and an error. -/
def PUn (f : List Rat → List Rat) (p ss : List ByteArray) (k : Int) : Prop := (k = 0 ∧ GoodP p ∧ ss = (f (rdp p)).map qtxt) ∨ (k ≠ 0 ∧ BadP p k ∧ ss = [])
theorem GoodP.cml {p : List ByteArray} (h : GoodP p) : Cml (rdp p) 227 := h.sml.cml.mono (by have := h.1; rw [rdp_len]; omega)
theorem GoodP.len {p : List ByteArray} (h : GoodP p) : (rdp p).length ≤ 9 := by rw [rdp_len]; exact h.1
theorem GoodP.trm {p : List ByteArray} (h : GoodP p) : Trm (rdp p) := h.2.2

set_option maxHeartbeats 1000000 in
theorem monic_any {w : World} {v : Value} {p : List ByteArray} (h : TxsW w v p) (hs : Szs p) :
    Calls Try.prog 12 #[v] w fun e w' => ∃ r ss k, e = .returned (.tuple #[r, errv k]) ∧ OwnS w' w.heap.size r ss ∧ PUn mnc p ss k ∧ Below w.heap.size w w' := by
  have H1 := hid (pread_any h hs)
  have hne := errv_neq
  have hgd := errv_guard
  clear h hs
  go_enter Try.func12, Try.ntmps12
  go_wp2_with fail
  refine H1.out.mono ?_
  rintro e w1 ⟨x, k, rfl, hr, _, hb⟩
  have B := hid hb
  rcases hr with ⟨rfl, hg, hp⟩ | ⟨hk, hw, rfl⟩
  · have HG := hid hg
    have HP := hid hp
    have HC := hid (cml_mnc2 HG.out.trm HG.out.cml HG.out.len)
    clear hb hg hp
    go_wp2_with fail
    refine (monicof_p HP.out HG.out.trm HG.out.cml (by decide) HG.out.len).mono ?_
    rintro e w2 ⟨r, rfl, hr, hb2⟩
    replace B := bb B hb2
    have HR := hid hr
    clear hb2 hr
    go_wp2_with fail
    refine (texts_s HR.out (trm_mnc _) HC.out.1.sml (by decide) (by have := HC.out.2; omega)).mono ?_
    rintro e w3 ⟨s, rfl, ho, hb3⟩
    have HO := hid (show OwnS w3 w.heap.size s _ from ⟨ho.1.mono B.out.size, ho.2⟩)
    replace B := bb B hb3
    clear hb3 ho
    go_wp2_with fail
    go_ret2
    exact ⟨_, _, 0, rfl, HO.out, .inl ⟨rfl, HG.out, rfl⟩, B.out⟩
  · have HK := hid hk
    have HW := hid hw
    have f1 : (k != 0) = true := by simpa using hk
    clear hb hw
    go_wp2_with fail
    go_ret2
    exact ⟨_, [], k, rfl, OwnS.nil _ _, .inr ⟨HK.out, HW.out, rfl⟩, B.out⟩

set_option maxHeartbeats 1000000 in
theorem gcd_any {w : World} {v u : Value} {p q : List ByteArray} (h : TxsW w v p) (h' : TxsW w u q) (hs : Szs p) (hs' : Szs q) :
    Calls Try.prog 7 #[v, u] w fun e w' => ∃ r ss k, e = .returned (.tuple #[r, errv k]) ∧ OwnS w' w.heap.size r ss ∧ PTells gcdp p q ss k ∧ Below w.heap.size w w' := by
  have H1 := hid (pread_any h hs)
  have H2 := hid (fun (w' : World) (hb : Below w.heap.size w w') => pread_any (h'.on hb) hs')
  have hne := errv_neq
  have hgd := errv_guard
  clear h h' hs hs'
  go_enter Try.func7, Try.ntmps7
  go_wp2_with fail
  refine H1.out.mono ?_
  rintro e w1 ⟨x, k, rfl, hr, _, hb⟩
  have B := hid hb
  have R := hid hr
  clear hb hr
  by_cases hk : k = 0
  · obtain ⟨hg, hp⟩ := R.out.yes hk
    have HG := hid hg
    have HP := hid hp
    clear hg hp
    subst hk
    go_wp2_with fail
    refine (H2.out _ B.out).mono ?_
    rintro e w2 ⟨y, z, rfl, hr2, _, hb2⟩
    replace HP := pno HP hb2
    replace B := bb B hb2
    have R2 := hid hr2
    clear hb2 hr2
    by_cases hk2 : z = 0
    · obtain ⟨hg2, hp2⟩ := R2.out.yes hk2
      have HG2 := hid hg2
      have HP2 := hid hp2
      have HC := hid (cml_gcdp2 HG.out.trm HG2.out.trm HG.out.cml HG2.out.cml HG.out.len HG2.out.len)
      clear hg2 hp2
      subst hk2
      go_wp2_with fail
      refine (gcdof_p HP.out HP2.out HG.out.trm HG2.out.trm HG.out.cml HG2.out.cml (by decide) HG.out.len HG2.out.len).mono ?_
      rintro e w3 ⟨r, rfl, hr, hb3⟩
      replace B := bb B hb3
      have HR := hid hr
      clear hb3 hr
      go_wp2_with fail
      refine (texts_s HR.out (trm_gcdp HG.out.trm HG2.out.trm) HC.out.1.sml (by decide) (by have := HC.out.2; omega)).mono ?_
      rintro e w4 ⟨s, rfl, ho, hb4⟩
      have HO := hid (show OwnS w4 w.heap.size s _ from ⟨ho.1.mono B.out.size, ho.2⟩)
      replace B := bb B hb4
      clear hb4 ho
      go_wp2_with fail
      go_ret2
      exact ⟨_, _, 0, rfl, HO.out, .inl ⟨rfl, HG.out, HG2.out, rfl⟩, B.out⟩
    · have HB := hid (R2.out.no hk2).1
      have HK2 := hid hk2
      have f2 : (z != 0) = true := by simpa using hk2
      go_wp2_with fail
      go_ret2
      exact ⟨_, [], z, rfl, OwnS.nil _ _, .inr ⟨HK2.out, .inr ⟨HG.out, HB.out⟩, rfl⟩, B.out⟩
  · have HB := hid (R.out.no hk).1
    have HK := hid hk
    have f1 : (k != 0) = true := by simpa using hk
    go_wp2_with fail
    go_ret2
    exact ⟨_, [], k, rfl, OwnS.nil _ _, .inr ⟨HK.out, .inl HB.out, rfl⟩, B.out⟩

set_option maxHeartbeats 1000000 in
theorem free_any {w : World} {v : Value} {p : List ByteArray} (h : TxsW w v p) (hs : Szs p) :
    Calls Try.prog 16 #[v] w fun e w' => ∃ r ss k, e = .returned (.tuple #[r, errv k]) ∧ OwnS w' w.heap.size r ss ∧ PUn freep p ss k ∧ Below w.heap.size w w' := by
  have H1 := hid (pread_any h hs)
  have hne := errv_neq
  have hgd := errv_guard
  clear h hs
  go_enter Try.func16, Try.ntmps16
  go_wp2_with fail
  refine H1.out.mono ?_
  rintro e w1 ⟨x, k, rfl, hr, _, hb⟩
  have B := hid hb
  rcases hr with ⟨rfl, hg, hp⟩ | ⟨hk, hw, rfl⟩
  · have HG := hid hg
    have HP := hid hp
    have HC := hid (cml_freep HG.out.trm HG.out.cml HG.out.len)
    clear hb hg hp
    go_wp2_with fail
    refine (freeof_p HP.out HG.out.trm HG.out.cml (by decide) HG.out.len).mono ?_
    rintro e w2 ⟨r, rfl, hr, hb2⟩
    replace B := bb B hb2
    have HR := hid hr
    clear hb2 hr
    go_wp2_with fail
    refine (texts_s HR.out (trm_freep HG.out.trm) HC.out.1.sml (by decide) (by have := HC.out.2; omega)).mono ?_
    rintro e w3 ⟨s, rfl, ho, hb3⟩
    have HO := hid (show OwnS w3 w.heap.size s _ from ⟨ho.1.mono B.out.size, ho.2⟩)
    replace B := bb B hb3
    clear hb3 ho
    go_wp2_with fail
    go_ret2
    exact ⟨_, _, 0, rfl, HO.out, .inl ⟨rfl, HG.out, rfl⟩, B.out⟩
  · have HK := hid hk
    have HW := hid hw
    have f1 : (k != 0) = true := by simpa using hk
    clear hb hw
    go_wp2_with fail
    go_ret2
    exact ⟨_, [], k, rfl, OwnS.nil _ _, .inr ⟨HK.out, HW.out, rfl⟩, B.out⟩

end Go.Proofs.Ytdifiimaifmcpaa

/-
  LAWS of package pgcd: what they have in common.
-/
namespace Go.Proofs.Ytdifiimaifmcpaa
open Go.RowKit
open Num
set_option linter.unusedVariables false
set_option maxRecDepth 100000
set_option linter.unusedSimpArgs false

theorem PUn.ok {f : List Rat → List Rat} {p ss : List ByteArray} {k : Int} (h : PUn f p ss k) (hk : k = 0) : GoodP p ∧ ss = (f (rdp p)).map qtxt := by
  rcases h with ⟨_, h⟩ | ⟨h, _⟩
  · exact h
  · exact absurd hk h
theorem PUn.no {f : List Rat → List Rat} {p ss : List ByteArray} {k : Int} (h : PUn f p ss k) (hk : k ≠ 0) : BadP p k ∧ ss = [] := by
  rcases h with ⟨h, _⟩ | ⟨_, h⟩
  · exact absurd h hk
  · exact h
theorem PUn.yes {f : List Rat → List Rat} {p ss : List ByteArray} {k : Int} (h : PUn f p ss k) (hp : GoodP p) : k = 0 ∧ ss = (f (rdp p)).map qtxt := by
  rcases h with ⟨h1, _, h2⟩ | ⟨_, h, _⟩
  · exact ⟨h1, h2⟩
  · exact absurd hp h.not
theorem PDivs.good {p q ks rs : List ByteArray} {k : Int} (h : PDivs p q ks rs k) (hp : GoodP p) (hq : GoodP q) (h0 : rdp q ≠ []) : k = 0 := by
  rcases h with ⟨h, _⟩ | ⟨_, _, _, h, _⟩ | ⟨_, h, _⟩
  · exact h
  · exact absurd h h0
  · exact absurd ⟨hp, hq⟩ h.not
/-- Nothing is left: it goes in. -/
theorem PDivs.left {p q ks rs : List ByteArray} {k : Int} (h : PDivs p q ks rs k) (hk : k = 0) : rs = [] ↔ Dv (rdp q) (rdp p) := by
  obtain ⟨h1, h2, h3, y, r, _, hr, hl, e, _, rfl⟩ := h.ok hk
  constructor
  · intro h4
    refine dv_rem (y := y) e ?_
    exact List.map_eq_nil_iff.1 h4
  · intro h4
    rw [rem_nil h2.trm h3 hr hl e h4]; rfl
end Go.Proofs.Ytdifiimaifmcpaa

/-
  LAW: PgcdTimes.
-/
namespace Go.Proofs.Ytdifiimaifmcpaa
open Go.RowKit
open Num
set_option linter.unusedVariables false
set_option maxRecDepth 100000
set_option linter.unusedSimpArgs false

set_option maxHeartbeats 4000000 in
theorem ptimes_walk {w : World} {v_ u_ x_ : Value} {p q r : List ByteArray} (hp : TxsW w v_ p) (hq : TxsW w u_ q) (hr : TxsW w x_ r) (sp : Szs p) (sq : Szs q) (sr : Szs r) :
    Calls Try.prog 5 #[v_, u_, x_] w fun e w' => e = .returned (.bool true) ∧ Below w.heap.size w w' := by
  have hne := errv_neq
  have heq := errv_eql
  have hgd := errv_guard
  have TXp := hid hp
  have SZp := hid sp
  have TXq := hid hq
  have SZq := hid sq
  have TXr := hid hr
  have SZr := hid sr
  have B := hid (Below.refl w.heap.size w)
  clear hp sp hq sq hr sr
  go_enter Try.func5, Try.ntmps5
  go_wp2_with fail
  refine (pmuls_any TXp.out TXr.out SZp.out SZr.out).mono ?_
  rintro e w1 ⟨r1, la, k1, rfl, o1, t1, b1⟩
  replace TXp := hid (TXp.out.on b1)
  replace TXq := hid (TXq.out.on b1)
  replace TXr := hid (TXr.out.on b1)
  replace B := bb B b1
  have TXla := hid o1.1.txs.weak
  have TFla := hid o1.1.txs
  have SZla := hid o1.2
  have T1 := hid t1
  clear b1 t1 o1
  go_wp2_with fail
  refine (pmuls_any TXq.out TXr.out SZq.out SZr.out).mono ?_
  rintro e w2 ⟨r2, lb, k2, rfl, o2, t2, b2⟩
  replace TXp := hid (TXp.out.on b2)
  replace TXq := hid (TXq.out.on b2)
  replace TXr := hid (TXr.out.on b2)
  replace TXla := hid (TXla.out.on b2)
  replace TFla := hid (TFla.out.on b2)
  replace B := bb B b2
  have TXlb := hid o2.1.txs.weak
  have TFlb := hid o2.1.txs
  have SZlb := hid o2.2
  have T2 := hid t2
  clear b2 t2 o2
  go_wp2_with fail
  refine (gcd_any TXla.out TXlb.out SZla.out SZlb.out).mono ?_
  rintro e w3 ⟨r3, gg, k3, rfl, o3, t3, b3⟩
  replace TXp := hid (TXp.out.on b3)
  replace TXq := hid (TXq.out.on b3)
  replace TXr := hid (TXr.out.on b3)
  replace TXla := hid (TXla.out.on b3)
  replace TXlb := hid (TXlb.out.on b3)
  replace TFla := hid (TFla.out.on b3)
  replace TFlb := hid (TFlb.out.on b3)
  replace B := bb B b3
  have TXgg := hid o3.1.txs.weak
  have TFgg := hid o3.1.txs
  have SZgg := hid o3.2
  have T3 := hid t3
  clear b3 t3 o3
  go_wp2_with fail
  refine (gcd_any TXp.out TXq.out SZp.out SZq.out).mono ?_
  rintro e w4 ⟨r4, hh, k4, rfl, o4, t4, b4⟩
  replace TXp := hid (TXp.out.on b4)
  replace TXq := hid (TXq.out.on b4)
  replace TXr := hid (TXr.out.on b4)
  replace TXla := hid (TXla.out.on b4)
  replace TXlb := hid (TXlb.out.on b4)
  replace TXgg := hid (TXgg.out.on b4)
  replace TFla := hid (TFla.out.on b4)
  replace TFlb := hid (TFlb.out.on b4)
  replace TFgg := hid (TFgg.out.on b4)
  replace B := bb B b4
  have TXhh := hid o4.1.txs.weak
  have TFhh := hid o4.1.txs
  have SZhh := hid o4.2
  have T4 := hid t4
  clear b4 t4 o4
  go_wp2_with fail
  refine (monic_any TXr.out SZr.out).mono ?_
  rintro e w5 ⟨r5, mm, k5, rfl, o5, t5, b5⟩
  replace TXp := hid (TXp.out.on b5)
  replace TXq := hid (TXq.out.on b5)
  replace TXr := hid (TXr.out.on b5)
  replace TXla := hid (TXla.out.on b5)
  replace TXlb := hid (TXlb.out.on b5)
  replace TXgg := hid (TXgg.out.on b5)
  replace TXhh := hid (TXhh.out.on b5)
  replace TFla := hid (TFla.out.on b5)
  replace TFlb := hid (TFlb.out.on b5)
  replace TFgg := hid (TFgg.out.on b5)
  replace TFhh := hid (TFhh.out.on b5)
  replace B := bb B b5
  have TXmm := hid o5.1.txs.weak
  have TFmm := hid o5.1.txs
  have SZmm := hid o5.2
  have T5 := hid t5
  clear b5 t5 o5
  go_wp2_with fail
  refine (pmuls_any TXhh.out TXmm.out SZhh.out SZmm.out).mono ?_
  rintro e w6 ⟨r6, nn, k6, rfl, o6, t6, b6⟩
  replace TXp := hid (TXp.out.on b6)
  replace TXq := hid (TXq.out.on b6)
  replace TXr := hid (TXr.out.on b6)
  replace TXla := hid (TXla.out.on b6)
  replace TXlb := hid (TXlb.out.on b6)
  replace TXgg := hid (TXgg.out.on b6)
  replace TXhh := hid (TXhh.out.on b6)
  replace TXmm := hid (TXmm.out.on b6)
  replace TFla := hid (TFla.out.on b6)
  replace TFlb := hid (TFlb.out.on b6)
  replace TFgg := hid (TFgg.out.on b6)
  replace TFhh := hid (TFhh.out.on b6)
  replace TFmm := hid (TFmm.out.on b6)
  replace B := bb B b6
  have TXnn := hid o6.1.txs.weak
  have TFnn := hid o6.1.txs
  have SZnn := hid o6.2
  have T6 := hid t6
  clear b6 t6 o6
  go_wp2_with fail
  refine (half_true _).mono ?_
  rintro e w7 ⟨rfl, b7⟩
  replace TXp := hid (TXp.out.on b7)
  replace TXq := hid (TXq.out.on b7)
  replace TXr := hid (TXr.out.on b7)
  replace TXla := hid (TXla.out.on b7)
  replace TXlb := hid (TXlb.out.on b7)
  replace TXgg := hid (TXgg.out.on b7)
  replace TXhh := hid (TXhh.out.on b7)
  replace TXmm := hid (TXmm.out.on b7)
  replace TXnn := hid (TXnn.out.on b7)
  replace TFla := hid (TFla.out.on b7)
  replace TFlb := hid (TFlb.out.on b7)
  replace TFgg := hid (TFgg.out.on b7)
  replace TFhh := hid (TFhh.out.on b7)
  replace TFmm := hid (TFmm.out.on b7)
  replace TFnn := hid (TFnn.out.on b7)
  replace B := bb B b7
  clear b7
  by_cases hk1 : k1 = 0
  · by_cases hk2 : k2 = 0
    · by_cases hk3 : k3 = 0
      · by_cases hk4 : k4 = 0
        · by_cases hk5 : k5 = 0
          · by_cases hk6 : k6 = 0
            · have hgn : gg = nn := by
                obtain ⟨gp, gr, ea⟩ := T1.out.ok hk1
                obtain ⟨gq, _, eb⟩ := T2.out.ok hk2
                rw [(T3.out.ok hk3).2.2, (T6.out.ok hk6).2.2, (T4.out.ok hk4).2.2, (T5.out.ok hk5).2, ea, eb, rdp_map, rdp_map, rdp_map, rdp_map, gcdp_mulp gp.trm gq.trm gr.trm]
              have HGN := hid hgn
              clear hgn
              subst hk1
              subst hk2
              subst hk3
              subst hk4
              subst hk5
              subst hk6
              have HSA := same_texts TFgg.out TFnn.out
              rw [decide_eq_true (HGN.out)] at HSA
              have HSA := hid HSA
              go_wp2_with fail
              refine (HSA.out).mono ?_
              rintro e w8 ⟨rfl, b8⟩
              replace TXp := hid (TXp.out.on b8)
              replace TXq := hid (TXq.out.on b8)
              replace TXr := hid (TXr.out.on b8)
              replace TXla := hid (TXla.out.on b8)
              replace TXlb := hid (TXlb.out.on b8)
              replace TXgg := hid (TXgg.out.on b8)
              replace TXhh := hid (TXhh.out.on b8)
              replace TXmm := hid (TXmm.out.on b8)
              replace TXnn := hid (TXnn.out.on b8)
              replace TFla := hid (TFla.out.on b8)
              replace TFlb := hid (TFlb.out.on b8)
              replace TFgg := hid (TFgg.out.on b8)
              replace TFhh := hid (TFhh.out.on b8)
              replace TFmm := hid (TFmm.out.on b8)
              replace TFnn := hid (TFnn.out.on b8)
              replace B := bb B b8
              clear b8 HSA
              go_wp2_with fail
              refine (pmuls_any TXp.out TXp.out SZp.out SZp.out).mono ?_
              rintro e w9 ⟨r9, ss, k9, rfl, o9, t9, b9⟩
              replace TXp := hid (TXp.out.on b9)
              replace TXq := hid (TXq.out.on b9)
              replace TXr := hid (TXr.out.on b9)
              replace TXla := hid (TXla.out.on b9)
              replace TXlb := hid (TXlb.out.on b9)
              replace TXgg := hid (TXgg.out.on b9)
              replace TXhh := hid (TXhh.out.on b9)
              replace TXmm := hid (TXmm.out.on b9)
              replace TXnn := hid (TXnn.out.on b9)
              replace TFla := hid (TFla.out.on b9)
              replace TFlb := hid (TFlb.out.on b9)
              replace TFgg := hid (TFgg.out.on b9)
              replace TFhh := hid (TFhh.out.on b9)
              replace TFmm := hid (TFmm.out.on b9)
              replace TFnn := hid (TFnn.out.on b9)
              replace B := bb B b9
              have TXss := hid o9.1.txs.weak
              have TFss := hid o9.1.txs
              have SZss := hid o9.2
              have T9 := hid t9
              clear b9 t9 o9
              go_wp2_with fail
              refine (free_any TXss.out SZss.out).mono ?_
              rintro e w10 ⟨r10, ff, k10, rfl, o10, t10, b10⟩
              replace TXp := hid (TXp.out.on b10)
              replace TXq := hid (TXq.out.on b10)
              replace TXr := hid (TXr.out.on b10)
              replace TXla := hid (TXla.out.on b10)
              replace TXlb := hid (TXlb.out.on b10)
              replace TXgg := hid (TXgg.out.on b10)
              replace TXhh := hid (TXhh.out.on b10)
              replace TXmm := hid (TXmm.out.on b10)
              replace TXnn := hid (TXnn.out.on b10)
              replace TXss := hid (TXss.out.on b10)
              replace TFla := hid (TFla.out.on b10)
              replace TFlb := hid (TFlb.out.on b10)
              replace TFgg := hid (TFgg.out.on b10)
              replace TFhh := hid (TFhh.out.on b10)
              replace TFmm := hid (TFmm.out.on b10)
              replace TFnn := hid (TFnn.out.on b10)
              replace TFss := hid (TFss.out.on b10)
              replace B := bb B b10
              have TXff := hid o10.1.txs.weak
              have TFff := hid o10.1.txs
              have SZff := hid o10.2
              have T10 := hid t10
              clear b10 t10 o10
              go_wp2_with fail
              refine (free_any TXp.out SZp.out).mono ?_
              rintro e w11 ⟨r11, kk, k11, rfl, o11, t11, b11⟩
              replace TXp := hid (TXp.out.on b11)
              replace TXq := hid (TXq.out.on b11)
              replace TXr := hid (TXr.out.on b11)
              replace TXla := hid (TXla.out.on b11)
              replace TXlb := hid (TXlb.out.on b11)
              replace TXgg := hid (TXgg.out.on b11)
              replace TXhh := hid (TXhh.out.on b11)
              replace TXmm := hid (TXmm.out.on b11)
              replace TXnn := hid (TXnn.out.on b11)
              replace TXss := hid (TXss.out.on b11)
              replace TXff := hid (TXff.out.on b11)
              replace TFla := hid (TFla.out.on b11)
              replace TFlb := hid (TFlb.out.on b11)
              replace TFgg := hid (TFgg.out.on b11)
              replace TFhh := hid (TFhh.out.on b11)
              replace TFmm := hid (TFmm.out.on b11)
              replace TFnn := hid (TFnn.out.on b11)
              replace TFss := hid (TFss.out.on b11)
              replace TFff := hid (TFff.out.on b11)
              replace B := bb B b11
              have TXkk := hid o11.1.txs.weak
              have TFkk := hid o11.1.txs
              have SZkk := hid o11.2
              have T11 := hid t11
              clear b11 t11 o11
              by_cases hk9 : k9 = 0
              · by_cases hk10 : k10 = 0
                · by_cases hk11 : k11 = 0
                  · have hfk : ff = kk := by
                      obtain ⟨gp, _, es⟩ := T9.out.ok hk9
                      rw [(T10.out.ok hk10).2, (T11.out.ok hk11).2, es, rdp_map, freep_sq gp.trm]
                    have HFK := hid hfk
                    clear hfk
                    subst hk9
                    subst hk10
                    subst hk11
                    have HSA := same_texts TFff.out TFkk.out
                    rw [decide_eq_true (HFK.out)] at HSA
                    have HSA := hid HSA
                    go_wp2_with fail
                    refine (HSA.out).mono ?_
                    rintro e w12 ⟨rfl, b12⟩
                    replace TXp := hid (TXp.out.on b12)
                    replace TXq := hid (TXq.out.on b12)
                    replace TXr := hid (TXr.out.on b12)
                    replace TXla := hid (TXla.out.on b12)
                    replace TXlb := hid (TXlb.out.on b12)
                    replace TXgg := hid (TXgg.out.on b12)
                    replace TXhh := hid (TXhh.out.on b12)
                    replace TXmm := hid (TXmm.out.on b12)
                    replace TXnn := hid (TXnn.out.on b12)
                    replace TXss := hid (TXss.out.on b12)
                    replace TXff := hid (TXff.out.on b12)
                    replace TXkk := hid (TXkk.out.on b12)
                    replace TFla := hid (TFla.out.on b12)
                    replace TFlb := hid (TFlb.out.on b12)
                    replace TFgg := hid (TFgg.out.on b12)
                    replace TFhh := hid (TFhh.out.on b12)
                    replace TFmm := hid (TFmm.out.on b12)
                    replace TFnn := hid (TFnn.out.on b12)
                    replace TFss := hid (TFss.out.on b12)
                    replace TFff := hid (TFff.out.on b12)
                    replace TFkk := hid (TFkk.out.on b12)
                    replace B := bb B b12
                    clear b12 HSA
                    go_wp2_with fail
                    go_ret
                    exact ⟨rfl, B.out⟩
                  · have f11 : (k11 != 0) = true := by simpa using hk11
                    have g11 : (k11 == 0) = false := by simpa using hk11
                    go_wp2_with fail
                    go_ret
                    exact ⟨rfl, B.out⟩
                · have f10 : (k10 != 0) = true := by simpa using hk10
                  have g10 : (k10 == 0) = false := by simpa using hk10
                  go_wp2_with fail
                  go_ret
                  exact ⟨rfl, B.out⟩
              · have f9 : (k9 != 0) = true := by simpa using hk9
                have g9 : (k9 == 0) = false := by simpa using hk9
                go_wp2_with fail
                go_ret
                exact ⟨rfl, B.out⟩
            · have f6 : (k6 != 0) = true := by simpa using hk6
              have g6 : (k6 == 0) = false := by simpa using hk6
              go_wp2_with fail
              refine (pmuls_any TXp.out TXp.out SZp.out SZp.out).mono ?_
              rintro e w8 ⟨r8, ss, k8, rfl, o8, t8, b8⟩
              replace TXp := hid (TXp.out.on b8)
              replace TXq := hid (TXq.out.on b8)
              replace TXr := hid (TXr.out.on b8)
              replace TXla := hid (TXla.out.on b8)
              replace TXlb := hid (TXlb.out.on b8)
              replace TXgg := hid (TXgg.out.on b8)
              replace TXhh := hid (TXhh.out.on b8)
              replace TXmm := hid (TXmm.out.on b8)
              replace TXnn := hid (TXnn.out.on b8)
              replace TFla := hid (TFla.out.on b8)
              replace TFlb := hid (TFlb.out.on b8)
              replace TFgg := hid (TFgg.out.on b8)
              replace TFhh := hid (TFhh.out.on b8)
              replace TFmm := hid (TFmm.out.on b8)
              replace TFnn := hid (TFnn.out.on b8)
              replace B := bb B b8
              have TXss := hid o8.1.txs.weak
              have TFss := hid o8.1.txs
              have SZss := hid o8.2
              have T8 := hid t8
              clear b8 t8 o8
              go_wp2_with fail
              refine (free_any TXss.out SZss.out).mono ?_
              rintro e w9 ⟨r9, ff, k9, rfl, o9, t9, b9⟩
              replace TXp := hid (TXp.out.on b9)
              replace TXq := hid (TXq.out.on b9)
              replace TXr := hid (TXr.out.on b9)
              replace TXla := hid (TXla.out.on b9)
              replace TXlb := hid (TXlb.out.on b9)
              replace TXgg := hid (TXgg.out.on b9)
              replace TXhh := hid (TXhh.out.on b9)
              replace TXmm := hid (TXmm.out.on b9)
              replace TXnn := hid (TXnn.out.on b9)
              replace TXss := hid (TXss.out.on b9)
              replace TFla := hid (TFla.out.on b9)
              replace TFlb := hid (TFlb.out.on b9)
              replace TFgg := hid (TFgg.out.on b9)
              replace TFhh := hid (TFhh.out.on b9)
              replace TFmm := hid (TFmm.out.on b9)
              replace TFnn := hid (TFnn.out.on b9)
              replace TFss := hid (TFss.out.on b9)
              replace B := bb B b9
              have TXff := hid o9.1.txs.weak
              have TFff := hid o9.1.txs
              have SZff := hid o9.2
              have T9 := hid t9
              clear b9 t9 o9
              go_wp2_with fail
              refine (free_any TXp.out SZp.out).mono ?_
              rintro e w10 ⟨r10, kk, k10, rfl, o10, t10, b10⟩
              replace TXp := hid (TXp.out.on b10)
              replace TXq := hid (TXq.out.on b10)
              replace TXr := hid (TXr.out.on b10)
              replace TXla := hid (TXla.out.on b10)
              replace TXlb := hid (TXlb.out.on b10)
              replace TXgg := hid (TXgg.out.on b10)
              replace TXhh := hid (TXhh.out.on b10)
              replace TXmm := hid (TXmm.out.on b10)
              replace TXnn := hid (TXnn.out.on b10)
              replace TXss := hid (TXss.out.on b10)
              replace TXff := hid (TXff.out.on b10)
              replace TFla := hid (TFla.out.on b10)
              replace TFlb := hid (TFlb.out.on b10)
              replace TFgg := hid (TFgg.out.on b10)
              replace TFhh := hid (TFhh.out.on b10)
              replace TFmm := hid (TFmm.out.on b10)
              replace TFnn := hid (TFnn.out.on b10)
              replace TFss := hid (TFss.out.on b10)
              replace TFff := hid (TFff.out.on b10)
              replace B := bb B b10
              have TXkk := hid o10.1.txs.weak
              have TFkk := hid o10.1.txs
              have SZkk := hid o10.2
              have T10 := hid t10
              clear b10 t10 o10
              by_cases hk8 : k8 = 0
              · by_cases hk9 : k9 = 0
                · by_cases hk10 : k10 = 0
                  · have hfk : ff = kk := by
                      obtain ⟨gp, _, es⟩ := T8.out.ok hk8
                      rw [(T9.out.ok hk9).2, (T10.out.ok hk10).2, es, rdp_map, freep_sq gp.trm]
                    have HFK := hid hfk
                    clear hfk
                    subst hk8
                    subst hk9
                    subst hk10
                    have HSA := same_texts TFff.out TFkk.out
                    rw [decide_eq_true (HFK.out)] at HSA
                    have HSA := hid HSA
                    go_wp2_with fail
                    refine (HSA.out).mono ?_
                    rintro e w11 ⟨rfl, b11⟩
                    replace TXp := hid (TXp.out.on b11)
                    replace TXq := hid (TXq.out.on b11)
                    replace TXr := hid (TXr.out.on b11)
                    replace TXla := hid (TXla.out.on b11)
                    replace TXlb := hid (TXlb.out.on b11)
                    replace TXgg := hid (TXgg.out.on b11)
                    replace TXhh := hid (TXhh.out.on b11)
                    replace TXmm := hid (TXmm.out.on b11)
                    replace TXnn := hid (TXnn.out.on b11)
                    replace TXss := hid (TXss.out.on b11)
                    replace TXff := hid (TXff.out.on b11)
                    replace TXkk := hid (TXkk.out.on b11)
                    replace TFla := hid (TFla.out.on b11)
                    replace TFlb := hid (TFlb.out.on b11)
                    replace TFgg := hid (TFgg.out.on b11)
                    replace TFhh := hid (TFhh.out.on b11)
                    replace TFmm := hid (TFmm.out.on b11)
                    replace TFnn := hid (TFnn.out.on b11)
                    replace TFss := hid (TFss.out.on b11)
                    replace TFff := hid (TFff.out.on b11)
                    replace TFkk := hid (TFkk.out.on b11)
                    replace B := bb B b11
                    clear b11 HSA
                    go_wp2_with fail
                    go_ret
                    exact ⟨rfl, B.out⟩
                  · have f10 : (k10 != 0) = true := by simpa using hk10
                    have g10 : (k10 == 0) = false := by simpa using hk10
                    go_wp2_with fail
                    go_ret
                    exact ⟨rfl, B.out⟩
                · have f9 : (k9 != 0) = true := by simpa using hk9
                  have g9 : (k9 == 0) = false := by simpa using hk9
                  go_wp2_with fail
                  go_ret
                  exact ⟨rfl, B.out⟩
              · have f8 : (k8 != 0) = true := by simpa using hk8
                have g8 : (k8 == 0) = false := by simpa using hk8
                go_wp2_with fail
                go_ret
                exact ⟨rfl, B.out⟩
          · have f5 : (k5 != 0) = true := by simpa using hk5
            have g5 : (k5 == 0) = false := by simpa using hk5
            go_wp2_with fail
            refine (pmuls_any TXp.out TXp.out SZp.out SZp.out).mono ?_
            rintro e w8 ⟨r8, ss, k8, rfl, o8, t8, b8⟩
            replace TXp := hid (TXp.out.on b8)
            replace TXq := hid (TXq.out.on b8)
            replace TXr := hid (TXr.out.on b8)
            replace TXla := hid (TXla.out.on b8)
            replace TXlb := hid (TXlb.out.on b8)
            replace TXgg := hid (TXgg.out.on b8)
            replace TXhh := hid (TXhh.out.on b8)
            replace TXmm := hid (TXmm.out.on b8)
            replace TXnn := hid (TXnn.out.on b8)
            replace TFla := hid (TFla.out.on b8)
            replace TFlb := hid (TFlb.out.on b8)
            replace TFgg := hid (TFgg.out.on b8)
            replace TFhh := hid (TFhh.out.on b8)
            replace TFmm := hid (TFmm.out.on b8)
            replace TFnn := hid (TFnn.out.on b8)
            replace B := bb B b8
            have TXss := hid o8.1.txs.weak
            have TFss := hid o8.1.txs
            have SZss := hid o8.2
            have T8 := hid t8
            clear b8 t8 o8
            go_wp2_with fail
            refine (free_any TXss.out SZss.out).mono ?_
            rintro e w9 ⟨r9, ff, k9, rfl, o9, t9, b9⟩
            replace TXp := hid (TXp.out.on b9)
            replace TXq := hid (TXq.out.on b9)
            replace TXr := hid (TXr.out.on b9)
            replace TXla := hid (TXla.out.on b9)
            replace TXlb := hid (TXlb.out.on b9)
            replace TXgg := hid (TXgg.out.on b9)
            replace TXhh := hid (TXhh.out.on b9)
            replace TXmm := hid (TXmm.out.on b9)
            replace TXnn := hid (TXnn.out.on b9)
            replace TXss := hid (TXss.out.on b9)
            replace TFla := hid (TFla.out.on b9)
            replace TFlb := hid (TFlb.out.on b9)
            replace TFgg := hid (TFgg.out.on b9)
            replace TFhh := hid (TFhh.out.on b9)
            replace TFmm := hid (TFmm.out.on b9)
            replace TFnn := hid (TFnn.out.on b9)
            replace TFss := hid (TFss.out.on b9)
            replace B := bb B b9
            have TXff := hid o9.1.txs.weak
            have TFff := hid o9.1.txs
            have SZff := hid o9.2
            have T9 := hid t9
            clear b9 t9 o9
            go_wp2_with fail
            refine (free_any TXp.out SZp.out).mono ?_
            rintro e w10 ⟨r10, kk, k10, rfl, o10, t10, b10⟩
            replace TXp := hid (TXp.out.on b10)
            replace TXq := hid (TXq.out.on b10)
            replace TXr := hid (TXr.out.on b10)
            replace TXla := hid (TXla.out.on b10)
            replace TXlb := hid (TXlb.out.on b10)
            replace TXgg := hid (TXgg.out.on b10)
            replace TXhh := hid (TXhh.out.on b10)
            replace TXmm := hid (TXmm.out.on b10)
            replace TXnn := hid (TXnn.out.on b10)
            replace TXss := hid (TXss.out.on b10)
            replace TXff := hid (TXff.out.on b10)
            replace TFla := hid (TFla.out.on b10)
            replace TFlb := hid (TFlb.out.on b10)
            replace TFgg := hid (TFgg.out.on b10)
            replace TFhh := hid (TFhh.out.on b10)
            replace TFmm := hid (TFmm.out.on b10)
            replace TFnn := hid (TFnn.out.on b10)
            replace TFss := hid (TFss.out.on b10)
            replace TFff := hid (TFff.out.on b10)
            replace B := bb B b10
            have TXkk := hid o10.1.txs.weak
            have TFkk := hid o10.1.txs
            have SZkk := hid o10.2
            have T10 := hid t10
            clear b10 t10 o10
            by_cases hk8 : k8 = 0
            · by_cases hk9 : k9 = 0
              · by_cases hk10 : k10 = 0
                · have hfk : ff = kk := by
                    obtain ⟨gp, _, es⟩ := T8.out.ok hk8
                    rw [(T9.out.ok hk9).2, (T10.out.ok hk10).2, es, rdp_map, freep_sq gp.trm]
                  have HFK := hid hfk
                  clear hfk
                  subst hk8
                  subst hk9
                  subst hk10
                  have HSA := same_texts TFff.out TFkk.out
                  rw [decide_eq_true (HFK.out)] at HSA
                  have HSA := hid HSA
                  go_wp2_with fail
                  refine (HSA.out).mono ?_
                  rintro e w11 ⟨rfl, b11⟩
                  replace TXp := hid (TXp.out.on b11)
                  replace TXq := hid (TXq.out.on b11)
                  replace TXr := hid (TXr.out.on b11)
                  replace TXla := hid (TXla.out.on b11)
                  replace TXlb := hid (TXlb.out.on b11)
                  replace TXgg := hid (TXgg.out.on b11)
                  replace TXhh := hid (TXhh.out.on b11)
                  replace TXmm := hid (TXmm.out.on b11)
                  replace TXnn := hid (TXnn.out.on b11)
                  replace TXss := hid (TXss.out.on b11)
                  replace TXff := hid (TXff.out.on b11)
                  replace TXkk := hid (TXkk.out.on b11)
                  replace TFla := hid (TFla.out.on b11)
                  replace TFlb := hid (TFlb.out.on b11)
                  replace TFgg := hid (TFgg.out.on b11)
                  replace TFhh := hid (TFhh.out.on b11)
                  replace TFmm := hid (TFmm.out.on b11)
                  replace TFnn := hid (TFnn.out.on b11)
                  replace TFss := hid (TFss.out.on b11)
                  replace TFff := hid (TFff.out.on b11)
                  replace TFkk := hid (TFkk.out.on b11)
                  replace B := bb B b11
                  clear b11 HSA
                  go_wp2_with fail
                  go_ret
                  exact ⟨rfl, B.out⟩
                · have f10 : (k10 != 0) = true := by simpa using hk10
                  have g10 : (k10 == 0) = false := by simpa using hk10
                  go_wp2_with fail
                  go_ret
                  exact ⟨rfl, B.out⟩
              · have f9 : (k9 != 0) = true := by simpa using hk9
                have g9 : (k9 == 0) = false := by simpa using hk9
                go_wp2_with fail
                go_ret
                exact ⟨rfl, B.out⟩
            · have f8 : (k8 != 0) = true := by simpa using hk8
              have g8 : (k8 == 0) = false := by simpa using hk8
              go_wp2_with fail
              go_ret
              exact ⟨rfl, B.out⟩
        · have f4 : (k4 != 0) = true := by simpa using hk4
          have g4 : (k4 == 0) = false := by simpa using hk4
          go_wp2_with fail
          refine (pmuls_any TXp.out TXp.out SZp.out SZp.out).mono ?_
          rintro e w8 ⟨r8, ss, k8, rfl, o8, t8, b8⟩
          replace TXp := hid (TXp.out.on b8)
          replace TXq := hid (TXq.out.on b8)
          replace TXr := hid (TXr.out.on b8)
          replace TXla := hid (TXla.out.on b8)
          replace TXlb := hid (TXlb.out.on b8)
          replace TXgg := hid (TXgg.out.on b8)
          replace TXhh := hid (TXhh.out.on b8)
          replace TXmm := hid (TXmm.out.on b8)
          replace TXnn := hid (TXnn.out.on b8)
          replace TFla := hid (TFla.out.on b8)
          replace TFlb := hid (TFlb.out.on b8)
          replace TFgg := hid (TFgg.out.on b8)
          replace TFhh := hid (TFhh.out.on b8)
          replace TFmm := hid (TFmm.out.on b8)
          replace TFnn := hid (TFnn.out.on b8)
          replace B := bb B b8
          have TXss := hid o8.1.txs.weak
          have TFss := hid o8.1.txs
          have SZss := hid o8.2
          have T8 := hid t8
          clear b8 t8 o8
          go_wp2_with fail
          refine (free_any TXss.out SZss.out).mono ?_
          rintro e w9 ⟨r9, ff, k9, rfl, o9, t9, b9⟩
          replace TXp := hid (TXp.out.on b9)
          replace TXq := hid (TXq.out.on b9)
          replace TXr := hid (TXr.out.on b9)
          replace TXla := hid (TXla.out.on b9)
          replace TXlb := hid (TXlb.out.on b9)
          replace TXgg := hid (TXgg.out.on b9)
          replace TXhh := hid (TXhh.out.on b9)
          replace TXmm := hid (TXmm.out.on b9)
          replace TXnn := hid (TXnn.out.on b9)
          replace TXss := hid (TXss.out.on b9)
          replace TFla := hid (TFla.out.on b9)
          replace TFlb := hid (TFlb.out.on b9)
          replace TFgg := hid (TFgg.out.on b9)
          replace TFhh := hid (TFhh.out.on b9)
          replace TFmm := hid (TFmm.out.on b9)
          replace TFnn := hid (TFnn.out.on b9)
          replace TFss := hid (TFss.out.on b9)
          replace B := bb B b9
          have TXff := hid o9.1.txs.weak
          have TFff := hid o9.1.txs
          have SZff := hid o9.2
          have T9 := hid t9
          clear b9 t9 o9
          go_wp2_with fail
          refine (free_any TXp.out SZp.out).mono ?_
          rintro e w10 ⟨r10, kk, k10, rfl, o10, t10, b10⟩
          replace TXp := hid (TXp.out.on b10)
          replace TXq := hid (TXq.out.on b10)
          replace TXr := hid (TXr.out.on b10)
          replace TXla := hid (TXla.out.on b10)
          replace TXlb := hid (TXlb.out.on b10)
          replace TXgg := hid (TXgg.out.on b10)
          replace TXhh := hid (TXhh.out.on b10)
          replace TXmm := hid (TXmm.out.on b10)
          replace TXnn := hid (TXnn.out.on b10)
          replace TXss := hid (TXss.out.on b10)
          replace TXff := hid (TXff.out.on b10)
          replace TFla := hid (TFla.out.on b10)
          replace TFlb := hid (TFlb.out.on b10)
          replace TFgg := hid (TFgg.out.on b10)
          replace TFhh := hid (TFhh.out.on b10)
          replace TFmm := hid (TFmm.out.on b10)
          replace TFnn := hid (TFnn.out.on b10)
          replace TFss := hid (TFss.out.on b10)
          replace TFff := hid (TFff.out.on b10)
          replace B := bb B b10
          have TXkk := hid o10.1.txs.weak
          have TFkk := hid o10.1.txs
          have SZkk := hid o10.2
          have T10 := hid t10
          clear b10 t10 o10
          by_cases hk8 : k8 = 0
          · by_cases hk9 : k9 = 0
            · by_cases hk10 : k10 = 0
              · have hfk : ff = kk := by
                  obtain ⟨gp, _, es⟩ := T8.out.ok hk8
                  rw [(T9.out.ok hk9).2, (T10.out.ok hk10).2, es, rdp_map, freep_sq gp.trm]
                have HFK := hid hfk
                clear hfk
                subst hk8
                subst hk9
                subst hk10
                have HSA := same_texts TFff.out TFkk.out
                rw [decide_eq_true (HFK.out)] at HSA
                have HSA := hid HSA
                go_wp2_with fail
                refine (HSA.out).mono ?_
                rintro e w11 ⟨rfl, b11⟩
                replace TXp := hid (TXp.out.on b11)
                replace TXq := hid (TXq.out.on b11)
                replace TXr := hid (TXr.out.on b11)
                replace TXla := hid (TXla.out.on b11)
                replace TXlb := hid (TXlb.out.on b11)
                replace TXgg := hid (TXgg.out.on b11)
                replace TXhh := hid (TXhh.out.on b11)
                replace TXmm := hid (TXmm.out.on b11)
                replace TXnn := hid (TXnn.out.on b11)
                replace TXss := hid (TXss.out.on b11)
                replace TXff := hid (TXff.out.on b11)
                replace TXkk := hid (TXkk.out.on b11)
                replace TFla := hid (TFla.out.on b11)
                replace TFlb := hid (TFlb.out.on b11)
                replace TFgg := hid (TFgg.out.on b11)
                replace TFhh := hid (TFhh.out.on b11)
                replace TFmm := hid (TFmm.out.on b11)
                replace TFnn := hid (TFnn.out.on b11)
                replace TFss := hid (TFss.out.on b11)
                replace TFff := hid (TFff.out.on b11)
                replace TFkk := hid (TFkk.out.on b11)
                replace B := bb B b11
                clear b11 HSA
                go_wp2_with fail
                go_ret
                exact ⟨rfl, B.out⟩
              · have f10 : (k10 != 0) = true := by simpa using hk10
                have g10 : (k10 == 0) = false := by simpa using hk10
                go_wp2_with fail
                go_ret
                exact ⟨rfl, B.out⟩
            · have f9 : (k9 != 0) = true := by simpa using hk9
              have g9 : (k9 == 0) = false := by simpa using hk9
              go_wp2_with fail
              go_ret
              exact ⟨rfl, B.out⟩
          · have f8 : (k8 != 0) = true := by simpa using hk8
            have g8 : (k8 == 0) = false := by simpa using hk8
            go_wp2_with fail
            go_ret
            exact ⟨rfl, B.out⟩
      · have f3 : (k3 != 0) = true := by simpa using hk3
        have g3 : (k3 == 0) = false := by simpa using hk3
        go_wp2_with fail
        refine (pmuls_any TXp.out TXp.out SZp.out SZp.out).mono ?_
        rintro e w8 ⟨r8, ss, k8, rfl, o8, t8, b8⟩
        replace TXp := hid (TXp.out.on b8)
        replace TXq := hid (TXq.out.on b8)
        replace TXr := hid (TXr.out.on b8)
        replace TXla := hid (TXla.out.on b8)
        replace TXlb := hid (TXlb.out.on b8)
        replace TXgg := hid (TXgg.out.on b8)
        replace TXhh := hid (TXhh.out.on b8)
        replace TXmm := hid (TXmm.out.on b8)
        replace TXnn := hid (TXnn.out.on b8)
        replace TFla := hid (TFla.out.on b8)
        replace TFlb := hid (TFlb.out.on b8)
        replace TFgg := hid (TFgg.out.on b8)
        replace TFhh := hid (TFhh.out.on b8)
        replace TFmm := hid (TFmm.out.on b8)
        replace TFnn := hid (TFnn.out.on b8)
        replace B := bb B b8
        have TXss := hid o8.1.txs.weak
        have TFss := hid o8.1.txs
        have SZss := hid o8.2
        have T8 := hid t8
        clear b8 t8 o8
        go_wp2_with fail
        refine (free_any TXss.out SZss.out).mono ?_
        rintro e w9 ⟨r9, ff, k9, rfl, o9, t9, b9⟩
        replace TXp := hid (TXp.out.on b9)
        replace TXq := hid (TXq.out.on b9)
        replace TXr := hid (TXr.out.on b9)
        replace TXla := hid (TXla.out.on b9)
        replace TXlb := hid (TXlb.out.on b9)
        replace TXgg := hid (TXgg.out.on b9)
        replace TXhh := hid (TXhh.out.on b9)
        replace TXmm := hid (TXmm.out.on b9)
        replace TXnn := hid (TXnn.out.on b9)
        replace TXss := hid (TXss.out.on b9)
        replace TFla := hid (TFla.out.on b9)
        replace TFlb := hid (TFlb.out.on b9)
        replace TFgg := hid (TFgg.out.on b9)
        replace TFhh := hid (TFhh.out.on b9)
        replace TFmm := hid (TFmm.out.on b9)
        replace TFnn := hid (TFnn.out.on b9)
        replace TFss := hid (TFss.out.on b9)
        replace B := bb B b9
        have TXff := hid o9.1.txs.weak
        have TFff := hid o9.1.txs
        have SZff := hid o9.2
        have T9 := hid t9
        clear b9 t9 o9
        go_wp2_with fail
        refine (free_any TXp.out SZp.out).mono ?_
        rintro e w10 ⟨r10, kk, k10, rfl, o10, t10, b10⟩
        replace TXp := hid (TXp.out.on b10)
        replace TXq := hid (TXq.out.on b10)
        replace TXr := hid (TXr.out.on b10)
        replace TXla := hid (TXla.out.on b10)
        replace TXlb := hid (TXlb.out.on b10)
        replace TXgg := hid (TXgg.out.on b10)
        replace TXhh := hid (TXhh.out.on b10)
        replace TXmm := hid (TXmm.out.on b10)
        replace TXnn := hid (TXnn.out.on b10)
        replace TXss := hid (TXss.out.on b10)
        replace TXff := hid (TXff.out.on b10)
        replace TFla := hid (TFla.out.on b10)
        replace TFlb := hid (TFlb.out.on b10)
        replace TFgg := hid (TFgg.out.on b10)
        replace TFhh := hid (TFhh.out.on b10)
        replace TFmm := hid (TFmm.out.on b10)
        replace TFnn := hid (TFnn.out.on b10)
        replace TFss := hid (TFss.out.on b10)
        replace TFff := hid (TFff.out.on b10)
        replace B := bb B b10
        have TXkk := hid o10.1.txs.weak
        have TFkk := hid o10.1.txs
        have SZkk := hid o10.2
        have T10 := hid t10
        clear b10 t10 o10
        by_cases hk8 : k8 = 0
        · by_cases hk9 : k9 = 0
          · by_cases hk10 : k10 = 0
            · have hfk : ff = kk := by
                obtain ⟨gp, _, es⟩ := T8.out.ok hk8
                rw [(T9.out.ok hk9).2, (T10.out.ok hk10).2, es, rdp_map, freep_sq gp.trm]
              have HFK := hid hfk
              clear hfk
              subst hk8
              subst hk9
              subst hk10
              have HSA := same_texts TFff.out TFkk.out
              rw [decide_eq_true (HFK.out)] at HSA
              have HSA := hid HSA
              go_wp2_with fail
              refine (HSA.out).mono ?_
              rintro e w11 ⟨rfl, b11⟩
              replace TXp := hid (TXp.out.on b11)
              replace TXq := hid (TXq.out.on b11)
              replace TXr := hid (TXr.out.on b11)
              replace TXla := hid (TXla.out.on b11)
              replace TXlb := hid (TXlb.out.on b11)
              replace TXgg := hid (TXgg.out.on b11)
              replace TXhh := hid (TXhh.out.on b11)
              replace TXmm := hid (TXmm.out.on b11)
              replace TXnn := hid (TXnn.out.on b11)
              replace TXss := hid (TXss.out.on b11)
              replace TXff := hid (TXff.out.on b11)
              replace TXkk := hid (TXkk.out.on b11)
              replace TFla := hid (TFla.out.on b11)
              replace TFlb := hid (TFlb.out.on b11)
              replace TFgg := hid (TFgg.out.on b11)
              replace TFhh := hid (TFhh.out.on b11)
              replace TFmm := hid (TFmm.out.on b11)
              replace TFnn := hid (TFnn.out.on b11)
              replace TFss := hid (TFss.out.on b11)
              replace TFff := hid (TFff.out.on b11)
              replace TFkk := hid (TFkk.out.on b11)
              replace B := bb B b11
              clear b11 HSA
              go_wp2_with fail
              go_ret
              exact ⟨rfl, B.out⟩
            · have f10 : (k10 != 0) = true := by simpa using hk10
              have g10 : (k10 == 0) = false := by simpa using hk10
              go_wp2_with fail
              go_ret
              exact ⟨rfl, B.out⟩
          · have f9 : (k9 != 0) = true := by simpa using hk9
            have g9 : (k9 == 0) = false := by simpa using hk9
            go_wp2_with fail
            go_ret
            exact ⟨rfl, B.out⟩
        · have f8 : (k8 != 0) = true := by simpa using hk8
          have g8 : (k8 == 0) = false := by simpa using hk8
          go_wp2_with fail
          go_ret
          exact ⟨rfl, B.out⟩
    · have f2 : (k2 != 0) = true := by simpa using hk2
      have g2 : (k2 == 0) = false := by simpa using hk2
      go_wp2_with fail
      refine (pmuls_any TXp.out TXp.out SZp.out SZp.out).mono ?_
      rintro e w8 ⟨r8, ss, k8, rfl, o8, t8, b8⟩
      replace TXp := hid (TXp.out.on b8)
      replace TXq := hid (TXq.out.on b8)
      replace TXr := hid (TXr.out.on b8)
      replace TXla := hid (TXla.out.on b8)
      replace TXlb := hid (TXlb.out.on b8)
      replace TXgg := hid (TXgg.out.on b8)
      replace TXhh := hid (TXhh.out.on b8)
      replace TXmm := hid (TXmm.out.on b8)
      replace TXnn := hid (TXnn.out.on b8)
      replace TFla := hid (TFla.out.on b8)
      replace TFlb := hid (TFlb.out.on b8)
      replace TFgg := hid (TFgg.out.on b8)
      replace TFhh := hid (TFhh.out.on b8)
      replace TFmm := hid (TFmm.out.on b8)
      replace TFnn := hid (TFnn.out.on b8)
      replace B := bb B b8
      have TXss := hid o8.1.txs.weak
      have TFss := hid o8.1.txs
      have SZss := hid o8.2
      have T8 := hid t8
      clear b8 t8 o8
      go_wp2_with fail
      refine (free_any TXss.out SZss.out).mono ?_
      rintro e w9 ⟨r9, ff, k9, rfl, o9, t9, b9⟩
      replace TXp := hid (TXp.out.on b9)
      replace TXq := hid (TXq.out.on b9)
      replace TXr := hid (TXr.out.on b9)
      replace TXla := hid (TXla.out.on b9)
      replace TXlb := hid (TXlb.out.on b9)
      replace TXgg := hid (TXgg.out.on b9)
      replace TXhh := hid (TXhh.out.on b9)
      replace TXmm := hid (TXmm.out.on b9)
      replace TXnn := hid (TXnn.out.on b9)
      replace TXss := hid (TXss.out.on b9)
      replace TFla := hid (TFla.out.on b9)
      replace TFlb := hid (TFlb.out.on b9)
      replace TFgg := hid (TFgg.out.on b9)
      replace TFhh := hid (TFhh.out.on b9)
      replace TFmm := hid (TFmm.out.on b9)
      replace TFnn := hid (TFnn.out.on b9)
      replace TFss := hid (TFss.out.on b9)
      replace B := bb B b9
      have TXff := hid o9.1.txs.weak
      have TFff := hid o9.1.txs
      have SZff := hid o9.2
      have T9 := hid t9
      clear b9 t9 o9
      go_wp2_with fail
      refine (free_any TXp.out SZp.out).mono ?_
      rintro e w10 ⟨r10, kk, k10, rfl, o10, t10, b10⟩
      replace TXp := hid (TXp.out.on b10)
      replace TXq := hid (TXq.out.on b10)
      replace TXr := hid (TXr.out.on b10)
      replace TXla := hid (TXla.out.on b10)
      replace TXlb := hid (TXlb.out.on b10)
      replace TXgg := hid (TXgg.out.on b10)
      replace TXhh := hid (TXhh.out.on b10)
      replace TXmm := hid (TXmm.out.on b10)
      replace TXnn := hid (TXnn.out.on b10)
      replace TXss := hid (TXss.out.on b10)
      replace TXff := hid (TXff.out.on b10)
      replace TFla := hid (TFla.out.on b10)
      replace TFlb := hid (TFlb.out.on b10)
      replace TFgg := hid (TFgg.out.on b10)
      replace TFhh := hid (TFhh.out.on b10)
      replace TFmm := hid (TFmm.out.on b10)
      replace TFnn := hid (TFnn.out.on b10)
      replace TFss := hid (TFss.out.on b10)
      replace TFff := hid (TFff.out.on b10)
      replace B := bb B b10
      have TXkk := hid o10.1.txs.weak
      have TFkk := hid o10.1.txs
      have SZkk := hid o10.2
      have T10 := hid t10
      clear b10 t10 o10
      by_cases hk8 : k8 = 0
      · by_cases hk9 : k9 = 0
        · by_cases hk10 : k10 = 0
          · have hfk : ff = kk := by
              obtain ⟨gp, _, es⟩ := T8.out.ok hk8
              rw [(T9.out.ok hk9).2, (T10.out.ok hk10).2, es, rdp_map, freep_sq gp.trm]
            have HFK := hid hfk
            clear hfk
            subst hk8
            subst hk9
            subst hk10
            have HSA := same_texts TFff.out TFkk.out
            rw [decide_eq_true (HFK.out)] at HSA
            have HSA := hid HSA
            go_wp2_with fail
            refine (HSA.out).mono ?_
            rintro e w11 ⟨rfl, b11⟩
            replace TXp := hid (TXp.out.on b11)
            replace TXq := hid (TXq.out.on b11)
            replace TXr := hid (TXr.out.on b11)
            replace TXla := hid (TXla.out.on b11)
            replace TXlb := hid (TXlb.out.on b11)
            replace TXgg := hid (TXgg.out.on b11)
            replace TXhh := hid (TXhh.out.on b11)
            replace TXmm := hid (TXmm.out.on b11)
            replace TXnn := hid (TXnn.out.on b11)
            replace TXss := hid (TXss.out.on b11)
            replace TXff := hid (TXff.out.on b11)
            replace TXkk := hid (TXkk.out.on b11)
            replace TFla := hid (TFla.out.on b11)
            replace TFlb := hid (TFlb.out.on b11)
            replace TFgg := hid (TFgg.out.on b11)
            replace TFhh := hid (TFhh.out.on b11)
            replace TFmm := hid (TFmm.out.on b11)
            replace TFnn := hid (TFnn.out.on b11)
            replace TFss := hid (TFss.out.on b11)
            replace TFff := hid (TFff.out.on b11)
            replace TFkk := hid (TFkk.out.on b11)
            replace B := bb B b11
            clear b11 HSA
            go_wp2_with fail
            go_ret
            exact ⟨rfl, B.out⟩
          · have f10 : (k10 != 0) = true := by simpa using hk10
            have g10 : (k10 == 0) = false := by simpa using hk10
            go_wp2_with fail
            go_ret
            exact ⟨rfl, B.out⟩
        · have f9 : (k9 != 0) = true := by simpa using hk9
          have g9 : (k9 == 0) = false := by simpa using hk9
          go_wp2_with fail
          go_ret
          exact ⟨rfl, B.out⟩
      · have f8 : (k8 != 0) = true := by simpa using hk8
        have g8 : (k8 == 0) = false := by simpa using hk8
        go_wp2_with fail
        go_ret
        exact ⟨rfl, B.out⟩
  · have f1 : (k1 != 0) = true := by simpa using hk1
    have g1 : (k1 == 0) = false := by simpa using hk1
    go_wp2_with fail
    refine (pmuls_any TXp.out TXp.out SZp.out SZp.out).mono ?_
    rintro e w8 ⟨r8, ss, k8, rfl, o8, t8, b8⟩
    replace TXp := hid (TXp.out.on b8)
    replace TXq := hid (TXq.out.on b8)
    replace TXr := hid (TXr.out.on b8)
    replace TXla := hid (TXla.out.on b8)
    replace TXlb := hid (TXlb.out.on b8)
    replace TXgg := hid (TXgg.out.on b8)
    replace TXhh := hid (TXhh.out.on b8)
    replace TXmm := hid (TXmm.out.on b8)
    replace TXnn := hid (TXnn.out.on b8)
    replace TFla := hid (TFla.out.on b8)
    replace TFlb := hid (TFlb.out.on b8)
    replace TFgg := hid (TFgg.out.on b8)
    replace TFhh := hid (TFhh.out.on b8)
    replace TFmm := hid (TFmm.out.on b8)
    replace TFnn := hid (TFnn.out.on b8)
    replace B := bb B b8
    have TXss := hid o8.1.txs.weak
    have TFss := hid o8.1.txs
    have SZss := hid o8.2
    have T8 := hid t8
    clear b8 t8 o8
    go_wp2_with fail
    refine (free_any TXss.out SZss.out).mono ?_
    rintro e w9 ⟨r9, ff, k9, rfl, o9, t9, b9⟩
    replace TXp := hid (TXp.out.on b9)
    replace TXq := hid (TXq.out.on b9)
    replace TXr := hid (TXr.out.on b9)
    replace TXla := hid (TXla.out.on b9)
    replace TXlb := hid (TXlb.out.on b9)
    replace TXgg := hid (TXgg.out.on b9)
    replace TXhh := hid (TXhh.out.on b9)
    replace TXmm := hid (TXmm.out.on b9)
    replace TXnn := hid (TXnn.out.on b9)
    replace TXss := hid (TXss.out.on b9)
    replace TFla := hid (TFla.out.on b9)
    replace TFlb := hid (TFlb.out.on b9)
    replace TFgg := hid (TFgg.out.on b9)
    replace TFhh := hid (TFhh.out.on b9)
    replace TFmm := hid (TFmm.out.on b9)
    replace TFnn := hid (TFnn.out.on b9)
    replace TFss := hid (TFss.out.on b9)
    replace B := bb B b9
    have TXff := hid o9.1.txs.weak
    have TFff := hid o9.1.txs
    have SZff := hid o9.2
    have T9 := hid t9
    clear b9 t9 o9
    go_wp2_with fail
    refine (free_any TXp.out SZp.out).mono ?_
    rintro e w10 ⟨r10, kk, k10, rfl, o10, t10, b10⟩
    replace TXp := hid (TXp.out.on b10)
    replace TXq := hid (TXq.out.on b10)
    replace TXr := hid (TXr.out.on b10)
    replace TXla := hid (TXla.out.on b10)
    replace TXlb := hid (TXlb.out.on b10)
    replace TXgg := hid (TXgg.out.on b10)
    replace TXhh := hid (TXhh.out.on b10)
    replace TXmm := hid (TXmm.out.on b10)
    replace TXnn := hid (TXnn.out.on b10)
    replace TXss := hid (TXss.out.on b10)
    replace TXff := hid (TXff.out.on b10)
    replace TFla := hid (TFla.out.on b10)
    replace TFlb := hid (TFlb.out.on b10)
    replace TFgg := hid (TFgg.out.on b10)
    replace TFhh := hid (TFhh.out.on b10)
    replace TFmm := hid (TFmm.out.on b10)
    replace TFnn := hid (TFnn.out.on b10)
    replace TFss := hid (TFss.out.on b10)
    replace TFff := hid (TFff.out.on b10)
    replace B := bb B b10
    have TXkk := hid o10.1.txs.weak
    have TFkk := hid o10.1.txs
    have SZkk := hid o10.2
    have T10 := hid t10
    clear b10 t10 o10
    by_cases hk8 : k8 = 0
    · by_cases hk9 : k9 = 0
      · by_cases hk10 : k10 = 0
        · have hfk : ff = kk := by
            obtain ⟨gp, _, es⟩ := T8.out.ok hk8
            rw [(T9.out.ok hk9).2, (T10.out.ok hk10).2, es, rdp_map, freep_sq gp.trm]
          have HFK := hid hfk
          clear hfk
          subst hk8
          subst hk9
          subst hk10
          have HSA := same_texts TFff.out TFkk.out
          rw [decide_eq_true (HFK.out)] at HSA
          have HSA := hid HSA
          go_wp2_with fail
          refine (HSA.out).mono ?_
          rintro e w11 ⟨rfl, b11⟩
          replace TXp := hid (TXp.out.on b11)
          replace TXq := hid (TXq.out.on b11)
          replace TXr := hid (TXr.out.on b11)
          replace TXla := hid (TXla.out.on b11)
          replace TXlb := hid (TXlb.out.on b11)
          replace TXgg := hid (TXgg.out.on b11)
          replace TXhh := hid (TXhh.out.on b11)
          replace TXmm := hid (TXmm.out.on b11)
          replace TXnn := hid (TXnn.out.on b11)
          replace TXss := hid (TXss.out.on b11)
          replace TXff := hid (TXff.out.on b11)
          replace TXkk := hid (TXkk.out.on b11)
          replace TFla := hid (TFla.out.on b11)
          replace TFlb := hid (TFlb.out.on b11)
          replace TFgg := hid (TFgg.out.on b11)
          replace TFhh := hid (TFhh.out.on b11)
          replace TFmm := hid (TFmm.out.on b11)
          replace TFnn := hid (TFnn.out.on b11)
          replace TFss := hid (TFss.out.on b11)
          replace TFff := hid (TFff.out.on b11)
          replace TFkk := hid (TFkk.out.on b11)
          replace B := bb B b11
          clear b11 HSA
          go_wp2_with fail
          go_ret
          exact ⟨rfl, B.out⟩
        · have f10 : (k10 != 0) = true := by simpa using hk10
          have g10 : (k10 == 0) = false := by simpa using hk10
          go_wp2_with fail
          go_ret
          exact ⟨rfl, B.out⟩
      · have f9 : (k9 != 0) = true := by simpa using hk9
        have g9 : (k9 == 0) = false := by simpa using hk9
        go_wp2_with fail
        go_ret
        exact ⟨rfl, B.out⟩
    · have f8 : (k8 != 0) = true := by simpa using hk8
      have g8 : (k8 == 0) = false := by simpa using hk8
      go_wp2_with fail
      go_ret
      exact ⟨rfl, B.out⟩

end Go.Proofs.Ytdifiimaifmcpaa

/-
  The law PgcdTimes of package abacistlaw6: whatever lists of texts and texts come in, the call returns true, and they read behind it as they did before. No condition.
-/
namespace Go.Proofs.Ytdifiimaifmcpaa.pgcdTimes
open Go.ChangeShapes Go.WideShapes Go.ChangeAt Go.RowKit
open Go.ChangeMaps (open_string shut_string)
set_option linter.unusedVariables false

theorem own : ownKnob Try.prog.godebug = none := by kernel_rfl
theorem laidOut : laidOutB Try.prog = true := by kernel_rfl
theorem cellsS : Try.prog.cellsOf 9 = 1 := by kernel_rfl
theorem bytesS : Try.prog.bytesOf 9 = 16 := by kernel_rfl

set_option maxRecDepth 100000 in
theorem lifted (os : Os) (started : os.Started) (H : Type) (enc : TypeId × Value → H) :
    ReturnsInHanded {} Try.checked os 5 .any (Rows.pgcdTimesSpec.pre6 enc Try.prog Try.f5 Rows.pgcdTimesRow.domain false) (Rows.pgcdTimesSpec.post enc Try.prog Try.f5 false true false false) := by
  refine returnsInHanded_of_change_sized (C := Try.checked) own started (by kernel_rfl) Try.func5
    (ChangeSpec.witness6 (enc := enc) (C := Try.checked) false ⟨#[], #[.slice none 0 0, .slice none 0 0, .slice none 0 0], []⟩ 8 (by kernel_rfl) (by kernel_rfl) (by kernel_rfl) (by kernel_rfl)) ?_
  intro W base args ds gs before hval0 hW hcnd hsz0 _
  have hval : ∀ (j : Nat) t v, Try.f5.params[j]? = some t → args[j]? = some v → Value.okWide Try.prog W .any base t v := hval0
  have hW' := hW
  obtain ⟨p, q, hA0, hV, rfl, hfz, hnd⟩ := hW
  have hA : DataW.TrodAll enc Try.prog W 0 (fun _ => true) true Try.f5.params.toList args.toList ds p := hA0
  rw [Try.params5] at hA hval
  have hsz : (DataW.weightsEach Try.prog (Try.f5.params.toList ++ Rows.pgcdTimesSpec.plain.varTypes Try.prog) (ds ++ gs)).all (· ≤ reachBytes) = true := hsz0
  rw [Try.params5] at hsz
  obtain ⟨v0, vs0, d0, ds0, p0, q0, hargs, rfl, rfl, h0, r0⟩ := trodAll_cons hA
  obtain ⟨v1, vs1, d1, ds1, p1, q1, rfl, rfl, rfl, h1, r1⟩ := trodAll_cons r0
  obtain ⟨v2, vs2, d2, ds2, p2, q2, rfl, rfl, rfl, h2, r2⟩ := trodAll_cons r1
  obtain ⟨rfl, rfl, rfl⟩ := trodAll_nil r2
  obtain rfl : args = #[v0, v1, v2] := by cases args; simp_all
  obtain ⟨rfl, rfl⟩ := trodVars_none hV
  obtain ⟨pa0, len0, cap0, rfl⟩ := okWide_slice Try.underlying22 (hval 0 22 v0 rfl rfl)
  have h0k := h0
  obtain ⟨fuel0, hf0⟩ := h0
  obtain ⟨pa1, len1, cap1, rfl⟩ := okWide_slice Try.underlying22 (hval 1 22 v1 rfl rfl)
  have h1k := h1
  obtain ⟨fuel1, hf1⟩ := h1
  obtain ⟨pa2, len2, cap2, rfl⟩ := okWide_slice Try.underlying22 (hval 2 22 v2 rfl rfl)
  have h2k := h2
  obtain ⟨fuel2, hf2⟩ := h2
  clear hA0 hval0
  have hlt0 : ∀ y ∈ p0, y.block < W.heap.size := fun y hy => hW'.lt y (by simp [hy])
  have hlt1 : ∀ y ∈ p1, y.block < W.heap.size := fun y hy => hW'.lt y (by simp [hy])
  have hlt2 : ∀ y ∈ p2, y.block < W.heap.size := fun y hy => hW'.lt y (by simp [hy])
  have T0 : ∃ ss : List ByteArray, TxsW W (.slice pa0 len0 cap0) ss ∧ Szs ss ∧ ss.length * 16 ≤ 140737488355328 := by
    rcases open_strings Try.underlying22 Try.underlying9 cellsS hf0 with ⟨hcs, hx⟩ | ⟨b, len', cap', ss, hcs, _, hl, hm, hz, hx, hcell, hws⟩
    · simp [Value.cells] at hcs
      obtain ⟨rfl, rfl, rfl⟩ := hcs
      exact ⟨[], (Txs.nil W).weak, Szs.nil, by decide⟩
    · simp [Value.cells] at hcs
      obtain ⟨rfl, rfl, rfl⟩ := hcs
      simp only [Prod.mk.injEq] at hx
      obtain ⟨rfl, hx2⟩ := hx
      simp only [if_true] at hz
      have hlen : (ss.take len0).length = len0 := by rw [List.length_take]; omega
      have hreach : len0 * 16 ≤ 140737488355328 := by
        have := sized_slice hsz (j := 0) (t := 22) (e := 9) rfl rfl Try.underlying22
        rw [bytesS] at this
        simp only [strs, List.length_map, List.length_take, List.length_drop, reachBytes] at this
        omega
      refine ⟨ss.take len0, ?_, ?_, by rw [hlen]; exact hreach⟩
      · refine ⟨some b, cap0, by rw [hlen], by rw [hlen]; exact hl, hm, fun i hi => ?_⟩
        have hi2 : i < len0 := by rw [← hlen]; exact hi
        have h2 := hcell i (by omega)
        obtain ⟨g, off, spot⟩ := b
        have hspot : spot = none := by simpa [Addr.add] using World.cell?_spot (hcell 0 (by omega))
        subst hspot
        have hbW : g < W.heap.size := hlt0 (.cell g off) (by rw [hx2]; exact MemPlace.mem_row.2 ⟨0, by omega, by simp⟩)
        refine ⟨g, off, rfl, hbW, ?_⟩
        rw [add_plain, List.getD_eq_getElem?_getD, List.getElem?_eq_getElem (by omega), Option.getD_some] at h2
        rw [h2, tx_lt hi, List.getElem_take]
      · intro i hi
        rw [tx_lt hi]
        exact hws _ (List.mem_of_mem_take (List.getElem_mem hi))
  obtain ⟨l0, t0, s0, z0⟩ := T0
  have T1 : ∃ ss : List ByteArray, TxsW W (.slice pa1 len1 cap1) ss ∧ Szs ss ∧ ss.length * 16 ≤ 140737488355328 := by
    rcases open_strings Try.underlying22 Try.underlying9 cellsS hf1 with ⟨hcs, hx⟩ | ⟨b, len', cap', ss, hcs, _, hl, hm, hz, hx, hcell, hws⟩
    · simp [Value.cells] at hcs
      obtain ⟨rfl, rfl, rfl⟩ := hcs
      exact ⟨[], (Txs.nil W).weak, Szs.nil, by decide⟩
    · simp [Value.cells] at hcs
      obtain ⟨rfl, rfl, rfl⟩ := hcs
      simp only [Prod.mk.injEq] at hx
      obtain ⟨rfl, hx2⟩ := hx
      simp only [if_true] at hz
      have hlen : (ss.take len1).length = len1 := by rw [List.length_take]; omega
      have hreach : len1 * 16 ≤ 140737488355328 := by
        have := sized_slice hsz (j := 1) (t := 22) (e := 9) rfl rfl Try.underlying22
        rw [bytesS] at this
        simp only [strs, List.length_map, List.length_take, List.length_drop, reachBytes] at this
        omega
      refine ⟨ss.take len1, ?_, ?_, by rw [hlen]; exact hreach⟩
      · refine ⟨some b, cap1, by rw [hlen], by rw [hlen]; exact hl, hm, fun i hi => ?_⟩
        have hi2 : i < len1 := by rw [← hlen]; exact hi
        have h2 := hcell i (by omega)
        obtain ⟨g, off, spot⟩ := b
        have hspot : spot = none := by simpa [Addr.add] using World.cell?_spot (hcell 0 (by omega))
        subst hspot
        have hbW : g < W.heap.size := hlt1 (.cell g off) (by rw [hx2]; exact MemPlace.mem_row.2 ⟨0, by omega, by simp⟩)
        refine ⟨g, off, rfl, hbW, ?_⟩
        rw [add_plain, List.getD_eq_getElem?_getD, List.getElem?_eq_getElem (by omega), Option.getD_some] at h2
        rw [h2, tx_lt hi, List.getElem_take]
      · intro i hi
        rw [tx_lt hi]
        exact hws _ (List.mem_of_mem_take (List.getElem_mem hi))
  obtain ⟨l1, t1, s1, z1⟩ := T1
  have T2 : ∃ ss : List ByteArray, TxsW W (.slice pa2 len2 cap2) ss ∧ Szs ss ∧ ss.length * 16 ≤ 140737488355328 := by
    rcases open_strings Try.underlying22 Try.underlying9 cellsS hf2 with ⟨hcs, hx⟩ | ⟨b, len', cap', ss, hcs, _, hl, hm, hz, hx, hcell, hws⟩
    · simp [Value.cells] at hcs
      obtain ⟨rfl, rfl, rfl⟩ := hcs
      exact ⟨[], (Txs.nil W).weak, Szs.nil, by decide⟩
    · simp [Value.cells] at hcs
      obtain ⟨rfl, rfl, rfl⟩ := hcs
      simp only [Prod.mk.injEq] at hx
      obtain ⟨rfl, hx2⟩ := hx
      simp only [if_true] at hz
      have hlen : (ss.take len2).length = len2 := by rw [List.length_take]; omega
      have hreach : len2 * 16 ≤ 140737488355328 := by
        have := sized_slice hsz (j := 2) (t := 22) (e := 9) rfl rfl Try.underlying22
        rw [bytesS] at this
        simp only [strs, List.length_map, List.length_take, List.length_drop, reachBytes] at this
        omega
      refine ⟨ss.take len2, ?_, ?_, by rw [hlen]; exact hreach⟩
      · refine ⟨some b, cap2, by rw [hlen], by rw [hlen]; exact hl, hm, fun i hi => ?_⟩
        have hi2 : i < len2 := by rw [← hlen]; exact hi
        have h2 := hcell i (by omega)
        obtain ⟨g, off, spot⟩ := b
        have hspot : spot = none := by simpa [Addr.add] using World.cell?_spot (hcell 0 (by omega))
        subst hspot
        have hbW : g < W.heap.size := hlt2 (.cell g off) (by rw [hx2]; exact MemPlace.mem_row.2 ⟨0, by omega, by simp⟩)
        refine ⟨g, off, rfl, hbW, ?_⟩
        rw [add_plain, List.getD_eq_getElem?_getD, List.getElem?_eq_getElem (by omega), Option.getD_some] at h2
        rw [h2, tx_lt hi, List.getElem_take]
      · intro i hi
        rw [tx_lt hi]
        exact hws _ (List.mem_of_mem_take (List.getElem_mem hi))
  obtain ⟨l2, t2, s2, z2⟩ := T2
  refine (ptimes_walk t0 t1 t2 s0 s1 s2).mono fun e W' ⟨he, hg⟩ => ?_
  subst he
  refine ⟨_, rfl, _, _, _, [] ++ [], p0 ++ (p1 ++ (p2 ++ [])), [], hW', ?_, ?_, rfl, hg.frame _, fun h => by cases h⟩
  · exact trodAll_cons_mk (shut_bool Try.underlying4 _) trodAll_mk0
  · exact (trodAll_cons_mk (Below.trod laidOut (by kernel_rfl) (of_decide_eq_true (by kernel_rfl)) h0k hg hlt0) (trodAll_cons_mk (Below.trod laidOut (by kernel_rfl) (of_decide_eq_true (by kernel_rfl)) h1k hg hlt1) (trodAll_cons_mk (Below.trod laidOut (by kernel_rfl) (of_decide_eq_true (by kernel_rfl)) h2k hg hlt2) trodAll_mk0)))

/-- The law PgcdTimes: every input. -/
theorem proved : Rows.PgcdTimesSaid :=
  OpenClaim.holds_of_wide 5 Try.f5 rfl rfl rfl rfl rfl rfl rfl ⟨rfl, rfl, rfl, rfl, rfl⟩ rfl rfl rfl rfl rfl (by kernel_rfl) Try.func5 (by kernel_rfl)
    (of_decide_eq_true (by kernel_rfl)) (by unfold Func.isWrapper; first | (rw [if_pos (by decide +kernel)]; kernel_rfl) | (rw [if_neg (by decide +kernel)]; exact ⟨rfl, rfl⟩))
    (fun os started H enc _ => lifted os started H enc)
#print axioms proved
end Go.Proofs.Ytdifiimaifmcpaa.pgcdTimes
