import Derived.Test.YtokojbgpboccnaaGreatBunProofSturmMoved21
import Derived.Test.YtokojbgpboccnaaGreatBunProofSturmMoved18
import Derived.Test.YtokojbgpboccnaaGreatBunProofSturmMoved22
import Derived.Test.YtokojbgpboccnaaGreatBunProofSturmMoved17
import Derived.Test.YtokojbgpboccnaaGreatBunProofSturmMoved1
import Derived.Test.YtokojbgpboccnaaGreatBunProofSturmMoved23
import Derived.Test.YtokojbgpboccnaaGreatBunProofSturmMoved15
import Derived.SliceStrings
import Derived.SizedLaws
import Derived.Carry
import Derived.ProofKit
import Derived.OpenShut
import Derived.ShutString
/-
  PACKAGE pgcd: GcdOf.
-/
namespace Go.Proofs.YtokojbgpboccnaaGreat
open Go.RowKit
open Num
set_option linter.unusedVariables false
set_option maxRecDepth 100000
set_option linter.unusedSimpArgs false

theorem cml_zq {l : List Int} {n : Nat} (h : Zl l n) (hn : 1 ≤ n) : Cml (zq l) n := ⟨hn, 1, by decide, Nat.one_lt_pow (by omega) (by decide), fun i => ⟨zc l i, h i, by rw [co_zq]; show _ * (1 : Rat) = _; grind⟩⟩
theorem cle_dv {l : List Rat} {L : List Int} {M : Rat} (hM : M ≠ 0) (h : ∀ i, ((zc L i : Int) : Rat) = co l i * (M : Rat)) (x : Rat) : pv (zq L) x = (M : Rat) * pv l x := by
  rw [← pv_psc]
  exact pv_congr (fun i => by rw [co_zq, h, co_psc]; grind) x
theorem dv_cle {l : List Rat} {L : List Int} {M : Rat} (hM : M ≠ 0) (h : ∀ i, ((zc L i : Int) : Rat) = co l i * (M : Rat)) : Dv l (zq L) ∧ Dv (zq L) l := by
  have hr : (M : Rat) ≠ 0 := hM
  refine ⟨Dv.of (k := [(M : Rat)]) fun x => by rw [cle_dv hM h, pv_one], Dv.of (k := [1 / (M : Rat)]) fun x => ?_⟩
  rw [cle_dv hM h, pv_one]
  have := rat_inv hr
  generalize 1 / (M : Rat) = y at *
  grind
theorem nil_cle {l : List Rat} {L : List Int} {M : Rat} (hl : Trm l) (hL : Ztr L) (hM : M ≠ 0) (h : ∀ i, ((zc L i : Int) : Rat) = co l i * (M : Rat)) : zq L ≠ [] ↔ l ≠ [] := by
  obtain ⟨d1, d2⟩ := dv_cle hM h
  constructor
  · rintro h1 rfl
    exact d1.ne hL.trm h1 rfl
  · rintro h1 h2
    exact d2.ne hl h1 h2
/-- Times numbers, it is the same. -/
theorem gcdp_cle {l r : List Rat} {L R : List Int} {M N : Rat} (hl : Trm l) (hr : Trm r) (hL : Ztr L) (hR : Ztr R) (hM : M ≠ 0) (hN : N ≠ 0) (h : ∀ i, ((zc L i : Int) : Rat) = co l i * (M : Rat)) (h' : ∀ i, ((zc R i : Int) : Rat) = co r i * (N : Rat)) :
    gcdp (zq L) (zq R) = gcdp l r := by
  obtain ⟨d1, d2⟩ := dv_cle hM h
  obtain ⟨e1, e2⟩ := dv_cle hN h'
  have n1 := nil_cle hl hL hM h
  have n2 := nil_cle hr hR hN h'
  by_cases h0 : zq L ≠ [] ∨ zq R ≠ []
  · obtain ⟨u, v, k1, k2, k3, _⟩ := gcdp_spec hL.trm hR.trm h0
    exact gcdp_of hl hr (h0.imp n1.1 n2.1) k1 (k2.trans d2) (k3.trans e2) fun d h1 h2 => gcdp_great hL.trm hR.trm h0 (h1.trans d1) (h2.trans e1)
  · have z1 : zq L = [] := Classical.byContradiction fun e => h0 (.inl e)
    have z2 : zq R = [] := Classical.byContradiction fun e => h0 (.inr e)
    have y1 : l = [] := Classical.byContradiction fun e => n1.2 e z1
    have y2 : r = [] := Classical.byContradiction fun e => n2.2 e z2
    rw [z1, z2, y1, y2]
set_option maxHeartbeats 1000000 in
/-- What goes into both. -/
theorem gcdof_p {w : World} {v u : Value} {l r : List Rat} {m : Nat} (h : PN w v l) (h' : PN w u r) (hl : Trm l) (hr : Trm r) (hs : Cml l m) (hs' : Cml r m) (hm : m ≤ 100000) (hn : l.length ≤ 9) (hn' : r.length ≤ 9) :
    Calls Tryz.prog 54 #[v, u] w fun e w' => ∃ v', e = .returned v' ∧ PN w' v' (gcdp l r) ∧ Below w.heap.size w w' := by
  have H1 := hid (zclear_p h hs (by omega) (by omega))
  have HQ := hid h'
  have HT := hid hl
  have HT' := hid hr
  have HC' := hid hs'
  have HM := hid hm
  have HN := hid hn
  have HN' := hid hn'
  clear h h' hl hr hs hs' hm hn hn'
  go_enter Tryz.func54, Tryz.ntmps54
  go_wp2_with fail
  refine H1.out.mono ?_
  rintro e w1 ⟨v1, L, M, rfl, hi, hz, hle, hM, hv, hzl, hb⟩
  replace HQ := pno HQ hb
  have B := hid hb
  have I1 := hid hi
  have Z1 := hid hz
  have N1 := hid (show L.length ≤ 9 by have := HN.out; omega)
  have M1 := hid hM
  have V1 := hid hv
  have S1 := hid hzl
  clear hi hz hle hM hv hzl hb H1
  go_wp2_with fail
  refine (zclear_p HQ.out HC'.out (by have := HM.out; omega) (by have := HN'.out; omega)).mono ?_
  rintro e w2 ⟨v2, R, N, rfl, hi, hz, hle, hM, hv, hzl, hb⟩
  replace I1 := ino I1 hb
  replace B := bb B hb
  have I2 := hid hi
  have Z2 := hid hz
  have N2 := hid (show R.length ≤ 9 by have := HN'.out; omega)
  have M2 := hid hM
  have V2 := hid hv
  have S2 := hid hzl
  clear hi hz hle hM hv hzl hb
  have E := hid (gcdp_cle HT.out HT'.out Z1.out Z2.out M1.out M2.out V1.out V2.out)
  go_wp2_with fail
  refine (ggcd_p I1.out I2.out Z1.out Z2.out S1.out S2.out HM.out N1.out N2.out).mono ?_
  rintro e w3 ⟨v3, G, rfl, hi, hz, hle, hg, hzl, hb⟩
  replace B := bb B hb
  have I3 := hid hi
  have Z3 := hid hz
  have N3 := hid hle
  have G3 := hid hg
  have S3 := hid hzl
  clear hi hz hle hg hzl hb
  go_wp2_with fail
  refine (zpoly_p I3.out (by have := N3.out; omega)).mono ?_
  rintro e w4 ⟨v4, rfl, hp, hb⟩
  replace B := bb B hb
  have P4 := hid hp
  clear hp hb
  go_wp2_with fail
  refine (monicof_p P4.out Z3.out.trm (cml_zq S3.out (by omega)) (by have := HM.out; omega) (by rw [zq_len]; exact N3.out)).mono ?_
  rintro e w5 ⟨v5, rfl, hp, hb⟩
  replace B := bb B hb
  have P5 := hid hp
  clear hp hb
  go_wp2_with fail
  go_ret
  exact ⟨_, rfl, by rw [← E.out, ← G3.out]; exact P5.out, B.out⟩

end Go.Proofs.YtokojbgpboccnaaGreat

/-
  PACKAGE pgcd: without, FreeOf.
-/
namespace Go.Proofs.YtokojbgpboccnaaGreat
open Go.RowKit
open Num
set_option linter.unusedVariables false
set_option maxRecDepth 100000
set_option linter.unusedSimpArgs false

set_option maxHeartbeats 1000000 in
/-- How often one goes in, which does. -/
theorem without_p {w : World} {v u : Value} {lp lq : List Rat} {m n : Nat} (h : PN w v lp) (h' : PN w u lq) (hp : Trm lp) (hq : Trm lq) (h0 : lq ≠ []) (hs : Sml lp m) (hs' : Sml lq n) (hm : m ≤ 1000000) (hn : n ≤ 1000000) (hl : lp.length ≤ 9) (hl' : lq.length ≤ 9) :
    Calls Tryz.prog 53 #[v, u] w fun e w' => ∃ v', e = .returned v' ∧ PN w' v' (quop lp lq) ∧ Below w.heap.size w w' := by
  have hb9 : (m + 2 * n + 1) * 2 ^ (lp.length + 1) ≤ 68719476736 := by
    have h1 : 2 ^ (lp.length + 1) ≤ 2 ^ 10 := Nat.pow_le_pow_right (by omega) (by omega)
    have h2 := Nat.mul_le_mul (show m + 2 * n + 1 ≤ 3000001 by omega) h1
    omega
  have hqt : trimQ lq = lq := hq
  have H1 := hid (pdiv_p h h' hs hs' (by rw [hqt]; exact h0) hb9 (by omega) (by omega))
  rw [hqt] at H1
  have hne := errv_neq
  have hgd := errv_guard
  have HP := hid hp
  have HQ := hid hq
  have H0 := hid h0
  clear h h' hp hq h0 hs hs' hm hn hl hl' hb9 hqt
  go_enter Tryz.func53, Tryz.ntmps53
  go_wp2_with fail
  refine H1.out.mono ?_
  rintro e w1 ⟨v1, u1, k, r, rfl, h1, h2, h3, h4, h5, h6, h7, h8, h9, hb⟩
  have B := hid hb
  have P1 := hid h1
  have E := hid (quop_of HP.out HQ.out H0.out h3 h4 h5 h7)
  clear h1 h2 h3 h4 h5 h6 h7 h8 h9 hb H1
  go_wp2_with fail
  go_ret
  exact ⟨_, rfl, by rw [← E.out]; exact P1.out, B.out⟩
set_option maxHeartbeats 1000000 in
theorem without_nil {w : World} {v u : Value} {lp lq : List Rat} (h : PN w v lp) (h' : PN w u lq) (h0 : trimQ lq = []) :
    Calls Tryz.prog 53 #[v, u] w fun e w' => ∃ v', e = .returned v' ∧ PN w' v' [] ∧ Below w.heap.size w w' := by
  have H1 := hid (pdiv_zero h h' h0)
  rw [← errv_some (show (5 : Int) ≠ 0 by decide)] at H1
  have hne := errv_neq
  have hgd := errv_guard
  have f5 : ((5 : Int) != 0) = true := by decide
  clear h h' h0
  go_enter Tryz.func53, Tryz.ntmps53
  go_wp2_with fail
  refine H1.out.mono ?_
  rintro e w1 ⟨rfl, hb⟩
  have B := hid hb
  clear hb H1
  go_wp2_with fail
  go_ret
  exact ⟨_, rfl, PN.nil _ (by decide), B.out⟩
set_option maxHeartbeats 1000000 in
/-- Each root once. -/
theorem freeof_p {w : World} {v : Value} {l : List Rat} {m : Nat} (h : PN w v l) (ht : Trm l) (hs : Cml l m) (hm : m ≤ 90000) (hl : l.length ≤ 9) :
    Calls Tryz.prog 30 #[v] w fun e w' => ∃ v', e = .returned v' ∧ PN w' v' (freep l) ∧ Below w.heap.size w w' := by
  obtain ⟨hc1, hn1⟩ := cml_mnc2 ht hs hl
  obtain ⟨hc2, hn2⟩ := cml_slope2 hc1 hn1
  obtain ⟨hc3, hn3⟩ := cml_gcdp2 (trm_mnc l) (trm_slope (mnc l)) (hc1.mono (Nat.le_succ m)) hc2 hn1 hn2
  have H1 := hid (monicof_p h ht hs (by omega) hl)
  rw [freep_eq ht]
  have HM := hid hm
  have HC1 := hid hc1
  have HC2 := hid hc2
  have HC3 := hid hc3
  have HN1 := hid hn1
  have HN2 := hid hn2
  have HN3 := hid hn3
  have HTR := hid (trm_mnc l)
  generalize mnc l = q at *
  clear h ht hs hm hl hc1 hc2 hc3 hn1 hn2 hn3
  go_enter Tryz.func30, Tryz.ntmps30
  go_wp2_with fail
  refine H1.out.mono ?_
  rintro e w1 ⟨v1, rfl, hp, hb⟩
  have B := hid hb
  have P1 := hid hp
  clear hp hb H1
  go_wp2_with fail
  refine (pderiv_p P1.out HC1.out.sml (by have := HM.out; omega) (by have := HN1.out; omega)).mono ?_
  rintro e w2 ⟨v2, rfl, hp, hb⟩
  replace P1 := pno P1 hb
  replace B := bb B hb
  have P2 := hid hp
  clear hp hb
  go_wp2_with fail
  refine (gcdof_p P1.out P2.out HTR.out (trm_slope q) (HC1.out.mono (Nat.le_succ m)) HC2.out (by have := HM.out; omega) HN1.out HN2.out).mono ?_
  rintro e w3 ⟨v3, rfl, hp, hb⟩
  replace P1 := pno P1 hb
  replace B := bb B hb
  have P3 := hid hp
  clear hp hb
  by_cases h0 : gcdp q (slope q) = []
  · have hq0 : q = [] := by
      apply Classical.byContradiction
      intro hq
      obtain ⟨u, v, k1, _⟩ := gcdp_spec HTR.out (trm_slope q) (.inl hq)
      exact k1.1 h0
    have E : Hid (quop q (gcdp q (slope q)) = []) := hid (by
      rw [h0]
      unfold quop
      rw [dif_neg (by rintro ⟨_, _, h⟩; exact h rfl)])
    have H4 := hid (without_nil P1.out P3.out (by rw [h0]; rfl))
    clear h0 hq0
    go_wp2_with fail
    refine H4.out.mono ?_
    rintro e w4 ⟨v4, rfl, hp, hb⟩
    replace B := bb B hb
    have P4 := hid hp
    clear hp hb
    go_wp2_with fail
    go_ret
    exact ⟨_, rfl, by rw [E.out]; exact P4.out, B.out⟩
  · have H4 := hid (without_p P1.out P3.out HTR.out (trm_gcdp HTR.out (trm_slope q)) h0 HC1.out.sml HC3.out.sml (by have := HM.out; omega) (by have := HM.out; omega) HN1.out HN3.out)
    clear h0
    go_wp2_with fail
    refine H4.out.mono ?_
    rintro e w4 ⟨v4, rfl, hp, hb⟩
    replace B := bb B hb
    have P4 := hid hp
    clear hp hb
    go_wp2_with fail
    go_ret
    exact ⟨_, rfl, P4.out, B.out⟩

end Go.Proofs.YtokojbgpboccnaaGreat

/-
  PACKAGE sturm: ChainOf, CounterOf.
-/
namespace Go.Proofs.YtokojbgpboccnaaGreat
open Go.RowKit
open Num
set_option linter.unusedVariables false
set_option maxRecDepth 100000
set_option linter.unusedSimpArgs false
theorem scaled_prim : Scaled 31 (fun k => 0 < k) := by
  refine ⟨Tryz.call31, fun w v l m h ht hc hm hl => ?_⟩
  refine (prim_p h hc (by omega) (by omega)).mono ?_
  rintro e w' ⟨v', P, k, rfl, h1, h2, h3, h4, h5, h6, h7⟩
  have hlt : trimQ l = l := ht
  rw [hlt] at h3
  exact ⟨v', P, rfl, h1, ⟨h2, h3, k, h4, h5⟩, ⟨hc.1, 1, by decide, Nat.one_lt_pow (by have := hc.1; omega) (by decide), fun i => by
    obtain ⟨z, e, hz⟩ := h6 i
    exact ⟨z, hz, by rw [e]; show _ * (1 : Rat) = _; grind⟩⟩, h7⟩

set_option maxHeartbeats 1000000 in
theorem counterof_p {w : World} {v : Value} {p : List Rat} {m : Nat} (h : PN w v p) (hp : Trm p) (h0 : p ≠ []) (hs : Cml p m) (hm : m ≤ 1900) (hl : p.length ≤ 9) :
    Calls Tryz.prog 15 #[v] w fun e w' => ∃ v' K fs, e = .returned v' ∧ OwnF w' K v' fs ∧ Scl (fun k => 0 < k) fs (chainp (freep p)) ∧ (∀ f ∈ fs, Cml f 7000000 ∧ f.length ≤ 9) ∧ fs.length ≤ 9 ∧ Below w.heap.size w w' := by
  have H1 := hid (freeof_p h hp hs (by omega) hl)
  obtain ⟨hc, hn⟩ := cml_freep hp hs hl
  have hmn := mnc_freep hp h0
  have HS := hid (fun w v (h : PN w v (freep p)) => chain_p kd_pos scaled_prim h hmn.trm hmn.1 hc (by omega) hn)
  have HM := hid hm
  clear h hp h0 hs hm hl hc hn hmn
  go_enter Tryz.func15, Tryz.ntmps15
  go_wp2_with fail
  refine H1.out.mono ?_
  rintro e w1 ⟨v1, rfl, h1, hb1⟩
  have B := hid hb1
  have H2 := hid (HS.out w1 v1 h1)
  clear h1 hb1 H1
  go_wp2_with fail
  refine H2.out.mono ?_
  rintro e w2 ⟨v2, fs, rfl, h1, h2, h3, h4, hb⟩
  have B2 := hid (B.out.trans (hb.mono B.out.size))
  have HO := hid h1
  have H2' := hid h2
  have H3 := hid (show ∀ f ∈ fs, Cml f 7000000 ∧ f.length ≤ 9 from fun f hf => ⟨(h3 f hf).1.mono (by have := HM.out; omega), (h3 f hf).2⟩)
  have H4 := hid h4
  clear h1 h2 h3 h4 hb H2
  go_wp2_with fail
  go_ret
  exact ⟨_, _, fs, rfl, HO.out, H2'.out, H3.out, H4.out, B2.out⟩

end Go.Proofs.YtokojbgpboccnaaGreat

/-
  PACKAGE sturm: Count, of texts.
-/
namespace Go.Proofs.YtokojbgpboccnaaGreat
open Go.RowKit
open Num
set_option linter.unusedVariables false
set_option maxRecDepth 100000
set_option linter.unusedSimpArgs false

/-- What is wrong with what Count was asked. -/
def WCnt (p : List ByteArray) (a b : ByteArray) (k : Int) : Prop := BadP p k ∨ (GoodP p ∧ BadQ a k) ∨ (GoodP p ∧ GoodQ a ∧ BadQ b k) ∨ (GoodP p ∧ GoodQ a ∧ GoodQ b ∧ rdp p = [] ∧ k = 3) ∨ (GoodP p ∧ GoodQ a ∧ GoodQ b ∧ rdp p ≠ [] ∧ qnum b < qnum a ∧ k = 2)
/-- What Count tells. -/
def SCnt (p : List ByteArray) (a b : ByteArray) (n k : Int) : Prop := (k = 0 ∧ GoodP p ∧ GoodQ a ∧ GoodQ b ∧ rdp p ≠ [] ∧ qnum a ≤ qnum b ∧ n = rts (rdp p) (qnum a) (qnum b)) ∨ (k ≠ 0 ∧ n = 0 ∧ WCnt p a b k)
set_option maxHeartbeats 8000000 in
theorem scnt_any {w : World} {v : Value} {p : List ByteArray} {a b : ByteArray} (h : TxsW w v p) (hs : Szs p) (ha : a.size ≤ maxLen) (hb' : b.size ≤ maxLen) :
    Calls Tryz.prog 6 #[v, .string a, .string b] w fun e w' => ∃ n k : Int, e = .returned (.tuple #[.int .i64 n, errv k]) ∧ SCnt p a b n k ∧ Below w.heap.size w w' := by
  have H1 := hid (pread_any h hs)
  have hne := errv_neq
  have hgd := errv_guard
  have HSA := hid ha
  have HSB := hid hb'
  clear h hs ha hb'
  go_enter Tryz.func6, Tryz.ntmps6
  go_wp2_with fail
  refine H1.out.mono ?_
  rintro e w1 ⟨x, k, rfl, hr, _, hb⟩
  have B := hid hb
  rcases hr with ⟨rfl, hg, hp⟩ | ⟨hk, hw, rfl⟩
  · obtain ⟨a1, c1, rfl, _, _⟩ := hp.opened
    have HG := hid hg
    have HP := hid hp
    clear hb hg hp
    go_wp2_with fail
    rcases goodQ_or_bad a with hq | ⟨z, hq⟩
    · have HQA := hid hq
      refine (qread_good hq _).mono ?_
      rintro e w101 ⟨v, rfl, hv, hb⟩
      obtain ⟨s3a, p3a, n3a, c3a, s3b, p3b, n3b, c3b, rfl⟩ := hv.opened
      replace HP := pno HP hb
      replace B := bb B hb
      have HA := hid hv.nf
      clear hb hv
      obtain ⟨hb102, hx103, hs104⟩ := Nbx.made w101 s3a s3b (.slice p3a n3a c3a) (.slice p3b n3b c3b)
      replace HA := nf HA hb102
      replace HP := pno HP hb102
      replace B := bb B hb102
      have X3 := hid hx103
      clear hb102 hx103
      have cc105 := X3.out.cells
      go_wp2_with fail
      generalize hW : w101.alloc (.cells #[.bool s3a, .slice p3a n3a c3a, .bool s3b, .slice p3b n3b c3b] 43) = W151 at *
      clear hW
      rcases goodQ_or_bad b with hq | ⟨z, hq⟩
      · have HQB := hid hq
        refine (qread_good hq _).mono ?_
        rintro e w201 ⟨v, rfl, hv, hb⟩
        obtain ⟨s4a, p4a, n4a, c4a, s4b, p4b, n4b, c4b, rfl⟩ := hv.opened
        replace X3 := nx X3 hb
        replace HA := nf HA hb
        replace HP := pno HP hb
        replace B := bb B hb
        have HBN := hid hv.nf
        clear hb hv
        obtain ⟨hb202, hx203, hs204⟩ := Nbx.made w201 s4a s4b (.slice p4a n4a c4a) (.slice p4b n4b c4b)
        have L0 := hid X3.out.lt
        replace X3 := nx X3 hb202
        replace HA := nf HA hb202
        replace HBN := nf HBN hb202
        replace HP := pno HP hb202
        replace B := bb B hb202
        have X4 := hid hx203
        clear hb202 hx203
        by_cases h0 : rdp p = []
        · have H0 := hid h0
          clear HP
          rw [h0]
          simp only [List.length_nil]
          clear h0
          have cc4 := X4.out.cells
          go_wp2_with fail
          go_ret2
          exact ⟨0, 3, by rw [errv_some (show (3 : Int) ≠ 0 by decide)]; rfl, .inr ⟨by decide, rfl, .inr (.inr (.inr (.inl ⟨HG.out, HQA.out, HQB.out, H0.out, rfl⟩)))⟩, B.out⟩
        have H0 := hid h0
        have hposn : 0 < (rdp p).length := List.length_pos_iff.2 h0
        have hlz : (((rdp p).length : Int) == 0) = false := by rw [beq_eq_false_iff_ne]; omega
        clear h0
        have cc301 := X3.out.cells
        have cc302 := X4.out.cells
        go_wp2_with fail
        generalize hW : w201.alloc (.cells #[.bool s4a, .slice p4a n4a c4a, .bool s4b, .slice p4b n4b c4b] 43) = W303 at *
        clear hW
        refine (lessq_rtl (HBN.out.sm (Sm.good HQB.out)) (HA.out.sm (Sm.good HQA.out)) (by decide) (by decide)).mono ?_
        rintro e w304 ⟨rfl, hb⟩
        replace X3 := nx X3 hb
        replace X4 := nx X4 hb
        replace HA := nf HA hb
        replace HBN := nf HBN hb
        replace HP := pno HP hb
        replace B := bb B hb
        clear cc301 cc302
        clear hb 
        by_cases hlt : qnum b < qnum a
        · have HLT := hid hlt
          rw [decide_eq_true hlt]
          clear hlt
          go_wp2_with fail
          go_ret2
          exact ⟨0, 2, by rw [errv_some (show (2 : Int) ≠ 0 by decide)]; rfl, .inr ⟨by decide, rfl, .inr (.inr (.inr (.inr ⟨HG.out, HQA.out, HQB.out, H0.out, HLT.out, rfl⟩)))⟩, B.out⟩
        · have HLE := hid hlt
          rw [decide_eq_false hlt]
          clear hlt
          have cc401 := X3.out.cells
          have cc402 := X4.out.cells
          go_wp2_with fail
          have cc403 := X3.out.cells
          have cc404 := X4.out.cells
          replace X3 := hid X3.out.dr
          replace X4 := hid X4.out.dr
          replace HA := hid HA.out.drew
          replace HBN := hid HBN.out.drew
          replace HP := hid (HP.out.on (Below.drew (Below.refl _ _)))
          replace B := hid (Below.drew B.out)
          have cc405 := X3.out.cells
          have cc406 := X4.out.cells
          go_region_held3 (fun w' => w'.cell? ⟨w101.heap.size, 0, none⟩ = some (.bool s3a) ∧ w'.cell? ⟨w101.heap.size, 1, none⟩ = some (.slice p3a n3a c3a) ∧ w'.cell? ⟨w101.heap.size, 2, none⟩ = some (.bool s3b) ∧ w'.cell? ⟨w101.heap.size, 3, none⟩ = some (.slice p3b n3b c3b) ∧ w'.cell? ⟨w201.heap.size, 0, none⟩ = some (.bool s4a) ∧ w'.cell? ⟨w201.heap.size, 1, none⟩ = some (.slice p4a n4a c4a) ∧ w'.cell? ⟨w201.heap.size, 2, none⟩ = some (.bool s4b) ∧ w'.cell? ⟨w201.heap.size, 3, none⟩ = some (.slice p4b n4b c4b)) (go_keep) (first
            | (have hm := mk407_0; clear hm; go_at_call 16; refine (betw_p HO.out HA.out HBN.out HSZ.out HFN.out (Sm.good HQA.out) (Sm.good HQB.out) (by decide)).mono ?_; rintro e w411 ⟨rfl, hb⟩; replace X3 := nx X3 hb; replace X4 := nx X4 hb; replace B := bb B hb; clear cc409 cc410; clear hb ; have cc412 := X3.out.cells; have cc413 := X4.out.cells; have mk407_1 := hid True.intro)
            | (go_at_call 15; refine (counterof_p HP.out HG.out.trm H0.out HG.out.cml (by decide) HG.out.len).mono ?_; rintro e w408 ⟨v5, K5, fs, rfl, ho, hsc, hsz, hfn, hb⟩; have HO := hid ho; have HSC := hid hsc; have HSZ := hid hsz; have HFN := hid hfn; replace X3 := nx X3 hb; replace X4 := nx X4 hb; replace HA := nf HA hb; replace HBN := nf HBN hb; replace B := bb B hb; clear cc401 cc402 cc403 cc404 cc405 cc406; clear hb ho hsc hsz hfn; have cc409 := X3.out.cells; have cc410 := X4.out.cells; have mk407_0 := hid True.intro))
          go_wp2_with fail
          go_ret2
          exact ⟨_, 0, rfl, .inl ⟨rfl, HG.out, HQA.out, HQB.out, H0.out, Rat.not_lt.1 HLE.out, by unfold rts; rw [vch_scl kd_pos HSC.out, vch_scl kd_pos HSC.out]⟩, B.out⟩
      · have hkk := errv_some hq.ne
        have HK := hid hq
        refine (qread_bad hq _ HSB.out).mono ?_
        rintro e w501 ⟨rfl, hb⟩
        replace B := bb B hb
        clear hb 
        obtain ⟨hb502, hx503, hs504⟩ := Nbx.made w501 false false (.slice none 0 0) (.slice none 0 0)
        replace B := bb B hb502
        have X7 := hid hx503
        clear hb502 hx503
        have cc505 := X7.out.cells
        go_wp2_with fail
        go_ret2
        exact ⟨0, z, by rw [hkk]; rfl, .inr ⟨HK.out.ne, rfl, .inr (.inr (.inl ⟨HG.out, HQA.out, HK.out⟩))⟩, B.out⟩
    · have hkk := errv_some hq.ne
      have HK := hid hq
      refine (qread_bad hq _ HSA.out).mono ?_
      rintro e w601 ⟨rfl, hb⟩
      replace B := bb B hb
      clear hb 
      obtain ⟨hb602, hx603, hs604⟩ := Nbx.made w601 false false (.slice none 0 0) (.slice none 0 0)
      replace B := bb B hb602
      have X7 := hid hx603
      clear hb602 hx603
      have cc605 := X7.out.cells
      go_wp2_with fail
      go_ret2
      exact ⟨0, z, by rw [hkk]; rfl, .inr ⟨HK.out.ne, rfl, .inr (.inl ⟨HG.out, HK.out⟩)⟩, B.out⟩
  · have HK := hid hk
    have HW := hid hw
    have f1 : (k != 0) = true := by simpa using hk
    clear hb hw
    go_wp2_with fail
    go_ret2
    exact ⟨0, k, rfl, .inr ⟨HK.out, rfl, .inl HW.out⟩, B.out⟩

end Go.Proofs.YtokojbgpboccnaaGreat

/-
  PACKAGE sturm: what its laws share.
-/
namespace Go.Proofs.YtokojbgpboccnaaGreat
open Go.RowKit
open Num
set_option linter.unusedVariables false
set_option maxRecDepth 100000
set_option linter.unusedSimpArgs false

theorem WCnt.not {p : List ByteArray} {a b : ByteArray} {k : Int} (h : WCnt p a b k) (hp : GoodP p) (ha : GoodQ a) (hb : GoodQ b) (h0 : rdp p ≠ []) : qnum b < qnum a := by
  rcases h with h | ⟨_, h⟩ | ⟨_, _, h⟩ | ⟨_, _, _, h, _⟩ | ⟨_, _, _, _, h, _⟩
  · exact absurd hp h.not
  · exact absurd ha h.not
  · exact absurd hb h.not
  · exact absurd h h0
  · exact h
theorem SCnt.yes {p : List ByteArray} {a b : ByteArray} {n k : Int} (h : SCnt p a b n k) (hp : GoodP p) (ha : GoodQ a) (hb : GoodQ b) (h0 : rdp p ≠ []) (hle : qnum a ≤ qnum b) : k = 0 ∧ n = rts (rdp p) (qnum a) (qnum b) := by
  rcases h with ⟨h1, _, _, _, _, _, h2⟩ | ⟨_, _, h⟩
  · exact ⟨h1, h2⟩
  · exact absurd (h.not hp ha hb h0) (Rat.not_lt.2 hle)
theorem SCnt.ok {p : List ByteArray} {a b : ByteArray} {n k : Int} (h : SCnt p a b n k) (hk : k = 0) : GoodP p ∧ GoodQ a ∧ GoodQ b ∧ rdp p ≠ [] ∧ qnum a ≤ qnum b ∧ n = rts (rdp p) (qnum a) (qnum b) := by
  rcases h with ⟨_, h⟩ | ⟨h, _⟩
  · exact h
  · exact absurd hk h
theorem SCnt.no {p : List ByteArray} {a b : ByteArray} {n k : Int} (h : SCnt p a b n k) (hk : k ≠ 0) : n = 0 := by
  rcases h with ⟨h, _⟩ | ⟨_, h, _⟩
  · exact absurd h hk
  · exact h
theorem SCnt.few {p : List ByteArray} {a b : ByteArray} {n k : Int} (h : SCnt p a b n k) : 0 ≤ n ∧ n ≤ 9 := by
  by_cases hk : k = 0
  · obtain ⟨h1, _, _, h2, h3, rfl⟩ := h.ok hk
    have h4 := rts_nonneg h1.trm h2 h3
    have h5 := rts_less h1.trm h2 (qnum a) (qnum b)
    have h6 := h1.1
    rw [rdp_len] at h5
    omega
  · rw [h.no hk]; omega
end Go.Proofs.YtokojbgpboccnaaGreat

/-
  LAW SturmMoved.
-/
namespace Go.Proofs.YtokojbgpboccnaaGreat
open Go.RowKit
open Num
set_option linter.unusedVariables false
set_option maxRecDepth 100000
set_option linter.unusedSimpArgs false

def m3 : List ByteArray := [⟨#[45, 51]⟩]
theorem szs_m3 : Szs m3 := fun i hi => by
  rcases (show i = 0 by simp [m3] at hi; omega) with rfl
  decide
theorem rdp_m3 : rdp m3 = [-3] := by decide +kernel

set_option maxHeartbeats 8000000 in
theorem smoved_walk {w : World} {v_ : Value} {p : List ByteArray} {a b c : ByteArray} (hp : TxsW w v_ p) (sp : Szs p) (za : a.size ≤ maxLen) (zb : b.size ≤ maxLen) (zc : c.size ≤ maxLen) :
    Calls Tryz.prog 4 #[v_, .string a, .string b, .string c] w fun e w' => e = .returned (.bool true) ∧ Below w.heap.size w w' := by
  have h2_ := hp
  obtain ⟨pp, cp, rfl, hlp, hcp, _⟩ := h2_
  unfold maxLen at hcp
  have zd : (⟨#[45, 49]⟩ : ByteArray).size ≤ maxLen := by decide
  have hne := errv_neq
  have heq := errv_eql
  have hgd := errv_guard
  have TXp := hid hp
  have SZp := hid sp
  have B := hid (Below.refl w.heap.size w)
  clear hp sp
  go_enter Tryz.func4, Tryz.ntmps4
  go_wp2_with fail
  refine (scnt_any TXp.out SZp.out za zb).mono ?_
  rintro e w1 ⟨n1, k1, rfl, t1, b1⟩
  replace TXp := hid (TXp.out.on b1)
  replace B := bb B b1
  have T1 := hid t1
  clear b1 t1
  go_wp2_with fail
  refine (pshifts_any TXp.out SZp.out zc).mono ?_
  rintro e w2 ⟨r2, q, k2, rfl, o2, t2, b2⟩
  replace TXp := hid (TXp.out.on b2)
  replace B := bb B b2
  have TXq := hid o2.1.txs.weak
  have TFq := hid o2.1.txs
  have SZq := hid o2.2
  have T2 := hid t2
  clear b2 t2 o2
  go_wp2_with fail
  refine (qmul_any c ⟨#[45, 49]⟩ zc zd _).mono ?_
  rintro e w3 ⟨d, k3, rfl, t3, zdd, b3⟩
  replace TXp := hid (TXp.out.on b3)
  replace TXq := hid (TXq.out.on b3)
  replace TFq := hid (TFq.out.on b3)
  replace B := bb B b3
  have T3 := hid t3
  clear b3 t3
  go_wp2_with fail
  refine (qadd_any a d za zdd _).mono ?_
  rintro e w4 ⟨x, k4, rfl, t4, zx, b4⟩
  replace TXp := hid (TXp.out.on b4)
  replace TXq := hid (TXq.out.on b4)
  replace TFq := hid (TFq.out.on b4)
  replace B := bb B b4
  have T4 := hid t4
  clear b4 t4
  go_wp2_with fail
  refine (qadd_any b d zb zdd _).mono ?_
  rintro e w5 ⟨y, k5, rfl, t5, zy, b5⟩
  replace TXp := hid (TXp.out.on b5)
  replace TXq := hid (TXq.out.on b5)
  replace TFq := hid (TFq.out.on b5)
  replace B := bb B b5
  have T5 := hid t5
  clear b5 t5
  go_wp2_with fail
  refine (scnt_any TXq.out SZq.out zx zy).mono ?_
  rintro e w6 ⟨n6, k6, rfl, t6, b6⟩
  replace TXp := hid (TXp.out.on b6)
  replace TXq := hid (TXq.out.on b6)
  replace TFq := hid (TFq.out.on b6)
  replace B := bb B b6
  have T6 := hid t6
  clear b6 t6
  go_wp2_with fail
  refine (half_true _).mono ?_
  rintro e w7 ⟨rfl, b7⟩
  replace TXp := hid (TXp.out.on b7)
  replace TXq := hid (TXq.out.on b7)
  replace TFq := hid (TFq.out.on b7)
  replace B := bb B b7
  clear b7
  by_cases hk1 : k1 = 0
  · obtain ⟨gp, ga, gb, g0, gle, e1⟩ := T1.out.ok hk1
    have GP := hid gp
    have G0 := hid g0
    have GA := hid ga
    have GB := hid gb
    have GLE := hid gle
    have E1 := hid e1
    clear gp ga gb g0 gle e1
    subst hk1
    by_cases hk2 : k2 = 0
    · by_cases hk3 : k3 = 0
      · by_cases hk4 : k4 = 0
        · by_cases hk5 : k5 = 0
          · by_cases hk6 : k6 = 0
            · obtain ⟨_, gc, eq⟩ := T2.out.ok hk2
              obtain ⟨_, _, ed⟩ := T3.out.yes hk3
              obtain ⟨_, _, ex⟩ := T4.out.yes hk4
              obtain ⟨_, _, ey⟩ := T5.out.yes hk5
              obtain ⟨_, _, _, _, hxy, e6⟩ := T6.out.ok hk6
              have hd : qnum d = -qnum c := by rw [ed, qnum_qtxt, show qnum ⟨#[45, 49]⟩ = -1 by decide +kernel]; grind
              have hx : qnum x = qnum a - qnum c := by rw [ex, qnum_qtxt, hd]; grind
              have hy : qnum y = qnum b - qnum c := by rw [ey, qnum_qtxt, hd]; grind
              have hnn : n1 = n6 := by
                symm
                rw [e6, E1.out, eq, rdp_map, rts_moved GP.out.trm G0.out _ hxy, hx, hy, show qnum a - qnum c + qnum c = qnum a by grind, show qnum b - qnum c + qnum c = qnum b by grind]
              subst hnn
              clear gc eq ed ex ey hxy e6 hd hx hy
              subst hk2
              subst hk3
              subst hk4
              subst hk5
              subst hk6
              have hbm := (Below.refl w7.heap.size w7).alloc (Nat.le_refl _) (.cells #[.string ⟨#[45, 51]⟩] 9)
              have tm := one_text (Nat.le_refl w7.heap.size) m3 (by decide)
              replace TXp := hid (TXp.out.on hbm)
              replace B := bb B hbm
              have TXm := hid tm.txs.weak
              have SZm := hid szs_m3
              clear hbm tm
              go_wp2_with fail
              refine (pmuls_any TXp.out TXm.out SZp.out SZm.out).mono ?_
              rintro e w8 ⟨r8, r, k8, rfl, o8, t8, b8⟩
              replace TXp := hid (TXp.out.on b8)
              replace TXm := hid (TXm.out.on b8)
              replace B := bb B b8
              have TXr := hid o8.1.txs.weak
              have TFr := hid o8.1.txs
              have SZr := hid o8.2
              have T8 := hid t8
              clear b8 t8 o8
              go_wp2_with fail
              refine (scnt_any TXr.out SZr.out za zb).mono ?_
              rintro e w9 ⟨n9, k9, rfl, t9, b9⟩
              replace TXp := hid (TXp.out.on b9)
              replace TXm := hid (TXm.out.on b9)
              replace TXr := hid (TXr.out.on b9)
              replace TFr := hid (TFr.out.on b9)
              replace B := bb B b9
              have T9 := hid t9
              clear b9 t9
              by_cases hk8 : k8 = 0
              · by_cases hk9 : k9 = 0
                · obtain ⟨_, _, er⟩ := T8.out.ok hk8
                  obtain ⟨_, _, _, _, _, e8⟩ := T9.out.ok hk9
                  have hnn : n9 = n1 := by
                    rw [e8, E1.out, er, rdp_map]
                    exact rts_times GP.out.trm G0.out (c := -3) (by decide) (trm_mulp _ _) (fun z => by rw [pv_mulp, rdp_m3, pv_one]; grind) _ _
                  subst hk8
                  subst hk9
                  subst hnn
                  clear er e8
                  go_wp2_with fail
                  go_ret
                  exact ⟨rfl, B.out⟩
                · have f9 : (k9 != 0) = true := by simpa using hk9
                  have g9 : (k9 == 0) = false := by simpa using hk9
                  go_wp2_with fail
                  go_ret
                  exact ⟨rfl, B.out⟩
              · have f8 : (k8 != 0) = true := by simpa using hk8
                have g8 : (k8 == 0) = false := by simpa using hk8
                go_wp2_with fail
                go_ret
                exact ⟨rfl, B.out⟩
            · have f6 : (k6 != 0) = true := by simpa using hk6
              have g6 : (k6 == 0) = false := by simpa using hk6
              have hbm := (Below.refl w7.heap.size w7).alloc (Nat.le_refl _) (.cells #[.string ⟨#[45, 51]⟩] 9)
              have tm := one_text (Nat.le_refl w7.heap.size) m3 (by decide)
              replace TXp := hid (TXp.out.on hbm)
              replace B := bb B hbm
              have TXm := hid tm.txs.weak
              have SZm := hid szs_m3
              clear hbm tm
              go_wp2_with fail
              refine (pmuls_any TXp.out TXm.out SZp.out SZm.out).mono ?_
              rintro e w8 ⟨r8, r, k8, rfl, o8, t8, b8⟩
              replace TXp := hid (TXp.out.on b8)
              replace TXm := hid (TXm.out.on b8)
              replace B := bb B b8
              have TXr := hid o8.1.txs.weak
              have TFr := hid o8.1.txs
              have SZr := hid o8.2
              have T8 := hid t8
              clear b8 t8 o8
              go_wp2_with fail
              refine (scnt_any TXr.out SZr.out za zb).mono ?_
              rintro e w9 ⟨n9, k9, rfl, t9, b9⟩
              replace TXp := hid (TXp.out.on b9)
              replace TXm := hid (TXm.out.on b9)
              replace TXr := hid (TXr.out.on b9)
              replace TFr := hid (TFr.out.on b9)
              replace B := bb B b9
              have T9 := hid t9
              clear b9 t9
              by_cases hk8 : k8 = 0
              · by_cases hk9 : k9 = 0
                · obtain ⟨_, _, er⟩ := T8.out.ok hk8
                  obtain ⟨_, _, _, _, _, e8⟩ := T9.out.ok hk9
                  have hnn : n9 = n1 := by
                    rw [e8, E1.out, er, rdp_map]
                    exact rts_times GP.out.trm G0.out (c := -3) (by decide) (trm_mulp _ _) (fun z => by rw [pv_mulp, rdp_m3, pv_one]; grind) _ _
                  subst hk8
                  subst hk9
                  subst hnn
                  clear er e8
                  go_wp2_with fail
                  go_ret
                  exact ⟨rfl, B.out⟩
                · have f9 : (k9 != 0) = true := by simpa using hk9
                  have g9 : (k9 == 0) = false := by simpa using hk9
                  go_wp2_with fail
                  go_ret
                  exact ⟨rfl, B.out⟩
              · have f8 : (k8 != 0) = true := by simpa using hk8
                have g8 : (k8 == 0) = false := by simpa using hk8
                go_wp2_with fail
                go_ret
                exact ⟨rfl, B.out⟩
          · have f5 : (k5 != 0) = true := by simpa using hk5
            have g5 : (k5 == 0) = false := by simpa using hk5
            have hbm := (Below.refl w7.heap.size w7).alloc (Nat.le_refl _) (.cells #[.string ⟨#[45, 51]⟩] 9)
            have tm := one_text (Nat.le_refl w7.heap.size) m3 (by decide)
            replace TXp := hid (TXp.out.on hbm)
            replace B := bb B hbm
            have TXm := hid tm.txs.weak
            have SZm := hid szs_m3
            clear hbm tm
            go_wp2_with fail
            refine (pmuls_any TXp.out TXm.out SZp.out SZm.out).mono ?_
            rintro e w8 ⟨r8, r, k8, rfl, o8, t8, b8⟩
            replace TXp := hid (TXp.out.on b8)
            replace TXm := hid (TXm.out.on b8)
            replace B := bb B b8
            have TXr := hid o8.1.txs.weak
            have TFr := hid o8.1.txs
            have SZr := hid o8.2
            have T8 := hid t8
            clear b8 t8 o8
            go_wp2_with fail
            refine (scnt_any TXr.out SZr.out za zb).mono ?_
            rintro e w9 ⟨n9, k9, rfl, t9, b9⟩
            replace TXp := hid (TXp.out.on b9)
            replace TXm := hid (TXm.out.on b9)
            replace TXr := hid (TXr.out.on b9)
            replace TFr := hid (TFr.out.on b9)
            replace B := bb B b9
            have T9 := hid t9
            clear b9 t9
            by_cases hk8 : k8 = 0
            · by_cases hk9 : k9 = 0
              · obtain ⟨_, _, er⟩ := T8.out.ok hk8
                obtain ⟨_, _, _, _, _, e8⟩ := T9.out.ok hk9
                have hnn : n9 = n1 := by
                  rw [e8, E1.out, er, rdp_map]
                  exact rts_times GP.out.trm G0.out (c := -3) (by decide) (trm_mulp _ _) (fun z => by rw [pv_mulp, rdp_m3, pv_one]; grind) _ _
                subst hk8
                subst hk9
                subst hnn
                clear er e8
                go_wp2_with fail
                go_ret
                exact ⟨rfl, B.out⟩
              · have f9 : (k9 != 0) = true := by simpa using hk9
                have g9 : (k9 == 0) = false := by simpa using hk9
                go_wp2_with fail
                go_ret
                exact ⟨rfl, B.out⟩
            · have f8 : (k8 != 0) = true := by simpa using hk8
              have g8 : (k8 == 0) = false := by simpa using hk8
              go_wp2_with fail
              go_ret
              exact ⟨rfl, B.out⟩
        · have f4 : (k4 != 0) = true := by simpa using hk4
          have g4 : (k4 == 0) = false := by simpa using hk4
          have hbm := (Below.refl w7.heap.size w7).alloc (Nat.le_refl _) (.cells #[.string ⟨#[45, 51]⟩] 9)
          have tm := one_text (Nat.le_refl w7.heap.size) m3 (by decide)
          replace TXp := hid (TXp.out.on hbm)
          replace B := bb B hbm
          have TXm := hid tm.txs.weak
          have SZm := hid szs_m3
          clear hbm tm
          go_wp2_with fail
          refine (pmuls_any TXp.out TXm.out SZp.out SZm.out).mono ?_
          rintro e w8 ⟨r8, r, k8, rfl, o8, t8, b8⟩
          replace TXp := hid (TXp.out.on b8)
          replace TXm := hid (TXm.out.on b8)
          replace B := bb B b8
          have TXr := hid o8.1.txs.weak
          have TFr := hid o8.1.txs
          have SZr := hid o8.2
          have T8 := hid t8
          clear b8 t8 o8
          go_wp2_with fail
          refine (scnt_any TXr.out SZr.out za zb).mono ?_
          rintro e w9 ⟨n9, k9, rfl, t9, b9⟩
          replace TXp := hid (TXp.out.on b9)
          replace TXm := hid (TXm.out.on b9)
          replace TXr := hid (TXr.out.on b9)
          replace TFr := hid (TFr.out.on b9)
          replace B := bb B b9
          have T9 := hid t9
          clear b9 t9
          by_cases hk8 : k8 = 0
          · by_cases hk9 : k9 = 0
            · obtain ⟨_, _, er⟩ := T8.out.ok hk8
              obtain ⟨_, _, _, _, _, e8⟩ := T9.out.ok hk9
              have hnn : n9 = n1 := by
                rw [e8, E1.out, er, rdp_map]
                exact rts_times GP.out.trm G0.out (c := -3) (by decide) (trm_mulp _ _) (fun z => by rw [pv_mulp, rdp_m3, pv_one]; grind) _ _
              subst hk8
              subst hk9
              subst hnn
              clear er e8
              go_wp2_with fail
              go_ret
              exact ⟨rfl, B.out⟩
            · have f9 : (k9 != 0) = true := by simpa using hk9
              have g9 : (k9 == 0) = false := by simpa using hk9
              go_wp2_with fail
              go_ret
              exact ⟨rfl, B.out⟩
          · have f8 : (k8 != 0) = true := by simpa using hk8
            have g8 : (k8 == 0) = false := by simpa using hk8
            go_wp2_with fail
            go_ret
            exact ⟨rfl, B.out⟩
      · have f3 : (k3 != 0) = true := by simpa using hk3
        have g3 : (k3 == 0) = false := by simpa using hk3
        have hbm := (Below.refl w7.heap.size w7).alloc (Nat.le_refl _) (.cells #[.string ⟨#[45, 51]⟩] 9)
        have tm := one_text (Nat.le_refl w7.heap.size) m3 (by decide)
        replace TXp := hid (TXp.out.on hbm)
        replace B := bb B hbm
        have TXm := hid tm.txs.weak
        have SZm := hid szs_m3
        clear hbm tm
        go_wp2_with fail
        refine (pmuls_any TXp.out TXm.out SZp.out SZm.out).mono ?_
        rintro e w8 ⟨r8, r, k8, rfl, o8, t8, b8⟩
        replace TXp := hid (TXp.out.on b8)
        replace TXm := hid (TXm.out.on b8)
        replace B := bb B b8
        have TXr := hid o8.1.txs.weak
        have TFr := hid o8.1.txs
        have SZr := hid o8.2
        have T8 := hid t8
        clear b8 t8 o8
        go_wp2_with fail
        refine (scnt_any TXr.out SZr.out za zb).mono ?_
        rintro e w9 ⟨n9, k9, rfl, t9, b9⟩
        replace TXp := hid (TXp.out.on b9)
        replace TXm := hid (TXm.out.on b9)
        replace TXr := hid (TXr.out.on b9)
        replace TFr := hid (TFr.out.on b9)
        replace B := bb B b9
        have T9 := hid t9
        clear b9 t9
        by_cases hk8 : k8 = 0
        · by_cases hk9 : k9 = 0
          · obtain ⟨_, _, er⟩ := T8.out.ok hk8
            obtain ⟨_, _, _, _, _, e8⟩ := T9.out.ok hk9
            have hnn : n9 = n1 := by
              rw [e8, E1.out, er, rdp_map]
              exact rts_times GP.out.trm G0.out (c := -3) (by decide) (trm_mulp _ _) (fun z => by rw [pv_mulp, rdp_m3, pv_one]; grind) _ _
            subst hk8
            subst hk9
            subst hnn
            clear er e8
            go_wp2_with fail
            go_ret
            exact ⟨rfl, B.out⟩
          · have f9 : (k9 != 0) = true := by simpa using hk9
            have g9 : (k9 == 0) = false := by simpa using hk9
            go_wp2_with fail
            go_ret
            exact ⟨rfl, B.out⟩
        · have f8 : (k8 != 0) = true := by simpa using hk8
          have g8 : (k8 == 0) = false := by simpa using hk8
          go_wp2_with fail
          go_ret
          exact ⟨rfl, B.out⟩
    · have f2 : (k2 != 0) = true := by simpa using hk2
      have g2 : (k2 == 0) = false := by simpa using hk2
      have hbm := (Below.refl w7.heap.size w7).alloc (Nat.le_refl _) (.cells #[.string ⟨#[45, 51]⟩] 9)
      have tm := one_text (Nat.le_refl w7.heap.size) m3 (by decide)
      replace TXp := hid (TXp.out.on hbm)
      replace B := bb B hbm
      have TXm := hid tm.txs.weak
      have SZm := hid szs_m3
      clear hbm tm
      go_wp2_with fail
      refine (pmuls_any TXp.out TXm.out SZp.out SZm.out).mono ?_
      rintro e w8 ⟨r8, r, k8, rfl, o8, t8, b8⟩
      replace TXp := hid (TXp.out.on b8)
      replace TXm := hid (TXm.out.on b8)
      replace B := bb B b8
      have TXr := hid o8.1.txs.weak
      have TFr := hid o8.1.txs
      have SZr := hid o8.2
      have T8 := hid t8
      clear b8 t8 o8
      go_wp2_with fail
      refine (scnt_any TXr.out SZr.out za zb).mono ?_
      rintro e w9 ⟨n9, k9, rfl, t9, b9⟩
      replace TXp := hid (TXp.out.on b9)
      replace TXm := hid (TXm.out.on b9)
      replace TXr := hid (TXr.out.on b9)
      replace TFr := hid (TFr.out.on b9)
      replace B := bb B b9
      have T9 := hid t9
      clear b9 t9
      by_cases hk8 : k8 = 0
      · by_cases hk9 : k9 = 0
        · obtain ⟨_, _, er⟩ := T8.out.ok hk8
          obtain ⟨_, _, _, _, _, e8⟩ := T9.out.ok hk9
          have hnn : n9 = n1 := by
            rw [e8, E1.out, er, rdp_map]
            exact rts_times GP.out.trm G0.out (c := -3) (by decide) (trm_mulp _ _) (fun z => by rw [pv_mulp, rdp_m3, pv_one]; grind) _ _
          subst hk8
          subst hk9
          subst hnn
          clear er e8
          go_wp2_with fail
          go_ret
          exact ⟨rfl, B.out⟩
        · have f9 : (k9 != 0) = true := by simpa using hk9
          have g9 : (k9 == 0) = false := by simpa using hk9
          go_wp2_with fail
          go_ret
          exact ⟨rfl, B.out⟩
      · have f8 : (k8 != 0) = true := by simpa using hk8
        have g8 : (k8 == 0) = false := by simpa using hk8
        go_wp2_with fail
        go_ret
        exact ⟨rfl, B.out⟩
  · have f1 : (k1 != 0) = true := by simpa using hk1
    have g1 : (k1 == 0) = false := by simpa using hk1
    have n0 := T1.out.no hk1
    subst n0
    go_wp2_with fail
    go_ret
    exact ⟨rfl, B.out⟩

end Go.Proofs.YtokojbgpboccnaaGreat

/-
  The law SturmMoved of package abacistlaw6: whatever lists of texts and texts come in, the call returns true, and they read behind it as they did before. No condition.
-/
namespace Go.Proofs.YtokojbgpboccnaaGreat.sturmMoved
open Go.ChangeShapes Go.WideShapes Go.ChangeAt Go.RowKit
open Go.ChangeMaps (open_string shut_string)
set_option linter.unusedVariables false

theorem own : ownKnob Tryz.prog.godebug = none := by kernel_rfl
theorem laidOut : laidOutB Tryz.prog = true := by kernel_rfl
theorem cellsS : Tryz.prog.cellsOf 9 = 1 := by kernel_rfl
theorem bytesS : Tryz.prog.bytesOf 9 = 16 := by kernel_rfl

set_option maxRecDepth 100000 in
theorem lifted (os : Os) (started : os.Started) (H : Type) (enc : TypeId × Value → H) :
    ReturnsInHanded {} Tryz.checked os 4 .any (Rows.sturmMovedSpec.pre6 enc Tryz.prog Tryz.f4 Rows.sturmMovedRow.domain false) (Rows.sturmMovedSpec.post enc Tryz.prog Tryz.f4 false true false false) := by
  refine returnsInHanded_of_change_sized (C := Tryz.checked) own started (by kernel_rfl) Tryz.func4
    (ChangeSpec.witness6 (enc := enc) (C := Tryz.checked) false ⟨#[], #[.slice none 0 0, .string ByteArray.empty, .string ByteArray.empty, .string ByteArray.empty], []⟩ 8 (by kernel_rfl) (by kernel_rfl) (by kernel_rfl) (by kernel_rfl)) ?_
  intro W base args ds gs before hval0 hW hcnd hsz0 _
  have hval : ∀ (j : Nat) t v, Tryz.f4.params[j]? = some t → args[j]? = some v → Value.okWide Tryz.prog W .any base t v := hval0
  have hW' := hW
  obtain ⟨p, q, hA0, hV, rfl, hfz, hnd⟩ := hW
  have hA : DataW.TrodAll enc Tryz.prog W 0 (fun _ => true) true Tryz.f4.params.toList args.toList ds p := hA0
  rw [Tryz.params4] at hA hval
  have hsz : (DataW.weightsEach Tryz.prog (Tryz.f4.params.toList ++ Rows.sturmMovedSpec.plain.varTypes Tryz.prog) (ds ++ gs)).all (· ≤ reachBytes) = true := hsz0
  rw [Tryz.params4] at hsz
  obtain ⟨v0, vs0, d0, ds0, p0, q0, hargs, rfl, rfl, h0, r0⟩ := trodAll_cons hA
  obtain ⟨v1, vs1, d1, ds1, p1, q1, rfl, rfl, rfl, h1, r1⟩ := trodAll_cons r0
  obtain ⟨v2, vs2, d2, ds2, p2, q2, rfl, rfl, rfl, h2, r2⟩ := trodAll_cons r1
  obtain ⟨v3, vs3, d3, ds3, p3, q3, rfl, rfl, rfl, h3, r3⟩ := trodAll_cons r2
  obtain ⟨rfl, rfl, rfl⟩ := trodAll_nil r3
  obtain rfl : args = #[v0, v1, v2, v3] := by cases args; simp_all
  obtain ⟨rfl, rfl⟩ := trodVars_none hV
  obtain ⟨a1, rfl, rfl, rfl, w1⟩ := open_string Tryz.underlying9 (hval 1 9 v1 rfl rfl) h1
  obtain ⟨a2, rfl, rfl, rfl, w2⟩ := open_string Tryz.underlying9 (hval 2 9 v2 rfl rfl) h2
  obtain ⟨a3, rfl, rfl, rfl, w3⟩ := open_string Tryz.underlying9 (hval 3 9 v3 rfl rfl) h3
  obtain ⟨pa0, len0, cap0, rfl⟩ := okWide_slice Tryz.underlying22 (hval 0 22 v0 rfl rfl)
  have h0k := h0
  obtain ⟨fuel0, hf0⟩ := h0
  clear hA0 hval0
  have hlt0 : ∀ y ∈ p0, y.block < W.heap.size := fun y hy => hW'.lt y (by simp [hy])
  have T0 : ∃ ss : List ByteArray, TxsW W (.slice pa0 len0 cap0) ss ∧ Szs ss ∧ ss.length * 16 ≤ 140737488355328 := by
    rcases open_strings Tryz.underlying22 Tryz.underlying9 cellsS hf0 with ⟨hcs, hx⟩ | ⟨b, len', cap', ss, hcs, _, hl, hm, hz, hx, hcell, hws⟩
    · simp [Value.cells] at hcs
      obtain ⟨rfl, rfl, rfl⟩ := hcs
      exact ⟨[], (Txs.nil W).weak, Szs.nil, by decide⟩
    · simp [Value.cells] at hcs
      obtain ⟨rfl, rfl, rfl⟩ := hcs
      simp only [Prod.mk.injEq] at hx
      obtain ⟨rfl, hx2⟩ := hx
      simp only [if_true] at hz
      have hlen : (ss.take len0).length = len0 := by rw [List.length_take]; omega
      have hreach : len0 * 16 ≤ 140737488355328 := by
        have := sized_slice hsz (j := 0) (t := 22) (e := 9) rfl rfl Tryz.underlying22
        rw [bytesS] at this
        simp only [strs, List.length_map, List.length_take, List.length_drop, reachBytes] at this
        omega
      refine ⟨ss.take len0, ?_, ?_, by rw [hlen]; exact hreach⟩
      · refine ⟨some b, cap0, by rw [hlen], by rw [hlen]; exact hl, hm, fun i hi => ?_⟩
        have hi2 : i < len0 := by rw [← hlen]; exact hi
        have h2 := hcell i (by omega)
        obtain ⟨g, off, spot⟩ := b
        have hspot : spot = none := by simpa [Addr.add] using World.cell?_spot (hcell 0 (by omega))
        subst hspot
        have hbW : g < W.heap.size := hlt0 (.cell g off) (by rw [hx2]; exact MemPlace.mem_row.2 ⟨0, by omega, by simp⟩)
        refine ⟨g, off, rfl, hbW, ?_⟩
        rw [add_plain, List.getD_eq_getElem?_getD, List.getElem?_eq_getElem (by omega), Option.getD_some] at h2
        rw [h2, tx_lt hi, List.getElem_take]
      · intro i hi
        rw [tx_lt hi]
        exact hws _ (List.mem_of_mem_take (List.getElem_mem hi))
  obtain ⟨l0, t0, s0, z0⟩ := T0
  refine (smoved_walk t0 s0 w1 w2 w3).mono fun e W' ⟨he, hg⟩ => ?_
  subst he
  refine ⟨_, rfl, _, _, _, [] ++ [], p0 ++ ([] ++ ([] ++ ([] ++ []))), [], hW', ?_, ?_, rfl, hg.frame _, fun h => by cases h⟩
  · exact trodAll_cons_mk (shut_bool Tryz.underlying4 _) trodAll_mk0
  · exact (trodAll_cons_mk (Below.trod laidOut (by kernel_rfl) (of_decide_eq_true (by kernel_rfl)) h0k hg hlt0) (trodAll_cons_mk (shut_string Tryz.underlying9 w1) (trodAll_cons_mk (shut_string Tryz.underlying9 w2) (trodAll_cons_mk (shut_string Tryz.underlying9 w3) trodAll_mk0))))

/-- The law SturmMoved: every input. -/
theorem proved : Rows.SturmMovedSaid :=
  OpenClaim.holds_of_wide 4 Tryz.f4 rfl rfl rfl rfl rfl rfl rfl ⟨rfl, rfl, rfl, rfl, rfl⟩ rfl rfl rfl rfl rfl (by kernel_rfl) Tryz.func4 (by kernel_rfl)
    (of_decide_eq_true (by kernel_rfl)) (by unfold Func.isWrapper; first | (rw [if_pos (by decide +kernel)]; kernel_rfl) | (rw [if_neg (by decide +kernel)]; exact ⟨rfl, rfl⟩))
    (fun os started H enc _ => lifted os started H enc)
#print axioms proved
end Go.Proofs.YtokojbgpboccnaaGreat.sturmMoved
