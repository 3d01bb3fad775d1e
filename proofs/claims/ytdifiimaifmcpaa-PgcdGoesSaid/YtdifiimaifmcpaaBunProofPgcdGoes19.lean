import Derived.Test.YtdifiimaifmcpaaBunProofPgcdGoes17
import Derived.Test.YtdifiimaifmcpaaBunProofPgcdGoes14
import Derived.Test.YtdifiimaifmcpaaBunProofPgcdGoes18
import Derived.Test.YtdifiimaifmcpaaBunProofPgcdGoes13
import Derived.SliceStrings
import Derived.SizedLaws
import Derived.Carry
import Derived.ProofKit
import Derived.OpenShut
import Derived.ShutString
/-
  PACKAGE pgcd: GcdOf.
-/
namespace Go.Proofs.Ytdifiimaifmcpaa
open Go.RowKit
open Num
set_option linter.unusedVariables false
set_option maxRecDepth 100000
set_option linter.unusedSimpArgs false

theorem cml_zq {l : List Int} {n : Nat} (h : Zl l n) (hn : 1 ≤ n) : Cml (zq l) n := ⟨hn, 1, by decide, Nat.one_lt_pow (by omega) (by decide), fun i => ⟨zc l i, h i, by rw [co_zq]; show _ * (1 : Rat) = _; grind⟩⟩
theorem cle_dv {l : List Rat} {L : List Int} {M : Int} (hM : M ≠ 0) (h : ∀ i, ((zc L i : Int) : Rat) = co l i * (M : Rat)) (x : Rat) : pv (zq L) x = (M : Rat) * pv l x := by
  rw [← pv_psc]
  exact pv_congr (fun i => by rw [co_zq, h, co_psc]; grind) x
theorem dv_cle {l : List Rat} {L : List Int} {M : Int} (hM : M ≠ 0) (h : ∀ i, ((zc L i : Int) : Rat) = co l i * (M : Rat)) : Dv l (zq L) ∧ Dv (zq L) l := by
  have hr : (M : Rat) ≠ 0 := int_ne hM
  refine ⟨Dv.of (k := [(M : Rat)]) fun x => by rw [cle_dv hM h, pv_one], Dv.of (k := [1 / (M : Rat)]) fun x => ?_⟩
  rw [cle_dv hM h, pv_one]
  have := rat_inv hr
  generalize 1 / (M : Rat) = y at *
  grind
theorem nil_cle {l : List Rat} {L : List Int} {M : Int} (hl : Trm l) (hL : Ztr L) (hM : M ≠ 0) (h : ∀ i, ((zc L i : Int) : Rat) = co l i * (M : Rat)) : zq L ≠ [] ↔ l ≠ [] := by
  obtain ⟨d1, d2⟩ := dv_cle hM h
  constructor
  · rintro h1 rfl
    exact d1.ne hL.trm h1 rfl
  · rintro h1 h2
    exact d2.ne hl h1 h2
/-- Times numbers, it is the same. -/
theorem gcdp_cle {l r : List Rat} {L R : List Int} {M N : Int} (hl : Trm l) (hr : Trm r) (hL : Ztr L) (hR : Ztr R) (hM : M ≠ 0) (hN : N ≠ 0) (h : ∀ i, ((zc L i : Int) : Rat) = co l i * (M : Rat)) (h' : ∀ i, ((zc R i : Int) : Rat) = co r i * (N : Rat)) :
    gcdp (zq L) (zq R) = gcdp l r := by
  obtain ⟨d1, d2⟩ := dv_cle hM h
  obtain ⟨e1, e2⟩ := dv_cle hN h'
  have n1 := nil_cle hl hL hM h
  have n2 := nil_cle hr hR hN h'
  by_cases h0 : zq L ≠ [] ∨ zq R ≠ []
  · obtain ⟨u, v, k1, k2, k3, _⟩ := gcdp_spec hL.trm hR.trm h0
    exact gcdp_of hl hr (h0.imp n1.1 n2.1) k1 (k2.trans d2) (k3.trans e2) fun d h1 h2 => gcdp_great hL.trm hR.trm h0 (h1.trans d1) (h2.trans e1)
  · have z1 : zq L = [] := Classical.byContradiction fun e => h0 (.inl e)
    have z2 : zq R = [] := Classical.byContradiction fun e => h0 (.inr e)
    have y1 : l = [] := Classical.byContradiction fun e => n1.2 e z1
    have y2 : r = [] := Classical.byContradiction fun e => n2.2 e z2
    rw [z1, z2, y1, y2]
set_option maxHeartbeats 1000000 in
/-- What goes into both. -/
theorem gcdof_p {w : World} {v u : Value} {l r : List Rat} {m : Nat} (h : PN w v l) (h' : PN w u r) (hl : Trm l) (hr : Trm r) (hs : Cml l m) (hs' : Cml r m) (hm : m ≤ 100000) (hn : l.length ≤ 9) (hn' : r.length ≤ 9) :
    Calls Try.prog 18 #[v, u] w fun e w' => ∃ v', e = .returned v' ∧ PN w' v' (gcdp l r) ∧ Below w.heap.size w w' := by
  have H1 := hid (zclear_p h hs (by omega) (by omega))
  have HQ := hid h'
  have HT := hid hl
  have HT' := hid hr
  have HC' := hid hs'
  have HM := hid hm
  have HN := hid hn
  have HN' := hid hn'
  clear h h' hl hr hs hs' hm hn hn'
  go_enter Try.func18, Try.ntmps18
  go_wp2_with fail
  refine H1.out.mono ?_
  rintro e w1 ⟨v1, L, M, rfl, hi, hz, hle, hM, hv, hzl, hb⟩
  replace HQ := pno HQ hb
  have B := hid hb
  have I1 := hid hi
  have Z1 := hid hz
  have N1 := hid (show L.length ≤ 9 by have := HN.out; omega)
  have M1 := hid hM
  have V1 := hid hv
  have S1 := hid hzl
  clear hi hz hle hM hv hzl hb H1
  go_wp2_with fail
  refine (zclear_p HQ.out HC'.out (by have := HM.out; omega) (by have := HN'.out; omega)).mono ?_
  rintro e w2 ⟨v2, R, N, rfl, hi, hz, hle, hM, hv, hzl, hb⟩
  replace I1 := ino I1 hb
  replace B := bb B hb
  have I2 := hid hi
  have Z2 := hid hz
  have N2 := hid (show R.length ≤ 9 by have := HN'.out; omega)
  have M2 := hid hM
  have V2 := hid hv
  have S2 := hid hzl
  clear hi hz hle hM hv hzl hb
  have E := hid (gcdp_cle HT.out HT'.out Z1.out Z2.out M1.out M2.out V1.out V2.out)
  go_wp2_with fail
  refine (ggcd_p I1.out I2.out Z1.out Z2.out S1.out S2.out HM.out N1.out N2.out).mono ?_
  rintro e w3 ⟨v3, G, rfl, hi, hz, hle, hg, hzl, hb⟩
  replace B := bb B hb
  have I3 := hid hi
  have Z3 := hid hz
  have N3 := hid hle
  have G3 := hid hg
  have S3 := hid hzl
  clear hi hz hle hg hzl hb
  go_wp2_with fail
  refine (zpoly_p I3.out (by have := N3.out; omega)).mono ?_
  rintro e w4 ⟨v4, rfl, hp, hb⟩
  replace B := bb B hb
  have P4 := hid hp
  clear hp hb
  go_wp2_with fail
  refine (monicof_p P4.out Z3.out.trm (cml_zq S3.out (by omega)) (by have := HM.out; omega) (by rw [zq_len]; exact N3.out)).mono ?_
  rintro e w5 ⟨v5, rfl, hp, hb⟩
  replace B := bb B hb
  have P5 := hid hp
  clear hp hb
  go_wp2_with fail
  go_ret
  exact ⟨_, rfl, by rw [← E.out, ← G3.out]; exact P5.out, B.out⟩

end Go.Proofs.Ytdifiimaifmcpaa

/-
  PACKAGE pgcd: without, FreeOf.
-/
namespace Go.Proofs.Ytdifiimaifmcpaa
open Go.RowKit
open Num
set_option linter.unusedVariables false
set_option maxRecDepth 100000
set_option linter.unusedSimpArgs false
end Go.Proofs.Ytdifiimaifmcpaa

/-
  PACKAGE pgcd: Monic, Gcd, Free, of texts.
-/
namespace Go.Proofs.Ytdifiimaifmcpaa
open Go.RowKit
open Num
set_option linter.unusedVariables false
set_option maxRecDepth 100000
set_option linter.unusedSimpArgs false

/-- What a function of one list tells: a list, or nothing and an error. -/
def PUn (f : List Rat → List Rat) (p ss : List ByteArray) (k : Int) : Prop := (k = 0 ∧ GoodP p ∧ ss = (f (rdp p)).map qtxt) ∨ (k ≠ 0 ∧ BadP p k ∧ ss = [])
theorem GoodP.cml {p : List ByteArray} (h : GoodP p) : Cml (rdp p) 227 := h.sml.cml.mono (by have := h.1; rw [rdp_len]; omega)
theorem GoodP.len {p : List ByteArray} (h : GoodP p) : (rdp p).length ≤ 9 := by rw [rdp_len]; exact h.1
theorem GoodP.trm {p : List ByteArray} (h : GoodP p) : Trm (rdp p) := h.2.2

set_option maxHeartbeats 1000000 in
theorem gcd_any {w : World} {v u : Value} {p q : List ByteArray} (h : TxsW w v p) (h' : TxsW w u q) (hs : Szs p) (hs' : Szs q) :
    Calls Try.prog 7 #[v, u] w fun e w' => ∃ r ss k, e = .returned (.tuple #[r, errv k]) ∧ OwnS w' w.heap.size r ss ∧ PTells gcdp p q ss k ∧ Below w.heap.size w w' := by
  have H1 := hid (pread_any h hs)
  have H2 := hid (fun (w' : World) (hb : Below w.heap.size w w') => pread_any (h'.on hb) hs')
  have hne := errv_neq
  have hgd := errv_guard
  clear h h' hs hs'
  go_enter Try.func7, Try.ntmps7
  go_wp2_with fail
  refine H1.out.mono ?_
  rintro e w1 ⟨x, k, rfl, hr, _, hb⟩
  have B := hid hb
  have R := hid hr
  clear hb hr
  by_cases hk : k = 0
  · obtain ⟨hg, hp⟩ := R.out.yes hk
    have HG := hid hg
    have HP := hid hp
    clear hg hp
    subst hk
    go_wp2_with fail
    refine (H2.out _ B.out).mono ?_
    rintro e w2 ⟨y, z, rfl, hr2, _, hb2⟩
    replace HP := pno HP hb2
    replace B := bb B hb2
    have R2 := hid hr2
    clear hb2 hr2
    by_cases hk2 : z = 0
    · obtain ⟨hg2, hp2⟩ := R2.out.yes hk2
      have HG2 := hid hg2
      have HP2 := hid hp2
      have HC := hid (cml_gcdp2 HG.out.trm HG2.out.trm HG.out.cml HG2.out.cml HG.out.len HG2.out.len)
      clear hg2 hp2
      subst hk2
      go_wp2_with fail
      refine (gcdof_p HP.out HP2.out HG.out.trm HG2.out.trm HG.out.cml HG2.out.cml (by decide) HG.out.len HG2.out.len).mono ?_
      rintro e w3 ⟨r, rfl, hr, hb3⟩
      replace B := bb B hb3
      have HR := hid hr
      clear hb3 hr
      go_wp2_with fail
      refine (texts_s HR.out (trm_gcdp HG.out.trm HG2.out.trm) HC.out.1.sml (by decide) (by have := HC.out.2; omega)).mono ?_
      rintro e w4 ⟨s, rfl, ho, hb4⟩
      have HO := hid (show OwnS w4 w.heap.size s _ from ⟨ho.1.mono B.out.size, ho.2⟩)
      replace B := bb B hb4
      clear hb4 ho
      go_wp2_with fail
      go_ret2
      exact ⟨_, _, 0, rfl, HO.out, .inl ⟨rfl, HG.out, HG2.out, rfl⟩, B.out⟩
    · have HB := hid (R2.out.no hk2).1
      have HK2 := hid hk2
      have f2 : (z != 0) = true := by simpa using hk2
      go_wp2_with fail
      go_ret2
      exact ⟨_, [], z, rfl, OwnS.nil _ _, .inr ⟨HK2.out, .inr ⟨HG.out, HB.out⟩, rfl⟩, B.out⟩
  · have HB := hid (R.out.no hk).1
    have HK := hid hk
    have f1 : (k != 0) = true := by simpa using hk
    go_wp2_with fail
    go_ret2
    exact ⟨_, [], k, rfl, OwnS.nil _ _, .inr ⟨HK.out, .inl HB.out, rfl⟩, B.out⟩

end Go.Proofs.Ytdifiimaifmcpaa

/-
  LAWS of package pgcd: what they have in common.
-/
namespace Go.Proofs.Ytdifiimaifmcpaa
open Go.RowKit
open Num
set_option linter.unusedVariables false
set_option maxRecDepth 100000
set_option linter.unusedSimpArgs false

theorem PUn.ok {f : List Rat → List Rat} {p ss : List ByteArray} {k : Int} (h : PUn f p ss k) (hk : k = 0) : GoodP p ∧ ss = (f (rdp p)).map qtxt := by
  rcases h with ⟨_, h⟩ | ⟨h, _⟩
  · exact h
  · exact absurd hk h
theorem PUn.no {f : List Rat → List Rat} {p ss : List ByteArray} {k : Int} (h : PUn f p ss k) (hk : k ≠ 0) : BadP p k ∧ ss = [] := by
  rcases h with ⟨h, _⟩ | ⟨_, h⟩
  · exact absurd h hk
  · exact h
theorem PUn.yes {f : List Rat → List Rat} {p ss : List ByteArray} {k : Int} (h : PUn f p ss k) (hp : GoodP p) : k = 0 ∧ ss = (f (rdp p)).map qtxt := by
  rcases h with ⟨h1, _, h2⟩ | ⟨_, h, _⟩
  · exact ⟨h1, h2⟩
  · exact absurd hp h.not
theorem PDivs.good {p q ks rs : List ByteArray} {k : Int} (h : PDivs p q ks rs k) (hp : GoodP p) (hq : GoodP q) (h0 : rdp q ≠ []) : k = 0 := by
  rcases h with ⟨h, _⟩ | ⟨_, _, _, h, _⟩ | ⟨_, h, _⟩
  · exact h
  · exact absurd h h0
  · exact absurd ⟨hp, hq⟩ h.not
theorem PDivs.bad {p q ks rs : List ByteArray} {k : Int} (h : PDivs p q ks rs k) (hk : k ≠ 0) (hp : GoodP p) (h0 : rdp q ≠ []) : ¬ GoodP q := fun hq => hk (h.good hp hq h0)
/-- Nothing is left: it goes in. -/
theorem PDivs.left {p q ks rs : List ByteArray} {k : Int} (h : PDivs p q ks rs k) (hk : k = 0) : rs = [] ↔ Dv (rdp q) (rdp p) := by
  obtain ⟨h1, h2, h3, y, r, _, hr, hl, e, _, rfl⟩ := h.ok hk
  constructor
  · intro h4
    refine dv_rem (y := y) e ?_
    exact List.map_eq_nil_iff.1 h4
  · intro h4
    rw [rem_nil h2.trm h3 hr hl e h4]; rfl
def pm101 : List ByteArray := [⟨#[45, 49]⟩, ⟨#[48]⟩, ⟨#[49]⟩]
def two22 : List ByteArray := [⟨#[50]⟩, ⟨#[50]⟩]
theorem good_101 : GoodP pm101 := by
  refine ⟨by decide, fun i hi => ?_, trm_of_last (.inr (by decide +kernel))⟩
  rcases (show i = 0 ∨ i = 1 ∨ i = 2 by simp [pm101] at hi; omega) with rfl | rfl | rfl <;> exact ⟨by decide, by decide⟩
theorem good_22 : GoodP two22 := by
  refine ⟨by decide, fun i hi => ?_, trm_of_last (.inr (by decide +kernel))⟩
  rcases (show i = 0 ∨ i = 1 by simp [two22] at hi; omega) with rfl | rfl <;> exact ⟨by decide, by decide⟩
theorem szs_101 : Szs pm101 := fun i hi => by
  rcases (show i = 0 ∨ i = 1 ∨ i = 2 by simp [pm101] at hi; omega) with rfl | rfl | rfl <;> decide
theorem szs_22 : Szs two22 := fun i hi => by
  rcases (show i = 0 ∨ i = 1 by simp [two22] at hi; omega) with rfl | rfl <;> decide
theorem gold_gcd : gcdp (rdp pm101) (rdp two22) = rdp one11 := by
  have e1 : rdp pm101 = [-1, 0, 1] := by decide +kernel
  have e2 : rdp two22 = [2, 2] := by decide +kernel
  have e3 : rdp one11 = [1, 1] := by decide +kernel
  rw [e1, e2, e3]
  refine (gcdp_of (trm_of_last (.inr (by decide +kernel))) (trm_of_last (.inr (by decide +kernel))) (.inl (by simp)) ⟨by simp, rfl⟩ ?_ ?_ fun d h1 h2 => ?_).symm
  · exact Dv.of (k := [-1, 1]) fun x => by show -1 + x * (0 + x * (1 + x * 0)) = (-1 + x * (1 + x * 0)) * (1 + x * (1 + x * 0)); grind
  · exact Dv.of (k := [2]) fun x => by show 2 + x * (2 + x * 0) = (2 + x * 0) * (1 + x * (1 + x * 0)); grind
  · refine h2.comb h2 (u := [1 / 2]) (v := []) fun x => ?_
    show 1 + x * (1 + x * 0) = (1 / 2 + x * 0) * (2 + x * (2 + x * 0)) + 0 * (2 + x * (2 + x * 0))
    grind

end Go.Proofs.Ytdifiimaifmcpaa

/-
  LAWS of package pgcd: common.
-/
namespace Go.Proofs.Ytdifiimaifmcpaa
open Go.RowKit
open Num
set_option linter.unusedVariables false
set_option maxRecDepth 100000
set_option linter.unusedSimpArgs false

set_option maxHeartbeats 2000000 in
theorem common_true (w : World) :
    Calls Try.prog 6 #[] w fun e w' => e = .returned (.bool true) ∧ Below w.heap.size w w' := by
  have hne := errv_neq
  have heq := errv_eql
  have hgd := errv_guard
  have t1 := one_text (Nat.le_refl w.heap.size) pm101 (by decide)
  have hb1 := (Below.refl w.heap.size w).alloc (Nat.le_refl _) (.cells #[.string ⟨#[45, 49]⟩, .string ⟨#[48]⟩, .string ⟨#[49]⟩] 9)
  have t2 := one_text (Nat.le_refl (w.alloc (.cells #[.string ⟨#[45, 49]⟩, .string ⟨#[48]⟩, .string ⟨#[49]⟩] 9)).heap.size) two22 (by decide)
  have hb2 := (Below.refl (w.alloc (.cells #[.string ⟨#[45, 49]⟩, .string ⟨#[48]⟩, .string ⟨#[49]⟩] 9)).heap.size _).alloc (Nat.le_refl _) (.cells #[.string ⟨#[50]⟩, .string ⟨#[50]⟩] 9)
  have B := hid (hb1.trans (hb2.mono hb1.size))
  have HM := gcd_any (t1.on hb2).txs.weak t2.txs.weak szs_101 szs_22
  have hs : (w.alloc (.cells #[.string ⟨#[45, 49]⟩, .string ⟨#[48]⟩, .string ⟨#[49]⟩] 9)).heap.size = w.heap.size + 1 := by simp
  rw [hs] at HM
  have HM := hid HM
  clear t1 t2 hb1 hb2 hs
  go_enter Try.func6, Try.ntmps6
  go_wp2_with fail
  refine HM.out.mono ?_
  rintro e w3 ⟨r, ss, k, rfl, ho, ht, hb⟩
  replace B := bb B hb
  obtain ⟨rfl, rfl⟩ := ht.yes good_101 good_22
  rw [gold_gcd, qtxt_rdp good_11.2.1] at ho
  have t3 := one_text (Nat.le_refl w3.heap.size) one11 (by decide)
  have hb3 := (Below.refl w3.heap.size w3).alloc (Nat.le_refl _) (.cells #[.string ⟨#[49]⟩, .string ⟨#[49]⟩] 9)
  have HS := same_texts (ho.1.on hb3).txs t3.txs
  rw [decide_eq_true rfl] at HS
  have HS := hid HS
  replace B := bb B hb3
  clear ho hb hb3 t3 HM ht
  go_wp2_with fail
  refine HS.out.mono ?_
  rintro e w4 ⟨rfl, hb⟩
  replace B := bb B hb
  clear hb HS
  go_wp2_with fail
  go_ret
  exact ⟨rfl, B.out⟩

end Go.Proofs.Ytdifiimaifmcpaa

/-
  LAW: PgcdGoes.
-/
namespace Go.Proofs.Ytdifiimaifmcpaa
open Go.RowKit
open Num
set_option linter.unusedVariables false
set_option maxRecDepth 100000
set_option linter.unusedSimpArgs false

set_option maxHeartbeats 8000000 in
theorem pgoes_walk {w : World} {v_ u_ x_ : Value} {p q d : List ByteArray} (hp : TxsW w v_ p) (hq : TxsW w u_ q) (hd : TxsW w x_ d) (sp : Szs p) (sq : Szs q) (sd : Szs d) :
    Calls Try.prog 3 #[v_, u_, x_] w fun e w' => e = .returned (.bool true) ∧ Below w.heap.size w w' := by
  have h2_ := hp
  obtain ⟨pp, cp, rfl, hlp, hcp, _⟩ := h2_
  have h3_ := hq
  obtain ⟨pq, cq, rfl, hlq, hcq, _⟩ := h3_
  unfold maxLen at hcp hcq
  have hne := errv_neq
  have heq := errv_eql
  have hgd := errv_guard
  have TXp := hid hp
  have SZp := hid sp
  have TXq := hid hq
  have SZq := hid sq
  have TXd := hid hd
  have SZd := hid sd
  have B := hid (Below.refl w.heap.size w)
  clear hp sp hq sq hd sd
  go_enter Try.func3, Try.ntmps3
  go_wp2_with fail
  refine (common_true _).mono ?_
  rintro e w1 ⟨rfl, b1⟩
  replace TXp := hid (TXp.out.on b1)
  replace TXq := hid (TXq.out.on b1)
  replace TXd := hid (TXd.out.on b1)
  replace B := bb B b1
  clear b1
  go_wp2_with fail
  refine (gcd_any TXp.out TXq.out SZp.out SZq.out).mono ?_
  rintro e w2 ⟨r2, gg, k2, rfl, o2, t2, b2⟩
  replace TXp := hid (TXp.out.on b2)
  replace TXq := hid (TXq.out.on b2)
  replace TXd := hid (TXd.out.on b2)
  replace B := bb B b2
  have TXgg := hid o2.1.txs.weak
  have TFgg := hid o2.1.txs
  have SZgg := hid o2.2
  have T2 := hid t2
  clear b2 t2 o2
  go_wp2_with fail
  refine (gcd_any TXq.out TXp.out SZq.out SZp.out).mono ?_
  rintro e w3 ⟨r3, hh, k3, rfl, o3, t3, b3⟩
  replace TXp := hid (TXp.out.on b3)
  replace TXq := hid (TXq.out.on b3)
  replace TXd := hid (TXd.out.on b3)
  replace TXgg := hid (TXgg.out.on b3)
  replace TFgg := hid (TFgg.out.on b3)
  replace B := bb B b3
  have TXhh := hid o3.1.txs.weak
  have TFhh := hid o3.1.txs
  have SZhh := hid o3.2
  have T3 := hid t3
  clear b3 t3 o3
  by_cases hgg : GoodP p ∧ GoodP q
  · have GP := hid hgg.1
    have GQ := hid hgg.2
    clear hgg
    obtain ⟨hk2, eg⟩ := T2.out.yes GP.out GQ.out
    obtain ⟨hk3, eh⟩ := T3.out.yes GQ.out GP.out
    have HSM := hid (show gg = hh from by rw [eg, eh, gcdp_comm GP.out.trm GQ.out.trm])
    have EG := hid eg
    subst hk2
    subst hk3
    clear eg eh
    have HSA := same_texts TFgg.out TFhh.out
    rw [decide_eq_true (HSM.out)] at HSA
    have HSA := hid HSA
    go_wp2_with fail
    refine (HSA.out).mono ?_
    rintro e w4 ⟨rfl, b4⟩
    replace TXp := hid (TXp.out.on b4)
    replace TXq := hid (TXq.out.on b4)
    replace TXd := hid (TXd.out.on b4)
    replace TXgg := hid (TXgg.out.on b4)
    replace TXhh := hid (TXhh.out.on b4)
    replace TFgg := hid (TFgg.out.on b4)
    replace TFhh := hid (TFhh.out.on b4)
    replace B := bb B b4
    clear b4 HSA
    obtain ⟨px, cx, rfl, hnx, hcx, hax⟩ := TXgg.out
    unfold maxLen at hcx
    by_cases h0 : gcdp (rdp p) (rdp q) = []
    · have hz : rdp p = [] ∧ rdp q = [] := by
        by_cases h : rdp p ≠ [] ∨ rdp q ≠ []
        · obtain ⟨u, v, k, _⟩ := gcdp_spec GP.out.trm GQ.out.trm h
          exact absurd h0 k.1
        · exact ⟨Classical.byContradiction fun e => h (.inl e), Classical.byContradiction fun e => h (.inr e)⟩
      have hp0 := good_len GP.out hz.1
      have hq0 := good_len GQ.out hz.2
      have hg0 : gg = [] := by rw [EG.out, h0]; rfl
      subst hp0
      subst hq0
      subst hg0
      clear hz h0
      go_wp2_with fail
      go_ret
      exact ⟨rfl, B.out⟩
    · obtain ⟨n, hn⟩ : ∃ n, (gcdp (rdp p) (rdp q)).length = n + 1 := ⟨(gcdp (rdp p) (rdp q)).length - 1, by have := List.length_pos_iff.2 h0; omega⟩
      have hgl : gg.length = n + 1 := by rw [EG.out, List.length_map, hn]
      have HRG := hid (show rdp gg = gcdp (rdp p) (rdp q) by rw [EG.out, rdp_map])
      have HG0 := hid (show rdp gg ≠ [] by rw [EG.out, rdp_map]; exact h0)
      have HSP : Hid (Mnc (gcdp (rdp p) (rdp q)) ∧ Dv (gcdp (rdp p) (rdp q)) (rdp p) ∧ Dv (gcdp (rdp p) (rdp q)) (rdp q)) := hid (by
        have h1 : rdp p ≠ [] ∨ rdp q ≠ [] := Classical.byContradiction fun e => h0 (by
          have e1 : rdp p = [] := Classical.byContradiction fun e2 => e (.inl e2)
          have e3 : rdp q = [] := Classical.byContradiction fun e2 => e (.inr e2)
          rw [e1, e3, gcdp_nil])
        obtain ⟨u, v, k1, k2, k3, _⟩ := gcdp_spec GP.out.trm GQ.out.trm h1
        exact ⟨k1, k2, k3⟩)
      have HGR : Hid (∀ d, Dv d (rdp p) → Dv d (rdp q) → Dv d (rdp gg)) := hid (fun d h1 h2 => by
        have h3 : rdp p ≠ [] ∨ rdp q ≠ [] := Classical.byContradiction fun e => h0 (by
          have e1 : rdp p = [] := Classical.byContradiction fun e2 => e (.inl e2)
          have e3 : rdp q = [] := Classical.byContradiction fun e2 => e (.inr e2)
          rw [e1, e3, gcdp_nil])
        rw [HRG.out]
        exact gcdp_great GP.out.trm GQ.out.trm h3 h1 h2)
      have HTX : Hid (tx gg n = ⟨#[49]⟩) := hid (by
        have h1 : co (gcdp (rdp p) (rdp q)) n = 1 := by have := HSP.out.1.2; rwa [top, hn, Nat.add_sub_cancel] at this
        rw [EG.out, tx_map (by omega), h1]; decide +kernel)
      rw [hgl] at hnx TXgg TFgg ⊢
      have HGL := hid hgl
      have hgz : ((n : Int) + 1 == 0) = false := by rw [beq_eq_false_iff_ne]; omega
      have hn0 : (0 : Int) ≤ (n : Int) := by omega
      have hn1 : (n : Int) < (n : Int) + 1 := by omega
      clear hax h0 hn hgl
      go_wp2_with fail
      refine (pdivs_any TXp.out TXgg.out SZp.out SZgg.out).mono ?_
      rintro e w5 ⟨r5, r'5, ka, ra, k5, rfl, o5, o'5, t5, b5⟩
      replace TXp := hid (TXp.out.on b5)
      replace TXq := hid (TXq.out.on b5)
      replace TXd := hid (TXd.out.on b5)
      replace TXgg := hid (TXgg.out.on b5)
      replace TXhh := hid (TXhh.out.on b5)
      replace TFgg := hid (TFgg.out.on b5)
      replace TFhh := hid (TFhh.out.on b5)
      replace B := bb B b5
      have TXka := hid o5.1.txs.weak
      have TFka := hid o5.1.txs
      have SZka := hid o5.2
      have TXra := hid o'5.1.txs.weak
      have TFra := hid o'5.1.txs
      have SZra := hid o'5.2
      have T5 := hid t5
      clear b5 t5 o5 o'5
      go_wp2_with fail
      refine (pdivs_any TXq.out TXgg.out SZq.out SZgg.out).mono ?_
      rintro e w6 ⟨r6, r'6, kb, rb, k6, rfl, o6, o'6, t6, b6⟩
      replace TXp := hid (TXp.out.on b6)
      replace TXq := hid (TXq.out.on b6)
      replace TXd := hid (TXd.out.on b6)
      replace TXgg := hid (TXgg.out.on b6)
      replace TXhh := hid (TXhh.out.on b6)
      replace TXka := hid (TXka.out.on b6)
      replace TXra := hid (TXra.out.on b6)
      replace TFgg := hid (TFgg.out.on b6)
      replace TFhh := hid (TFhh.out.on b6)
      replace TFka := hid (TFka.out.on b6)
      replace TFra := hid (TFra.out.on b6)
      replace B := bb B b6
      have TXkb := hid o6.1.txs.weak
      have TFkb := hid o6.1.txs
      have SZkb := hid o6.2
      have TXrb := hid o'6.1.txs.weak
      have TFrb := hid o'6.1.txs
      have SZrb := hid o'6.2
      have T6 := hid t6
      clear b6 t6 o6 o'6
      by_cases hk5 : k5 = 0
      · by_cases hk6 : k6 = 0
        · have hra : ra = [] := (T5.out.left hk5).2 (by rw [HRG.out]; exact HSP.out.2.1)
          have hrb : rb = [] := (T6.out.left hk6).2 (by rw [HRG.out]; exact HSP.out.2.2)
          have GG := hid (T5.out.ok hk5).2.1
          obtain ⟨pra, cra, era, hnra, hcra, _⟩ := TXra.out
          obtain ⟨prb, crb, erb, hnrb, hcrb, _⟩ := TXrb.out
          subst hra
          subst hrb
          simp only [List.length_nil] at era erb
          subst era
          subst erb
          subst hk5
          subst hk6
          obtain ⟨px2, cx2, egx, _, _, hax⟩ := TXgg.out
          obtain ⟨rfl, egl, rfl⟩ := Value.slice.inj egx
          clear egl
          obtain ⟨gb, gof, egy, hgb, cgx⟩ := hax n (by rw [HGL.out]; omega)
          subst egy
          rw [HTX.out] at cgx
          clear egx hax
          go_wp2_with fail
          refine (pdivs_any TXp.out TXd.out SZp.out SZd.out).mono ?_
          rintro e w7 ⟨r7, r'7, kc, rc, k7, rfl, o7, o'7, t7, b7⟩
          replace TXp := hid (TXp.out.on b7)
          replace TXq := hid (TXq.out.on b7)
          replace TXd := hid (TXd.out.on b7)
          replace TXgg := hid (TXgg.out.on b7)
          replace TXhh := hid (TXhh.out.on b7)
          replace TXka := hid (TXka.out.on b7)
          replace TXra := hid (TXra.out.on b7)
          replace TXkb := hid (TXkb.out.on b7)
          replace TXrb := hid (TXrb.out.on b7)
          replace TFgg := hid (TFgg.out.on b7)
          replace TFhh := hid (TFhh.out.on b7)
          replace TFka := hid (TFka.out.on b7)
          replace TFra := hid (TFra.out.on b7)
          replace TFkb := hid (TFkb.out.on b7)
          replace TFrb := hid (TFrb.out.on b7)
          replace B := bb B b7
          have TXkc := hid o7.1.txs.weak
          have TFkc := hid o7.1.txs
          have SZkc := hid o7.2
          have TXrc := hid o'7.1.txs.weak
          have TFrc := hid o'7.1.txs
          have SZrc := hid o'7.2
          have T7 := hid t7
          clear b7 t7 o7 o'7
          go_wp2_with fail
          refine (pdivs_any TXq.out TXd.out SZq.out SZd.out).mono ?_
          rintro e w8 ⟨r8, r'8, kd, rd, k8, rfl, o8, o'8, t8, b8⟩
          replace TXp := hid (TXp.out.on b8)
          replace TXq := hid (TXq.out.on b8)
          replace TXd := hid (TXd.out.on b8)
          replace TXgg := hid (TXgg.out.on b8)
          replace TXhh := hid (TXhh.out.on b8)
          replace TXka := hid (TXka.out.on b8)
          replace TXra := hid (TXra.out.on b8)
          replace TXkb := hid (TXkb.out.on b8)
          replace TXrb := hid (TXrb.out.on b8)
          replace TXkc := hid (TXkc.out.on b8)
          replace TXrc := hid (TXrc.out.on b8)
          replace TFgg := hid (TFgg.out.on b8)
          replace TFhh := hid (TFhh.out.on b8)
          replace TFka := hid (TFka.out.on b8)
          replace TFra := hid (TFra.out.on b8)
          replace TFkb := hid (TFkb.out.on b8)
          replace TFrb := hid (TFrb.out.on b8)
          replace TFkc := hid (TFkc.out.on b8)
          replace TFrc := hid (TFrc.out.on b8)
          replace B := bb B b8
          have TXkd := hid o8.1.txs.weak
          have TFkd := hid o8.1.txs
          have SZkd := hid o8.2
          have TXrd := hid o'8.1.txs.weak
          have TFrd := hid o'8.1.txs
          have SZrd := hid o'8.2
          have T8 := hid t8
          clear b8 t8 o8 o'8
          go_wp2_with fail
          refine (pdivs_any TXgg.out TXd.out SZgg.out SZd.out).mono ?_
          rintro e w9 ⟨r9, r'9, ke, re, k9, rfl, o9, o'9, t9, b9⟩
          replace TXp := hid (TXp.out.on b9)
          replace TXq := hid (TXq.out.on b9)
          replace TXd := hid (TXd.out.on b9)
          replace TXgg := hid (TXgg.out.on b9)
          replace TXhh := hid (TXhh.out.on b9)
          replace TXka := hid (TXka.out.on b9)
          replace TXra := hid (TXra.out.on b9)
          replace TXkb := hid (TXkb.out.on b9)
          replace TXrb := hid (TXrb.out.on b9)
          replace TXkc := hid (TXkc.out.on b9)
          replace TXrc := hid (TXrc.out.on b9)
          replace TXkd := hid (TXkd.out.on b9)
          replace TXrd := hid (TXrd.out.on b9)
          replace TFgg := hid (TFgg.out.on b9)
          replace TFhh := hid (TFhh.out.on b9)
          replace TFka := hid (TFka.out.on b9)
          replace TFra := hid (TFra.out.on b9)
          replace TFkb := hid (TFkb.out.on b9)
          replace TFrb := hid (TFrb.out.on b9)
          replace TFkc := hid (TFkc.out.on b9)
          replace TFrc := hid (TFrc.out.on b9)
          replace TFkd := hid (TFkd.out.on b9)
          replace TFrd := hid (TFrd.out.on b9)
          replace B := bb B b9
          have TXke := hid o9.1.txs.weak
          have TFke := hid o9.1.txs
          have SZke := hid o9.2
          have TXre := hid o'9.1.txs.weak
          have TFre := hid o'9.1.txs
          have SZre := hid o'9.2
          have T9 := hid t9
          clear b9 t9 o9 o'9
          obtain ⟨prc, crc, erc, hnrc, hcrc, _⟩ := TXrc.out
          subst erc
          obtain ⟨prd, crd, erd, hnrd, hcrd, _⟩ := TXrd.out
          subst erd
          obtain ⟨pre, cre, ere, hnre, hcre, _⟩ := TXre.out
          subst ere
          by_cases hk7 : k7 = 0
          · by_cases hk8 : k8 = 0
            · have h7 : k9 = 0 := T9.out.good GG.out (T7.out.ok hk7).2.1 (T7.out.ok hk7).2.2.1
              have HIF : Hid (rc = [] → rd = [] → re = []) := hid (fun h1 h2 => (T9.out.left h7).2 (HGR.out _ ((T7.out.left hk7).1 h1) ((T8.out.left hk8).1 h2)))
              subst hk7
              subst hk8
              subst h7
              by_cases hc0 : rc = []
              · by_cases hd0 : rd = []
                · have he0 := HIF.out hc0 hd0
                  subst hc0
                  subst hd0
                  subst he0
                  go_wp2_with fail
                  go_ret
                  exact ⟨rfl, B.out⟩
                · have hdl := List.length_pos_iff.2 hd0
                  obtain ⟨nd, hnd⟩ : ∃ nd, rd.length = nd + 1 := ⟨rd.length - 1, by omega⟩
                  rw [hnd]
                  have hdi : (0 : Int) < (nd : Int) + 1 := by omega
                  subst hc0
                  go_wp2_with fail
                  go_ret
                  exact ⟨rfl, B.out⟩
              · have hcl := List.length_pos_iff.2 hc0
                obtain ⟨nc, hnc⟩ : ∃ nc, rc.length = nc + 1 := ⟨rc.length - 1, by omega⟩
                rw [hnc]
                have hci : (0 : Int) < (nc : Int) + 1 := by omega
                go_wp2_with fail
                go_ret
                exact ⟨rfl, B.out⟩
            · have f8 : (k8 != 0) = true := by simpa using hk8
              have g8 : (k8 == 0) = false := by simpa using hk8
              go_wp2_with fail
              go_ret
              exact ⟨rfl, B.out⟩
          · have f7 : (k7 != 0) = true := by simpa using hk7
            have g7 : (k7 == 0) = false := by simpa using hk7
            go_wp2_with fail
            go_ret
            exact ⟨rfl, B.out⟩
        · have f6 : (k6 != 0) = true := by simpa using hk6
          have g6 : (k6 == 0) = false := by simpa using hk6
          have hbg := T6.out.bad hk6 GQ.out HG0.out
          go_wp2_with fail
          refine (pcheck_any TXgg.out SZgg.out).mono ?_
          rintro e w7 ⟨k7, rfl, t7, b7⟩
          replace TXp := hid (TXp.out.on b7)
          replace TXq := hid (TXq.out.on b7)
          replace TXd := hid (TXd.out.on b7)
          replace TXgg := hid (TXgg.out.on b7)
          replace TXhh := hid (TXhh.out.on b7)
          replace TXka := hid (TXka.out.on b7)
          replace TXra := hid (TXra.out.on b7)
          replace TXkb := hid (TXkb.out.on b7)
          replace TXrb := hid (TXrb.out.on b7)
          replace TFgg := hid (TFgg.out.on b7)
          replace TFhh := hid (TFhh.out.on b7)
          replace TFka := hid (TFka.out.on b7)
          replace TFra := hid (TFra.out.on b7)
          replace TFkb := hid (TFkb.out.on b7)
          replace TFrb := hid (TFrb.out.on b7)
          replace B := bb B b7
          have T7 := hid t7
          clear b7 t7
          have hk7 : k7 ≠ 0 := fun e => by
            rcases T7.out with ⟨_, h⟩ | ⟨h, _⟩
            · exact hbg h
            · exact h e
          have f7 : (k7 != 0) = true := by simpa using hk7
          clear hbg
          go_wp2_with fail
          go_ret
          exact ⟨rfl, B.out⟩
      · have f5 : (k5 != 0) = true := by simpa using hk5
        have g5 : (k5 == 0) = false := by simpa using hk5
        have hbg := T5.out.bad hk5 GP.out HG0.out
        go_wp2_with fail
        refine (pcheck_any TXgg.out SZgg.out).mono ?_
        rintro e w7 ⟨k7, rfl, t7, b7⟩
        replace TXp := hid (TXp.out.on b7)
        replace TXq := hid (TXq.out.on b7)
        replace TXd := hid (TXd.out.on b7)
        replace TXgg := hid (TXgg.out.on b7)
        replace TXhh := hid (TXhh.out.on b7)
        replace TXka := hid (TXka.out.on b7)
        replace TXra := hid (TXra.out.on b7)
        replace TXkb := hid (TXkb.out.on b7)
        replace TXrb := hid (TXrb.out.on b7)
        replace TFgg := hid (TFgg.out.on b7)
        replace TFhh := hid (TFhh.out.on b7)
        replace TFka := hid (TFka.out.on b7)
        replace TFra := hid (TFra.out.on b7)
        replace TFkb := hid (TFkb.out.on b7)
        replace TFrb := hid (TFrb.out.on b7)
        replace B := bb B b7
        have T7 := hid t7
        clear b7 t7
        have hk7 : k7 ≠ 0 := fun e => by
          rcases T7.out with ⟨_, h⟩ | ⟨h, _⟩
          · exact hbg h
          · exact h e
        have f7 : (k7 != 0) = true := by simpa using hk7
        clear hbg
        go_wp2_with fail
        go_ret
        exact ⟨rfl, B.out⟩
  · have hk2 : k2 ≠ 0 := fun e => by
      obtain ⟨h1, h2, _⟩ := T2.out.ok e
      exact hgg ⟨h1, h2⟩
    have f2 : (k2 != 0) = true := by simpa using hk2
    have hk3 : k3 ≠ 0 := fun e => by
      obtain ⟨h1, h2, _⟩ := T3.out.ok e
      exact hgg ⟨h2, h1⟩
    have f3 : (k3 != 0) = true := by simpa using hk3
    have HSM := hid ((T2.out.no hk2).2.trans (T3.out.no hk3).2.symm)
    clear hgg
    have HSA := same_texts TFgg.out TFhh.out
    rw [decide_eq_true (HSM.out)] at HSA
    have HSA := hid HSA
    go_wp2_with fail
    refine (HSA.out).mono ?_
    rintro e w4 ⟨rfl, b4⟩
    replace TXp := hid (TXp.out.on b4)
    replace TXq := hid (TXq.out.on b4)
    replace TXd := hid (TXd.out.on b4)
    replace TXgg := hid (TXgg.out.on b4)
    replace TXhh := hid (TXhh.out.on b4)
    replace TFgg := hid (TFgg.out.on b4)
    replace TFhh := hid (TFhh.out.on b4)
    replace B := bb B b4
    clear b4 HSA
    go_wp2_with fail
    go_ret
    exact ⟨rfl, B.out⟩

end Go.Proofs.Ytdifiimaifmcpaa

/-
  The law PgcdGoes of package abacistlaw2: whatever lists of texts and texts come in, the call returns true, and they read behind it as they did before. No condition.
-/
namespace Go.Proofs.Ytdifiimaifmcpaa.pgcdGoes
open Go.ChangeShapes Go.WideShapes Go.ChangeAt Go.RowKit
open Go.ChangeMaps (open_string shut_string)
set_option linter.unusedVariables false

theorem own : ownKnob Try.prog.godebug = none := by kernel_rfl
theorem laidOut : laidOutB Try.prog = true := by kernel_rfl
theorem cellsS : Try.prog.cellsOf 9 = 1 := by kernel_rfl
theorem bytesS : Try.prog.bytesOf 9 = 16 := by kernel_rfl

set_option maxRecDepth 100000 in
theorem lifted (os : Os) (started : os.Started) (H : Type) (enc : TypeId × Value → H) :
    ReturnsInHanded {} Try.checked os 3 .any (Rows.pgcdGoesSpec.pre6 enc Try.prog Try.f3 Rows.pgcdGoesRow.domain false) (Rows.pgcdGoesSpec.post enc Try.prog Try.f3 false true false false) := by
  refine returnsInHanded_of_change_sized (C := Try.checked) own started (by kernel_rfl) Try.func3
    (ChangeSpec.witness6 (enc := enc) (C := Try.checked) false ⟨#[], #[.slice none 0 0, .slice none 0 0, .slice none 0 0], []⟩ 8 (by kernel_rfl) (by kernel_rfl) (by kernel_rfl) (by kernel_rfl)) ?_
  intro W base args ds gs before hval0 hW hcnd hsz0 _
  have hval : ∀ (j : Nat) t v, Try.f3.params[j]? = some t → args[j]? = some v → Value.okWide Try.prog W .any base t v := hval0
  have hW' := hW
  obtain ⟨p, q, hA0, hV, rfl, hfz, hnd⟩ := hW
  have hA : DataW.TrodAll enc Try.prog W 0 (fun _ => true) true Try.f3.params.toList args.toList ds p := hA0
  rw [Try.params3] at hA hval
  have hsz : (DataW.weightsEach Try.prog (Try.f3.params.toList ++ Rows.pgcdGoesSpec.plain.varTypes Try.prog) (ds ++ gs)).all (· ≤ reachBytes) = true := hsz0
  rw [Try.params3] at hsz
  obtain ⟨v0, vs0, d0, ds0, p0, q0, hargs, rfl, rfl, h0, r0⟩ := trodAll_cons hA
  obtain ⟨v1, vs1, d1, ds1, p1, q1, rfl, rfl, rfl, h1, r1⟩ := trodAll_cons r0
  obtain ⟨v2, vs2, d2, ds2, p2, q2, rfl, rfl, rfl, h2, r2⟩ := trodAll_cons r1
  obtain ⟨rfl, rfl, rfl⟩ := trodAll_nil r2
  obtain rfl : args = #[v0, v1, v2] := by cases args; simp_all
  obtain ⟨rfl, rfl⟩ := trodVars_none hV
  obtain ⟨pa0, len0, cap0, rfl⟩ := okWide_slice Try.underlying22 (hval 0 22 v0 rfl rfl)
  have h0k := h0
  obtain ⟨fuel0, hf0⟩ := h0
  obtain ⟨pa1, len1, cap1, rfl⟩ := okWide_slice Try.underlying22 (hval 1 22 v1 rfl rfl)
  have h1k := h1
  obtain ⟨fuel1, hf1⟩ := h1
  obtain ⟨pa2, len2, cap2, rfl⟩ := okWide_slice Try.underlying22 (hval 2 22 v2 rfl rfl)
  have h2k := h2
  obtain ⟨fuel2, hf2⟩ := h2
  clear hA0 hval0
  have hlt0 : ∀ y ∈ p0, y.block < W.heap.size := fun y hy => hW'.lt y (by simp [hy])
  have hlt1 : ∀ y ∈ p1, y.block < W.heap.size := fun y hy => hW'.lt y (by simp [hy])
  have hlt2 : ∀ y ∈ p2, y.block < W.heap.size := fun y hy => hW'.lt y (by simp [hy])
  have T0 : ∃ ss : List ByteArray, TxsW W (.slice pa0 len0 cap0) ss ∧ Szs ss ∧ ss.length * 16 ≤ 140737488355328 := by
    rcases open_strings Try.underlying22 Try.underlying9 cellsS hf0 with ⟨hcs, hx⟩ | ⟨b, len', cap', ss, hcs, _, hl, hm, hz, hx, hcell, hws⟩
    · simp [Value.cells] at hcs
      obtain ⟨rfl, rfl, rfl⟩ := hcs
      exact ⟨[], (Txs.nil W).weak, Szs.nil, by decide⟩
    · simp [Value.cells] at hcs
      obtain ⟨rfl, rfl, rfl⟩ := hcs
      simp only [Prod.mk.injEq] at hx
      obtain ⟨rfl, hx2⟩ := hx
      simp only [if_true] at hz
      have hlen : (ss.take len0).length = len0 := by rw [List.length_take]; omega
      have hreach : len0 * 16 ≤ 140737488355328 := by
        have := sized_slice hsz (j := 0) (t := 22) (e := 9) rfl rfl Try.underlying22
        rw [bytesS] at this
        simp only [strs, List.length_map, List.length_take, List.length_drop, reachBytes] at this
        omega
      refine ⟨ss.take len0, ?_, ?_, by rw [hlen]; exact hreach⟩
      · refine ⟨some b, cap0, by rw [hlen], by rw [hlen]; exact hl, hm, fun i hi => ?_⟩
        have hi2 : i < len0 := by rw [← hlen]; exact hi
        have h2 := hcell i (by omega)
        obtain ⟨g, off, spot⟩ := b
        have hspot : spot = none := by simpa [Addr.add] using World.cell?_spot (hcell 0 (by omega))
        subst hspot
        have hbW : g < W.heap.size := hlt0 (.cell g off) (by rw [hx2]; exact MemPlace.mem_row.2 ⟨0, by omega, by simp⟩)
        refine ⟨g, off, rfl, hbW, ?_⟩
        rw [add_plain, List.getD_eq_getElem?_getD, List.getElem?_eq_getElem (by omega), Option.getD_some] at h2
        rw [h2, tx_lt hi, List.getElem_take]
      · intro i hi
        rw [tx_lt hi]
        exact hws _ (List.mem_of_mem_take (List.getElem_mem hi))
  obtain ⟨l0, t0, s0, z0⟩ := T0
  have T1 : ∃ ss : List ByteArray, TxsW W (.slice pa1 len1 cap1) ss ∧ Szs ss ∧ ss.length * 16 ≤ 140737488355328 := by
    rcases open_strings Try.underlying22 Try.underlying9 cellsS hf1 with ⟨hcs, hx⟩ | ⟨b, len', cap', ss, hcs, _, hl, hm, hz, hx, hcell, hws⟩
    · simp [Value.cells] at hcs
      obtain ⟨rfl, rfl, rfl⟩ := hcs
      exact ⟨[], (Txs.nil W).weak, Szs.nil, by decide⟩
    · simp [Value.cells] at hcs
      obtain ⟨rfl, rfl, rfl⟩ := hcs
      simp only [Prod.mk.injEq] at hx
      obtain ⟨rfl, hx2⟩ := hx
      simp only [if_true] at hz
      have hlen : (ss.take len1).length = len1 := by rw [List.length_take]; omega
      have hreach : len1 * 16 ≤ 140737488355328 := by
        have := sized_slice hsz (j := 1) (t := 22) (e := 9) rfl rfl Try.underlying22
        rw [bytesS] at this
        simp only [strs, List.length_map, List.length_take, List.length_drop, reachBytes] at this
        omega
      refine ⟨ss.take len1, ?_, ?_, by rw [hlen]; exact hreach⟩
      · refine ⟨some b, cap1, by rw [hlen], by rw [hlen]; exact hl, hm, fun i hi => ?_⟩
        have hi2 : i < len1 := by rw [← hlen]; exact hi
        have h2 := hcell i (by omega)
        obtain ⟨g, off, spot⟩ := b
        have hspot : spot = none := by simpa [Addr.add] using World.cell?_spot (hcell 0 (by omega))
        subst hspot
        have hbW : g < W.heap.size := hlt1 (.cell g off) (by rw [hx2]; exact MemPlace.mem_row.2 ⟨0, by omega, by simp⟩)
        refine ⟨g, off, rfl, hbW, ?_⟩
        rw [add_plain, List.getD_eq_getElem?_getD, List.getElem?_eq_getElem (by omega), Option.getD_some] at h2
        rw [h2, tx_lt hi, List.getElem_take]
      · intro i hi
        rw [tx_lt hi]
        exact hws _ (List.mem_of_mem_take (List.getElem_mem hi))
  obtain ⟨l1, t1, s1, z1⟩ := T1
  have T2 : ∃ ss : List ByteArray, TxsW W (.slice pa2 len2 cap2) ss ∧ Szs ss ∧ ss.length * 16 ≤ 140737488355328 := by
    rcases open_strings Try.underlying22 Try.underlying9 cellsS hf2 with ⟨hcs, hx⟩ | ⟨b, len', cap', ss, hcs, _, hl, hm, hz, hx, hcell, hws⟩
    · simp [Value.cells] at hcs
      obtain ⟨rfl, rfl, rfl⟩ := hcs
      exact ⟨[], (Txs.nil W).weak, Szs.nil, by decide⟩
    · simp [Value.cells] at hcs
      obtain ⟨rfl, rfl, rfl⟩ := hcs
      simp only [Prod.mk.injEq] at hx
      obtain ⟨rfl, hx2⟩ := hx
      simp only [if_true] at hz
      have hlen : (ss.take len2).length = len2 := by rw [List.length_take]; omega
      have hreach : len2 * 16 ≤ 140737488355328 := by
        have := sized_slice hsz (j := 2) (t := 22) (e := 9) rfl rfl Try.underlying22
        rw [bytesS] at this
        simp only [strs, List.length_map, List.length_take, List.length_drop, reachBytes] at this
        omega
      refine ⟨ss.take len2, ?_, ?_, by rw [hlen]; exact hreach⟩
      · refine ⟨some b, cap2, by rw [hlen], by rw [hlen]; exact hl, hm, fun i hi => ?_⟩
        have hi2 : i < len2 := by rw [← hlen]; exact hi
        have h2 := hcell i (by omega)
        obtain ⟨g, off, spot⟩ := b
        have hspot : spot = none := by simpa [Addr.add] using World.cell?_spot (hcell 0 (by omega))
        subst hspot
        have hbW : g < W.heap.size := hlt2 (.cell g off) (by rw [hx2]; exact MemPlace.mem_row.2 ⟨0, by omega, by simp⟩)
        refine ⟨g, off, rfl, hbW, ?_⟩
        rw [add_plain, List.getD_eq_getElem?_getD, List.getElem?_eq_getElem (by omega), Option.getD_some] at h2
        rw [h2, tx_lt hi, List.getElem_take]
      · intro i hi
        rw [tx_lt hi]
        exact hws _ (List.mem_of_mem_take (List.getElem_mem hi))
  obtain ⟨l2, t2, s2, z2⟩ := T2
  refine (pgoes_walk t0 t1 t2 s0 s1 s2).mono fun e W' ⟨he, hg⟩ => ?_
  subst he
  refine ⟨_, rfl, _, _, _, [] ++ [], p0 ++ (p1 ++ (p2 ++ [])), [], hW', ?_, ?_, rfl, hg.frame _, fun h => by cases h⟩
  · exact trodAll_cons_mk (shut_bool Try.underlying4 _) trodAll_mk0
  · exact (trodAll_cons_mk (Below.trod laidOut (by kernel_rfl) (of_decide_eq_true (by kernel_rfl)) h0k hg hlt0) (trodAll_cons_mk (Below.trod laidOut (by kernel_rfl) (of_decide_eq_true (by kernel_rfl)) h1k hg hlt1) (trodAll_cons_mk (Below.trod laidOut (by kernel_rfl) (of_decide_eq_true (by kernel_rfl)) h2k hg hlt2) trodAll_mk0)))

/-- The law PgcdGoes: every input. -/
theorem proved : Rows.PgcdGoesSaid :=
  OpenClaim.holds_of_wide 3 Try.f3 rfl rfl rfl rfl rfl rfl rfl ⟨rfl, rfl, rfl, rfl, rfl⟩ rfl rfl rfl rfl rfl (by kernel_rfl) Try.func3 (by kernel_rfl)
    (of_decide_eq_true (by kernel_rfl)) (by unfold Func.isWrapper; first | (rw [if_pos (by decide +kernel)]; kernel_rfl) | (rw [if_neg (by decide +kernel)]; exact ⟨rfl, rfl⟩))
    (fun os started H enc _ => lifted os started H enc)
#print axioms proved
end Go.Proofs.Ytdifiimaifmcpaa.pgcdGoes
