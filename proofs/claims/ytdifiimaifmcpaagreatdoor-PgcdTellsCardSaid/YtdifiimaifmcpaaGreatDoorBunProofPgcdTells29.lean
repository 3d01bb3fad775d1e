import Derived.Test.YtdifiimaifmcpaaGreatDoorBunProofPgcdTells27
import Derived.Test.YtdifiimaifmcpaaGreatDoorBunProofPgcdTells28
import Derived.Test.YtdifiimaifmcpaaGreatDoorBunProofPgcdTells23
import Derived.Test.YtdifiimaifmcpaaGreatDoorBunProofPgcdTells22
/-
  THE LAW PgcdTells: what it asks.
-/
namespace Go.Proofs.YtdifiimaifmcpaaGreatDoor
open Go.RowKit
open Num
set_option linter.unusedVariables false
set_option maxRecDepth 100000
set_option linter.unusedSimpArgs false

theorem two2_zero (e : Int) (w : World) : Calls Tryz.prog 13 #[.int .i64 0, .int .i64 e] w fun r w' => r = .returned (.int .i64 e) ∧ w = w' := by
  go_enter Tryz.func13, Tryz.ntmps13
  go_wp2_with fail
  go_ret
  exact ⟨rfl, rfl⟩
theorem two2_some (k e : Int) (hk : k ≠ 0) (w : World) : Calls Tryz.prog 13 #[.int .i64 k, .int .i64 e] w fun r w' => r = .returned (.int .i64 k) ∧ w = w' := by
  go_enter Tryz.func13, Tryz.ntmps13
  go_wp2_with fail
  go_ret
  exact ⟨rfl, rfl⟩
theorem PCode.no {p : List ByteArray} {k : Int} (h : PCode p k) (h0 : k ≠ 0) : BadP p k := by
  rcases h with ⟨h, _⟩ | ⟨_, h⟩
  · exact absurd h h0
  · exact h
theorem PUn.badp {f : List Rat → List Rat} {p ss : List ByteArray} {k e : Int} (h : PUn f p ss k) (hb : BadP p e) : k = e ∧ ss = [] := by
  rcases h with ⟨_, h1, _⟩ | ⟨_, h1, h2⟩
  · exact absurd h1 hb.not
  · exact ⟨h1.det hb, h2⟩
theorem PTells.badp {f : List Rat → List Rat → List Rat} {p q ss : List ByteArray} {k e : Int} (h : PTells f p q ss k) (hb : BadP p e) : k = e ∧ ss = [] := by
  rcases h with ⟨_, h1, _⟩ | ⟨_, h1, h2⟩
  · exact absurd h1 hb.not
  · rcases h1 with h1 | ⟨h1, _⟩
    · exact ⟨h1.det hb, h2⟩
    · exact absurd h1 hb.not
theorem PTells.badq {f : List Rat → List Rat → List Rat} {p q ss : List ByteArray} {k e : Int} (h : PTells f p q ss k) (hg : GoodP p) (hb : BadP q e) : k = e ∧ ss = [] := by
  rcases h with ⟨_, _, h1, _⟩ | ⟨_, h1, h2⟩
  · exact absurd h1 hb.not
  · rcases h1 with h1 | ⟨_, h1⟩
    · exact absurd hg h1.not
    · exact ⟨h1.det hb, h2⟩
theorem rst_two {p q : List ByteArray} (hp : GoodP p) (hq : GoodP q) : Rst 227 10 (rdp p) (rdp q) (rdp p) (rdp q) :=
  ⟨⟨hp.trm, hq.trm, hp.len, hq.len⟩, ⟨227, 227, hp.cml, hq.cml, .inr ⟨rfl, Nat.le_refl _, Nat.le_refl _⟩⟩, rfl⟩

end Go.Proofs.YtdifiimaifmcpaaGreatDoor

/-
  THE LAW PgcdTells: its walk.
-/
namespace Go.Proofs.YtdifiimaifmcpaaGreatDoor
open Go.RowKit
open Num
set_option linter.unusedVariables false
set_option maxRecDepth 100000
set_option linter.unusedSimpArgs false

set_option maxHeartbeats 8000000 in
theorem gtells_walk {w : World} {v_ u_ : Value} {p q : List ByteArray} (hp : TxsW w v_ p) (hq : TxsW w u_ q) (sp : Szs p) (sq : Szs q) (hd : Door w) :
    Calls Tryz.prog 3 #[v_, u_] w fun e w' => e = .returned (.bool true) ∧ Below w.heap.size w w' := by
  have HDR := hid hd
  clear hd
  have hne := errv_neq
  have heq := errv_eql
  have hgd := errv_guard
  have TXp := hid hp
  have SZp := hid sp
  have TXq := hid hq
  have SZq := hid sq
  have B := hid (Below.refl w.heap.size w)
  clear hp sp hq sq
  go_enter Tryz.func3, Tryz.ntmps3
  go_wp2_with fail
  refine (common_true _).mono ?_
  rintro e w1 ⟨rfl, b1⟩
  replace TXp := hid (TXp.out.on b1)
  replace TXq := hid (TXq.out.on b1)
  replace B := bb B b1
  clear b1
  go_wp2_with fail
  refine (ppolyof TXp.out SZp.out).mono ?_
  rintro e w2 ⟨xv, e, rfl, t2, x2, b2⟩
  replace TXp := hid (TXp.out.on b2)
  replace TXq := hid (TXq.out.on b2)
  replace B := bb B b2
  have CP := hid t2
  have HX := hid x2
  clear b2 t2 x2
  by_cases h0 : e = 0
  · have GP := hid (CP.out.good h0)
    have PX := hid (HX.out h0)
    subst h0
    clear CP HX
    obtain ⟨ax, cx, rfl, hlx, hcx⟩ := PX.out.opened
    unfold maxLen at hcx
    have HMN := hid (cml_mnc2 GP.out.trm GP.out.cml GP.out.len)
    have HFR := hid (cml_freep GP.out.trm GP.out.cml GP.out.len)
    go_wp2_with fail
    refine (rmonic_p PX.out GP.out.trm GP.out.cml (by decide) GP.out.len).mono ?_
    rintro e w3 ⟨y3, rfl, h3, b3⟩
    replace TXp := hid (TXp.out.on b3)
    replace TXq := hid (TXq.out.on b3)
    replace PX := hid (PX.out.on b3)
    replace B := bb B b3
    have HV := hid h3
    clear b3 h3
    go_wp2_with fail
    refine (rtexts HV.out HMN.out.1.sml (by decide) (by have := HMN.out.2; omega)).mono ?_
    rintro e w4 ⟨z4, rfl, o4, b4⟩
    replace TXp := hid (TXp.out.on b4)
    replace TXq := hid (TXq.out.on b4)
    replace PX := hid (PX.out.on b4)
    replace B := bb B b4
    have TFms := hid o4.txs
    clear b4 o4 HV
    by_cases hx0 : rdp p = []
    · have hlx0 : (rdp p).length = 0 := by rw [hx0]; rfl
      have HFS : Hid ((freep (rdp p)).map qtxt = []) := hid (by rw [hx0, freep_nil]; rfl)
      rw [hlx0] at PX ⊢
      have TFfs := hid (Txs.nil w4)
      clear hx0 hlx0
      go_wp2_with fail
      refine (monic_any TXp.out SZp.out).mono ?_
      rintro e w5 ⟨r5, m2, k5, rfl, o5, t5, b5⟩
      replace TXp := hid (TXp.out.on b5)
      replace TXq := hid (TXq.out.on b5)
      replace TFms := hid (TFms.out.on b5)
      replace TFfs := hid (TFfs.out.on b5)
      replace PX := hid (PX.out.on b5)
      replace B := bb B b5
      have TXm2 := hid o5.1.txs.weak
      have TFm2 := hid o5.1.txs
      have SZm2 := hid o5.2
      have T5 := hid t5
      clear b5 t5 o5
      obtain ⟨rfl, em⟩ := T5.out.yes GP.out
      have EM := hid em
      clear em T5
      go_wp2_with fail
      refine (perr_any 0 w5 (HDR.out.below B.out)).mono ?_
      rintro e w6 ⟨rfl, b6⟩
      replace TXp := hid (TXp.out.on b6)
      replace TXq := hid (TXq.out.on b6)
      replace TXm2 := hid (TXm2.out.on b6)
      replace TFms := hid (TFms.out.on b6)
      replace TFfs := hid (TFfs.out.on b6)
      replace TFm2 := hid (TFm2.out.on b6)
      replace PX := hid (PX.out.on b6)
      replace B := bb B b6
      clear b6
      have HSA := same_texts TFm2.out TFms.out
      rw [decide_eq_true (EM.out)] at HSA
      have HSA := hid HSA
      go_wp2_with fail
      refine (HSA.out).mono ?_
      rintro e w7 ⟨rfl, b7⟩
      replace TXp := hid (TXp.out.on b7)
      replace TXq := hid (TXq.out.on b7)
      replace TXm2 := hid (TXm2.out.on b7)
      replace TFms := hid (TFms.out.on b7)
      replace TFfs := hid (TFfs.out.on b7)
      replace TFm2 := hid (TFm2.out.on b7)
      replace PX := hid (PX.out.on b7)
      replace B := bb B b7
      clear b7 HSA
      clear TFm2 TXm2 SZm2 TFms
      go_wp2_with fail
      refine (free_any TXp.out SZp.out).mono ?_
      rintro e w8 ⟨r8, f2, k8, rfl, o8, t8, b8⟩
      replace TXp := hid (TXp.out.on b8)
      replace TXq := hid (TXq.out.on b8)
      replace TFfs := hid (TFfs.out.on b8)
      replace PX := hid (PX.out.on b8)
      replace B := bb B b8
      have TXf2 := hid o8.1.txs.weak
      have TFf2 := hid o8.1.txs
      have SZf2 := hid o8.2
      have T8 := hid t8
      clear b8 t8 o8
      obtain ⟨rfl, ef⟩ := T8.out.yes GP.out
      have EF := hid (ef.trans HFS.out)
      clear ef T8
      go_wp2_with fail
      refine (perr_any 0 w8 (HDR.out.below B.out)).mono ?_
      rintro e w9 ⟨rfl, b9⟩
      replace TXp := hid (TXp.out.on b9)
      replace TXq := hid (TXq.out.on b9)
      replace TXf2 := hid (TXf2.out.on b9)
      replace TFfs := hid (TFfs.out.on b9)
      replace TFf2 := hid (TFf2.out.on b9)
      replace PX := hid (PX.out.on b9)
      replace B := bb B b9
      clear b9
      have HSA := same_texts TFf2.out TFfs.out
      rw [decide_eq_true (EF.out)] at HSA
      have HSA := hid HSA
      go_wp2_with fail
      refine (HSA.out).mono ?_
      rintro e w10 ⟨rfl, b10⟩
      replace TXp := hid (TXp.out.on b10)
      replace TXq := hid (TXq.out.on b10)
      replace TXf2 := hid (TXf2.out.on b10)
      replace TFfs := hid (TFfs.out.on b10)
      replace TFf2 := hid (TFf2.out.on b10)
      replace PX := hid (PX.out.on b10)
      replace B := bb B b10
      clear b10 HSA
      clear TFf2 TXf2 SZf2 TFfs
      go_wp2_with fail
      refine (ppolyof TXq.out SZq.out).mono ?_
      rintro e w11 ⟨yv, g, rfl, t11, x11, b11⟩
      replace TXp := hid (TXp.out.on b11)
      replace TXq := hid (TXq.out.on b11)
      replace PX := hid (PX.out.on b11)
      replace B := bb B b11
      have CQ := hid t11
      have HY := hid x11
      clear b11 t11 x11
      go_wp2_with fail
      refine (two2_zero g w11).mono ?_
      rintro e' w' ⟨rfl, rfl⟩
      by_cases hg : g = 0
      · have GQ := hid (CQ.out.good hg)
        have PY := hid (HY.out hg)
        subst hg
        clear CQ HY
        have HG := hid (cml_gcdp2 GP.out.trm GQ.out.trm GP.out.cml GQ.out.cml GP.out.len GQ.out.len)
        go_wp2_with fail
        refine (rgcd_p PX.out PY.out (rst_two GP.out GQ.out) (.inl ⟨rfl, by decide⟩)).mono ?_
        rintro e w12 ⟨y12, rfl, h12, b12⟩
        replace TXp := hid (TXp.out.on b12)
        replace TXq := hid (TXq.out.on b12)
        replace PX := hid (PX.out.on b12)
        replace PY := hid (PY.out.on b12)
        replace B := bb B b12
        have HV := hid h12
        clear b12 h12
        go_wp2_with fail
        refine (rtexts HV.out HG.out.1.sml (by decide) (by have := HG.out.2; omega)).mono ?_
        rintro e w13 ⟨z13, rfl, o13, b13⟩
        replace TXp := hid (TXp.out.on b13)
        replace TXq := hid (TXq.out.on b13)
        replace PX := hid (PX.out.on b13)
        replace PY := hid (PY.out.on b13)
        replace B := bb B b13
        have TFds := hid o13.txs
        clear b13 o13 HV
        go_wp2_with fail
        refine (gcd_any TXp.out TXq.out SZp.out SZq.out).mono ?_
        rintro e w14 ⟨r14, d2, k14, rfl, o14, t14, b14⟩
        replace TXp := hid (TXp.out.on b14)
        replace TXq := hid (TXq.out.on b14)
        replace TFds := hid (TFds.out.on b14)
        replace PX := hid (PX.out.on b14)
        replace PY := hid (PY.out.on b14)
        replace B := bb B b14
        have TXd2 := hid o14.1.txs.weak
        have TFd2 := hid o14.1.txs
        have SZd2 := hid o14.2
        have T14 := hid t14
        clear b14 t14 o14
        obtain ⟨rfl, ed⟩ := T14.out.yes GP.out GQ.out
        have ED := hid ed
        clear ed T14
        go_wp2_with fail
        refine (perr_any 0 w14 (HDR.out.below B.out)).mono ?_
        rintro e w15 ⟨rfl, b15⟩
        replace TXp := hid (TXp.out.on b15)
        replace TXq := hid (TXq.out.on b15)
        replace TXd2 := hid (TXd2.out.on b15)
        replace TFds := hid (TFds.out.on b15)
        replace TFd2 := hid (TFd2.out.on b15)
        replace PX := hid (PX.out.on b15)
        replace PY := hid (PY.out.on b15)
        replace B := bb B b15
        clear b15
        have HSA := same_texts TFd2.out TFds.out
        rw [decide_eq_true (ED.out)] at HSA
        have HSA := hid HSA
        go_wp2_with fail
        refine (HSA.out).mono ?_
        rintro e w16 ⟨rfl, b16⟩
        replace TXp := hid (TXp.out.on b16)
        replace TXq := hid (TXq.out.on b16)
        replace TXd2 := hid (TXd2.out.on b16)
        replace TFds := hid (TFds.out.on b16)
        replace TFd2 := hid (TFd2.out.on b16)
        replace PX := hid (PX.out.on b16)
        replace PY := hid (PY.out.on b16)
        replace B := bb B b16
        clear b16 HSA
        go_wp2_with fail
        go_ret
        exact ⟨rfl, B.out⟩
      · have BQ := hid (CQ.out.no hg)
        have hg0 : (g == 0) = false := by simpa using hg
        clear CQ HY
        have TFds := hid (Txs.nil w11)
        go_wp2_with fail
        refine (gcd_any TXp.out TXq.out SZp.out SZq.out).mono ?_
        rintro e w12 ⟨r12, d2, k12, rfl, o12, t12, b12⟩
        replace TXp := hid (TXp.out.on b12)
        replace TXq := hid (TXq.out.on b12)
        replace TFds := hid (TFds.out.on b12)
        replace PX := hid (PX.out.on b12)
        replace B := bb B b12
        have TXd2 := hid o12.1.txs.weak
        have TFd2 := hid o12.1.txs
        have SZd2 := hid o12.2
        have T12 := hid t12
        clear b12 t12 o12
        obtain ⟨rfl, ed⟩ := T12.out.badq GP.out BQ.out
        have ED := hid ed
        clear ed T12
        go_wp2_with fail
        refine (perr_any k12 w12 (HDR.out.below B.out)).mono ?_
        rintro e w13 ⟨rfl, b13⟩
        replace TXp := hid (TXp.out.on b13)
        replace TXq := hid (TXq.out.on b13)
        replace TXd2 := hid (TXd2.out.on b13)
        replace TFds := hid (TFds.out.on b13)
        replace TFd2 := hid (TFd2.out.on b13)
        replace PX := hid (PX.out.on b13)
        replace B := bb B b13
        clear b13
        have HSA := same_texts TFd2.out TFds.out
        rw [decide_eq_true (ED.out)] at HSA
        have HSA := hid HSA
        go_wp2_with fail
        refine (HSA.out).mono ?_
        rintro e w14 ⟨rfl, b14⟩
        replace TXp := hid (TXp.out.on b14)
        replace TXq := hid (TXq.out.on b14)
        replace TXd2 := hid (TXd2.out.on b14)
        replace TFds := hid (TFds.out.on b14)
        replace TFd2 := hid (TFd2.out.on b14)
        replace PX := hid (PX.out.on b14)
        replace B := bb B b14
        clear b14 HSA
        go_wp2_with fail
        go_ret
        exact ⟨rfl, B.out⟩
    · have hlx0 : ¬ ((rdp p).length : Int) = 0 := fun h => hx0 (List.length_eq_zero_iff.1 (by omega))
      have hlx1 : (0 : Int) < ((rdp p).length : Int) := by omega
      have hlx2 : 0 < (rdp p).length := by omega
      have HX0 := hid hx0
      clear hx0
      go_wp2_with fail
      refine (rfree_p PX.out GP.out.trm GP.out.cml GP.out.len HX0.out).mono ?_
      rintro e w5 ⟨y5, rfl, h5, b5⟩
      replace TXp := hid (TXp.out.on b5)
      replace TXq := hid (TXq.out.on b5)
      replace TFms := hid (TFms.out.on b5)
      replace PX := hid (PX.out.on b5)
      replace B := bb B b5
      have HV := hid h5
      clear b5 h5
      go_wp2_with fail
      refine (rtexts HV.out HFR.out.1.sml (by decide) (by have := HFR.out.2; omega)).mono ?_
      rintro e w6 ⟨z6, rfl, o6, b6⟩
      replace TXp := hid (TXp.out.on b6)
      replace TXq := hid (TXq.out.on b6)
      replace TFms := hid (TFms.out.on b6)
      replace PX := hid (PX.out.on b6)
      replace B := bb B b6
      have TFfs := hid o6.txs
      clear b6 o6 HV
      clear hlx0 hlx1 hlx2
      go_wp2_with fail
      refine (monic_any TXp.out SZp.out).mono ?_
      rintro e w7 ⟨r7, m2, k7, rfl, o7, t7, b7⟩
      replace TXp := hid (TXp.out.on b7)
      replace TXq := hid (TXq.out.on b7)
      replace TFms := hid (TFms.out.on b7)
      replace TFfs := hid (TFfs.out.on b7)
      replace PX := hid (PX.out.on b7)
      replace B := bb B b7
      have TXm2 := hid o7.1.txs.weak
      have TFm2 := hid o7.1.txs
      have SZm2 := hid o7.2
      have T7 := hid t7
      clear b7 t7 o7
      obtain ⟨rfl, em⟩ := T7.out.yes GP.out
      have EM := hid em
      clear em T7
      go_wp2_with fail
      refine (perr_any 0 w7 (HDR.out.below B.out)).mono ?_
      rintro e w8 ⟨rfl, b8⟩
      replace TXp := hid (TXp.out.on b8)
      replace TXq := hid (TXq.out.on b8)
      replace TXm2 := hid (TXm2.out.on b8)
      replace TFms := hid (TFms.out.on b8)
      replace TFfs := hid (TFfs.out.on b8)
      replace TFm2 := hid (TFm2.out.on b8)
      replace PX := hid (PX.out.on b8)
      replace B := bb B b8
      clear b8
      have HSA := same_texts TFm2.out TFms.out
      rw [decide_eq_true (EM.out)] at HSA
      have HSA := hid HSA
      go_wp2_with fail
      refine (HSA.out).mono ?_
      rintro e w9 ⟨rfl, b9⟩
      replace TXp := hid (TXp.out.on b9)
      replace TXq := hid (TXq.out.on b9)
      replace TXm2 := hid (TXm2.out.on b9)
      replace TFms := hid (TFms.out.on b9)
      replace TFfs := hid (TFfs.out.on b9)
      replace TFm2 := hid (TFm2.out.on b9)
      replace PX := hid (PX.out.on b9)
      replace B := bb B b9
      clear b9 HSA
      clear TFm2 TXm2 SZm2 TFms
      go_wp2_with fail
      refine (free_any TXp.out SZp.out).mono ?_
      rintro e w10 ⟨r10, f2, k10, rfl, o10, t10, b10⟩
      replace TXp := hid (TXp.out.on b10)
      replace TXq := hid (TXq.out.on b10)
      replace TFfs := hid (TFfs.out.on b10)
      replace PX := hid (PX.out.on b10)
      replace B := bb B b10
      have TXf2 := hid o10.1.txs.weak
      have TFf2 := hid o10.1.txs
      have SZf2 := hid o10.2
      have T10 := hid t10
      clear b10 t10 o10
      obtain ⟨rfl, ef⟩ := T10.out.yes GP.out
      have EF := hid (ef)
      clear ef T10
      go_wp2_with fail
      refine (perr_any 0 w10 (HDR.out.below B.out)).mono ?_
      rintro e w11 ⟨rfl, b11⟩
      replace TXp := hid (TXp.out.on b11)
      replace TXq := hid (TXq.out.on b11)
      replace TXf2 := hid (TXf2.out.on b11)
      replace TFfs := hid (TFfs.out.on b11)
      replace TFf2 := hid (TFf2.out.on b11)
      replace PX := hid (PX.out.on b11)
      replace B := bb B b11
      clear b11
      have HSA := same_texts TFf2.out TFfs.out
      rw [decide_eq_true (EF.out)] at HSA
      have HSA := hid HSA
      go_wp2_with fail
      refine (HSA.out).mono ?_
      rintro e w12 ⟨rfl, b12⟩
      replace TXp := hid (TXp.out.on b12)
      replace TXq := hid (TXq.out.on b12)
      replace TXf2 := hid (TXf2.out.on b12)
      replace TFfs := hid (TFfs.out.on b12)
      replace TFf2 := hid (TFf2.out.on b12)
      replace PX := hid (PX.out.on b12)
      replace B := bb B b12
      clear b12 HSA
      clear TFf2 TXf2 SZf2 TFfs
      go_wp2_with fail
      refine (ppolyof TXq.out SZq.out).mono ?_
      rintro e w13 ⟨yv, g, rfl, t13, x13, b13⟩
      replace TXp := hid (TXp.out.on b13)
      replace TXq := hid (TXq.out.on b13)
      replace PX := hid (PX.out.on b13)
      replace B := bb B b13
      have CQ := hid t13
      have HY := hid x13
      clear b13 t13 x13
      go_wp2_with fail
      refine (two2_zero g w13).mono ?_
      rintro e' w' ⟨rfl, rfl⟩
      by_cases hg : g = 0
      · have GQ := hid (CQ.out.good hg)
        have PY := hid (HY.out hg)
        subst hg
        clear CQ HY
        have HG := hid (cml_gcdp2 GP.out.trm GQ.out.trm GP.out.cml GQ.out.cml GP.out.len GQ.out.len)
        go_wp2_with fail
        refine (rgcd_p PX.out PY.out (rst_two GP.out GQ.out) (.inl ⟨rfl, by decide⟩)).mono ?_
        rintro e w14 ⟨y14, rfl, h14, b14⟩
        replace TXp := hid (TXp.out.on b14)
        replace TXq := hid (TXq.out.on b14)
        replace PX := hid (PX.out.on b14)
        replace PY := hid (PY.out.on b14)
        replace B := bb B b14
        have HV := hid h14
        clear b14 h14
        go_wp2_with fail
        refine (rtexts HV.out HG.out.1.sml (by decide) (by have := HG.out.2; omega)).mono ?_
        rintro e w15 ⟨z15, rfl, o15, b15⟩
        replace TXp := hid (TXp.out.on b15)
        replace TXq := hid (TXq.out.on b15)
        replace PX := hid (PX.out.on b15)
        replace PY := hid (PY.out.on b15)
        replace B := bb B b15
        have TFds := hid o15.txs
        clear b15 o15 HV
        go_wp2_with fail
        refine (gcd_any TXp.out TXq.out SZp.out SZq.out).mono ?_
        rintro e w16 ⟨r16, d2, k16, rfl, o16, t16, b16⟩
        replace TXp := hid (TXp.out.on b16)
        replace TXq := hid (TXq.out.on b16)
        replace TFds := hid (TFds.out.on b16)
        replace PX := hid (PX.out.on b16)
        replace PY := hid (PY.out.on b16)
        replace B := bb B b16
        have TXd2 := hid o16.1.txs.weak
        have TFd2 := hid o16.1.txs
        have SZd2 := hid o16.2
        have T16 := hid t16
        clear b16 t16 o16
        obtain ⟨rfl, ed⟩ := T16.out.yes GP.out GQ.out
        have ED := hid ed
        clear ed T16
        go_wp2_with fail
        refine (perr_any 0 w16 (HDR.out.below B.out)).mono ?_
        rintro e w17 ⟨rfl, b17⟩
        replace TXp := hid (TXp.out.on b17)
        replace TXq := hid (TXq.out.on b17)
        replace TXd2 := hid (TXd2.out.on b17)
        replace TFds := hid (TFds.out.on b17)
        replace TFd2 := hid (TFd2.out.on b17)
        replace PX := hid (PX.out.on b17)
        replace PY := hid (PY.out.on b17)
        replace B := bb B b17
        clear b17
        have HSA := same_texts TFd2.out TFds.out
        rw [decide_eq_true (ED.out)] at HSA
        have HSA := hid HSA
        go_wp2_with fail
        refine (HSA.out).mono ?_
        rintro e w18 ⟨rfl, b18⟩
        replace TXp := hid (TXp.out.on b18)
        replace TXq := hid (TXq.out.on b18)
        replace TXd2 := hid (TXd2.out.on b18)
        replace TFds := hid (TFds.out.on b18)
        replace TFd2 := hid (TFd2.out.on b18)
        replace PX := hid (PX.out.on b18)
        replace PY := hid (PY.out.on b18)
        replace B := bb B b18
        clear b18 HSA
        go_wp2_with fail
        go_ret
        exact ⟨rfl, B.out⟩
      · have BQ := hid (CQ.out.no hg)
        have hg0 : (g == 0) = false := by simpa using hg
        clear CQ HY
        have TFds := hid (Txs.nil w13)
        go_wp2_with fail
        refine (gcd_any TXp.out TXq.out SZp.out SZq.out).mono ?_
        rintro e w14 ⟨r14, d2, k14, rfl, o14, t14, b14⟩
        replace TXp := hid (TXp.out.on b14)
        replace TXq := hid (TXq.out.on b14)
        replace TFds := hid (TFds.out.on b14)
        replace PX := hid (PX.out.on b14)
        replace B := bb B b14
        have TXd2 := hid o14.1.txs.weak
        have TFd2 := hid o14.1.txs
        have SZd2 := hid o14.2
        have T14 := hid t14
        clear b14 t14 o14
        obtain ⟨rfl, ed⟩ := T14.out.badq GP.out BQ.out
        have ED := hid ed
        clear ed T14
        go_wp2_with fail
        refine (perr_any k14 w14 (HDR.out.below B.out)).mono ?_
        rintro e w15 ⟨rfl, b15⟩
        replace TXp := hid (TXp.out.on b15)
        replace TXq := hid (TXq.out.on b15)
        replace TXd2 := hid (TXd2.out.on b15)
        replace TFds := hid (TFds.out.on b15)
        replace TFd2 := hid (TFd2.out.on b15)
        replace PX := hid (PX.out.on b15)
        replace B := bb B b15
        clear b15
        have HSA := same_texts TFd2.out TFds.out
        rw [decide_eq_true (ED.out)] at HSA
        have HSA := hid HSA
        go_wp2_with fail
        refine (HSA.out).mono ?_
        rintro e w16 ⟨rfl, b16⟩
        replace TXp := hid (TXp.out.on b16)
        replace TXq := hid (TXq.out.on b16)
        replace TXd2 := hid (TXd2.out.on b16)
        replace TFds := hid (TFds.out.on b16)
        replace TFd2 := hid (TFd2.out.on b16)
        replace PX := hid (PX.out.on b16)
        replace B := bb B b16
        clear b16 HSA
        go_wp2_with fail
        go_ret
        exact ⟨rfl, B.out⟩
  · have BP := hid (CP.out.no h0)
    have he0 : (e == 0) = false := by simpa using h0
    have HE := hid h0
    clear CP HX
    have TFms := hid (Txs.nil w2)
    have TFfs := hid (Txs.nil w2)
    have TFds := hid (Txs.nil w2)
    go_wp2_with fail
    refine (monic_any TXp.out SZp.out).mono ?_
    rintro e w3 ⟨r3, m2, k3, rfl, o3, t3, b3⟩
    replace TXp := hid (TXp.out.on b3)
    replace TXq := hid (TXq.out.on b3)
    replace TFms := hid (TFms.out.on b3)
    replace TFfs := hid (TFfs.out.on b3)
    replace TFds := hid (TFds.out.on b3)
    replace B := bb B b3
    have TXm2 := hid o3.1.txs.weak
    have TFm2 := hid o3.1.txs
    have SZm2 := hid o3.2
    have T3 := hid t3
    clear b3 t3 o3
    obtain ⟨rfl, em⟩ := T3.out.badp BP.out
    have EM := hid em
    clear em T3
    go_wp2_with fail
    refine (perr_any k3 w3 (HDR.out.below B.out)).mono ?_
    rintro e w4 ⟨rfl, b4⟩
    replace TXp := hid (TXp.out.on b4)
    replace TXq := hid (TXq.out.on b4)
    replace TXm2 := hid (TXm2.out.on b4)
    replace TFms := hid (TFms.out.on b4)
    replace TFfs := hid (TFfs.out.on b4)
    replace TFds := hid (TFds.out.on b4)
    replace TFm2 := hid (TFm2.out.on b4)
    replace B := bb B b4
    clear b4
    have HSA := same_texts TFm2.out TFms.out
    rw [decide_eq_true (EM.out)] at HSA
    have HSA := hid HSA
    go_wp2_with fail
    refine (HSA.out).mono ?_
    rintro e w5 ⟨rfl, b5⟩
    replace TXp := hid (TXp.out.on b5)
    replace TXq := hid (TXq.out.on b5)
    replace TXm2 := hid (TXm2.out.on b5)
    replace TFms := hid (TFms.out.on b5)
    replace TFfs := hid (TFfs.out.on b5)
    replace TFds := hid (TFds.out.on b5)
    replace TFm2 := hid (TFm2.out.on b5)
    replace B := bb B b5
    clear b5 HSA
    clear TFm2 TXm2 SZm2 TFms
    go_wp2_with fail
    refine (free_any TXp.out SZp.out).mono ?_
    rintro e w6 ⟨r6, f2, k6, rfl, o6, t6, b6⟩
    replace TXp := hid (TXp.out.on b6)
    replace TXq := hid (TXq.out.on b6)
    replace TFfs := hid (TFfs.out.on b6)
    replace TFds := hid (TFds.out.on b6)
    replace B := bb B b6
    have TXf2 := hid o6.1.txs.weak
    have TFf2 := hid o6.1.txs
    have SZf2 := hid o6.2
    have T6 := hid t6
    clear b6 t6 o6
    obtain ⟨ek, ef⟩ := T6.out.badp BP.out
    subst ek
    have EF := hid ef
    clear ef T6
    go_wp2_with fail
    refine (perr_any k6 w6 (HDR.out.below B.out)).mono ?_
    rintro e w7 ⟨rfl, b7⟩
    replace TXp := hid (TXp.out.on b7)
    replace TXq := hid (TXq.out.on b7)
    replace TXf2 := hid (TXf2.out.on b7)
    replace TFfs := hid (TFfs.out.on b7)
    replace TFds := hid (TFds.out.on b7)
    replace TFf2 := hid (TFf2.out.on b7)
    replace B := bb B b7
    clear b7
    have HSA := same_texts TFf2.out TFfs.out
    rw [decide_eq_true (EF.out)] at HSA
    have HSA := hid HSA
    go_wp2_with fail
    refine (HSA.out).mono ?_
    rintro e w8 ⟨rfl, b8⟩
    replace TXp := hid (TXp.out.on b8)
    replace TXq := hid (TXq.out.on b8)
    replace TXf2 := hid (TXf2.out.on b8)
    replace TFfs := hid (TFfs.out.on b8)
    replace TFds := hid (TFds.out.on b8)
    replace TFf2 := hid (TFf2.out.on b8)
    replace B := bb B b8
    clear b8 HSA
    clear TFf2 TXf2 SZf2 TFfs
    go_wp2_with fail
    refine (ppolyof TXq.out SZq.out).mono ?_
    rintro e w9 ⟨yv, g, rfl, t9, x9, b9⟩
    replace TXp := hid (TXp.out.on b9)
    replace TXq := hid (TXq.out.on b9)
    replace TFds := hid (TFds.out.on b9)
    replace B := bb B b9
    clear b9 t9 x9
    go_wp2_with fail
    refine (two2_some _ g HE.out w9).mono ?_
    rintro e' w' ⟨rfl, rfl⟩
    go_wp2_with fail
    refine (gcd_any TXp.out TXq.out SZp.out SZq.out).mono ?_
    rintro e w10 ⟨r10, d2, k10, rfl, o10, t10, b10⟩
    replace TXp := hid (TXp.out.on b10)
    replace TXq := hid (TXq.out.on b10)
    replace TFds := hid (TFds.out.on b10)
    replace B := bb B b10
    have TXd2 := hid o10.1.txs.weak
    have TFd2 := hid o10.1.txs
    have SZd2 := hid o10.2
    have T10 := hid t10
    clear b10 t10 o10
    obtain ⟨ek, ed⟩ := T10.out.badp BP.out
    subst ek
    have ED := hid ed
    clear ed T10
    go_wp2_with fail
    refine (perr_any k10 w10 (HDR.out.below B.out)).mono ?_
    rintro e w11 ⟨rfl, b11⟩
    replace TXp := hid (TXp.out.on b11)
    replace TXq := hid (TXq.out.on b11)
    replace TXd2 := hid (TXd2.out.on b11)
    replace TFds := hid (TFds.out.on b11)
    replace TFd2 := hid (TFd2.out.on b11)
    replace B := bb B b11
    clear b11
    have HSA := same_texts TFd2.out TFds.out
    rw [decide_eq_true (ED.out)] at HSA
    have HSA := hid HSA
    go_wp2_with fail
    refine (HSA.out).mono ?_
    rintro e w12 ⟨rfl, b12⟩
    replace TXp := hid (TXp.out.on b12)
    replace TXq := hid (TXq.out.on b12)
    replace TXd2 := hid (TXd2.out.on b12)
    replace TFds := hid (TFds.out.on b12)
    replace TFd2 := hid (TFd2.out.on b12)
    replace B := bb B b12
    clear b12 HSA
    go_wp2_with fail
    go_ret
    exact ⟨rfl, B.out⟩

end Go.Proofs.YtdifiimaifmcpaaGreatDoor
