import Derived.Test.YtmabolifokhlnaaGreatDoorBunProofPolyTells26
import Derived.Test.YtmabolifokhlnaaGreatDoorBunProofPolyTells22
import Derived.Test.YtmabolifokhlnaaGreatDoorBunProofPolyTells24
import Derived.Test.YtmabolifokhlnaaGreatDoorBunProofPolyTells25
import Derived.Test.YtmabolifokhlnaaGreatDoorBunProofPolyTells21
import Derived.Deep.DeepCutAuto
/-
  THE LAW PolyTells' WALK.
-/
namespace Go.Proofs.YtmabolifokhlnaaGreatDoor
open Go.RowKit
open Num
set_option linter.unusedVariables false
set_option maxRecDepth 100000
set_option linter.unusedSimpArgs false

set_option maxHeartbeats 32000000 in
theorem ptells_walk {w : World} {v_ u_ : Value} {p q : List ByteArray} {a : ByteArray} (hp : TxsW w v_ p) (hq : TxsW w u_ q) (sp : Szs p) (sq : Szs q) (za : a.size ≤ maxLen) (hd : Door w) :
    Calls Tryz.prog 3 #[v_, u_, .string a] w fun e w' => e = .returned (.bool true) ∧ Below w.heap.size w w' := by
  have HDR := hid hd
  clear hd
  have hne := errv_neq
  have heq := errv_eql
  have hgd := errv_guard
  have TXp := hid hp
  have SZp := hid sp
  have TXq := hid hq
  have SZq := hid sq
  have B := hid (Below.refl w.heap.size w)
  clear hp sp hq sq
  go_enter Tryz.func3, Tryz.ntmps3
  go_wp2_with fail
  refine (squared_true _).mono ?_
  rintro e w1 ⟨rfl, b1⟩
  replace TXp := hid (TXp.out.on b1)
  replace TXq := hid (TXq.out.on b1)
  replace B := bb B b1
  clear b1
  go_wp2_with fail
  refine (ppolyof TXp.out SZp.out).mono ?_
  rintro e w2 ⟨xv, e, rfl, t2, x2, b2⟩
  replace TXp := hid (TXp.out.on b2)
  replace TXq := hid (TXq.out.on b2)
  replace B := bb B b2
  have CP := hid t2
  have HX := hid x2
  clear b2 t2 x2
  go_wp2_with fail
  refine (pcheck_any TXp.out SZp.out).mono ?_
  rintro e w3 ⟨k3, rfl, t3, b3⟩
  replace TXp := hid (TXp.out.on b3)
  replace TXq := hid (TXq.out.on b3)
  replace HX := hid (fun h => (HX.out h).on b3)
  replace B := bb B b3
  have T3 := hid t3
  clear b3 t3
  obtain rfl := CP.out.det T3.out
  clear T3
  go_wp2_with fail
  refine (perr_any e w3 (HDR.out.below B.out)).mono ?_
  rintro e w4 ⟨rfl, b4⟩
  replace TXp := hid (TXp.out.on b4)
  replace TXq := hid (TXq.out.on b4)
  replace HX := hid (fun h => (HX.out h).on b4)
  replace B := bb B b4
  clear b4
  go_wp2_with fail
  refine (pratof za w4).mono ?_
  rintro e w5 ⟨s1, p1, n1, c1, p2, n2, c2, f0, rfl, t5, x5, b5⟩
  replace TXp := hid (TXp.out.on b5)
  replace TXq := hid (TXq.out.on b5)
  replace HX := hid (fun h => (HX.out h).on b5)
  replace B := bb B b5
  have CA := hid t5
  have HN := hid x5
  clear b5 t5 x5
  obtain ⟨hbm, hxm, _⟩ := Qbx.made w5 s1 p1 n1 c1 p2 n2 c2
  replace TXp := hid (TXp.out.on hbm)
  replace TXq := hid (TXq.out.on hbm)
  replace HX := hid (fun h => (HX.out h).on hbm)
  replace HN := hid (fun h => (HN.out h).on hbm)
  replace B := bb B hbm
  have XN := hid hxm
  clear hbm hxm
  have cn := XN.out.cells
  go_wp2_with fail
  generalize hW : w5.alloc (.cells #[.bool s1, .slice p1 n1 c1, .slice p2 n2 c2] 37) = W at *
  clear hW cn
  generalize w5.heap.size = gn at *
  refine (ptwo_x CP.out CA.out W).mono ?_
  rintro e' w' ⟨f, rfl, t, z, rfl⟩
  have CX := hid t
  have ZX := hid z
  clear t z
  go_upto_if 60 with fail
  go_cut [14] (fun s14 wx => ∃ ds, Hid (PDerivs p ds e) ∧ Hid (Txs wx s14 ds) ∧ Hid (Below W.heap.size W wx))
  case first =>
    clear TXp TXq SZp SZq XN HN HDR CX ZX B
    by_cases h0 : e = 0
    · have GP := hid (CP.out.good h0)
      have PX := hid (HX.out h0)
      subst h0
      clear CP HX
      have SL := hid (slope_small GP.out)
      go_wp2_with fail
      refine (rslope_p PX.out GP.out.sml (by decide) (by have := rdp_nine GP.out; omega)).mono ?_
      rintro e1 v1 ⟨y, rfl, hy, hb⟩
      have HY := hid hy
      have B := hid hb
      clear hy hb
      go_wp2_with fail
      refine (rtexts HY.out SL.out.1 (by decide) SL.out.2).mono ?_
      rintro e1 v2 ⟨z, rfl, hz, hb⟩
      have HZ := hid hz
      replace B := bb B hb
      clear hz hb
      go_wp2_with fail
      go_meet
      exact ⟨_, hid (.inl ⟨rfl, GP.out, rfl⟩), hid HZ.out.txs, B⟩
    · have he0 : (e == 0) = false := by simpa using h0
      go_wp2_with fail
      go_meet
      exact ⟨[], hid (CP.out.bad h0), hid (Txs.nil _), hid (Below.refl _ _)⟩
  case rest =>
    obtain ⟨ds, TD, TFds, hb⟩ := hcut
    replace TXp := hid (TXp.out.on hb.out)
    replace TXq := hid (TXq.out.on hb.out)
    replace HX := hid (fun h => (HX.out h).on hb.out)
    replace HN := hid (fun h => (HN.out h).on hb.out)
    replace XN := qx XN hb.out
    replace B := bb B hb.out
    clear hb
    go_upto_if 65 with fail
    go_cut [13, 15] (fun s13 s15 wy => ∃ vs ms, s13 = .string vs ∧ Hid (PEvals p a vs f) ∧ Hid (PShifts p a ms f) ∧ Hid (Txs wy s15 ms) ∧ Hid (Below wc.heap.size wc wy))
    case first =>
      clear TXp TXq SZp SZq HDR TFds TD B
      by_cases h0 : f = 0
      · obtain ⟨he, hf⟩ := ZX.out h0
        obtain ⟨gp, ga⟩ := CX.out.good h0
        have GP := hid gp
        have GA := hid ga
        have PX := hid (HX.out he)
        have PN := hid (HN.out hf)
        subst h0
        clear CP HX CA HN ZX CX he hf gp ga
        have SM := hid (moved_small GP.out GA.out)
        have SV := hid (value_small GP.out GA.out)
        have cn := XN.out.cells
        go_wp2_with fail
        refine (rvalue_p PX.out PN.out GP.out.sml (Sm.good GA.out) (rdp_nine GP.out)).mono ?_
        rintro e1 v1 ⟨y, rfl, hy, hb⟩
        have HY := hid hy
        replace PX := hid (PX.out.on hb)
        replace PN := hid (PN.out.on hb)
        replace XN := qx XN hb
        have B := hid hb
        clear hy hb cn
        go_wp2_with fail
        refine (rtext_f HY.out SV.out (by decide)).mono ?_
        rintro e1 v2 ⟨rfl, hb⟩
        replace PX := hid (PX.out.on hb)
        replace PN := hid (PN.out.on hb)
        replace XN := qx XN hb
        replace B := bb B hb
        clear hb HY
        have cn := XN.out.cells
        go_wp2_with fail
        refine (rmoved_p PX.out PN.out GP.out.sml (Sm.good GA.out) (rdp_nine GP.out)).mono ?_
        rintro e1 v3 ⟨y, rfl, hy, hb⟩
        have HY := hid hy
        replace B := bb B hb
        clear hy hb cn
        go_wp2_with fail
        refine (rtexts HY.out SM.out.1 (by decide) SM.out.2).mono ?_
        rintro e1 v4 ⟨z, rfl, hz, hb⟩
        have HZ := hid hz
        replace B := bb B hb
        clear hz hb
        go_wp2_with fail
        go_meet
        exact ⟨_, _, rfl, hid (.inl ⟨rfl, GP.out, GA.out, rfl⟩), hid (.inl ⟨rfl, GP.out, GA.out, rfl⟩), hid HZ.out.txs, B⟩
      · have hf0 : (f == 0) = false := by simpa using h0
        go_wp2_with fail
        go_meet
        exact ⟨_, [], rfl, hid (.inr ⟨h0, CX.out.bad h0, rfl⟩), hid (.inr ⟨h0, CX.out.bad h0, rfl⟩), hid (Txs.nil _), hid (Below.refl _ _)⟩
    case rest =>
      obtain ⟨vs, ms, rfl, TE, TS, TFms, hb⟩ := hcut
      replace TXp := hid (TXp.out.on hb.out)
      replace TXq := hid (TXq.out.on hb.out)
      replace TFds := hid (TFds.out.on hb.out)
      replace HX := hid (fun h => (HX.out h).on hb.out)
      replace HN := hid (fun h => (HN.out h).on hb.out)
      replace XN := qx XN hb.out
      replace B := bb B hb.out
      clear hb
      clear XN HN CA CX ZX
      go_wp2_with fail
      refine (pevals_any TXp.out SZp.out za).mono ?_
      rintro e w6 ⟨s2, k6, rfl, t6, zs2, b6⟩
      replace TXp := hid (TXp.out.on b6)
      replace TXq := hid (TXq.out.on b6)
      replace TFds := hid (TFds.out.on b6)
      replace TFms := hid (TFms.out.on b6)
      replace HX := hid (fun h => (HX.out h).on b6)
      replace B := bb B b6
      have T6 := hid t6
      clear b6 t6
      obtain ⟨rfl, rfl⟩ := TE.out.det T6.out
      clear TE T6 zs2
      go_wp2_with fail
      refine (perr_any f w6 (HDR.out.below B.out)).mono ?_
      rintro e w7 ⟨rfl, b7⟩
      replace TXp := hid (TXp.out.on b7)
      replace TXq := hid (TXq.out.on b7)
      replace TFds := hid (TFds.out.on b7)
      replace TFms := hid (TFms.out.on b7)
      replace HX := hid (fun h => (HX.out h).on b7)
      replace B := bb B b7
      clear b7
      go_wp2_with fail
      refine (pderivs_any TXp.out SZp.out).mono ?_
      rintro e w8 ⟨r8, d2, k8, rfl, o8, t8, b8⟩
      replace TXp := hid (TXp.out.on b8)
      replace TXq := hid (TXq.out.on b8)
      replace TFds := hid (TFds.out.on b8)
      replace TFms := hid (TFms.out.on b8)
      replace HX := hid (fun h => (HX.out h).on b8)
      replace B := bb B b8
      have TXd2 := hid o8.1.txs.weak
      have TFd2 := hid o8.1.txs
      have SZd2 := hid o8.2
      have T8 := hid t8
      clear b8 t8 o8
      obtain ⟨rfl, rfl⟩ := TD.out.det T8.out
      clear TD T8
      go_wp2_with fail
      refine (perr_any e w8 (HDR.out.below B.out)).mono ?_
      rintro e w9 ⟨rfl, b9⟩
      replace TXp := hid (TXp.out.on b9)
      replace TXq := hid (TXq.out.on b9)
      replace TXd2 := hid (TXd2.out.on b9)
      replace TFds := hid (TFds.out.on b9)
      replace TFms := hid (TFms.out.on b9)
      replace TFd2 := hid (TFd2.out.on b9)
      replace HX := hid (fun h => (HX.out h).on b9)
      replace B := bb B b9
      clear b9
      have HSA := same_texts TFd2.out TFds.out
      rw [decide_eq_true (rfl)] at HSA
      have HSA := hid HSA
      go_wp2_with fail
      refine (HSA.out).mono ?_
      rintro e w10 ⟨rfl, b10⟩
      replace TXp := hid (TXp.out.on b10)
      replace TXq := hid (TXq.out.on b10)
      replace TXd2 := hid (TXd2.out.on b10)
      replace TFds := hid (TFds.out.on b10)
      replace TFms := hid (TFms.out.on b10)
      replace TFd2 := hid (TFd2.out.on b10)
      replace HX := hid (fun h => (HX.out h).on b10)
      replace B := bb B b10
      clear b10 HSA
      clear TFd2 TXd2 SZd2 TFds
      go_wp2_with fail
      refine (pshifts_any TXp.out SZp.out za).mono ?_
      rintro e w11 ⟨r11, m2, k11, rfl, o11, t11, b11⟩
      replace TXp := hid (TXp.out.on b11)
      replace TXq := hid (TXq.out.on b11)
      replace TFms := hid (TFms.out.on b11)
      replace HX := hid (fun h => (HX.out h).on b11)
      replace B := bb B b11
      have TXm2 := hid o11.1.txs.weak
      have TFm2 := hid o11.1.txs
      have SZm2 := hid o11.2
      have T11 := hid t11
      clear b11 t11 o11
      obtain ⟨rfl, rfl⟩ := TS.out.det T11.out
      clear TS T11
      go_wp2_with fail
      refine (perr_any f w11 (HDR.out.below B.out)).mono ?_
      rintro e w12 ⟨rfl, b12⟩
      replace TXp := hid (TXp.out.on b12)
      replace TXq := hid (TXq.out.on b12)
      replace TXm2 := hid (TXm2.out.on b12)
      replace TFms := hid (TFms.out.on b12)
      replace TFm2 := hid (TFm2.out.on b12)
      replace HX := hid (fun h => (HX.out h).on b12)
      replace B := bb B b12
      clear b12
      have HSA := same_texts TFm2.out TFms.out
      rw [decide_eq_true (rfl)] at HSA
      have HSA := hid HSA
      go_wp2_with fail
      refine (HSA.out).mono ?_
      rintro e w13 ⟨rfl, b13⟩
      replace TXp := hid (TXp.out.on b13)
      replace TXq := hid (TXq.out.on b13)
      replace TXm2 := hid (TXm2.out.on b13)
      replace TFms := hid (TFms.out.on b13)
      replace TFm2 := hid (TFm2.out.on b13)
      replace HX := hid (fun h => (HX.out h).on b13)
      replace B := bb B b13
      clear b13 HSA
      clear TFm2 TXm2 SZm2 TFms
      go_wp2_with fail
      refine (ppolyof TXq.out SZq.out).mono ?_
      rintro e w14 ⟨yv, g0, rfl, t14, x14, b14⟩
      replace TXp := hid (TXp.out.on b14)
      replace TXq := hid (TXq.out.on b14)
      replace HX := hid (fun h => (HX.out h).on b14)
      replace B := bb B b14
      have CQ := hid t14
      have HY := hid x14
      clear b14 t14 x14
      go_wp2_with fail
      refine (ptwo_b CP.out CQ.out w14).mono ?_
      rintro e' w' ⟨g, rfl, t, z, rfl⟩
      have CB := hid t
      have ZB := hid z
      clear t z
      go_upto_if 116 with fail
      go_cut [25, 27, 28, 29, 30, 31] (fun s25 s27 s28 s29 s30 s31 wy => ∃ aa mm ks rs h, s27 = .int .i64 h ∧ Hid (PTells addp p q aa g) ∧ Hid (PTells mulp p q mm g) ∧ Hid (RDivs p q ks rs h) ∧ Hid (Txs wy s28 aa) ∧ Hid (Txs wy s29 mm) ∧ Hid (Txs wy s30 ks) ∧ Hid (Txs wy s31 rs) ∧ Hid (Below w14.heap.size w14 wy))
      case first =>
        clear TXp TXq SZp SZq HDR B
        by_cases h0 : g = 0
        · obtain ⟨he, hf⟩ := ZB.out h0
          obtain ⟨gp, gq⟩ := CB.out.good h0
          have GP := hid gp
          have GQ := hid gq
          have PX := hid (HX.out he)
          have PY := hid (HY.out hf)
          subst h0
          clear CP HX CQ HY ZB CB he hf gp gq
          have SA := hid (addp_small GP.out GQ.out)
          have SM := hid (mulp_small GP.out GQ.out)
          go_wp2_with fail
          refine (radd_p PX.out PY.out GP.out.sml GQ.out.sml (by decide) (by have := rdp_nine GP.out; omega) (by have := rdp_nine GQ.out; omega)).mono ?_
          rintro e1 v1 ⟨y, rfl, hy, hb⟩
          have HV := hid hy
          replace PX := hid (PX.out.on hb)
          replace PY := hid (PY.out.on hb)
          have B := hid hb
          clear hy hb
          go_wp2_with fail
          refine (rtexts HV.out SA.out.1 (by decide) SA.out.2).mono ?_
          rintro e1 v2 ⟨z, rfl, hz, hb⟩
          have TA := hid hz.txs
          replace PX := hid (PX.out.on hb)
          replace PY := hid (PY.out.on hb)
          replace B := bb B hb
          clear hz hb HV SA
          go_wp2_with fail
          refine (rmul_p PX.out PY.out GP.out.sml GQ.out.sml (by decide) (by have := rdp_nine GP.out; omega) (by have := rdp_nine GQ.out; omega)).mono ?_
          rintro e1 v3 ⟨y, rfl, hy, hb⟩
          have HV := hid hy
          replace PX := hid (PX.out.on hb)
          replace PY := hid (PY.out.on hb)
          replace TA := hid (TA.out.on hb)
          replace B := bb B hb
          clear hy hb
          go_wp2_with fail
          refine (rtexts HV.out SM.out.1 (by decide) SM.out.2).mono ?_
          rintro e1 v4 ⟨z, rfl, hz, hb⟩
          have TM := hid hz.txs
          replace PX := hid (PX.out.on hb)
          replace PY := hid (PY.out.on hb)
          replace TA := hid (TA.out.on hb)
          replace B := bb B hb
          clear hz hb HV SM
          obtain ⟨py, cy, hyv, _, _⟩ := PY.out.opened
          subst hyv
          by_cases hq : rdp q = []
          · have hl : (rdp q).length = 0 := by rw [hq]; rfl
            rw [hl]
            go_wp2_with fail
            go_meet
            exact ⟨_, _, [], [], 5, rfl, hid (.inl ⟨rfl, GP.out, GQ.out, rfl⟩), hid (.inl ⟨rfl, GP.out, GQ.out, rfl⟩), hid (.inr (.inl ⟨rfl, GP.out, GQ.out, hq, rfl, rfl⟩)), TA, TM, hid (Txs.nil _), hid (Txs.nil _), B⟩
          · have hl : ¬ ((rdp q).length : Int) = 0 := fun h => hq (List.length_eq_zero_iff.1 (by omega))
            have HQ := hid hq
            clear hq
            go_wp2_with fail
            refine (rdiv_p PX.out PY.out GP.out.sml GQ.out.sml GP.out.2.2 GQ.out.2.2 HQ.out (rdp_nine GP.out) (rdp_nine GQ.out)).mono ?_
            rintro e1 v5 ⟨u1, u2, oo, cc, kk, rfl, hk, h1, h2, hd, hlt, hb⟩
            have H1 := hid h1
            have H2 := hid h2
            have HD := hid hd
            have HLT := hid hlt
            have SO := hid (show Sml oo 1000000 ∧ oo.length ≤ 1000 from ⟨hd.2.2.2.2.2.1.mono (dv_few kk hk).2, by have := hd.2.2.2.1; omega⟩)
            have SC := hid (show Sml cc 1000000 ∧ cc.length ≤ 1000 from ⟨hd.2.2.2.2.1.mono (by have := (dv_few kk hk).1; omega), by have := hd.2.2.1; omega⟩)
            replace TA := hid (TA.out.on hb)
            replace TM := hid (TM.out.on hb)
            replace B := bb B hb
            clear h1 h2 hd hlt hb hk PX PY
            go_wp2_with fail
            refine (rtexts H1.out SO.out.1 (by decide) SO.out.2).mono ?_
            rintro e1 v6 ⟨z, rfl, hz, hb⟩
            have TK := hid hz.txs
            replace H2 := hid (H2.out.on hb)
            replace TA := hid (TA.out.on hb)
            replace TM := hid (TM.out.on hb)
            replace B := bb B hb
            clear hz hb H1 SO
            go_wp2_with fail
            refine (rtexts H2.out SC.out.1 (by decide) SC.out.2).mono ?_
            rintro e1 v7 ⟨z, rfl, hz, hb⟩
            have TR := hid hz.txs
            replace TA := hid (TA.out.on hb)
            replace TM := hid (TM.out.on hb)
            replace TK := hid (TK.out.on hb)
            replace B := bb B hb
            clear hz hb H2 SC
            go_wp2_with fail
            go_meet
            exact ⟨_, _, _, _, 0, rfl, hid (.inl ⟨rfl, GP.out, GQ.out, rfl⟩), hid (.inl ⟨rfl, GP.out, GQ.out, rfl⟩), hid (.inl ⟨rfl, GP.out, GQ.out, HQ.out, oo, cc, HD.out.2.1, HD.out.1, HLT.out, HD.out.2.2.2.2.2.2, rfl, rfl⟩), TA, TM, TK, TR, B⟩
        · have hg0 : (g == 0) = false := by simpa using h0
          go_wp2_with fail
          go_meet
          exact ⟨[], [], [], [], g, rfl, hid (.inr ⟨h0, CB.out.bad h0, rfl⟩), hid (.inr ⟨h0, CB.out.bad h0, rfl⟩), hid (.inr (.inr ⟨h0, CB.out.bad h0, rfl, rfl⟩)), hid (Txs.nil _), hid (Txs.nil _), hid (Txs.nil _), hid (Txs.nil _), hid (Below.refl _ _)⟩
      case rest =>
        obtain ⟨aa, mm, ks, rs, h, rfl, TA, TM, TK, TFaa, TFmm, TFks, TFrs, hb⟩ := hcut
        replace TXp := hid (TXp.out.on hb.out)
        replace TXq := hid (TXq.out.on hb.out)
        replace HX := hid (fun h => (HX.out h).on hb.out)
        replace HY := hid (fun h => (HY.out h).on hb.out)
        replace B := bb B hb.out
        clear hb
        clear HX HY CQ CB ZB CP
        go_wp2_with fail
        refine (padds_any TXp.out TXq.out SZp.out SZq.out).mono ?_
        rintro e w15 ⟨r15, l1, k15, rfl, o15, t15, b15⟩
        replace TXp := hid (TXp.out.on b15)
        replace TXq := hid (TXq.out.on b15)
        replace TFaa := hid (TFaa.out.on b15)
        replace TFmm := hid (TFmm.out.on b15)
        replace TFks := hid (TFks.out.on b15)
        replace TFrs := hid (TFrs.out.on b15)
        replace B := bb B b15
        have TXl1 := hid o15.1.txs.weak
        have TFl1 := hid o15.1.txs
        have SZl1 := hid o15.2
        have T15 := hid t15
        clear b15 t15 o15
        obtain ⟨rfl, rfl⟩ := TA.out.det T15.out
        clear TA T15
        go_wp2_with fail
        refine (perr_any g w15 (HDR.out.below B.out)).mono ?_
        rintro e w16 ⟨rfl, b16⟩
        replace TXp := hid (TXp.out.on b16)
        replace TXq := hid (TXq.out.on b16)
        replace TXl1 := hid (TXl1.out.on b16)
        replace TFaa := hid (TFaa.out.on b16)
        replace TFmm := hid (TFmm.out.on b16)
        replace TFks := hid (TFks.out.on b16)
        replace TFrs := hid (TFrs.out.on b16)
        replace TFl1 := hid (TFl1.out.on b16)
        replace B := bb B b16
        clear b16
        have HSA := same_texts TFl1.out TFaa.out
        rw [decide_eq_true (rfl)] at HSA
        have HSA := hid HSA
        go_wp2_with fail
        refine (HSA.out).mono ?_
        rintro e w17 ⟨rfl, b17⟩
        replace TXp := hid (TXp.out.on b17)
        replace TXq := hid (TXq.out.on b17)
        replace TXl1 := hid (TXl1.out.on b17)
        replace TFaa := hid (TFaa.out.on b17)
        replace TFmm := hid (TFmm.out.on b17)
        replace TFks := hid (TFks.out.on b17)
        replace TFrs := hid (TFrs.out.on b17)
        replace TFl1 := hid (TFl1.out.on b17)
        replace B := bb B b17
        clear b17 HSA
        clear TFl1 TXl1 SZl1 TFaa
        go_wp2_with fail
        refine (pmuls_any TXp.out TXq.out SZp.out SZq.out).mono ?_
        rintro e w18 ⟨r18, l2, k18, rfl, o18, t18, b18⟩
        replace TXp := hid (TXp.out.on b18)
        replace TXq := hid (TXq.out.on b18)
        replace TFmm := hid (TFmm.out.on b18)
        replace TFks := hid (TFks.out.on b18)
        replace TFrs := hid (TFrs.out.on b18)
        replace B := bb B b18
        have TXl2 := hid o18.1.txs.weak
        have TFl2 := hid o18.1.txs
        have SZl2 := hid o18.2
        have T18 := hid t18
        clear b18 t18 o18
        obtain ⟨rfl, rfl⟩ := TM.out.det T18.out
        clear TM T18
        go_wp2_with fail
        refine (perr_any g w18 (HDR.out.below B.out)).mono ?_
        rintro e w19 ⟨rfl, b19⟩
        replace TXp := hid (TXp.out.on b19)
        replace TXq := hid (TXq.out.on b19)
        replace TXl2 := hid (TXl2.out.on b19)
        replace TFmm := hid (TFmm.out.on b19)
        replace TFks := hid (TFks.out.on b19)
        replace TFrs := hid (TFrs.out.on b19)
        replace TFl2 := hid (TFl2.out.on b19)
        replace B := bb B b19
        clear b19
        have HSA := same_texts TFl2.out TFmm.out
        rw [decide_eq_true (rfl)] at HSA
        have HSA := hid HSA
        go_wp2_with fail
        refine (HSA.out).mono ?_
        rintro e w20 ⟨rfl, b20⟩
        replace TXp := hid (TXp.out.on b20)
        replace TXq := hid (TXq.out.on b20)
        replace TXl2 := hid (TXl2.out.on b20)
        replace TFmm := hid (TFmm.out.on b20)
        replace TFks := hid (TFks.out.on b20)
        replace TFrs := hid (TFrs.out.on b20)
        replace TFl2 := hid (TFl2.out.on b20)
        replace B := bb B b20
        clear b20 HSA
        clear TFl2 TXl2 SZl2 TFmm
        go_wp2_with fail
        refine (pdivs_any TXp.out TXq.out SZp.out SZq.out).mono ?_
        rintro e w21 ⟨r21, r'21, l3, l4, k21, rfl, o21, o'21, t21, b21⟩
        replace TXp := hid (TXp.out.on b21)
        replace TXq := hid (TXq.out.on b21)
        replace TFks := hid (TFks.out.on b21)
        replace TFrs := hid (TFrs.out.on b21)
        replace B := bb B b21
        have TXl3 := hid o21.1.txs.weak
        have TFl3 := hid o21.1.txs
        have SZl3 := hid o21.2
        have TXl4 := hid o'21.1.txs.weak
        have TFl4 := hid o'21.1.txs
        have SZl4 := hid o'21.2
        have T21 := hid t21
        clear b21 t21 o21 o'21
        obtain ⟨rfl, rfl, rfl⟩ := TK.out.det T21.out
        clear TK T21
        go_wp2_with fail
        refine (perr_any h w21 (HDR.out.below B.out)).mono ?_
        rintro e w22 ⟨rfl, b22⟩
        replace TXp := hid (TXp.out.on b22)
        replace TXq := hid (TXq.out.on b22)
        replace TXl3 := hid (TXl3.out.on b22)
        replace TXl4 := hid (TXl4.out.on b22)
        replace TFks := hid (TFks.out.on b22)
        replace TFrs := hid (TFrs.out.on b22)
        replace TFl3 := hid (TFl3.out.on b22)
        replace TFl4 := hid (TFl4.out.on b22)
        replace B := bb B b22
        clear b22
        have HSA := same_texts TFl3.out TFks.out
        rw [decide_eq_true (rfl)] at HSA
        have HSA := hid HSA
        go_wp2_with fail
        refine (HSA.out).mono ?_
        rintro e w23 ⟨rfl, b23⟩
        replace TXp := hid (TXp.out.on b23)
        replace TXq := hid (TXq.out.on b23)
        replace TXl3 := hid (TXl3.out.on b23)
        replace TXl4 := hid (TXl4.out.on b23)
        replace TFks := hid (TFks.out.on b23)
        replace TFrs := hid (TFrs.out.on b23)
        replace TFl3 := hid (TFl3.out.on b23)
        replace TFl4 := hid (TFl4.out.on b23)
        replace B := bb B b23
        clear b23 HSA
        have HSA := same_texts TFl4.out TFrs.out
        rw [decide_eq_true (rfl)] at HSA
        have HSA := hid HSA
        go_wp2_with fail
        refine (HSA.out).mono ?_
        rintro e w24 ⟨rfl, b24⟩
        replace TXp := hid (TXp.out.on b24)
        replace TXq := hid (TXq.out.on b24)
        replace TXl3 := hid (TXl3.out.on b24)
        replace TXl4 := hid (TXl4.out.on b24)
        replace TFks := hid (TFks.out.on b24)
        replace TFrs := hid (TFrs.out.on b24)
        replace TFl3 := hid (TFl3.out.on b24)
        replace TFl4 := hid (TFl4.out.on b24)
        replace B := bb B b24
        clear b24 HSA
        clear TFl3 TXl3 SZl3 TFks TFl4 TXl4 SZl4 TFrs TXp TXq SZp SZq HDR
        have hav := ba_eq_self vs
        go_wp2_with fail
        go_ret
        exact ⟨rfl, B.out⟩

end Go.Proofs.YtmabolifokhlnaaGreatDoor
