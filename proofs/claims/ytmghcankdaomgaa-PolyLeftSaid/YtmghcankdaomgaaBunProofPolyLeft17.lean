import Derived.Test.YtmghcankdaomgaaBunProofPolyLeft16
import Derived.Test.YtmghcankdaomgaaBunProofPolyLeft4
import Derived.SliceStrings
import Derived.SizedLaws
import Derived.Carry
import Derived.ProofKit
import Derived.OpenShut
import Derived.ShutString
/-
  THE LAW PolyLeft.
-/
namespace Go.Proofs.Ytmghcankdaomgaa
open Go.RowKit
open Num
set_option linter.unusedVariables false
set_option maxRecDepth 100000
set_option linter.unusedSimpArgs false

set_option maxHeartbeats 8000000 in
theorem pleft_walk {w : World} {v_ u_ : Value} {p q : List ByteArray} {a : ByteArray} (hp : TxsW w v_ p) (hq : TxsW w u_ q) (sp : Szs p) (sq : Szs q) (za : a.size ≤ maxLen) :
    Calls Try.prog 4 #[v_, u_, .string a] w fun e w' => e = .returned (.bool true) ∧ Below w.heap.size w w' := by
  have h2_ := hq
  obtain ⟨pq, cq, rfl, hlq, hcq, _⟩ := h2_
  unfold maxLen at hcq
  have hne := errv_neq
  have heq := errv_eql
  have hgd := errv_guard
  have TXp := hid hp
  have SZp := hid sp
  have TXq := hid hq
  have SZq := hid sq
  have B := hid (Below.refl w.heap.size w)
  clear hp sp hq sq
  go_enter Try.func4, Try.ntmps4
  go_wp2_with fail
  refine (squared_true _).mono ?_
  rintro e w1 ⟨rfl, b1⟩
  replace TXp := hid (TXp.out.on b1)
  replace TXq := hid (TXq.out.on b1)
  replace B := bb B b1
  clear b1
  go_wp2_with fail
  refine (pdivs_any TXp.out TXq.out SZp.out SZq.out).mono ?_
  rintro e w2 ⟨r2, r'2, kl, rl, k2, rfl, o2, o'2, t2, b2⟩
  replace TXp := hid (TXp.out.on b2)
  replace TXq := hid (TXq.out.on b2)
  replace B := bb B b2
  have TXkl := hid o2.1.txs.weak
  have TFkl := hid o2.1.txs
  have SZkl := hid o2.2
  have TXrl := hid o'2.1.txs.weak
  have TFrl := hid o'2.1.txs
  have SZrl := hid o'2.2
  have T2 := hid t2
  clear b2 t2 o2 o'2
  by_cases hk2 : k2 = 0
  · obtain ⟨gp, gq, hq0, y, r, ty, tr, hl, hx, ek, er⟩ := T2.out.ok hk2
    have GP := hid gp
    have GQ := hid gq
    have EK := hid ek
    have ER := hid er
    have HX := hid hx
    have TRR := hid tr
    have HLT := hid (show rl.length < q.length by rw [er, List.length_map, ← rdp_len q]; exact hl)
    clear gp gq hq0 ty tr hl hx ek er
    subst hk2
    go_wp2_with fail
    refine (pmuls_any TXkl.out TXq.out SZkl.out SZq.out).mono ?_
    rintro e w3 ⟨r3, mm, k3, rfl, o3, t3, b3⟩
    replace TXp := hid (TXp.out.on b3)
    replace TXq := hid (TXq.out.on b3)
    replace TXkl := hid (TXkl.out.on b3)
    replace TXrl := hid (TXrl.out.on b3)
    replace TFkl := hid (TFkl.out.on b3)
    replace TFrl := hid (TFrl.out.on b3)
    replace B := bb B b3
    have TXmm := hid o3.1.txs.weak
    have TFmm := hid o3.1.txs
    have SZmm := hid o3.2
    have T3 := hid t3
    clear b3 t3 o3
    by_cases hk3 : k3 = 0
    · have EM := hid (T3.out.ok hk3).2.2
      subst hk3
      go_wp2_with fail
      refine (pcheck_any TXmm.out SZmm.out).mono ?_
      rintro e w4 ⟨k4, rfl, t4, b4⟩
      replace TXp := hid (TXp.out.on b4)
      replace TXq := hid (TXq.out.on b4)
      replace TXkl := hid (TXkl.out.on b4)
      replace TXrl := hid (TXrl.out.on b4)
      replace TXmm := hid (TXmm.out.on b4)
      replace TFkl := hid (TFkl.out.on b4)
      replace TFrl := hid (TFrl.out.on b4)
      replace TFmm := hid (TFmm.out.on b4)
      replace B := bb B b4
      have T4 := hid t4
      clear b4 t4
      by_cases hk4 : k4 = 0
      · have GM := hid (show GoodP mm by rcases T4.out with ⟨_, h⟩ | ⟨h, _⟩; exact h; exact absurd hk4 h)
        subst hk4
        go_wp2_with fail
        refine (pcheck_any TXrl.out SZrl.out).mono ?_
        rintro e w5 ⟨k5, rfl, t5, b5⟩
        replace TXp := hid (TXp.out.on b5)
        replace TXq := hid (TXq.out.on b5)
        replace TXkl := hid (TXkl.out.on b5)
        replace TXrl := hid (TXrl.out.on b5)
        replace TXmm := hid (TXmm.out.on b5)
        replace TFkl := hid (TFkl.out.on b5)
        replace TFrl := hid (TFrl.out.on b5)
        replace TFmm := hid (TFmm.out.on b5)
        replace B := bb B b5
        have T5 := hid t5
        clear b5 t5
        by_cases hk5 : k5 = 0
        · have GR := hid (show GoodP rl by rcases T5.out with ⟨_, h⟩ | ⟨h, _⟩; exact h; exact absurd hk5 h)
          subst hk5
          go_wp2_with fail
          refine (padds_any TXmm.out TXrl.out SZmm.out SZrl.out).mono ?_
          rintro e w6 ⟨r6, ss, k6, rfl, o6, t6, b6⟩
          replace TXp := hid (TXp.out.on b6)
          replace TXq := hid (TXq.out.on b6)
          replace TXkl := hid (TXkl.out.on b6)
          replace TXrl := hid (TXrl.out.on b6)
          replace TXmm := hid (TXmm.out.on b6)
          replace TFkl := hid (TFkl.out.on b6)
          replace TFrl := hid (TFrl.out.on b6)
          replace TFmm := hid (TFmm.out.on b6)
          replace B := bb B b6
          have TXss := hid o6.1.txs.weak
          have TFss := hid o6.1.txs
          have SZss := hid o6.2
          have T6 := hid t6
          clear b6 t6 o6
          obtain ⟨hk6, es⟩ := T6.out.yes GM.out GR.out
          have hsp : p = ss := (qtxt_rdp GP.out.2.1).symm.trans (by
            rw [es, EM.out, ER.out, EK.out, rdp_map, rdp_map, rdp_map]
            congr 1
            exact trm_pv GP.out.2.2 (trm_addp _ _) (fun x => by rw [HX.out x, pv_addp, pv_mulp]))
          clear es
          obtain rfl := hsp
          subst hk6
          go_wp2_with fail
          refine (same_w TFss.out TXp.out).mono ?_
          rintro e w7 ⟨rfl, b7⟩
          replace TXp := hid (TXp.out.on b7)
          replace TXq := hid (TXq.out.on b7)
          replace TXkl := hid (TXkl.out.on b7)
          replace TXrl := hid (TXrl.out.on b7)
          replace TXmm := hid (TXmm.out.on b7)
          replace TFkl := hid (TFkl.out.on b7)
          replace TFrl := hid (TFrl.out.on b7)
          replace TFmm := hid (TFmm.out.on b7)
          replace B := bb B b7
          clear b7
          go_wp2_with fail
          refine (qmul_any a ⟨#[45, 49]⟩ za (by decide) _).mono ?_
          rintro e w8 ⟨nn, k8, rfl, t8, znn, b8⟩
          replace TXp := hid (TXp.out.on b8)
          replace TXq := hid (TXq.out.on b8)
          replace TXkl := hid (TXkl.out.on b8)
          replace TXrl := hid (TXrl.out.on b8)
          replace TXmm := hid (TXmm.out.on b8)
          replace TFkl := hid (TFkl.out.on b8)
          replace TFrl := hid (TFrl.out.on b8)
          replace TFmm := hid (TFmm.out.on b8)
          replace B := bb B b8
          have T8 := hid t8
          clear b8 t8
          have tl := one_text (Nat.le_refl w8.heap.size) [nn, ⟨#[49]⟩] (by simp)
          have hbl := (Below.refl w8.heap.size w8).alloc (Nat.le_refl _) (.cells #[.string nn, .string ⟨#[49]⟩] 9)
          replace TXp := hid (TXp.out.on hbl)
          replace TXq := hid (TXq.out.on hbl)
          replace TXkl := hid (TXkl.out.on hbl)
          replace TXrl := hid (TXrl.out.on hbl)
          replace TXmm := hid (TXmm.out.on hbl)
          replace TFkl := hid (TFkl.out.on hbl)
          replace TFrl := hid (TFrl.out.on hbl)
          replace TFmm := hid (TFmm.out.on hbl)
          have TXlin := hid tl.txs.weak
          have SZlin : Hid (Szs [nn, ⟨#[49]⟩]) := hid (fun i hi => by
            rcases (show i = 0 ∨ i = 1 by simp at hi; omega) with rfl | rfl
            · exact znn
            · show (⟨#[49]⟩ : ByteArray).size ≤ maxLen; decide)
          replace B := bb B hbl
          clear tl hbl
          go_wp2_with fail
          refine (pdivs_any TXp.out TXlin.out SZp.out SZlin.out).mono ?_
          rintro e w9 ⟨r9, r'9, k2, r2, k9, rfl, o9, o'9, t9, b9⟩
          replace TXp := hid (TXp.out.on b9)
          replace TXq := hid (TXq.out.on b9)
          replace TXkl := hid (TXkl.out.on b9)
          replace TXrl := hid (TXrl.out.on b9)
          replace TXmm := hid (TXmm.out.on b9)
          replace TXlin := hid (TXlin.out.on b9)
          replace TFkl := hid (TFkl.out.on b9)
          replace TFrl := hid (TFrl.out.on b9)
          replace TFmm := hid (TFmm.out.on b9)
          replace B := bb B b9
          have TXk2 := hid o9.1.txs.weak
          have TFk2 := hid o9.1.txs
          have SZk2 := hid o9.2
          have TXr2 := hid o'9.1.txs.weak
          have TFr2 := hid o'9.1.txs
          have SZr2 := hid o'9.2
          have T9 := hid t9
          clear b9 t9 o9 o'9
          go_wp2_with fail
          refine (pevals_any TXp.out SZp.out za).mono ?_
          rintro e w10 ⟨v, k10, rfl, t10, zv, b10⟩
          replace TXp := hid (TXp.out.on b10)
          replace TXq := hid (TXq.out.on b10)
          replace TXkl := hid (TXkl.out.on b10)
          replace TXrl := hid (TXrl.out.on b10)
          replace TXmm := hid (TXmm.out.on b10)
          replace TXlin := hid (TXlin.out.on b10)
          replace TXk2 := hid (TXk2.out.on b10)
          replace TXr2 := hid (TXr2.out.on b10)
          replace TFkl := hid (TFkl.out.on b10)
          replace TFrl := hid (TFrl.out.on b10)
          replace TFmm := hid (TFmm.out.on b10)
          replace TFk2 := hid (TFk2.out.on b10)
          replace TFr2 := hid (TFr2.out.on b10)
          replace B := bb B b10
          have T10 := hid t10
          clear b10 t10
          by_cases hk8 : k8 = 0
          · by_cases hk9 : k9 = 0
            · by_cases hk10 : k10 = 0
              · obtain ⟨_, _, _, y2, r2', _, tr2, hl2, hx2, _, er2⟩ := T9.out.ok hk9
                have en := (T8.out.yes hk8).2.2
                have ev := (T10.out.ok hk10).2.2
                have hva : pv (rdp p) (qnum a) = pv r2' (qnum a) := by
                  have e1 : rdp [nn, (⟨#[49]⟩ : ByteArray)] = [qnum a * -1, 1] := by
                    show [qnum nn, qnum ⟨#[49]⟩] = _
                    rw [en, qnum_qtxt, show qnum ⟨#[45, 49]⟩ = -1 by decide +kernel, show qnum ⟨#[49]⟩ = 1 by decide +kernel]
                  rw [hx2, e1]
                  show pv y2 (qnum a) * (qnum a * -1 + qnum a * (1 + qnum a * 0)) + _ = _
                  grind
                rw [hva] at ev
                clear hva hx2 en
                have hl3 : r2'.length < 2 := hl2
                clear hl2
                subst hk8
                subst hk9
                subst hk10
                obtain ⟨pr, cr, rfl, _⟩ := TXrl.out
                have hlt : (rl.length : Int) < (q.length : Int) := by have := HLT.out; omega
                rcases r2' with _ | ⟨c, _ | ⟨c', l⟩⟩
                · have ev0 : v = ⟨#[48]⟩ := by rw [ev]; exact qtxt_zero
                  subst ev0
                  subst er2
                  obtain ⟨p3, c3, er3, _⟩ := TXr2.out
                  simp only [List.map_nil, List.length_nil] at er3
                  subst er3
                  clear ev
                  go_wp2_with fail
                  go_ret
                  exact ⟨rfl, B.out⟩
                · have hc0 : c ≠ 0 := trm_last tr2 (by simp)
                  have ev1 : v = qtxt c := by rw [ev]; congr 1; show c + qnum a * 0 = c; grind
                  have hv0 : v ≠ ⟨#[48]⟩ := by
                    intro e
                    rw [ev1] at e
                    have h1 := congrArg qnum e
                    rw [qnum_qtxt] at h1
                    exact hc0 (h1.trans (by decide +kernel))
                  have hv1 : (v.toList == [48]) = false := by
                    rw [beq_eq_false_iff_ne]
                    intro e
                    rw [ByteArray.toList_eq] at e
                    exact hv0 (by cases v; simp only at e; congr 1; exact Array.toList_inj.1 e)
                  obtain ⟨p3, c3, er3, hn3, hm3, ha3⟩ := TXr2.out
                  subst er3
                  have hln : r2.length = 1 := by rw [er2]; rfl
                  obtain ⟨b3, off, rfl, hb3, cx0⟩ := ha3 0 (by rw [hln]; decide)
                  simp only [Nat.add_zero] at cx0
                  have e0 : tx r2 0 = v := by rw [er2, ev1]; rfl
                  rw [e0] at cx0
                  rw [hln] at hn3 ⊢
                  unfold maxLen at hm3
                  have hav := ba_eq_self v
                  clear e0 ha3 ev ev1 hv0 er2 hln tr2
                  go_wp2_with fail
                  go_ret
                  exact ⟨rfl, B.out⟩
                · simp at hl3
                  omega
              · have f10 : (k10 != 0) = true := by simpa using hk10
                have g10 : (k10 == 0) = false := by simpa using hk10
                obtain ⟨pr, cr, rfl, _⟩ := TXrl.out
                have hlt : (rl.length : Int) < (q.length : Int) := by have := HLT.out; omega
                go_wp2_with fail
                go_ret
                exact ⟨rfl, B.out⟩
            · have f9 : (k9 != 0) = true := by simpa using hk9
              have g9 : (k9 == 0) = false := by simpa using hk9
              obtain ⟨pr, cr, rfl, _⟩ := TXrl.out
              have hlt : (rl.length : Int) < (q.length : Int) := by have := HLT.out; omega
              go_wp2_with fail
              go_ret
              exact ⟨rfl, B.out⟩
          · have f8 : (k8 != 0) = true := by simpa using hk8
            have g8 : (k8 == 0) = false := by simpa using hk8
            obtain ⟨pr, cr, rfl, _⟩ := TXrl.out
            have hlt : (rl.length : Int) < (q.length : Int) := by have := HLT.out; omega
            go_wp2_with fail
            go_ret
            exact ⟨rfl, B.out⟩
        · have f5 : (k5 != 0) = true := by simpa using hk5
          have g5 : (k5 == 0) = false := by simpa using hk5
          go_wp2_with fail
          refine (qmul_any a ⟨#[45, 49]⟩ za (by decide) _).mono ?_
          rintro e w6 ⟨nn, k6, rfl, t6, znn, b6⟩
          replace TXp := hid (TXp.out.on b6)
          replace TXq := hid (TXq.out.on b6)
          replace TXkl := hid (TXkl.out.on b6)
          replace TXrl := hid (TXrl.out.on b6)
          replace TXmm := hid (TXmm.out.on b6)
          replace TFkl := hid (TFkl.out.on b6)
          replace TFrl := hid (TFrl.out.on b6)
          replace TFmm := hid (TFmm.out.on b6)
          replace B := bb B b6
          have T6 := hid t6
          clear b6 t6
          have tl := one_text (Nat.le_refl w6.heap.size) [nn, ⟨#[49]⟩] (by simp)
          have hbl := (Below.refl w6.heap.size w6).alloc (Nat.le_refl _) (.cells #[.string nn, .string ⟨#[49]⟩] 9)
          replace TXp := hid (TXp.out.on hbl)
          replace TXq := hid (TXq.out.on hbl)
          replace TXkl := hid (TXkl.out.on hbl)
          replace TXrl := hid (TXrl.out.on hbl)
          replace TXmm := hid (TXmm.out.on hbl)
          replace TFkl := hid (TFkl.out.on hbl)
          replace TFrl := hid (TFrl.out.on hbl)
          replace TFmm := hid (TFmm.out.on hbl)
          have TXlin := hid tl.txs.weak
          have SZlin : Hid (Szs [nn, ⟨#[49]⟩]) := hid (fun i hi => by
            rcases (show i = 0 ∨ i = 1 by simp at hi; omega) with rfl | rfl
            · exact znn
            · show (⟨#[49]⟩ : ByteArray).size ≤ maxLen; decide)
          replace B := bb B hbl
          clear tl hbl
          go_wp2_with fail
          refine (pdivs_any TXp.out TXlin.out SZp.out SZlin.out).mono ?_
          rintro e w7 ⟨r7, r'7, k2, r2, k7, rfl, o7, o'7, t7, b7⟩
          replace TXp := hid (TXp.out.on b7)
          replace TXq := hid (TXq.out.on b7)
          replace TXkl := hid (TXkl.out.on b7)
          replace TXrl := hid (TXrl.out.on b7)
          replace TXmm := hid (TXmm.out.on b7)
          replace TXlin := hid (TXlin.out.on b7)
          replace TFkl := hid (TFkl.out.on b7)
          replace TFrl := hid (TFrl.out.on b7)
          replace TFmm := hid (TFmm.out.on b7)
          replace B := bb B b7
          have TXk2 := hid o7.1.txs.weak
          have TFk2 := hid o7.1.txs
          have SZk2 := hid o7.2
          have TXr2 := hid o'7.1.txs.weak
          have TFr2 := hid o'7.1.txs
          have SZr2 := hid o'7.2
          have T7 := hid t7
          clear b7 t7 o7 o'7
          go_wp2_with fail
          refine (pevals_any TXp.out SZp.out za).mono ?_
          rintro e w8 ⟨v, k8, rfl, t8, zv, b8⟩
          replace TXp := hid (TXp.out.on b8)
          replace TXq := hid (TXq.out.on b8)
          replace TXkl := hid (TXkl.out.on b8)
          replace TXrl := hid (TXrl.out.on b8)
          replace TXmm := hid (TXmm.out.on b8)
          replace TXlin := hid (TXlin.out.on b8)
          replace TXk2 := hid (TXk2.out.on b8)
          replace TXr2 := hid (TXr2.out.on b8)
          replace TFkl := hid (TFkl.out.on b8)
          replace TFrl := hid (TFrl.out.on b8)
          replace TFmm := hid (TFmm.out.on b8)
          replace TFk2 := hid (TFk2.out.on b8)
          replace TFr2 := hid (TFr2.out.on b8)
          replace B := bb B b8
          have T8 := hid t8
          clear b8 t8
          by_cases hk6 : k6 = 0
          · by_cases hk7 : k7 = 0
            · by_cases hk8 : k8 = 0
              · obtain ⟨_, _, _, y2, r2', _, tr2, hl2, hx2, _, er2⟩ := T7.out.ok hk7
                have en := (T6.out.yes hk6).2.2
                have ev := (T8.out.ok hk8).2.2
                have hva : pv (rdp p) (qnum a) = pv r2' (qnum a) := by
                  have e1 : rdp [nn, (⟨#[49]⟩ : ByteArray)] = [qnum a * -1, 1] := by
                    show [qnum nn, qnum ⟨#[49]⟩] = _
                    rw [en, qnum_qtxt, show qnum ⟨#[45, 49]⟩ = -1 by decide +kernel, show qnum ⟨#[49]⟩ = 1 by decide +kernel]
                  rw [hx2, e1]
                  show pv y2 (qnum a) * (qnum a * -1 + qnum a * (1 + qnum a * 0)) + _ = _
                  grind
                rw [hva] at ev
                clear hva hx2 en
                have hl3 : r2'.length < 2 := hl2
                clear hl2
                subst hk6
                subst hk7
                subst hk8
                obtain ⟨pr, cr, rfl, _⟩ := TXrl.out
                have hlt : (rl.length : Int) < (q.length : Int) := by have := HLT.out; omega
                rcases r2' with _ | ⟨c, _ | ⟨c', l⟩⟩
                · have ev0 : v = ⟨#[48]⟩ := by rw [ev]; exact qtxt_zero
                  subst ev0
                  subst er2
                  obtain ⟨p3, c3, er3, _⟩ := TXr2.out
                  simp only [List.map_nil, List.length_nil] at er3
                  subst er3
                  clear ev
                  go_wp2_with fail
                  go_ret
                  exact ⟨rfl, B.out⟩
                · have hc0 : c ≠ 0 := trm_last tr2 (by simp)
                  have ev1 : v = qtxt c := by rw [ev]; congr 1; show c + qnum a * 0 = c; grind
                  have hv0 : v ≠ ⟨#[48]⟩ := by
                    intro e
                    rw [ev1] at e
                    have h1 := congrArg qnum e
                    rw [qnum_qtxt] at h1
                    exact hc0 (h1.trans (by decide +kernel))
                  have hv1 : (v.toList == [48]) = false := by
                    rw [beq_eq_false_iff_ne]
                    intro e
                    rw [ByteArray.toList_eq] at e
                    exact hv0 (by cases v; simp only at e; congr 1; exact Array.toList_inj.1 e)
                  obtain ⟨p3, c3, er3, hn3, hm3, ha3⟩ := TXr2.out
                  subst er3
                  have hln : r2.length = 1 := by rw [er2]; rfl
                  obtain ⟨b3, off, rfl, hb3, cx0⟩ := ha3 0 (by rw [hln]; decide)
                  simp only [Nat.add_zero] at cx0
                  have e0 : tx r2 0 = v := by rw [er2, ev1]; rfl
                  rw [e0] at cx0
                  rw [hln] at hn3 ⊢
                  unfold maxLen at hm3
                  have hav := ba_eq_self v
                  clear e0 ha3 ev ev1 hv0 er2 hln tr2
                  go_wp2_with fail
                  go_ret
                  exact ⟨rfl, B.out⟩
                · simp at hl3
                  omega
              · have f8 : (k8 != 0) = true := by simpa using hk8
                have g8 : (k8 == 0) = false := by simpa using hk8
                obtain ⟨pr, cr, rfl, _⟩ := TXrl.out
                have hlt : (rl.length : Int) < (q.length : Int) := by have := HLT.out; omega
                go_wp2_with fail
                go_ret
                exact ⟨rfl, B.out⟩
            · have f7 : (k7 != 0) = true := by simpa using hk7
              have g7 : (k7 == 0) = false := by simpa using hk7
              obtain ⟨pr, cr, rfl, _⟩ := TXrl.out
              have hlt : (rl.length : Int) < (q.length : Int) := by have := HLT.out; omega
              go_wp2_with fail
              go_ret
              exact ⟨rfl, B.out⟩
          · have f6 : (k6 != 0) = true := by simpa using hk6
            have g6 : (k6 == 0) = false := by simpa using hk6
            obtain ⟨pr, cr, rfl, _⟩ := TXrl.out
            have hlt : (rl.length : Int) < (q.length : Int) := by have := HLT.out; omega
            go_wp2_with fail
            go_ret
            exact ⟨rfl, B.out⟩
      · have f4 : (k4 != 0) = true := by simpa using hk4
        have g4 : (k4 == 0) = false := by simpa using hk4
        go_wp2_with fail
        refine (qmul_any a ⟨#[45, 49]⟩ za (by decide) _).mono ?_
        rintro e w5 ⟨nn, k5, rfl, t5, znn, b5⟩
        replace TXp := hid (TXp.out.on b5)
        replace TXq := hid (TXq.out.on b5)
        replace TXkl := hid (TXkl.out.on b5)
        replace TXrl := hid (TXrl.out.on b5)
        replace TXmm := hid (TXmm.out.on b5)
        replace TFkl := hid (TFkl.out.on b5)
        replace TFrl := hid (TFrl.out.on b5)
        replace TFmm := hid (TFmm.out.on b5)
        replace B := bb B b5
        have T5 := hid t5
        clear b5 t5
        have tl := one_text (Nat.le_refl w5.heap.size) [nn, ⟨#[49]⟩] (by simp)
        have hbl := (Below.refl w5.heap.size w5).alloc (Nat.le_refl _) (.cells #[.string nn, .string ⟨#[49]⟩] 9)
        replace TXp := hid (TXp.out.on hbl)
        replace TXq := hid (TXq.out.on hbl)
        replace TXkl := hid (TXkl.out.on hbl)
        replace TXrl := hid (TXrl.out.on hbl)
        replace TXmm := hid (TXmm.out.on hbl)
        replace TFkl := hid (TFkl.out.on hbl)
        replace TFrl := hid (TFrl.out.on hbl)
        replace TFmm := hid (TFmm.out.on hbl)
        have TXlin := hid tl.txs.weak
        have SZlin : Hid (Szs [nn, ⟨#[49]⟩]) := hid (fun i hi => by
          rcases (show i = 0 ∨ i = 1 by simp at hi; omega) with rfl | rfl
          · exact znn
          · show (⟨#[49]⟩ : ByteArray).size ≤ maxLen; decide)
        replace B := bb B hbl
        clear tl hbl
        go_wp2_with fail
        refine (pdivs_any TXp.out TXlin.out SZp.out SZlin.out).mono ?_
        rintro e w6 ⟨r6, r'6, k2, r2, k6, rfl, o6, o'6, t6, b6⟩
        replace TXp := hid (TXp.out.on b6)
        replace TXq := hid (TXq.out.on b6)
        replace TXkl := hid (TXkl.out.on b6)
        replace TXrl := hid (TXrl.out.on b6)
        replace TXmm := hid (TXmm.out.on b6)
        replace TXlin := hid (TXlin.out.on b6)
        replace TFkl := hid (TFkl.out.on b6)
        replace TFrl := hid (TFrl.out.on b6)
        replace TFmm := hid (TFmm.out.on b6)
        replace B := bb B b6
        have TXk2 := hid o6.1.txs.weak
        have TFk2 := hid o6.1.txs
        have SZk2 := hid o6.2
        have TXr2 := hid o'6.1.txs.weak
        have TFr2 := hid o'6.1.txs
        have SZr2 := hid o'6.2
        have T6 := hid t6
        clear b6 t6 o6 o'6
        go_wp2_with fail
        refine (pevals_any TXp.out SZp.out za).mono ?_
        rintro e w7 ⟨v, k7, rfl, t7, zv, b7⟩
        replace TXp := hid (TXp.out.on b7)
        replace TXq := hid (TXq.out.on b7)
        replace TXkl := hid (TXkl.out.on b7)
        replace TXrl := hid (TXrl.out.on b7)
        replace TXmm := hid (TXmm.out.on b7)
        replace TXlin := hid (TXlin.out.on b7)
        replace TXk2 := hid (TXk2.out.on b7)
        replace TXr2 := hid (TXr2.out.on b7)
        replace TFkl := hid (TFkl.out.on b7)
        replace TFrl := hid (TFrl.out.on b7)
        replace TFmm := hid (TFmm.out.on b7)
        replace TFk2 := hid (TFk2.out.on b7)
        replace TFr2 := hid (TFr2.out.on b7)
        replace B := bb B b7
        have T7 := hid t7
        clear b7 t7
        by_cases hk5 : k5 = 0
        · by_cases hk6 : k6 = 0
          · by_cases hk7 : k7 = 0
            · obtain ⟨_, _, _, y2, r2', _, tr2, hl2, hx2, _, er2⟩ := T6.out.ok hk6
              have en := (T5.out.yes hk5).2.2
              have ev := (T7.out.ok hk7).2.2
              have hva : pv (rdp p) (qnum a) = pv r2' (qnum a) := by
                have e1 : rdp [nn, (⟨#[49]⟩ : ByteArray)] = [qnum a * -1, 1] := by
                  show [qnum nn, qnum ⟨#[49]⟩] = _
                  rw [en, qnum_qtxt, show qnum ⟨#[45, 49]⟩ = -1 by decide +kernel, show qnum ⟨#[49]⟩ = 1 by decide +kernel]
                rw [hx2, e1]
                show pv y2 (qnum a) * (qnum a * -1 + qnum a * (1 + qnum a * 0)) + _ = _
                grind
              rw [hva] at ev
              clear hva hx2 en
              have hl3 : r2'.length < 2 := hl2
              clear hl2
              subst hk5
              subst hk6
              subst hk7
              obtain ⟨pr, cr, rfl, _⟩ := TXrl.out
              have hlt : (rl.length : Int) < (q.length : Int) := by have := HLT.out; omega
              rcases r2' with _ | ⟨c, _ | ⟨c', l⟩⟩
              · have ev0 : v = ⟨#[48]⟩ := by rw [ev]; exact qtxt_zero
                subst ev0
                subst er2
                obtain ⟨p3, c3, er3, _⟩ := TXr2.out
                simp only [List.map_nil, List.length_nil] at er3
                subst er3
                clear ev
                go_wp2_with fail
                go_ret
                exact ⟨rfl, B.out⟩
              · have hc0 : c ≠ 0 := trm_last tr2 (by simp)
                have ev1 : v = qtxt c := by rw [ev]; congr 1; show c + qnum a * 0 = c; grind
                have hv0 : v ≠ ⟨#[48]⟩ := by
                  intro e
                  rw [ev1] at e
                  have h1 := congrArg qnum e
                  rw [qnum_qtxt] at h1
                  exact hc0 (h1.trans (by decide +kernel))
                have hv1 : (v.toList == [48]) = false := by
                  rw [beq_eq_false_iff_ne]
                  intro e
                  rw [ByteArray.toList_eq] at e
                  exact hv0 (by cases v; simp only at e; congr 1; exact Array.toList_inj.1 e)
                obtain ⟨p3, c3, er3, hn3, hm3, ha3⟩ := TXr2.out
                subst er3
                have hln : r2.length = 1 := by rw [er2]; rfl
                obtain ⟨b3, off, rfl, hb3, cx0⟩ := ha3 0 (by rw [hln]; decide)
                simp only [Nat.add_zero] at cx0
                have e0 : tx r2 0 = v := by rw [er2, ev1]; rfl
                rw [e0] at cx0
                rw [hln] at hn3 ⊢
                unfold maxLen at hm3
                have hav := ba_eq_self v
                clear e0 ha3 ev ev1 hv0 er2 hln tr2
                go_wp2_with fail
                go_ret
                exact ⟨rfl, B.out⟩
              · simp at hl3
                omega
            · have f7 : (k7 != 0) = true := by simpa using hk7
              have g7 : (k7 == 0) = false := by simpa using hk7
              obtain ⟨pr, cr, rfl, _⟩ := TXrl.out
              have hlt : (rl.length : Int) < (q.length : Int) := by have := HLT.out; omega
              go_wp2_with fail
              go_ret
              exact ⟨rfl, B.out⟩
          · have f6 : (k6 != 0) = true := by simpa using hk6
            have g6 : (k6 == 0) = false := by simpa using hk6
            obtain ⟨pr, cr, rfl, _⟩ := TXrl.out
            have hlt : (rl.length : Int) < (q.length : Int) := by have := HLT.out; omega
            go_wp2_with fail
            go_ret
            exact ⟨rfl, B.out⟩
        · have f5 : (k5 != 0) = true := by simpa using hk5
          have g5 : (k5 == 0) = false := by simpa using hk5
          obtain ⟨pr, cr, rfl, _⟩ := TXrl.out
          have hlt : (rl.length : Int) < (q.length : Int) := by have := HLT.out; omega
          go_wp2_with fail
          go_ret
          exact ⟨rfl, B.out⟩
    · have f3 : (k3 != 0) = true := by simpa using hk3
      have g3 : (k3 == 0) = false := by simpa using hk3
      go_wp2_with fail
      refine (qmul_any a ⟨#[45, 49]⟩ za (by decide) _).mono ?_
      rintro e w4 ⟨nn, k4, rfl, t4, znn, b4⟩
      replace TXp := hid (TXp.out.on b4)
      replace TXq := hid (TXq.out.on b4)
      replace TXkl := hid (TXkl.out.on b4)
      replace TXrl := hid (TXrl.out.on b4)
      replace TXmm := hid (TXmm.out.on b4)
      replace TFkl := hid (TFkl.out.on b4)
      replace TFrl := hid (TFrl.out.on b4)
      replace TFmm := hid (TFmm.out.on b4)
      replace B := bb B b4
      have T4 := hid t4
      clear b4 t4
      have tl := one_text (Nat.le_refl w4.heap.size) [nn, ⟨#[49]⟩] (by simp)
      have hbl := (Below.refl w4.heap.size w4).alloc (Nat.le_refl _) (.cells #[.string nn, .string ⟨#[49]⟩] 9)
      replace TXp := hid (TXp.out.on hbl)
      replace TXq := hid (TXq.out.on hbl)
      replace TXkl := hid (TXkl.out.on hbl)
      replace TXrl := hid (TXrl.out.on hbl)
      replace TXmm := hid (TXmm.out.on hbl)
      replace TFkl := hid (TFkl.out.on hbl)
      replace TFrl := hid (TFrl.out.on hbl)
      replace TFmm := hid (TFmm.out.on hbl)
      have TXlin := hid tl.txs.weak
      have SZlin : Hid (Szs [nn, ⟨#[49]⟩]) := hid (fun i hi => by
        rcases (show i = 0 ∨ i = 1 by simp at hi; omega) with rfl | rfl
        · exact znn
        · show (⟨#[49]⟩ : ByteArray).size ≤ maxLen; decide)
      replace B := bb B hbl
      clear tl hbl
      go_wp2_with fail
      refine (pdivs_any TXp.out TXlin.out SZp.out SZlin.out).mono ?_
      rintro e w5 ⟨r5, r'5, k2, r2, k5, rfl, o5, o'5, t5, b5⟩
      replace TXp := hid (TXp.out.on b5)
      replace TXq := hid (TXq.out.on b5)
      replace TXkl := hid (TXkl.out.on b5)
      replace TXrl := hid (TXrl.out.on b5)
      replace TXmm := hid (TXmm.out.on b5)
      replace TXlin := hid (TXlin.out.on b5)
      replace TFkl := hid (TFkl.out.on b5)
      replace TFrl := hid (TFrl.out.on b5)
      replace TFmm := hid (TFmm.out.on b5)
      replace B := bb B b5
      have TXk2 := hid o5.1.txs.weak
      have TFk2 := hid o5.1.txs
      have SZk2 := hid o5.2
      have TXr2 := hid o'5.1.txs.weak
      have TFr2 := hid o'5.1.txs
      have SZr2 := hid o'5.2
      have T5 := hid t5
      clear b5 t5 o5 o'5
      go_wp2_with fail
      refine (pevals_any TXp.out SZp.out za).mono ?_
      rintro e w6 ⟨v, k6, rfl, t6, zv, b6⟩
      replace TXp := hid (TXp.out.on b6)
      replace TXq := hid (TXq.out.on b6)
      replace TXkl := hid (TXkl.out.on b6)
      replace TXrl := hid (TXrl.out.on b6)
      replace TXmm := hid (TXmm.out.on b6)
      replace TXlin := hid (TXlin.out.on b6)
      replace TXk2 := hid (TXk2.out.on b6)
      replace TXr2 := hid (TXr2.out.on b6)
      replace TFkl := hid (TFkl.out.on b6)
      replace TFrl := hid (TFrl.out.on b6)
      replace TFmm := hid (TFmm.out.on b6)
      replace TFk2 := hid (TFk2.out.on b6)
      replace TFr2 := hid (TFr2.out.on b6)
      replace B := bb B b6
      have T6 := hid t6
      clear b6 t6
      by_cases hk4 : k4 = 0
      · by_cases hk5 : k5 = 0
        · by_cases hk6 : k6 = 0
          · obtain ⟨_, _, _, y2, r2', _, tr2, hl2, hx2, _, er2⟩ := T5.out.ok hk5
            have en := (T4.out.yes hk4).2.2
            have ev := (T6.out.ok hk6).2.2
            have hva : pv (rdp p) (qnum a) = pv r2' (qnum a) := by
              have e1 : rdp [nn, (⟨#[49]⟩ : ByteArray)] = [qnum a * -1, 1] := by
                show [qnum nn, qnum ⟨#[49]⟩] = _
                rw [en, qnum_qtxt, show qnum ⟨#[45, 49]⟩ = -1 by decide +kernel, show qnum ⟨#[49]⟩ = 1 by decide +kernel]
              rw [hx2, e1]
              show pv y2 (qnum a) * (qnum a * -1 + qnum a * (1 + qnum a * 0)) + _ = _
              grind
            rw [hva] at ev
            clear hva hx2 en
            have hl3 : r2'.length < 2 := hl2
            clear hl2
            subst hk4
            subst hk5
            subst hk6
            obtain ⟨pr, cr, rfl, _⟩ := TXrl.out
            have hlt : (rl.length : Int) < (q.length : Int) := by have := HLT.out; omega
            rcases r2' with _ | ⟨c, _ | ⟨c', l⟩⟩
            · have ev0 : v = ⟨#[48]⟩ := by rw [ev]; exact qtxt_zero
              subst ev0
              subst er2
              obtain ⟨p3, c3, er3, _⟩ := TXr2.out
              simp only [List.map_nil, List.length_nil] at er3
              subst er3
              clear ev
              go_wp2_with fail
              go_ret
              exact ⟨rfl, B.out⟩
            · have hc0 : c ≠ 0 := trm_last tr2 (by simp)
              have ev1 : v = qtxt c := by rw [ev]; congr 1; show c + qnum a * 0 = c; grind
              have hv0 : v ≠ ⟨#[48]⟩ := by
                intro e
                rw [ev1] at e
                have h1 := congrArg qnum e
                rw [qnum_qtxt] at h1
                exact hc0 (h1.trans (by decide +kernel))
              have hv1 : (v.toList == [48]) = false := by
                rw [beq_eq_false_iff_ne]
                intro e
                rw [ByteArray.toList_eq] at e
                exact hv0 (by cases v; simp only at e; congr 1; exact Array.toList_inj.1 e)
              obtain ⟨p3, c3, er3, hn3, hm3, ha3⟩ := TXr2.out
              subst er3
              have hln : r2.length = 1 := by rw [er2]; rfl
              obtain ⟨b3, off, rfl, hb3, cx0⟩ := ha3 0 (by rw [hln]; decide)
              simp only [Nat.add_zero] at cx0
              have e0 : tx r2 0 = v := by rw [er2, ev1]; rfl
              rw [e0] at cx0
              rw [hln] at hn3 ⊢
              unfold maxLen at hm3
              have hav := ba_eq_self v
              clear e0 ha3 ev ev1 hv0 er2 hln tr2
              go_wp2_with fail
              go_ret
              exact ⟨rfl, B.out⟩
            · simp at hl3
              omega
          · have f6 : (k6 != 0) = true := by simpa using hk6
            have g6 : (k6 == 0) = false := by simpa using hk6
            obtain ⟨pr, cr, rfl, _⟩ := TXrl.out
            have hlt : (rl.length : Int) < (q.length : Int) := by have := HLT.out; omega
            go_wp2_with fail
            go_ret
            exact ⟨rfl, B.out⟩
        · have f5 : (k5 != 0) = true := by simpa using hk5
          have g5 : (k5 == 0) = false := by simpa using hk5
          obtain ⟨pr, cr, rfl, _⟩ := TXrl.out
          have hlt : (rl.length : Int) < (q.length : Int) := by have := HLT.out; omega
          go_wp2_with fail
          go_ret
          exact ⟨rfl, B.out⟩
      · have f4 : (k4 != 0) = true := by simpa using hk4
        have g4 : (k4 == 0) = false := by simpa using hk4
        obtain ⟨pr, cr, rfl, _⟩ := TXrl.out
        have hlt : (rl.length : Int) < (q.length : Int) := by have := HLT.out; omega
        go_wp2_with fail
        go_ret
        exact ⟨rfl, B.out⟩
  · have f2 : (k2 != 0) = true := by simpa using hk2
    have g2 : (k2 == 0) = false := by simpa using hk2
    obtain ⟨e1, e2⟩ := T2.out.no hk2
    subst e1
    subst e2
    obtain ⟨p1, c1, er1, _⟩ := TXkl.out
    simp only [List.length_nil] at er1
    subst er1
    obtain ⟨p2, c2, er2, _⟩ := TXrl.out
    simp only [List.length_nil] at er2
    subst er2
    go_wp2_with fail
    go_ret
    exact ⟨rfl, B.out⟩

end Go.Proofs.Ytmghcankdaomgaa

/-
  The law PolyLeft of package abacistlaw1: whatever lists of texts and texts come in, the call returns true, and they read behind it as they did before. No condition.
-/
namespace Go.Proofs.Ytmghcankdaomgaa.polyLeft
open Go.ChangeShapes Go.WideShapes Go.ChangeAt Go.RowKit
open Go.ChangeMaps (open_string shut_string)
set_option linter.unusedVariables false

theorem own : ownKnob Try.prog.godebug = none := by kernel_rfl
theorem laidOut : laidOutB Try.prog = true := by kernel_rfl
theorem cellsS : Try.prog.cellsOf 9 = 1 := by kernel_rfl
theorem bytesS : Try.prog.bytesOf 9 = 16 := by kernel_rfl

set_option maxRecDepth 100000 in
theorem lifted (os : Os) (started : os.Started) (H : Type) (enc : TypeId × Value → H) :
    ReturnsInHanded {} Try.checked os 4 .any (Rows.polyLeftSpec.pre6 enc Try.prog Try.f4 Rows.polyLeftRow.domain false) (Rows.polyLeftSpec.post enc Try.prog Try.f4 false true false false) := by
  refine returnsInHanded_of_change_sized (C := Try.checked) own started (by kernel_rfl) Try.func4
    (ChangeSpec.witness6 (enc := enc) (C := Try.checked) false ⟨#[], #[.slice none 0 0, .slice none 0 0, .string ByteArray.empty], []⟩ 8 (by kernel_rfl) (by kernel_rfl) (by kernel_rfl) (by kernel_rfl)) ?_
  intro W base args ds gs before hval0 hW hcnd hsz0 _
  have hval : ∀ (j : Nat) t v, Try.f4.params[j]? = some t → args[j]? = some v → Value.okWide Try.prog W .any base t v := hval0
  have hW' := hW
  obtain ⟨p, q, hA0, hV, rfl, hfz, hnd⟩ := hW
  have hA : DataW.TrodAll enc Try.prog W 0 (fun _ => true) true Try.f4.params.toList args.toList ds p := hA0
  rw [Try.params4] at hA hval
  have hsz : (DataW.weightsEach Try.prog (Try.f4.params.toList ++ Rows.polyLeftSpec.plain.varTypes Try.prog) (ds ++ gs)).all (· ≤ reachBytes) = true := hsz0
  rw [Try.params4] at hsz
  obtain ⟨v0, vs0, d0, ds0, p0, q0, hargs, rfl, rfl, h0, r0⟩ := trodAll_cons hA
  obtain ⟨v1, vs1, d1, ds1, p1, q1, rfl, rfl, rfl, h1, r1⟩ := trodAll_cons r0
  obtain ⟨v2, vs2, d2, ds2, p2, q2, rfl, rfl, rfl, h2, r2⟩ := trodAll_cons r1
  obtain ⟨rfl, rfl, rfl⟩ := trodAll_nil r2
  obtain rfl : args = #[v0, v1, v2] := by cases args; simp_all
  obtain ⟨rfl, rfl⟩ := trodVars_none hV
  obtain ⟨a2, rfl, rfl, rfl, w2⟩ := open_string Try.underlying9 (hval 2 9 v2 rfl rfl) h2
  obtain ⟨pa0, len0, cap0, rfl⟩ := okWide_slice Try.underlying22 (hval 0 22 v0 rfl rfl)
  have h0k := h0
  obtain ⟨fuel0, hf0⟩ := h0
  obtain ⟨pa1, len1, cap1, rfl⟩ := okWide_slice Try.underlying22 (hval 1 22 v1 rfl rfl)
  have h1k := h1
  obtain ⟨fuel1, hf1⟩ := h1
  clear hA0 hval0
  have hlt0 : ∀ y ∈ p0, y.block < W.heap.size := fun y hy => hW'.lt y (by simp [hy])
  have hlt1 : ∀ y ∈ p1, y.block < W.heap.size := fun y hy => hW'.lt y (by simp [hy])
  have T0 : ∃ ss : List ByteArray, TxsW W (.slice pa0 len0 cap0) ss ∧ Szs ss ∧ ss.length * 16 ≤ 140737488355328 := by
    rcases open_strings Try.underlying22 Try.underlying9 cellsS hf0 with ⟨hcs, hx⟩ | ⟨b, len', cap', ss, hcs, _, hl, hm, hz, hx, hcell, hws⟩
    · simp [Value.cells] at hcs
      obtain ⟨rfl, rfl, rfl⟩ := hcs
      exact ⟨[], (Txs.nil W).weak, Szs.nil, by decide⟩
    · simp [Value.cells] at hcs
      obtain ⟨rfl, rfl, rfl⟩ := hcs
      simp only [Prod.mk.injEq] at hx
      obtain ⟨rfl, hx2⟩ := hx
      simp only [if_true] at hz
      have hlen : (ss.take len0).length = len0 := by rw [List.length_take]; omega
      have hreach : len0 * 16 ≤ 140737488355328 := by
        have := sized_slice hsz (j := 0) (t := 22) (e := 9) rfl rfl Try.underlying22
        rw [bytesS] at this
        simp only [strs, List.length_map, List.length_take, List.length_drop, reachBytes] at this
        omega
      refine ⟨ss.take len0, ?_, ?_, by rw [hlen]; exact hreach⟩
      · refine ⟨some b, cap0, by rw [hlen], by rw [hlen]; exact hl, hm, fun i hi => ?_⟩
        have hi2 : i < len0 := by rw [← hlen]; exact hi
        have h2 := hcell i (by omega)
        obtain ⟨g, off, spot⟩ := b
        have hspot : spot = none := by simpa [Addr.add] using World.cell?_spot (hcell 0 (by omega))
        subst hspot
        have hbW : g < W.heap.size := hlt0 (.cell g off) (by rw [hx2]; exact MemPlace.mem_row.2 ⟨0, by omega, by simp⟩)
        refine ⟨g, off, rfl, hbW, ?_⟩
        rw [add_plain, List.getD_eq_getElem?_getD, List.getElem?_eq_getElem (by omega), Option.getD_some] at h2
        rw [h2, tx_lt hi, List.getElem_take]
      · intro i hi
        rw [tx_lt hi]
        exact hws _ (List.mem_of_mem_take (List.getElem_mem hi))
  obtain ⟨l0, t0, s0, z0⟩ := T0
  have T1 : ∃ ss : List ByteArray, TxsW W (.slice pa1 len1 cap1) ss ∧ Szs ss ∧ ss.length * 16 ≤ 140737488355328 := by
    rcases open_strings Try.underlying22 Try.underlying9 cellsS hf1 with ⟨hcs, hx⟩ | ⟨b, len', cap', ss, hcs, _, hl, hm, hz, hx, hcell, hws⟩
    · simp [Value.cells] at hcs
      obtain ⟨rfl, rfl, rfl⟩ := hcs
      exact ⟨[], (Txs.nil W).weak, Szs.nil, by decide⟩
    · simp [Value.cells] at hcs
      obtain ⟨rfl, rfl, rfl⟩ := hcs
      simp only [Prod.mk.injEq] at hx
      obtain ⟨rfl, hx2⟩ := hx
      simp only [if_true] at hz
      have hlen : (ss.take len1).length = len1 := by rw [List.length_take]; omega
      have hreach : len1 * 16 ≤ 140737488355328 := by
        have := sized_slice hsz (j := 1) (t := 22) (e := 9) rfl rfl Try.underlying22
        rw [bytesS] at this
        simp only [strs, List.length_map, List.length_take, List.length_drop, reachBytes] at this
        omega
      refine ⟨ss.take len1, ?_, ?_, by rw [hlen]; exact hreach⟩
      · refine ⟨some b, cap1, by rw [hlen], by rw [hlen]; exact hl, hm, fun i hi => ?_⟩
        have hi2 : i < len1 := by rw [← hlen]; exact hi
        have h2 := hcell i (by omega)
        obtain ⟨g, off, spot⟩ := b
        have hspot : spot = none := by simpa [Addr.add] using World.cell?_spot (hcell 0 (by omega))
        subst hspot
        have hbW : g < W.heap.size := hlt1 (.cell g off) (by rw [hx2]; exact MemPlace.mem_row.2 ⟨0, by omega, by simp⟩)
        refine ⟨g, off, rfl, hbW, ?_⟩
        rw [add_plain, List.getD_eq_getElem?_getD, List.getElem?_eq_getElem (by omega), Option.getD_some] at h2
        rw [h2, tx_lt hi, List.getElem_take]
      · intro i hi
        rw [tx_lt hi]
        exact hws _ (List.mem_of_mem_take (List.getElem_mem hi))
  obtain ⟨l1, t1, s1, z1⟩ := T1
  refine (pleft_walk t0 t1 s0 s1 w2).mono fun e W' ⟨he, hg⟩ => ?_
  subst he
  refine ⟨_, rfl, _, _, _, [] ++ [], p0 ++ (p1 ++ ([] ++ [])), [], hW', ?_, ?_, rfl, hg.frame _, fun h => by cases h⟩
  · exact trodAll_cons_mk (shut_bool Try.underlying4 _) trodAll_mk0
  · exact (trodAll_cons_mk (Below.trod laidOut (by kernel_rfl) (of_decide_eq_true (by kernel_rfl)) h0k hg hlt0) (trodAll_cons_mk (Below.trod laidOut (by kernel_rfl) (of_decide_eq_true (by kernel_rfl)) h1k hg hlt1) (trodAll_cons_mk (shut_string Try.underlying9 w2) trodAll_mk0)))

/-- The law PolyLeft: every input. -/
theorem proved : Rows.PolyLeftSaid :=
  OpenClaim.holds_of_wide 4 Try.f4 rfl rfl rfl rfl rfl rfl rfl ⟨rfl, rfl, rfl, rfl, rfl⟩ rfl rfl rfl rfl rfl (by kernel_rfl) Try.func4 (by kernel_rfl)
    (of_decide_eq_true (by kernel_rfl)) (by unfold Func.isWrapper; first | (rw [if_pos (by decide +kernel)]; kernel_rfl) | (rw [if_neg (by decide +kernel)]; exact ⟨rfl, rfl⟩))
    (fun os started H enc _ => lifted os started H enc)
#print axioms proved
end Go.Proofs.Ytmghcankdaomgaa.polyLeft
