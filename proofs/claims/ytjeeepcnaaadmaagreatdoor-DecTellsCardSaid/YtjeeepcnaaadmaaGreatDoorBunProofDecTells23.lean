import Derived.Test.YtjeeepcnaaadmaaGreatDoorBunProofDecTells21
import Derived.Deep.DeepCutAuto
import Derived.Deep.LoopGhost
/-
  THE REFERENCE: Decimal.
-/
namespace Go.Proofs.YtjeeepcnaaadmaaGreatDoor
open Go.RowKit
open Num4
open Num (dg isNat dval)
set_option linter.unusedVariables false
set_option maxRecDepth 100000
set_option linter.unusedSimpArgs false

def lenT : Value → Nat | .string s => s.size | _ => 0
theorem dtxt_sign {q : Rat} {n A : Nat} {s : Bool} (h1 : s = decide (q.num < 0)) (h2 : decide (nearu q n < 0) = (decide (q.num < 0) && decide (0 < A))) (h3 : (nearu q n).natAbs = A) : dtxt (nearu q n) n = if (s && decide (0 < A)) = true then ⟨#[45]⟩ ++ dabs A n else dabs A n := by
  rw [dtxt, h3, h1, ← h2]
  simp

set_option maxHeartbeats 8000000 in
theorem rdecimal {w : World} {v : Value} {q : Rat} {n : Nat} (h : QR w v q 100) (hn : n ≤ 30) :
    Calls Tryz.prog 41 #[v, .int .i64 (n : Int)] w fun e w' => e = .returned (.string (dtxt (nearu q n) n)) ∧ Below w.heap.size w w' := by
  obtain ⟨s1a, p1a, n1a, c1a, p1b, n1b, c1b, rfl⟩ := h.opened
  obtain ⟨ht1, hu1⟩ := h.two
  have HSG := hid ht1.inside.2
  have HNN := hid hn
  have HDP := hid q.den_pos
  have HAB := hid (show absu q n = if q.den < q.num.natAbs * pten n % q.den + q.num.natAbs * pten n % q.den ∨ (q.num.natAbs * pten n % q.den + q.num.natAbs * pten n % q.den = q.den ∧ q.num.natAbs * pten n / q.den % 2 = 1) then q.num.natAbs * pten n / q.den + 1 else q.num.natAbs * pten n / q.den from rfl)
  have HNE := hid (nearu_neg q n)
  have HNA := hid (nearu_natAbs q n)
  have B := hid (Below.refl w.heap.size w)
  have HA := hid ht1.abs
  have HD := hid hu1
  have hb1 := (Below.refl _ _).alloc (Nat.le_refl w.heap.size) (.cells #[.bool s1a, .slice p1a n1a c1a, .slice p1b n1b c1b] 28)
  have hx2 := Qbx.new w s1a p1a n1a c1a p1b n1b c1b
  replace HA := wr HA hb1
  replace HD := wr HD hb1
  replace B := bb B hb1
  have X1 := hid hx2
  have hs3 : (w.alloc (.cells #[.bool s1a, .slice p1a n1a c1a, .slice p1b n1b c1b] 28)).heap.size = w.heap.size + 1 := by simp
  clear hb1 hx2
  clear hs3 h ht1 hu1 hn
  go_enter Tryz.func41, Tryz.ntmps41
  obtain ⟨cc4a, cc4b, cc4c⟩ := X1.out.cells
  go_wp2_with fail
  generalize hW : w.alloc (.cells #[.bool s1a, .slice p1a n1a c1a, .slice p1b n1b c1b] 28) = W5 at *
  clear hW
  refine (runit n HNN.out _).mono ?_
  rintro e w6 ⟨v, rfl, hv, hb⟩
  obtain ⟨p2, n2, c2, rfl⟩ := hv.slice
  replace X1 := qx X1 hb
  replace HA := wr HA hb
  replace HD := wr HD hb
  replace B := bb B hb
  clear cc4a cc4b cc4c
  have HU := hid hv.value
  clear hb hv
  obtain ⟨cc7a, cc7b, cc7c⟩ := X1.out.cells
  go_wp2_with fail
  obtain ⟨cc8a, cc8b, cc8c⟩ := X1.out.cells
  replace X1 := hid X1.out.dr
  replace HA := hid HA.out.drew
  replace HD := hid HD.out.drew
  replace HU := hid HU.out.drew
  replace B := hid (Below.drew B.out)
  obtain ⟨cc9a, cc9b, cc9c⟩ := X1.out.cells
  go_region_held3 (fun w' => w'.cell? ⟨w.heap.size, 0, none⟩ = some (.bool s1a) ∧ w'.cell? ⟨w.heap.size, 1, none⟩ = some (.slice p1a n1a c1a) ∧ w'.cell? ⟨w.heap.size, 2, none⟩ = some (.slice p1b n1b c1b)) (go_keep) (first
    | (have hm := mk10_0; clear hm; go_at_call 55; refine (rdivn HM.out.nat HD.out.nat HDP.out (by decide) (by decide)).mono ?_; rintro e w13 ⟨p4, n4, c4, p5, n5, c5, rfl, hv, hu, hb⟩; replace X1 := qx X1 hb; replace HA := wr HA hb; replace HD := wr HD hb; replace HU := wr HU hb; replace B := bb B hb; clear cc12a cc12b cc12c; have HK := hid hv.value; have HR := hid hu.value; clear hb hv hu; obtain ⟨cc14a, cc14b, cc14c⟩ := X1.out.cells; have mk10_1 := hid True.intro)
    | (go_at_call 54; refine (rmuln HA.out.nat HU.out.nat (by decide) (by decide)).mono ?_; rintro e w11 ⟨p3, n3, c3, rfl, hv, hb⟩; replace X1 := qx X1 hb; replace HA := wr HA hb; replace HD := wr HD hb; replace HU := wr HU hb; replace B := bb B hb; clear cc7a cc7b cc7c cc8a cc8b cc8c cc9a cc9b cc9c; have HM := hid hv.value; clear hb hv; obtain ⟨cc12a, cc12b, cc12c⟩ := X1.out.cells; have mk10_0 := hid True.intro))
  go_wp2_with fail
  generalize q.num.natAbs * pten n / q.den = kq at *
  generalize q.num.natAbs * pten n % q.den = r at *
  obtain ⟨cc15a, cc15b, cc15c⟩ := X1.out.cells
  replace X1 := hid X1.out.dr
  replace HA := hid HA.out.drew
  replace HD := hid HD.out.drew
  replace HU := hid HU.out.drew
  replace HK := hid HK.out.drew
  replace HR := hid HR.out.drew
  replace B := hid (Below.drew B.out)
  obtain ⟨cc16a, cc16b, cc16c⟩ := X1.out.cells
  go_region_held3 (fun w' => w'.cell? ⟨w.heap.size, 0, none⟩ = some (.bool s1a) ∧ w'.cell? ⟨w.heap.size, 1, none⟩ = some (.slice p1a n1a c1a) ∧ w'.cell? ⟨w.heap.size, 2, none⟩ = some (.slice p1b n1b c1b)) (go_keep) (first
    | (have hm := mk17_0; clear hm; go_at_call 36; refine (rcmpn HRR.out.nat HD.out.nat (by decide) (by decide)).mono ?_; rintro e w20 ⟨rfl, hb⟩; replace X1 := qx X1 hb; replace HD := wr HD hb; replace HU := wr HU hb; replace HK := wr HK hb; replace B := bb B hb; clear cc19a cc19b cc19c; clear hb ; obtain ⟨cc21a, cc21b, cc21c⟩ := X1.out.cells; have mk17_1 := hid True.intro)
    | (go_at_call 71; refine (raddn HR.out.nat HR.out.nat (by decide)).mono ?_; rintro e w18 ⟨v, rfl, hv, hb⟩; obtain ⟨p6, n6, c6, rfl⟩ := hv.slice; replace X1 := qx X1 hb; replace HD := wr HD hb; replace HU := wr HU hb; replace HK := wr HK hb; replace B := bb B hb; clear cc14a cc14b cc14c cc15a cc15b cc15c cc16a cc16b cc16c; have HRR := hid hv.value; clear hb hv; obtain ⟨cc19a, cc19b, cc19c⟩ := X1.out.cells; have mk17_0 := hid True.intro))
  generalize q.den = d at *
  have htw : (cmpv (r + r) d = -1 ∧ r + r < d) ∨ (cmpv (r + r) d = 0 ∧ r + r = d) ∨ (cmpv (r + r) d = 1 ∧ d < r + r) := by
    unfold cmpv
    by_cases h1 : r + r < d
    · exact .inl ⟨if_pos h1, h1⟩
    · by_cases h2 : d < r + r
      · exact .inr (.inr ⟨by rw [if_neg h1, if_pos h2], h2⟩)
      · exact .inr (.inl ⟨by rw [if_neg h1, if_neg h2], by omega⟩)
  have HTW := hid htw
  clear htw
  generalize cmpv (r + r) d = tw at *
  clear cc21a cc21b cc21c
  go_upto_region 4 with fail
  go_cut [9] (fun s9 wx => ∃ b : Bool, s9 = .bool b ∧ (b = true ↔ kq % 2 = 1) ∧ w20 = wx)
  case first =>
    by_cases h0 : kq = 0
    · obtain rfl : n4 = 0 := HK.out.nat.len.2 h0
      go_wp2_with fail
      go_meet
      exact ⟨false, rfl, by simp [h0], rfl⟩
    · obtain ⟨hm, b, off, x, rfl, hc, hx, _⟩ := HK.out.nat.low (Nat.pos_of_ne_zero h0)
      have hm2 : (0 : Int) < (n4 : Int) := by omega
      rcases Nat.mod_two_eq_zero_or_one x with e | e
      · have ex : (x : Int) % 2 = 0 := by omega
        go_wp2_with fail
        go_meet
        exact ⟨false, rfl, by rw [← hx, e]; simp, rfl⟩
      · have ex : (x : Int) % 2 = 1 := by omega
        go_wp2_with fail
        go_meet
        exact ⟨true, rfl, by rw [← hx, e]; simp, rfl⟩
  case rest =>
    obtain ⟨b, rfl, hbk, rfl⟩ := hcut
    go_upto_region 5 with fail
    go_cut [51] (fun s51 wx => s51 = .bool (decide (d < r + r ∨ (r + r = d ∧ kq % 2 = 1))) ∧ w20 = wx)
    case first =>
      rcases HTW.out with ⟨rfl, ht⟩ | ⟨rfl, ht⟩ | ⟨rfl, ht⟩ <;> cases b
      all_goals
        simp only [Bool.false_eq_true, false_iff, true_iff] at hbk
        go_wp2_with fail
        go_meet
        refine ⟨congrArg Value.bool ?_, rfl⟩
        first
          | exact (decide_eq_true (by omega)).symm
          | exact (decide_eq_false (by omega)).symm
    case rest =>
      obtain ⟨rfl, rfl⟩ := hcut
      go_upto_if 51 with fail
      go_cut [6] (fun s6 wx => ∃ (p : Option Addr) (m c : Nat), s6 = .slice p m c ∧ Hid (WhlR wx (.agg #[.bool false, .slice p m c]) ((absu q n : Nat) : Int) 110) ∧ Hid (WhlR wx (.agg #[.bool false, .slice p2 n2 c2]) ((pten n : Nat) : Int) 8) ∧ Hid (Qbx wx w.heap.size s1a (.slice p1a n1a c1a) (.slice p1b n1b c1b)) ∧ Hid (Below w.heap.size w wx))
      case first =>
        by_cases hA : d < r + r ∨ (r + r = d ∧ kq % 2 = 1)
        · have hab := HAB.out
          rw [if_pos hA] at hab
          rw [decide_eq_true hA]
          have hb1 := (Below.refl w20.heap.size w20).alloc (Nat.le_refl _) (.cells #[.int .i64 1] 3)
          have H1 := hid (natR_one w20)
          replace X1 := qx X1 hb1
          replace HU := wr HU hb1
          replace HK := wr HK hb1
          replace B := bb B hb1
          clear hb1
          go_wp2_with fail
          refine (raddn (k := 108) HK.out.nat (H1.out.mono' (by decide)) (by decide)).mono ?_
          rintro e w40 ⟨v, rfl, hv, hb⟩
          obtain ⟨p7, n7, c7, rfl⟩ := hv.slice
          rw [← hab] at hv
          have HN := hid (hv.mono' (show 108 + 1 ≤ 110 by decide)).value
          replace X1 := qx X1 hb
          replace HU := wr HU hb
          replace B := bb B hb
          clear hb hv hab
          go_wp2_with fail
          go_meet
          exact ⟨_, _, _, rfl, HN, HU, X1, B⟩
        · have hab := HAB.out
          rw [if_neg hA] at hab
          rw [decide_eq_false hA]
          rw [← hab] at HK
          go_wp2_with fail
          go_meet
          exact ⟨_, _, _, rfl, hid (HK.out.nat.mono' (show 108 ≤ 110 by decide)).value, HU, X1, B⟩
      case rest =>
        clear HU X1 B HK HAB HTW hbk
        obtain ⟨p7, n7, c7, rfl, HK, HU, X1, B⟩ := hcut
        have hlt : absu q n < 10 ^ 440 := by
          have h1 := HK.out.lt
          rw [Int.natAbs_natCast] at h1
          exact Nat.lt_of_lt_of_le h1 (by decide +kernel)
        have hlen := HK.out.nat.len
        have hq1 := size_txt_le (k := 440) (n := absu q n / pten n) (Nat.lt_of_le_of_lt (Nat.div_le_self _ _) hlt) (by decide)
        have hq2 := size_dabs (n := n) hlt (by have := HNN.out; omega)
        have hb0 : absu q n % pten n < 10 ^ n := Nat.mod_lt _ (pten_pos n)
        have hsg : (s1a = true ∧ 0 < absu q n) ∨ (s1a = true ∧ absu q n = 0) ∨ s1a = false := by
          cases s1a
          · exact .inr (.inr rfl)
          · rcases Nat.eq_zero_or_pos (absu q n) with e | e
            · exact .inr (.inl ⟨rfl, e⟩)
            · exact .inl ⟨rfl, e⟩
        have HB0 := hid hb0
        have HLN := hid hlen
        have HP0 := hid (dabs_whole (absu q n))
        have HPN := hid (dabs_parts (absu q n) n)
        clear hlt hlen hb0 HD
        generalize absu q n = A at *
        go_wp2_with fail
        refine (rdivn HK.out.nat HU.out.nat (pten_pos n) (by decide) (by decide)).mono ?_
        rintro e w50 ⟨p8, n8, c8, p9, n9, c9, rfl, hv, hu, hb⟩
        replace X1 := qx X1 hb
        replace B := bb B hb
        have HQ := hid hv.value
        have HR2 := hid hu.value
        clear hv hu hb HK HU
        go_wp2_with fail
        refine (rtextN HQ.out.nat (by decide)).mono ?_
        rintro e w51 ⟨rfl, hb⟩
        replace X1 := qx X1 hb
        replace HR2 := wr HR2 hb
        replace B := bb B hb
        clear hb HQ
        by_cases h0 : n = 0
        · subst h0
          have hj1 : ¬ 9223372036854775807 < 1 + (dabs A 0).size := by omega
          have hP0 := HP0.out
          rw [← hP0]
          obtain ⟨x1, x2, x3⟩ := X1.out.cells
          clear hP0 HP0 HPN hq1 hq2
          rcases hsg with ⟨rfl, hA⟩ | ⟨rfl, hA⟩ | rfl
          · have hn7 : (0 : Int) < (n7 : Int) := by have := HLN.out; omega
            have hd := dtxt_sign HSG.out HNE.out HNA.out
            rw [decide_eq_true hA] at hd
            have HF := hid hd
            clear hd hA
            go_wp2_with fail
            go_ret
            exact ⟨by rw [HF.out]; rfl, B.out⟩
          · obtain rfl : n7 = 0 := HLN.out.2 hA
            have hd := dtxt_sign HSG.out HNE.out HNA.out
            rw [decide_eq_false (by omega)] at hd
            have HF := hid hd
            clear hd hA
            go_wp2_with fail
            go_ret
            exact ⟨by rw [HF.out]; rfl, B.out⟩
          · have hd := dtxt_sign HSG.out HNE.out HNA.out
            have HF := hid hd
            clear hd
            go_wp2_with fail
            go_ret
            exact ⟨by rw [HF.out]; rfl, B.out⟩
        · have hn1 : (0 : Int) < (n : Int) := by omega
          have HP := hid (HPN.out (by omega))
          have hbl := Num.length_dtext_le HB0.out (by omega)
          have hbs : (txt (A % pten n)).size = (Num.dtext (A % pten n)).length := size_txt _
          clear HP0 HPN HB0
          go_wp2_with fail
          refine (rtextN HR2.out.nat (by decide)).mono ?_
          rintro e w52 ⟨rfl, hb⟩
          replace X1 := qx X1 hb
          replace B := bb B hb
          clear hb HR2
          have hbl2 := txt_list (A % pten n)
          generalize txt (A % pten n) = tb at *
          generalize Num.dtext (A % pten n) = lb at *
          generalize txt (A / pten n) = ta at *
          have HBL := hid hbl2
          have HBS := hid hbs
          have HBN := hid hbl
          clear hbl2 hbs hbl
          go_wp2_with fail
          go_loop [13] (fun t => ∃ (j : Nat) (s : ByteArray), t = .string s ∧ Hid (j + lb.length ≤ n) ∧ Hid (s.size = j + lb.length) ∧ Hid (s.data.toList = List.replicate j 48 ++ lb)) (fun t => n - lenT t)
          case atStart => exact ⟨0, _, rfl, hid (by rw [Nat.zero_add]; exact HBN.out), hid (by rw [Nat.zero_add]; exact HBS.out), hid (by rw [HBL.out]; rfl)⟩
          case round =>
            obtain ⟨j, s, rfl, HJ, HS, HL⟩ := hrel
            by_cases hlt : j + lb.length < n
            · have hs1 : (s.size : Int) < (n : Int) := by have := HS.out; omega
              have hj : ¬ 9223372036854775807 < 1 + s.size := by have := HNN.out; omega
              have HS2 := hid (show (⟨#[48]⟩ ++ s : ByteArray).size = j + 1 + lb.length by rw [ByteArray.size_append]; show 1 + _ = _; have := HS.out; omega)
              have HL2 := hid (show (⟨#[48]⟩ ++ s : ByteArray).data.toList = List.replicate (j + 1) 48 ++ lb by rw [app_list, HL.out]; rfl)
              go_wp2_with fail
              go_round
              case rel => exact ⟨j + 1, _, rfl, hid (by omega), HS2, HL2⟩
              case measure => show n - (⟨#[48]⟩ ++ s : ByteArray).size < n - s.size; have := HS.out; have := HS2.out; omega
            · have hjn : j + lb.length = n := by have := HJ.out; omega
              have hs1 : (n : Int) ≤ (s.size : Int) := by have := HS.out; omega
              have hsn : s.size = n := by have := HS.out; omega
              have hs : s = ⟨(zpad n lb).toArray⟩ := by
                apply ba_ext
                rw [HL.out, show (⟨(zpad n lb).toArray⟩ : ByteArray).data.toList = zpad n lb by simp]
                unfold zpad
                rw [show n - lb.length = j by omega]
              have hEQ := HP.out
              rw [← hs] at hEQ
              have hE2 := hEQ.symm
              have hj1 : ¬ 9223372036854775807 < ta.size + 1 := by omega
              have hj2 : ¬ 9223372036854775807 < ta.size + 1 + s.size := by have := HNN.out; omega
              have hj3 : ¬ 9223372036854775807 < 1 + (dabs A n).size := by omega
              obtain ⟨x1, x2, x3⟩ := X1.out.cells
              clear hEQ hs HP HS HL HJ hq1 hq2 hsn hjn hlt HBL HBS HBN
              rcases hsg with ⟨rfl, hA⟩ | ⟨rfl, hA⟩ | rfl
              · have hn7 : (0 : Int) < (n7 : Int) := by have := HLN.out; omega
                have hd := dtxt_sign HSG.out HNE.out HNA.out
                rw [decide_eq_true hA] at hd
                have HF := hid hd
                clear hd hA
                go_wp2_with fail
                go_ret
                exact ⟨by rw [HF.out]; rfl, B.out⟩
              · obtain rfl : n7 = 0 := HLN.out.2 hA
                have hd := dtxt_sign HSG.out HNE.out HNA.out
                rw [decide_eq_false (by omega)] at hd
                have HF := hid hd
                clear hd hA
                go_wp2_with fail
                go_ret
                exact ⟨by rw [HF.out]; rfl, B.out⟩
              · have hd := dtxt_sign HSG.out HNE.out HNA.out
                have HF := hid hd
                clear hd
                go_wp2_with fail
                go_ret
                exact ⟨by rw [HF.out]; rfl, B.out⟩

end Go.Proofs.YtjeeepcnaaadmaaGreatDoor
