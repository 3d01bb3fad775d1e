import Derived.Test.YtckkbjnipacodaaZLeft
namespace Go.Proofs.Ytckkbjnipacodaa
open Go.RowKit
open Num
set_option linter.unusedVariables false
set_option maxRecDepth 100000
set_option linter.unusedSimpArgs false

set_option maxHeartbeats 1000000 in
theorem bezout_bad (a b d : ByteArray) (ha : a.size ≤ maxLen) (hb : b.size ≤ maxLen) {k : Int} (h : WrongZ a b k) (w : World) :
    Calls Try.prog 5 #[.string a, .string b, .string d] w fun e w' => e = .returned (.bool true) ∧ Below w.heap.size w w' := by
  have HD := hid (fun w => zgcd_bad h ha hb w)
  clear h
  go_enter Try.func5, Try.ntmps5
  go_wp2_with fail
  refine (divided_true w).mono ?_
  rintro e w1 ⟨rfl, b1⟩
  have B1 := hid b1
  clear b1 
  go_wp2_with fail
  refine (HD.out _).mono ?_
  rintro e w2 ⟨rfl, b2⟩
  have B2 := hid (B1.out.trans (b2.mono B1.out.size))
  clear b2 
  go_wp2_with fail
  go_ret
  exact ⟨rfl, B2.out⟩

theorem dvd_text {a d : Int} (h : (ztxt (a % d)).toList = [48]) : d ∣ a := by
  have h1 : ztxt (a % d) = ztxt 0 := by
    rw [ztxt_zero]
    rw [ByteArray.toList_eq] at h
    generalize ztxt (a % d) = t at h ⊢
    obtain ⟨⟨t⟩⟩ := t
    simp only at h
    rw [h]
  exact Int.dvd_of_emod_eq_zero (ztxt_inj h1)

set_option maxHeartbeats 4000000 in
theorem bezout_good (a b d : ByteArray) (ha : a.size ≤ maxLen) (hb : b.size ≤ maxLen) (hd : d.size ≤ maxLen) (h1 : GoodZ a) (h2 : GoodZ b) (w : World) :
    Calls Try.prog 5 #[.string a, .string b, .string d] w fun e w' => e = .returned (.bool true) ∧ Below w.heap.size w w' := by
  have HD := hid (fun w => zgcd_good h1 h2 w)
  have b3 := znum_lt h1
  have b4 := znum_lt h2
  obtain ⟨c1, c2, c3⟩ := zg_bounds (znum a) (znum b)
  have b5 : (10 : Nat) ^ 100 ≤ 10 ^ 200 := by decide +kernel
  have b6 : 1 < (10 : Nat) ^ 200 := by decide +kernel
  have hx : (ztxt (zg (znum a) (znum b)).2.1).size ≤ maxLen := size_ztxt_max (by omega)
  have hy : (ztxt (zg (znum a) (znum b)).2.2).size ≤ maxLen := size_ztxt_max (by omega)
  have hgs : (ztxt (zg (znum a) (znum b)).1).size ≤ maxLen := size_ztxt_max (by omega)
  have hgg : GoodZ (ztxt (zg (znum a) (znum b)).1) := goodZ_ztxt0 (by rw [zg_gcd]; omega) (by omega)
  have HM1 := hid (fun w => zmul_any _ _ hx ha w)
  have HM2 := hid (fun w => zmul_any _ _ hy hb w)
  have HDA := hid (fun w => zdiv_any _ _ ha hd w)
  have HDB := hid (fun w => zdiv_any _ _ hb hd w)
  have HDG := hid (fun w => zdiv_any _ _ hgs hd w)
  have HG := hid hgg
  have HG1 := hid h1
  have HG2 := hid h2
  clear b3 b4 c1 c2 c3 b5 b6 hx hy hgs hgg h1 h2
  have hmade := hid (zg_made (znum a) (znum b))
  have hgz := hid (zg_gcd (znum a) (znum b))
  generalize (zg (znum a) (znum b)).1 = gz at *
  generalize (zg (znum a) (znum b)).2.1 = xz at *
  generalize (zg (znum a) (znum b)).2.2 = yz at *
  have hne := errv_neq
  have heq := errv_eql
  have hgd := errv_guard
  go_enter Try.func5, Try.ntmps5
  go_wp2_with fail
  refine (divided_true w).mono ?_
  rintro e w1 ⟨rfl, b1⟩
  have B1 := hid b1
  clear b1 
  go_wp2_with fail
  refine (HD.out _).mono ?_
  rintro e w2 ⟨rfl, b2⟩
  have B2 := hid (B1.out.trans (b2.mono B1.out.size))
  clear b2 
  go_wp2_with fail
  refine (HM1.out _).mono ?_
  rintro e w3 ⟨p, k3, rfl, t3, z3, b3⟩
  have T3 := hid t3
  have B3 := hid (B2.out.trans (b3.mono B2.out.size))
  clear b3 t3
  go_wp2_with fail
  refine (HM2.out _).mono ?_
  rintro e w4 ⟨q, k4, rfl, t4, z4, b4⟩
  have T4 := hid t4
  have B4 := hid (B3.out.trans (b4.mono B3.out.size))
  clear b4 t4
  by_cases h3 : k3 = 0
  · subst h3
    by_cases h4 : k4 = 0
    · subst h4
      rcases goodZ_or_bad p with hp | ⟨kp, hp⟩
      · have HCP := hid (fun w => zcheck_good hp w)
        rcases goodZ_or_bad q with hq | ⟨kq, hq⟩
        · have HCQ := hid (fun w => zcheck_good hq w)
          have HAD := zadd_good hp hq
          have es : ztxt (znum p + znum q) = ztxt gz := by
            rw [(T3.out.yes rfl).2.2, (T4.out.yes rfl).2.2, znum_ztxt, znum_ztxt, znum_ztxt, znum_ztxt, hmade.out]
          rw [es] at HAD
          clear es
          have HAD := hid HAD
          clear hp hq
          by_cases hz : gz = 0
          · have hab : znum a = 0 ∧ znum b = 0 := by
              have h := hgz.out
              rw [hz] at h
              have h' : Int.gcd (znum a) (znum b) = 0 := by omega
              exact Int.gcd_eq_zero_iff.1 h'
            have ea : a = ⟨#[48]⟩ := by rw [← ztxt_good HG1.out, hab.1, ztxt_zero]
            have eb : b = ⟨#[48]⟩ := by rw [← ztxt_good HG2.out, hab.2, ztxt_zero]
            have hzl : (ztxt gz).toList = [48] := by rw [hz, ztxt_zero, ByteArray.toList_eq]
            clear hz hab hmade hgz T3 T4 HG
            subst ea eb
            go_wp2_with fail
            refine (HCP.out _).mono ?_
            rintro e w5 ⟨rfl, b5⟩
            have B5 := hid (B4.out.trans (b5.mono B4.out.size))
            clear b5 
            go_wp2_with fail
            refine (HCQ.out _).mono ?_
            rintro e w6 ⟨rfl, b6⟩
            have B6 := hid (B5.out.trans (b6.mono B5.out.size))
            clear b6 
            go_wp2_with fail
            refine (HAD.out _).mono ?_
            rintro e w7 ⟨rfl, b7⟩
            have B7 := hid (B6.out.trans (b7.mono B6.out.size))
            clear b7 
            go_wp2_with fail
            go_ret
            exact ⟨rfl, B7.out⟩
          · have hzl : ¬ (ztxt gz).toList = [48] := by
              intro h
              apply hz
              have h1 : ztxt gz = ztxt 0 := by
                rw [ztxt_zero]
                rw [ByteArray.toList_eq] at h
                generalize ztxt gz = t at h ⊢
                obtain ⟨⟨t⟩⟩ := t
                simp only at h
                rw [h]
              exact ztxt_inj h1
            have hzb : ((ztxt gz).toList == [48]) = false := by simpa using hzl
            have hga : gz ∣ znum a := by rw [hgz.out]; exact Int.gcd_dvd_left _ _
            have hgb : gz ∣ znum b := by rw [hgz.out]; exact Int.gcd_dvd_right _ _
            have D1 := zdiv_good HG1.out HG.out (by rw [znum_ztxt]; exact hz)
            have D2 := zdiv_good HG2.out HG.out (by rw [znum_ztxt]; exact hz)
            rw [znum_ztxt, Int.emod_eq_zero_of_dvd hga, ztxt_zero] at D1
            rw [znum_ztxt, Int.emod_eq_zero_of_dvd hgb, ztxt_zero] at D2
            have HD1 := hid D1
            have HD2 := hid D2
            have HZ := hid hz
            clear D1 D2 hga hgb hz
            go_wp2_with fail
            refine (HCP.out _).mono ?_
            rintro e w5 ⟨rfl, b5⟩
            have B5 := hid (B4.out.trans (b5.mono B4.out.size))
            clear b5 
            go_wp2_with fail
            refine (HCQ.out _).mono ?_
            rintro e w6 ⟨rfl, b6⟩
            have B6 := hid (B5.out.trans (b6.mono B5.out.size))
            clear b6 
            go_wp2_with fail
            refine (HAD.out _).mono ?_
            rintro e w7 ⟨rfl, b7⟩
            have B7 := hid (B6.out.trans (b7.mono B6.out.size))
            clear b7 
            go_wp2_with fail
            refine (HD1.out _).mono ?_
            rintro e w8 ⟨rfl, b8⟩
            have B8 := hid (B7.out.trans (b8.mono B7.out.size))
            clear b8 
            go_wp2_with fail
            refine (HD2.out _).mono ?_
            rintro e w9 ⟨rfl, b9⟩
            have B9 := hid (B8.out.trans (b9.mono B8.out.size))
            clear b9 
            go_wp2_with fail
            refine (HDA.out _).mono ?_
            rintro e w10 ⟨_, u, k10, rfl, t10, _, _, b10⟩
            have T10 := hid t10
            have B10 := hid (B9.out.trans (b10.mono B9.out.size))
            clear b10 t10
            go_wp2_with fail
            refine (HDB.out _).mono ?_
            rintro e w11 ⟨_, v, k11, rfl, t11, _, _, b11⟩
            have T11 := hid t11
            have B11 := hid (B10.out.trans (b11.mono B10.out.size))
            clear b11 t11
            go_wp2_with fail
            refine (HDG.out _).mono ?_
            rintro e w12 ⟨_, x, k12, rfl, t12, _, _, b12⟩
            have T12 := hid t12
            have B12 := hid (B11.out.trans (b12.mono B11.out.size))
            clear b12 t12
            have E : k10 = 0 → k11 = 0 → u.toList = [48] → v.toList = [48] → k12 = 0 ∧ x.toList = [48] := by
              intro h10 h11 hu hv
              obtain ⟨_, gd, d0, _, eu⟩ := T10.out.yes h10
              obtain ⟨_, _, _, _, ev⟩ := T11.out.yes h11
              rw [eu] at hu
              rw [ev] at hv
              have hdg : znum d ∣ gz := by
                rw [hgz.out]
                exact Int.dvd_coe_gcd (dvd_text hu) (dvd_text hv)
              have h12 := T12.out.zero HG.out gd d0
              refine ⟨h12, ?_⟩
              rw [(T12.out.yes h12).2.2.2.2, znum_ztxt, Int.emod_eq_zero_of_dvd hdg, ztxt_zero, ByteArray.toList_eq]
            have HE := hid E
            clear E
            go_wp2_with fail
            all_goals
              go_ret
              refine ⟨?_, B12.out⟩
              first
              | rfl
              | exact absurd (HE.out (by assumption) (by assumption) (by assumption) (by assumption)).1 (by assumption)
              | exact ret_bool (by rw [(HE.out (by assumption) (by assumption) (by assumption) (by assumption)).2]; rfl)
        · have HCQ := hid (fun w => zcheck_bad hq z4 w)
          clear hp hq
          go_wp2_with fail
          refine (HCP.out _).mono ?_
          rintro e w5 ⟨rfl, b5⟩
          have B5 := hid (B4.out.trans (b5.mono B4.out.size))
          clear b5 
          go_wp2_with fail
          refine (HCQ.out _).mono ?_
          rintro e w6 ⟨rfl, b6⟩
          have B6 := hid (B5.out.trans (b6.mono B5.out.size))
          clear b6 
          go_wp2_with fail
          go_ret
          exact ⟨rfl, B6.out⟩
      · have HCP := hid (fun w => zcheck_bad hp z3 w)
        clear hp
        go_wp2_with fail
        refine (HCP.out _).mono ?_
        rintro e w5 ⟨rfl, b5⟩
        have B5 := hid (B4.out.trans (b5.mono B4.out.size))
        clear b5 
        go_wp2_with fail
        go_ret
        exact ⟨rfl, B5.out⟩
    · go_wp2_with fail
      go_ret
      exact ⟨rfl, B4.out⟩
  · go_wp2_with fail
    go_ret
    exact ⟨rfl, B4.out⟩

theorem bezout_walk (a b d : ByteArray) (ha : a.size ≤ maxLen) (hb : b.size ≤ maxLen) (hd : d.size ≤ maxLen) (w : World) :
    Calls Try.prog 5 #[.string a, .string b, .string d] w fun e w' => e = .returned (.bool true) ∧ Below w.heap.size w w' := by
  rcases rightZ_or_wrong a b with ⟨h1, h2⟩ | ⟨k, h⟩
  · exact bezout_good a b d ha hb hd h1 h2 w
  · exact bezout_bad a b d ha hb h w

end Go.Proofs.Ytckkbjnipacodaa

