/-
  PACKAGE whole: Of, Sign, Less, Gcd.
-/
import Derived.Test.YtjeeepcnaaadmaaWhole2
import Derived.Test.YtjeeepcnaaadmaaNatOf
namespace Go.Proofs.Ytjeeepcnaaadmaa
open Go.RowKit
open Num
set_option linter.unusedVariables false
set_option maxRecDepth 100000
set_option linter.unusedSimpArgs false

theorem Whl.lt {w : World} {v : Value} {z : Int} {k : Nat} (h : Whl w v z k) : z.natAbs < B ^ k := by
  obtain ⟨s, sv, xs, h1, h2, h3, h4, h5, h6⟩ := h
  rw [← h6, natAbs_zof]
  exact few_limbs h2.1 h4
theorem Whl.drew {w : World} {v : Value} {z : Int} {k : Nat} (h : Whl w v z k) : Whl w.drew v z k := h.on (Below.drew (Below.refl _ _))
theorem Whl.nil (w : World) (k : Nat) : Whl w (.agg #[.bool false, .slice none 0 0]) 0 k := ⟨false, _, [], rfl, Lim.nil w, .inl rfl, Nat.zero_le _, fun e => by simp at e, rfl⟩

set_option maxHeartbeats 400000 in
theorem of_plus (n : Nat) (hn : n < 9223372036854775808) (w : World) :
    Calls Try.prog 71 #[.int .i64 n] w fun e w' => ∃ v, e = .returned v ∧ Whl w' v n 2 ∧ Below w.heap.size w w' := by
  obtain ⟨x0, bw, sz⟩ := boxes1 w false (.slice none 0 0) ⟨_, _, _, rfl⟩
  have HN := hid (fun w => natof_lim n (by omega) w)
  have X0 := hid x0
  have BW := hid bw
  have h1 : IntKind.u64.wrap (n : Int) = n := IntWalk.u64_in _ (by omega)
  have h2 : (0 : Int) ≤ (n : Int) := by omega
  clear x0 bw sz hn
  go_enter Try.func71, Try.ntmps71
  go_wp2_with fail
  refine (HN.out _).mono ?_
  rintro e w1 ⟨v, zs, rfl, hL, tr, hl, hv, hb⟩
  obtain ⟨p, m, c, rfl⟩ := hL.slice
  have x0' := X0.out.below hb X0.out.lt
  obtain ⟨c0, f0, c1, f1⟩ := x0'.stores
  have X1 := hid x0'
  have B1 := hid (BW.out.trans (hb.mono BW.out.size))
  have HV := hid (show Whl w1 (.agg #[.bool false, .slice p m c]) n 2 from ⟨false, _, zs, rfl, hL, tr, hl, fun e => by simp at e, by rw [hv]; rfl⟩)
  clear hL tr hl hv hb x0' HN
  go_wp2_with fail
  obtain ⟨r1, r2, r3⟩ := X1.out.last B1.out (Nat.le_refl _) false p m c
  refine bodyPost_ret (res_one rfl rfl r1) rfl ?_
  exact ⟨_, rfl, r3 HV.out, r2⟩

set_option maxHeartbeats 400000 in
theorem of_minus (n : Nat) (h0 : 0 < n) (hn : n ≤ 9223372036854775808) (w : World) :
    Calls Try.prog 71 #[.int .i64 (-(n : Int))] w fun e w' => ∃ v, e = .returned v ∧ Whl w' v (-(n : Int)) 2 ∧ Below w.heap.size w w' := by
  obtain ⟨x0, bw, sz⟩ := boxes1 w false (.slice none 0 0) ⟨_, _, _, rfl⟩
  have HN := hid (fun w => natof_lim n (by omega) w)
  have X0 := hid x0
  have BW := hid bw
  have h1 : IntKind.u64.wrap (-(n : Int)) = 18446744073709551616 - n := by rw [IntKind.wrap_u64]; omega
  have h3 : IntKind.u64.wrap (-(18446744073709551616 - (n : Int))) = n := by rw [IntKind.wrap_u64]; omega
  have h2 : (0 : Int) < (n : Int) := by omega
  have H0 := hid h0
  clear x0 bw sz hn h0
  go_enter Try.func71, Try.ntmps71
  go_wp2_with fail
  refine (HN.out _).mono ?_
  rintro e w1 ⟨v, zs, rfl, hL, tr, hl, hv, hb⟩
  obtain ⟨p, m, c, rfl⟩ := hL.slice
  have x0' := X0.out.below hb X0.out.lt
  obtain ⟨c0, f0, c1, f1⟩ := x0'.stores
  have X1 := hid x0'
  have B1 := hid (BW.out.trans (hb.mono BW.out.size))
  have HV := hid (show Whl w1 (.agg #[.bool true, .slice p m c]) (-(n : Int)) 2 from ⟨true, _, zs, rfl, hL, tr, hl, fun e => by rw [hv]; exact Nat.ne_of_gt H0.out, by rw [hv]; rfl⟩)
  clear hL tr hl hv hb x0' HN
  go_wp2_with fail
  obtain ⟨r1, r2, r3⟩ := X1.out.last B1.out (Nat.le_refl _) true p m c
  refine bodyPost_ret (res_one rfl rfl r1) rfl ?_
  exact ⟨_, rfl, r3 HV.out, r2⟩

theorem of_whl (z : Int) (h1 : -9223372036854775808 ≤ z) (h2 : z < 9223372036854775808) (w : World) :
    Calls Try.prog 71 #[.int .i64 z] w fun e w' => ∃ v, e = .returned v ∧ Whl w' v z 2 ∧ Below w.heap.size w w' := by
  by_cases h : z < 0
  · have e : z = -((z.natAbs : Nat) : Int) := by omega
    rw [e]
    exact of_minus _ (by omega) (by omega) w
  · have e : z = ((z.natAbs : Nat) : Int) := by omega
    rw [e]
    exact of_plus _ (by omega) w
/-- One limb is enough for one digit. -/
theorem of_small (z : Int) (h : z.natAbs < 4294967296) (w : World) :
    Calls Try.prog 71 #[.int .i64 z] w fun e w' => ∃ v, e = .returned v ∧ Whl w' v z 1 ∧ Below w.heap.size w w' := by
  refine (of_whl z (by omega) (by omega) w).mono ?_
  rintro e w' ⟨v, rfl, hv, hb⟩
  exact ⟨v, rfl, hv.fit 1 (by rw [Nat.pow_one, B_eq]; exact h), hb⟩

set_option maxHeartbeats 400000 in
theorem sgn_whl {w : World} {v : Value} {z : Int} {k : Nat} (h : Whl w v z k) :
    Calls Try.prog 52 #[v] w fun e w' => e = .returned (.int .i64 z.sign) ∧ Below w.heap.size w w' := by
  obtain ⟨s, sv, xs, rfl, hl, ht, hk, hs, hz⟩ := h
  obtain ⟨p, c, rfl, _⟩ := lim_parts hl
  obtain ⟨x0, bw, sz⟩ := boxes1 w s (.slice p xs.length c) ⟨_, _, _, rfl⟩
  cases s
  · by_cases h0 : val xs = 0
    · have e : xs = [] := ht.zero_iff.1 h0
      have hz0 : z.sign = 0 := by rw [← hz, h0]; rfl
      subst e
      have BW := hid bw
      rw [hz0]
      clear hl ht hk hs hz h0 hz0 x0 bw sz
      go_enter Try.func52, Try.ntmps52
      go_wp2_with fail
      go_ret
      exact ⟨rfl, BW.out⟩
    · have hz0 : z.sign = 1 := by
        rw [← hz]
        exact Int.sign_eq_one_of_pos (by simp [zof]; omega)
      have hn0 : (0 : Int) < (xs.length : Int) := by
        cases xs with
        | nil => exact absurd rfl h0
        | cons => simp
      rw [hz0]
      generalize xs.length = n at *
      have BW := hid bw
      clear hl ht hk hs hz h0 hz0 x0 bw sz
      go_enter Try.func52, Try.ntmps52
      go_wp2_with fail
      go_ret
      exact ⟨rfl, BW.out⟩
  · have hz0 : z.sign = -1 := by
      rw [← hz]
      have := hs rfl
      exact Int.sign_eq_neg_one_of_neg (by simp [zof]; omega)
    rw [hz0]
    generalize xs.length = n at *
    have BW := hid bw
    clear hl ht hk hs hz hz0 x0 bw sz
    go_enter Try.func52, Try.ntmps52
    go_wp2_with fail
    go_ret
    exact ⟨rfl, BW.out⟩

theorem neg_field (s : Bool) (p : Option Addr) (n c : Nat) (w : World) : (Instr.field 49 (.agg #[.bool s, .slice p n c]) 0).run Try.prog w = .ok (.bool s) w := by kernel_rfl

set_option maxHeartbeats 400000 in
theorem zless_whl {w : World} {v u : Value} {z y : Int} {k l : Nat} (h : Whl w v z k) (h' : Whl w u y l) (hk : k ≤ 549755813888) (hl : l ≤ 549755813888) :
    Calls Try.prog 70 #[v, u] w fun e w' => e = .returned (.bool (decide (z < y))) ∧ Below w.heap.size w w' := by
  obtain ⟨s, p, n, c, rfl⟩ := h.opened
  obtain ⟨s', p', n', c', rfl⟩ := h'.opened
  obtain ⟨x0, x1, bw, sz⟩ := boxes2 w s s' (.slice p n c) (.slice p' n' c') ⟨_, _, _, rfl⟩ ⟨_, _, _, rfl⟩
  have HS := hid (sub_whl (h.on bw) (h'.on bw) hk hl)
  have BW := hid bw
  have SZ := hid sz
  clear h h' hk hl x0 x1 bw sz
  go_enter Try.func70, Try.ntmps70
  go_wp2_with fail
  refine HS.out.mono ?_
  rintro e w1 ⟨v, rfl, hv, hb⟩
  obtain ⟨s1, sv1, xs1, rfl, hl, ht, hk, hs, hz⟩ := hv.neg
  obtain ⟨p1, n1, c1, rfl⟩ := hl.slice
  have HB := hid (BW.out.trans (hb.mono BW.out.size))
  have HZ := hid (show s1 = decide (z < y) by rw [hs]; apply decide_eq_decide.2; omega)
  clear hl ht hk hs hz hv hb HS
  have hfd := neg_field s1 p1 n1 c1
  go_wp2_with fail
  go_ret
  exact ⟨ret_bool HZ.out, HB.out⟩

set_option maxHeartbeats 400000 in
theorem zgcd_whl {w : World} {v u : Value} {z y : Int} {k : Nat} (h : Whl w v z k) (h' : Whl w u y k) (hk : k ≤ 549755813888) :
    Calls Try.prog 81 #[v, u] w fun e w' => ∃ v, e = .returned v ∧ Whl w' v (Int.gcd z y) k ∧ Below w.heap.size w w' := by
  obtain ⟨s, sv, xs, rfl, hl, ht, hk1, hs, hz⟩ := h
  obtain ⟨s', sv', xs', rfl, hl', ht', hk1', hs', hz'⟩ := h'
  have e1 : z.natAbs = val xs := by rw [← hz, natAbs_zof]
  have e2 : y.natAbs = val xs' := by rw [← hz', natAbs_zof]
  obtain ⟨x0, x1, x2, bw, sz⟩ := boxes3 w s s' false sv sv' (.slice none 0 0) hl.slice hl'.slice ⟨_, _, _, rfl⟩
  have HG := hid (gcd_lim (hl.below bw (Nat.le_refl _)) (hl'.below bw (Nat.le_refl _)) hk1 hk1' (by omega))
  have HE := hid (show Nat.gcd (val xs) (val xs') = Int.gcd z y by rw [Int.gcd, e1, e2])
  have X2 := hid x2
  have BW := hid bw
  have SZ := hid sz
  obtain ⟨p, n, c, rfl⟩ := hl.slice
  obtain ⟨p', n', c', rfl⟩ := hl'.slice
  clear hl hl' ht ht' hk1 hk1' hs hs' hz hz' x0 x1 x2 bw sz e1 e2
  go_enter Try.func81, Try.ntmps81
  go_wp2_with fail
  refine HG.out.mono ?_
  rintro e w1 ⟨v, zs, rfl, hL, tr, hl, hv, hb⟩
  obtain ⟨p1, m1, c1, rfl⟩ := hL.slice
  have x2' := X2.out.below hb X2.out.lt
  obtain ⟨c0, f0, c1', f1⟩ := x2'.stores
  have X3 := hid x2'
  have B1 := hid (BW.out.trans (hb.mono BW.out.size))
  have HV := hid (show Whl w1 (.agg #[.bool false, .slice p1 m1 c1]) (Int.gcd z y) k from ⟨false, _, zs, rfl, hL, tr, hl, fun e => by simp at e, by rw [hv, HE.out]; rfl⟩)
  clear hL tr hl hv hb x2' HG
  go_wp2_with fail
  obtain ⟨r1, r2, r3⟩ := X3.out.last B1.out (show w.heap.size ≤ w.heap.size + 1 + 1 by omega) false p1 m1 c1
  refine bodyPost_ret (res_one rfl rfl r1) rfl ?_
  exact ⟨_, rfl, r3 HV.out, r2⟩

end Go.Proofs.Ytjeeepcnaaadmaa

