import Derived.WideShapes
import Derived.Test.YtjeeepcnaaadmaaGreatDoorBunProofCfTells20
import Derived.Test.YtjeeepcnaaadmaaGreatDoorBunProofCfTells23
import Derived.Test.YtjeeepcnaaadmaaGreatDoorBunProofCfTells5
import Derived.Test.YtjeeepcnaaadmaaGreatDoorBunProofCfTells14
import Derived.Test.YtjeeepcnaaadmaaGreatDoorBunProofCfTells17
import Derived.Deep.LoopGhost
import Derived.Test.YtjeeepcnaaadmaaGreatDoorBunProofCfTells1
import Derived.Test.YtjeeepcnaaadmaaGreatDoorBunProofCfTells7
import Derived.Test.YtjeeepcnaaadmaaGreatDoorBunProofCfTells24
import Derived.Test.YtjeeepcnaaadmaaGreatDoorBunProofCfTells18
import Derived.Test.YtjeeepcnaaadmaaGreatDoorBunProofCfTells21
import Derived.Test.YtjeeepcnaaadmaaGreatDoorBunProofCfTells13
/-
  THE REFERENCE: CfOf.
-/
namespace Go.Proofs.YtjeeepcnaaadmaaGreatDoor
open Go.RowKit
open Num4
open Num (dg isNat dval)
set_option linter.unusedVariables false
set_option maxRecDepth 100000
set_option linter.unusedSimpArgs false

theorem cfq_fits {q : Rat} {k : Nat} (hm : q.num % q.den ≠ 0) (h : q.num.natAbs < B ^ k ∧ q.den < B ^ k) : (1 / (q - (q.floor : Rat))).num.natAbs < B ^ k ∧ (1 / (q - (q.floor : Rat))).den < B ^ k := by
  obtain ⟨_, _, h1, h2⟩ := cfq_step hm
  have := rest_den q
  rw [h1, h2]
  exact ⟨by simpa using h.2, Nat.lt_trans this h.2⟩
theorem cfq_down {q : Rat} {m : Nat} (hm : q.num % q.den ≠ 0) (h : q.den < m + 1) : (1 / (q - (q.floor : Rat))).den < m := by
  obtain ⟨_, _, _, h2⟩ := cfq_step hm
  have := rest_den q
  omega
theorem cfq_len {q : Rat} {k : Nat} (h : q.den < B ^ k) (hk : k ≤ 1000000) : 1 ≤ ((cfq q).map ztxt).length ∧ ((cfq q).map ztxt).length ≤ 100000000 := by
  have h1 : q.den < 2 ^ (14 * k) := by
    rw [Nat.pow_mul]
    exact Nat.lt_of_lt_of_le h (Nat.pow_le_pow_left (by decide) _)
  have h2 : (cfq q).length ≤ 2 * (14 * k) + 1 := cfl_len _ _ _ h1
  rw [List.length_map]
  exact ⟨by rw [cfq_cons]; simp, by omega⟩
theorem append_txs {w : World} {K : Nat} {u v : Value} {s : ByteArray} {l : List ByteArray} (h : OwnL w K u [s]) (h' : OwnL w K v l) (h1 : 1 ≤ l.length) (h2 : l.length ≤ 100000000) (hK : K ≤ w.heap.size) :
    ∃ v' w', (Builtin.append_ #[55, 55] 55 #[u, v]).run Tryz.prog w = .ok v' w' ∧ OwnT w' K v' (s :: l) ∧ w.grownBy w' u.ownBlock ∧ (∀ g, v'.ownBlock = some g → NoInt w' g) := by
  obtain ⟨i0, hi, hz0, hz1, hz2⟩ := info_parts infoStr
  obtain ⟨p, c, rfl, hn, hc, hp⟩ := h'.txs
  have hA := txs_at hn hp
  obtain ⟨b, off, rfl, hb, _⟩ := hA 0 (by omega)
  have HC : ∀ j x, (l.map Value.string)[j]? = some x → w.cell? (Addr.add ⟨b, off, none⟩ j) = some x := by
    intro j x hj
    rw [List.getElem?_map] at hj
    obtain ⟨y, hy, rfl⟩ := Option.map_eq_some_iff.1 hj
    obtain ⟨hjl, hje⟩ := List.getElem?_eq_some_iff.1 hy
    obtain ⟨b', off', e, _, h3⟩ := hA j hjl
    cases e
    rw [tx_lt hjl, hje] at h3
    rw [Go.WideShapes.add_plain]
    exact h3
  obtain ⟨v', w', hr, ho, hg, hno⟩ := append_ni (P := Tryz.prog) w K 55 55 9 i0 (.string ⟨#[]⟩) 1 16 Tryz.underlying55 hi hz0 hz1 hz2 rfl (by decide) u 1 [.string s] h.1 h.2 (fun x hx => by simp [Value.cells] at hx; subst hx; exact NI.str _)
    ⟨b, off, none⟩ l.length c (l.map Value.string) (by simp) HC (fun x hx => by obtain ⟨y, _, rfl⟩ := List.mem_map.1 hx; rfl) (fun x hx => by obtain ⟨y, _, rfl⟩ := List.mem_map.1 hx; exact NI.str y) (by unfold maxLen; omega) (by omega) hK
  refine ⟨v', w', hr, ?_, hg, hno⟩
  show World.ownsRow _ _ _ _ _ _ _
  rw [show (s :: l).length = 1 + l.length by simp; omega]
  simpa using ho
theorem wp_append_run {P : Program} {w w' : World} {o : Oper} {a : Act} {K : Act → World → Prop} {Q : Exit → Act → World → Prop} (s x : Operand) (t : TypeId)
    (ho : o.op = .call { callee := .builtin .append, args := #[s, x], argTypes := #[t, t] }) (v u r : Value) (hs : a.eval s = v) (hx : a.eval x = u)
    (hr : (Builtin.append_ #[t, t] o.type #[v, u]).run P w = .ok r w') (h : K (a.put o.dst r) w') : o.wp P a w K Q := by
  unfold Oper.wp execOp
  simp only [ho, resolve, invoke, builtin, Sem.run_bind, Sem.run_pure, Result.andThen_ok, List.map_toArray, List.map_cons, List.map_nil, hs, hx, hr]
  exact h
theorem OwnL.one {w : World} {K : Nat} (s : ByteArray) (hK : K ≤ w.heap.size) : OwnL (w.alloc (.cells #[.string s] 9)) K (.slice (some ⟨w.heap.size, 0, none⟩) 1 1) [s] :=
  ⟨OwnT.new w K hK [s] (by show 1 ≤ maxLen; unfold maxLen; omega), fun g hg => by
    simp [Value.ownBlock] at hg
    subst hg
    exact NoInt.new w _ _ (fun u hu => by simp at hu; subst hu; exact NI.str s)⟩

set_option maxHeartbeats 4000000 in
theorem rcfof_step {w : World} {v : Value} {q : Rat} {k m : Nat} (h : QR w v q k) (hk1 : 1 ≤ k) (hk : k ≤ 1000000) (hN : q.num.natAbs < B ^ k) (hD : q.den < B ^ k) (hm0 : q.den < m + 1)
    (ih : ∀ (w : World) (v : Value) (q : Rat), QR w v q k → q.num.natAbs < B ^ k → q.den < B ^ k → q.den < m → Calls Tryz.prog 30 #[v] w fun e w' => ∃ u, e = .returned u ∧ OwnL w' w.heap.size u ((cfq q).map ztxt) ∧ Below w.heap.size w w') :
    Calls Tryz.prog 30 #[v] w fun e w' => ∃ u, e = .returned u ∧ OwnL w' w.heap.size u ((cfq q).map ztxt) ∧ Below w.heap.size w w' := by
  obtain ⟨s1a, p1a, n1a, c1a, p1b, n1b, c1b, rfl⟩ := h.opened
  obtain ⟨ht1, hu1⟩ := h.two
  have HK := hid hk
  have HK1 := hid hk1
  have IH := hid ih
  have HND := hid (And.intro hN hD)
  have HM0 := hid hm0
  clear ih hN hD hm0
  have B := hid (Below.refl w.heap.size w)
  have HN1 := hid ht1
  have HD1 := hid hu1
  have hb1 := (Below.refl _ _).alloc (Nat.le_refl w.heap.size) (.cells #[.bool s1a, .slice p1a n1a c1a, .slice p1b n1b c1b] 28)
  have hx2 := Qbx.new w s1a p1a n1a c1a p1b n1b c1b
  replace HN1 := wr HN1 hb1
  replace HD1 := wr HD1 hb1
  replace B := bb B hb1
  have X1 := hid hx2
  have hs3 : (w.alloc (.cells #[.bool s1a, .slice p1a n1a c1a, .slice p1b n1b c1b] 28)).heap.size = w.heap.size + 1 := by simp
  clear hb1 hx2
  clear hs3 h ht1 hu1 hk hk1
  go_enter Tryz.func30, Tryz.ntmps30
  obtain ⟨cc4a, cc4b, cc4c⟩ := X1.out.cells
  go_wp2_with fail
  generalize hW : w.alloc (.cells #[.bool s1a, .slice p1a n1a c1a, .slice p1b n1b c1b] 28) = W5 at *
  clear hW
  refine (rfloor (QR.mk2 HN1.out HD1.out) HK1.out (by have := HK.out; omega)).mono ?_
  rintro e w6 ⟨v, rfl, hv, hb⟩
  obtain ⟨s3, p3, n3, c3, rfl⟩ := hv.opened
  replace X1 := qx X1 hb
  replace HN1 := wr HN1 hb
  replace HD1 := wr HD1 hb
  replace B := bb B hb
  clear cc4a cc4b cc4c
  have HF := hid hv
  clear hb hv
  have hb7 := (Below.refl _ _).alloc (Nat.le_refl w6.heap.size) (.cells #[.bool s3, .slice p3 n3 c3] 26)
  have hx8 := BoxR.new w6 s3 p3 n3 c3
  have L0 := hid X1.out.lt
  replace X1 := qx X1 hb7
  replace HN1 := wr HN1 hb7
  replace HD1 := wr HD1 hb7
  replace HF := wr HF hb7
  replace B := bb B hb7
  have XF := hid hx8
  have hs9 : (w6.alloc (.cells #[.bool s3, .slice p3 n3 c3] 26)).heap.size = w6.heap.size + 1 := by simp
  clear hb7 hx8
  obtain ⟨cc10a, cc10b, cc10c⟩ := X1.out.cells
  obtain ⟨cc11a, cc11b⟩ := XF.out.both
  go_wp2_with fail
  generalize hW : w6.alloc (.cells #[.bool s3, .slice p3 n3 c3] 26) = W12 at *
  clear hW
  clear cc10a cc10b cc10c cc11a cc11b
  refine region_ops (by kernel_rfl) (by kernel_rfl) (fun a f a' w' => ∃ u4 u7 u8 u9 u10 : Value, a' = { tmps := (((((a.tmps.setIfInBounds 4 u4).setIfInBounds 7 u7).setIfInBounds 8 u8).setIfInBounds 9 u9).setIfInBounds 10 u10), defers := a.defers } ∧ Hid (Below W12.heap.size W12 w') ∧ Hid (f 0 = true → u7 = (.agg #[.bool s1a, .slice p1a n1a c1a, .slice p1b n1b c1b])) ∧ Hid (f 1 = true → u8 = (.agg #[.bool s3, .slice p3 n3 c3])) ∧ Hid (f 2 = true → QR w' u9 (q.floor : Rat) (k + 2)) ∧ Hid (f 3 = true → QR w' u10 (q - (q.floor : Rat)) (k + 2 + (k + 2) + 1)) ∧ Hid (f 4 = true → NewQ W12 w' u4 (f 5) u10) ∧ (f 5 = true → f 4 = true) ∧ (f 5 = true → f 3 = true)) ?h0 ⟨?s0, ?s1, ?s2, ?s3, ?s4, ?s5, trivial⟩ ?hend
  case h0 =>
    simp only [List.setIfInBounds_toArray, List.set_cons_zero, List.set_cons_succ]
    exact ⟨_, _, _, _, _, rfl, hid (Below.drew (Below.refl _ _)), hid (fun h => by cases h), hid (fun h => by cases h), hid (fun h => by cases h), hid (fun h => by cases h), hid (fun h => by cases h), fun h => h, fun h => h⟩
  case s0 =>
    rintro f a1 w1 ⟨u4, u7, u8, u9, u10, rfl, HBW, h0, h1, h2, h3, h4, o5_4, o5_3⟩ hf hd K hK
    simp only [List.setIfInBounds_toArray, List.set_cons_zero, List.set_cons_succ] at hK ⊢
    replace hK := hid hK
    obtain ⟨c1, c2, c3⟩ := (X1.out.below HBW.out X1.out.lt).cells
    go_simp
    exact hK.out _ _ ⟨_, _, _, _, _, rfl, HBW, hid (fun h => rfl), hid (fun h => h1.out h), hid (fun h => h2.out h), hid (fun h => h3.out h), hid (fun h => h4.out h), fun h => o5_4 h, fun h => o5_3 h⟩
  case s1 =>
    rintro f a1 w1 ⟨u4, u7, u8, u9, u10, rfl, HBW, h0, h1, h2, h3, h4, o5_4, o5_3⟩ hf hd K hK
    simp only [List.setIfInBounds_toArray, List.set_cons_zero, List.set_cons_succ] at hK ⊢
    replace hK := hid hK
    obtain ⟨c1, c2⟩ := (XF.out.below HBW.out XF.out.lt).both
    go_simp
    exact hK.out _ _ ⟨_, _, _, _, _, rfl, HBW, hid (fun h => h0.out h), hid (fun h => rfl), hid (fun h => h2.out h), hid (fun h => h3.out h), hid (fun h => h4.out h), fun h => o5_4 h, fun h => o5_3 h⟩
  case s2 =>
    rintro f a1 w1 ⟨u4, u7, u8, u9, u10, rfl, HBW, h0, h1, h2, h3, h4, o5_4, o5_3⟩ hf hd K hK
    simp only [List.setIfInBounds_toArray, List.set_cons_zero, List.set_cons_succ] at hK ⊢
    replace hK := hid hK
    simp [Region.binds] at hd
    obtain rfl := h1.out hd
    go_simp
    refine (rwhole (HF.out.below HBW.out (Nat.le_refl _)) (by omega)).mono ?_
    rintro e w2 ⟨v, rfl, hv, hb⟩
    go_wp2_with fail
    exact hK.out _ _ ⟨_, _, _, _, _, rfl, hid (below_next HBW.out hb), hid (fun h => h0.out h), hid (fun h => rfl), hid (fun h => hv), hid (fun h => (h3.out h).on hb), hid (fun h => (h4.out h).on hb), fun h => o5_4 h, fun h => o5_3 h⟩
  case s3 =>
    rintro f a1 w1 ⟨u4, u7, u8, u9, u10, rfl, HBW, h0, h1, h2, h3, h4, o5_4, o5_3⟩ hf hd K hK
    simp only [List.setIfInBounds_toArray, List.set_cons_zero, List.set_cons_succ] at hK ⊢
    replace hK := hid hK
    simp [Region.binds] at hd
    obtain rfl := h0.out hd.1
    go_simp
    refine (rsub ((QR.mk2 (HN1.out.below HBW.out (Nat.le_refl _)) (HD1.out.below HBW.out (Nat.le_refl _))).mono (by omega)) (h2.out hd.2) (by have := HK.out; omega)).mono ?_
    rintro e w2 ⟨v, rfl, hv, hb⟩
    go_wp2_with fail
    exact hK.out _ _ ⟨_, _, _, _, _, rfl, hid (below_next HBW.out hb), hid (fun h => rfl), hid (fun h => h1.out h), hid (fun h => (h2.out h).on hb), hid (fun h => hv), hid (fun h => ((h4.out h).on hb).free (by cases e : f 5 with | false => rfl | true => exact absurd (o5_3 e) (by rw [hf]; decide))), fun h => o5_4 h, fun _ => rfl⟩
  case s4 =>
    rintro f a1 w1 ⟨u4, u7, u8, u9, u10, rfl, HBW, h0, h1, h2, h3, h4, o5_4, o5_3⟩ hf hd K hK
    simp only [List.setIfInBounds_toArray, List.set_cons_zero, List.set_cons_succ] at hK ⊢
    replace hK := hid hK
    go_simp
    exact hK.out _ _ ⟨_, _, _, _, _, rfl, hid (below_next HBW.out ((Below.refl _ _).alloc (Nat.le_refl _) _)), hid (fun h => h0.out h), hid (fun h => h1.out h), hid (fun h => (h2.out h).on ((Below.refl _ _).alloc (Nat.le_refl _) _)), hid (fun h => (h3.out h).on ((Below.refl _ _).alloc (Nat.le_refl _) _)), hid (fun h => ⟨w1.heap.size, rfl, HBW.out.size, fun _ => Qbx.new w1 false none 0 0 none 0 0, fun e => absurd (o5_4 e) (by rw [hf]; decide)⟩), fun _ => rfl, fun h => o5_3 h⟩
  case s5 =>
    rintro f a1 w1 ⟨u4, u7, u8, u9, u10, rfl, HBW, h0, h1, h2, h3, h4, o5_4, o5_3⟩ hf hd K hK
    simp only [List.setIfInBounds_toArray, List.set_cons_zero, List.set_cons_succ] at hK ⊢
    replace hK := hid hK
    simp [Region.binds] at hd
    have ga : f 4 = true := by simp only [hd]
    have gv : f 3 = true := by simp only [hd]
    obtain ⟨g, rfl, hg, hn, _⟩ := h4.out ga
    replace hn := hn hf
    have hv9 := h3.out gv
    obtain ⟨s9a, p9a, n9a, c9a, p9b, n9b, c9b, rfl⟩ := hv9.opened
    obtain ⟨⟨c1, c2⟩, ⟨c3, c4⟩, c5, c6⟩ := hn.stores
    obtain ⟨n1, n2, n3⟩ := hn.last HBW.out hg s9a p9a n9a c9a p9b n9b c9b
    have HN := hid (And.intro n1 n2)
    have HV := hid (fun v z k h => @n3 v z k h)
    clear n1 n2 n3
    go_simp
    exact hK.out _ _ ⟨_, _, _, _, _, rfl, hid HN.out.2, hid (fun h => h0.out h), hid (fun h => h1.out h), hid (fun h => (h2.out h).moved HV.out), hid (fun h => (h3.out h).moved HV.out), hid (fun h => ⟨g, rfl, hg, fun e => by simp [more] at e, fun _ => ⟨_, _, _, _, _, _, _, rfl, HN.out.1⟩⟩), fun _ => ga, fun _ => gv⟩
  case hend =>
    rintro f a1 w1 ⟨u4, u7, u8, u9, u10, rfl, HBW, h0, h1, h2, h3, h4, _, _⟩ hall
    simp only [List.setIfInBounds_toArray, List.set_cons_zero, List.set_cons_succ]
    have hv9 := h3.out (hall 3 (by decide))
    obtain ⟨g, rfl, hg, _, hn⟩ := h4.out (hall 4 (by decide))
    obtain ⟨s9a, p9a, n9a, c9a, p9b, n9b, c9b, rfl, hn2⟩ := hn (hall 5 (by decide))
    replace XF := br XF HBW.out
    replace HF := wr HF HBW.out
    replace B := bb B HBW.out
    have XN := hid hn2
    obtain ⟨ht9, hu9⟩ := hv9.two
    have HN9 := hid ht9
    have HD9 := hid hu9
    clear h0 h1 h2 h3 h4 hall hn hn2 hg hv9 HBW ht9 hu9
    by_cases hm : q.num % q.den = 0
    · have hsn := rsgn (QR.mk2 HN9.out HD9.out) (by have := HK.out; omega)
      rw [(rest_parts q).1, hm] at hsn
      obtain ⟨cc901a, cc901b, cc901c⟩ := XN.out.cells
      obtain ⟨cc902a, cc902b⟩ := XF.out.both
      go_wp2_with fail
      refine (hsn).mono ?_
      rintro e w903 ⟨rfl, hb⟩
      replace XN := qx XN hb
      replace XF := br XF hb
      replace HF := wr HF hb
      replace B := bb B hb
      clear cc901a cc901b cc901c cc902a cc902b
      clear hb hsn
      obtain ⟨cc904a, cc904b, cc904c⟩ := XN.out.cells
      obtain ⟨cc905a, cc905b⟩ := XF.out.both
      go_wp2_with fail
      refine (rtextz HF.out (by have := HK.out; omega)).mono ?_
      rintro e w906 ⟨rfl, hb⟩
      replace HF := wr HF hb
      replace B := bb B hb
      clear cc904a cc904b cc904c cc905a cc905b
      clear hb 
      go_wp2_with fail
      go_ret
      rw [cfq_stop hm]
      exact ⟨_, rfl, OwnL.one _ B.out.size, B.out.alloc (by exact B.out.size) _⟩
    · have hsn := rsgn (QR.mk2 HN9.out HD9.out) (by have := HK.out; omega)
      have HST := hid (show (cfq q).map ztxt = ztxt q.floor :: (cfq (1 / (q - (q.floor : Rat)))).map ztxt ∧ q - (q.floor : Rat) ≠ 0 from ⟨by rw [(cfq_step hm).1, List.map_cons], (cfq_step hm).2.1⟩)
      have HFN := hid (cfq_fits hm HND.out)
      have HM := hid (cfq_down hm HM0.out)
      have HLN := hid (cfq_len HFN.out.2 HK.out)
      rw [(rest_parts q).1, Int.sign_eq_one_of_pos (by have := Int.emod_nonneg q.num (show (q.den : Int) ≠ 0 by have := q.den_pos; omega); omega)] at hsn
      obtain ⟨cc951a, cc951b, cc951c⟩ := XN.out.cells
      obtain ⟨cc952a, cc952b⟩ := XF.out.both
      go_wp2_with fail
      refine (hsn).mono ?_
      rintro e w953 ⟨rfl, hb⟩
      replace XN := qx XN hb
      replace XF := br XF hb
      replace HN9 := wr HN9 hb
      replace HD9 := wr HD9 hb
      replace HF := wr HF hb
      replace B := bb B hb
      clear cc951a cc951b cc951c cc952a cc952b
      clear hb hsn
      obtain ⟨cc954a, cc954b, cc954c⟩ := XN.out.cells
      obtain ⟨cc955a, cc955b⟩ := XF.out.both
      go_wp2_with fail
      clear cc954a cc954b cc954c cc955a cc955b
      refine region_ops (by kernel_rfl) (by kernel_rfl) (fun a f a' w' => ∃ u2 u17 u18 u19 u20 u21 u22 u23 u24 : Value, a' = { tmps := (((((((((a.tmps.setIfInBounds 2 u2).setIfInBounds 17 u17).setIfInBounds 18 u18).setIfInBounds 19 u19).setIfInBounds 20 u20).setIfInBounds 21 u21).setIfInBounds 22 u22).setIfInBounds 23 u23).setIfInBounds 24 u24), defers := a.defers } ∧ Hid (Below w953.heap.size w953 w') ∧ Hid (f 0 = true → u17 = (.agg #[.bool s3, .slice p3 n3 c3])) ∧ Hid (f 1 = true → u18 = .string (ztxt q.floor)) ∧ Hid (f 2 = true → (OwnL w' w953.heap.size u19 [ztxt q.floor] ∨ f 7 = true)) ∧ Hid (f 3 = true → (QR w' u20 (1 : Rat) 1 ∨ f 7 = true)) ∧ Hid (f 4 = true → u21 = (.agg #[.bool s9a, .slice p9a n9a c9a, .slice p9b n9b c9b])) ∧ Hid (f 5 = true → (QR w' u22 (1 / (q - (q.floor : Rat))) (k + 2 + (k + 2) + 1 + (k + 2 + (k + 2) + 1) + 1) ∨ f 7 = true)) ∧ Hid (f 6 = true → (OwnL w' w953.heap.size u23 ((cfq (1 / (q - (q.floor : Rat)))).map ztxt) ∨ f 7 = true)) ∧ Hid (f 7 = true → OwnL w' w953.heap.size u24 (ztxt q.floor :: ((cfq (1 / (q - (q.floor : Rat)))).map ztxt))) ∧ Hid (f 8 = true → u2 = u24) ∧ (f 6 = true → f 5 = true) ∧ (f 5 = true → f 3 = true) ∧ (f 7 = true → f 6 = true) ∧ (f 8 = true → f 7 = true) ∧ (f 7 = true → f 2 = true)) ?h0 ⟨?s0, ?s1, ?s2, ?s3, ?s4, ?s5, ?s6, ?s7, ?s8, trivial⟩ ?hend
      case h0 =>
        simp only [List.setIfInBounds_toArray, List.set_cons_zero, List.set_cons_succ]
        exact ⟨_, _, _, _, _, _, _, _, _, rfl, hid (Below.drew (Below.refl _ _)), hid (fun h => by cases h), hid (fun h => by cases h), hid (fun h => by cases h), hid (fun h => by cases h), hid (fun h => by cases h), hid (fun h => by cases h), hid (fun h => by cases h), hid (fun h => by cases h), hid (fun h => by cases h), fun h => h, fun h => h, fun h => h, fun h => h, fun h => h⟩
      case s0 =>
        rintro f a1 w1 ⟨u2, u17, u18, u19, u20, u21, u22, u23, u24, rfl, HBW, h0, h1, h2, h3, h4, h5, h6, h7, h8, o6_5, o5_3, o7_6, o8_7, o7_2⟩ hf hd K hK
        simp only [List.setIfInBounds_toArray, List.set_cons_zero, List.set_cons_succ] at hK ⊢
        replace hK := hid hK
        obtain ⟨c1, c2⟩ := (XF.out.below HBW.out XF.out.lt).both
        go_simp
        exact hK.out _ _ ⟨_, _, _, _, _, _, _, _, _, rfl, HBW, hid (fun h => rfl), hid (fun h => h1.out h), hid (fun h => h2.out h), hid (fun h => h3.out h), hid (fun h => h4.out h), hid (fun h => h5.out h), hid (fun h => h6.out h), hid (fun h => h7.out h), hid (fun h => h8.out h), fun h => o6_5 h, fun h => o5_3 h, fun h => o7_6 h, fun h => o8_7 h, fun h => o7_2 h⟩
      case s1 =>
        rintro f a1 w1 ⟨u2, u17, u18, u19, u20, u21, u22, u23, u24, rfl, HBW, h0, h1, h2, h3, h4, h5, h6, h7, h8, o6_5, o5_3, o7_6, o8_7, o7_2⟩ hf hd K hK
        simp only [List.setIfInBounds_toArray, List.set_cons_zero, List.set_cons_succ] at hK ⊢
        replace hK := hid hK
        simp [Region.binds] at hd
        obtain rfl := h0.out hd
        go_simp
        refine (rtextz (HF.out.below HBW.out (Nat.le_refl _)) (by have := HK.out; omega)).mono ?_
        rintro e w2 ⟨rfl, hb⟩
        go_wp2_with fail
        exact hK.out _ _ ⟨_, _, _, _, _, _, _, _, _, rfl, hid (below_next HBW.out hb), hid (fun h => rfl), hid (fun h => rfl), hid (fun h => (h2.out h).imp (fun h => h.on hb) id), hid (fun h => (h3.out h).imp (fun h => h.on hb) id), hid (fun h => h4.out h), hid (fun h => (h5.out h).imp (fun h => h.on hb) id), hid (fun h => (h6.out h).imp (fun h => h.on hb) id), hid (fun h => (h7.out h).on hb), hid (fun h => h8.out h), fun h => o6_5 h, fun h => o5_3 h, fun h => o7_6 h, fun h => o8_7 h, fun h => o7_2 h⟩
      case s2 =>
        rintro f a1 w1 ⟨u2, u17, u18, u19, u20, u21, u22, u23, u24, rfl, HBW, h0, h1, h2, h3, h4, h5, h6, h7, h8, o6_5, o5_3, o7_6, o8_7, o7_2⟩ hf hd K hK
        simp only [List.setIfInBounds_toArray, List.set_cons_zero, List.set_cons_succ] at hK ⊢
        replace hK := hid hK
        simp [Region.binds] at hd
        have e1 := h1.out hd
        subst e1
        go_simp
        exact hK.out _ _ ⟨_, _, _, _, _, _, _, _, _, rfl, hid (below_next HBW.out ((Below.refl _ _).alloc (Nat.le_refl _) _)), hid (fun h => h0.out h), hid (fun h => rfl), hid (fun h => .inl (OwnL.one _ HBW.out.size)), hid (fun h => (h3.out h).imp (fun h => h.on ((Below.refl _ _).alloc (Nat.le_refl _) _)) id), hid (fun h => h4.out h), hid (fun h => (h5.out h).imp (fun h => h.on ((Below.refl _ _).alloc (Nat.le_refl _) _)) id), hid (fun h => (h6.out h).imp (fun h => h.on ((Below.refl _ _).alloc (Nat.le_refl _) _)) id), hid (fun h => (h7.out h).on ((Below.refl _ _).alloc (Nat.le_refl _) _)), hid (fun h => h8.out h), fun h => o6_5 h, fun h => o5_3 h, fun h => o7_6 h, fun h => o8_7 h, fun _ => rfl⟩
      case s3 =>
        rintro f a1 w1 ⟨u2, u17, u18, u19, u20, u21, u22, u23, u24, rfl, HBW, h0, h1, h2, h3, h4, h5, h6, h7, h8, o6_5, o5_3, o7_6, o8_7, o7_2⟩ hf hd K hK
        simp only [List.setIfInBounds_toArray, List.set_cons_zero, List.set_cons_succ] at hK ⊢
        replace hK := hid hK
        go_simp
        refine (rint 1 (by omega) (by omega) _).mono ?_
        rintro e w2 ⟨v, rfl, hv, hb⟩
        rw [show ((1 : Int) : Rat) = 1 from rfl] at hv
        go_wp2_with fail
        exact hK.out _ _ ⟨_, _, _, _, _, _, _, _, _, rfl, hid (below_next HBW.out hb), hid (fun h => h0.out h), hid (fun h => h1.out h), hid (fun h => (h2.out h).imp (fun h => h.on hb) id), hid (fun h => .inl hv), hid (fun h => h4.out h), hid (fun h => (h5.out h).imp (fun h => h.on hb) id), hid (fun h => (h6.out h).imp (fun h => h.on hb) id), hid (fun h => (h7.out h).on hb), hid (fun h => h8.out h), fun h => o6_5 h, fun _ => rfl, fun h => o7_6 h, fun h => o8_7 h, fun h => o7_2 h⟩
      case s4 =>
        rintro f a1 w1 ⟨u2, u17, u18, u19, u20, u21, u22, u23, u24, rfl, HBW, h0, h1, h2, h3, h4, h5, h6, h7, h8, o6_5, o5_3, o7_6, o8_7, o7_2⟩ hf hd K hK
        simp only [List.setIfInBounds_toArray, List.set_cons_zero, List.set_cons_succ] at hK ⊢
        replace hK := hid hK
        obtain ⟨c1, c2, c3⟩ := (XN.out.below HBW.out XN.out.lt).cells
        go_simp
        exact hK.out _ _ ⟨_, _, _, _, _, _, _, _, _, rfl, HBW, hid (fun h => h0.out h), hid (fun h => h1.out h), hid (fun h => h2.out h), hid (fun h => h3.out h), hid (fun h => rfl), hid (fun h => h5.out h), hid (fun h => h6.out h), hid (fun h => h7.out h), hid (fun h => h8.out h), fun h => o6_5 h, fun h => o5_3 h, fun h => o7_6 h, fun h => o8_7 h, fun h => o7_2 h⟩
      case s5 =>
        rintro f a1 w1 ⟨u2, u17, u18, u19, u20, u21, u22, u23, u24, rfl, HBW, h0, h1, h2, h3, h4, h5, h6, h7, h8, o6_5, o5_3, o7_6, o8_7, o7_2⟩ hf hd K hK
        simp only [List.setIfInBounds_toArray, List.set_cons_zero, List.set_cons_succ] at hK ⊢
        replace hK := hid hK
        simp [Region.binds] at hd
        obtain rfl := h4.out hd.2.1
        have h3a := (h3.out hd.1).resolve_right (fun e => absurd (o6_5 (o7_6 e)) (by rw [hf]; decide))
        go_simp
        refine (rdivq (h3a.mono (by omega)) (QR.mk2 (HN9.out.below HBW.out (Nat.le_refl _)) (HD9.out.below HBW.out (Nat.le_refl _))) HST.out.2 (by have := HK.out; omega)).mono ?_
        rintro e w2 ⟨v, rfl, hv, hb⟩
        go_wp2_with fail
        exact hK.out _ _ ⟨_, _, _, _, _, _, _, _, _, rfl, hid (below_next HBW.out hb), hid (fun h => h0.out h), hid (fun h => h1.out h), hid (fun h => (h2.out h).imp (fun h => h.on hb) id), hid (fun h => (h3.out h).imp (fun h => h.on hb) id), hid (fun h => rfl), hid (fun h => .inl hv), hid (fun h => (h6.out h).imp (fun h => h.on hb) id), hid (fun h => (h7.out h).on hb), hid (fun h => h8.out h), fun _ => rfl, fun _ => hd.1, fun h => o7_6 h, fun h => o8_7 h, fun h => o7_2 h⟩
      case s6 =>
        rintro f a1 w1 ⟨u2, u17, u18, u19, u20, u21, u22, u23, u24, rfl, HBW, h0, h1, h2, h3, h4, h5, h6, h7, h8, o6_5, o5_3, o7_6, o8_7, o7_2⟩ hf hd K hK
        simp only [List.setIfInBounds_toArray, List.set_cons_zero, List.set_cons_succ] at hK ⊢
        replace hK := hid hK
        simp [Region.binds] at hd
        have h5a := (h5.out hd).resolve_right (fun e => absurd (o7_6 e) (by rw [hf]; decide))
        go_simp
        refine (IH.out _ _ _ (h5a.fit k HFN.out.1 HFN.out.2) HFN.out.1 HFN.out.2 (by have := HM.out; omega)).mono ?_
        rintro e w2 ⟨v, rfl, hv, hb⟩
        go_wp2_with fail
        exact hK.out _ _ ⟨_, _, _, _, _, _, _, _, _, rfl, hid (below_next HBW.out hb), hid (fun h => h0.out h), hid (fun h => h1.out h), hid (fun h => (h2.out h).imp (fun h => h.on hb) id), hid (fun h => (h3.out h).imp (fun h => h.on hb) id), hid (fun h => h4.out h), hid (fun h => (h5.out h).imp (fun h => h.on hb) id), hid (fun h => .inl (hv.mono HBW.out.size)), hid (fun h => (h7.out h).on hb), hid (fun h => h8.out h), fun _ => hd, fun h => o5_3 h, fun _ => rfl, fun h => o8_7 h, fun h => o7_2 h⟩
      case s7 =>
        rintro f a1 w1 ⟨u2, u17, u18, u19, u20, u21, u22, u23, u24, rfl, HBW, h0, h1, h2, h3, h4, h5, h6, h7, h8, o6_5, o5_3, o7_6, o8_7, o7_2⟩ hf hd K hK
        simp only [List.setIfInBounds_toArray, List.set_cons_zero, List.set_cons_succ] at hK ⊢
        replace hK := hid hK
        simp [Region.binds] at hd
        have h2a := (h2.out hd.1).resolve_right (fun e => by rw [hf] at e; cases e)
        have h6a := (h6.out hd.2).resolve_right (fun e => by rw [hf] at e; cases e)
        obtain ⟨v', w2, hr, ho, hg, hno⟩ := append_txs h2a h6a HLN.out.1 HLN.out.2 HBW.out.size
        have hb2 := h2a.grown HBW.out HBW.out.size hg
        refine wp_append_run _ _ 55 rfl _ _ _ rfl rfl hr ?_
        exact hK.out _ _ ⟨_, _, _, _, _, _, _, _, _, rfl, hid hb2, hid (fun h => h0.out h), hid (fun h => h1.out h), hid (fun h => .inr rfl), hid (fun h => .inr rfl), hid (fun h => h4.out h), hid (fun h => .inr rfl), hid (fun h => .inr rfl), hid (fun h => ⟨ho, hno⟩), hid (fun h => absurd (o8_7 h) (by rw [hf]; decide)), fun h => o6_5 h, fun h => o5_3 h, fun _ => hd.2, fun _ => rfl, fun _ => hd.1⟩
      case s8 =>
        rintro f a1 w1 ⟨u2, u17, u18, u19, u20, u21, u22, u23, u24, rfl, HBW, h0, h1, h2, h3, h4, h5, h6, h7, h8, o6_5, o5_3, o7_6, o8_7, o7_2⟩ hf hd K hK
        simp only [List.setIfInBounds_toArray, List.set_cons_zero, List.set_cons_succ] at hK ⊢
        replace hK := hid hK
        simp [Region.binds] at hd
        go_simp
        exact hK.out _ _ ⟨_, _, _, _, _, _, _, _, _, rfl, HBW, hid (fun h => h0.out h), hid (fun h => h1.out h), hid (fun h => h2.out h), hid (fun h => h3.out h), hid (fun h => h4.out h), hid (fun h => h5.out h), hid (fun h => h6.out h), hid (fun h => h7.out h), hid (fun h => rfl), fun h => o6_5 h, fun h => o5_3 h, fun h => o7_6 h, fun _ => hd.2.2.2.2.2.2.2.2, fun h => o7_2 h⟩
      case hend =>
        rintro f a1 w1 ⟨u2, u17, u18, u19, u20, u21, u22, u23, u24, rfl, HBW, h0, h1, h2, h3, h4, h5, h6, h7, h8, _⟩ hall
        simp only [List.setIfInBounds_toArray, List.set_cons_zero, List.set_cons_succ]
        have ho := h7.out (hall 7 (by decide))
        obtain rfl := h8.out (hall 8 (by decide))
        have LV := B.out.size
        replace B := bb B HBW.out
        clear h0 h1 h2 h3 h4 h5 h6 h7 h8 hall HBW
        go_wp2_with fail
        go_ret
        rw [HST.out.1]
        exact ⟨_, rfl, ho.mono LV, B.out⟩

theorem rcfof {k : Nat} (hk1 : 1 ≤ k) (hk : k ≤ 1000000) : ∀ (m : Nat) (w : World) (v : Value) (q : Rat), QR w v q k → q.num.natAbs < B ^ k → q.den < B ^ k → q.den < m →
    Calls Tryz.prog 30 #[v] w fun e w' => ∃ u, e = .returned u ∧ OwnL w' w.heap.size u ((cfq q).map ztxt) ∧ Below w.heap.size w w' := by
  intro m
  induction m with
  | zero => intro w v q _ _ _ h; omega
  | succ m ih => intro w v q h hN hD hm; exact rcfof_step h hk1 hk hN hD hm ih

end Go.Proofs.YtjeeepcnaaadmaaGreatDoor

/-
  THE REFERENCE: lists of its whole numbers, of the call's own.
-/
namespace Go.Proofs.YtjeeepcnaaadmaaGreatDoor
open Go.RowKit
open Num4
open Num (dg isNat dval)
set_option linter.unusedVariables false
set_option maxRecDepth 100000
set_option linter.unusedSimpArgs false

theorem LimR.grown {w w' : World} {v : Value} {xs : List Nat} {g : Nat} (h : LimR w v xs) (hn : NoInt w g) (hg : w.grownBy w' (some g)) : LimR w' v xs := by
  obtain ⟨h1, p, c, h2, h3, h4, h5⟩ := h
  refine ⟨h1, p, c, h2, h3, h4, ?_⟩
  rcases h5 with h5 | ⟨b, off, h6, h7, h8⟩
  · exact .inl h5
  · refine .inr ⟨b, off, h6, Nat.lt_of_lt_of_le h7 hg.size, fun i hi => ?_⟩
    have h9 := h8 i hi
    by_cases hb : b = g
    · exfalso
      subst hb
      simp only [World.cell?] at h9
      split at h9
      · rename_i cur T f e
        have := hn cur T f e _ (by have := Array.mem_of_getElem? h9; simpa using this)
        exact this _ _ rfl
      all_goals simp at h9
    · rw [← h9]
      exact World.cell?_of_block (hg.block b h7 (by simpa using hb))
theorem WhlR.grown {w w' : World} {v : Value} {z : Int} {k g : Nat} (h : WhlR w v z k) (hn : NoInt w g) (hg : w.grownBy w' (some g)) : WhlR w' v z k := by
  obtain ⟨s, sv, xs, h1, h2, h3⟩ := h
  exact ⟨s, sv, xs, h1, h2.grown hn hg, h3⟩
theorem Qbx.grown {w w' : World} {g : Nat} {s : Bool} {sv dv : Value} {r : Option Nat} (h : Qbx w g s sv dv) (hg : w.grownBy w' r) (hne : r ≠ some g) : Qbx w' g s sv dv :=
  ⟨(hg.block g h.lt (fun e => hne e.symm)).trans h.1, h.2⟩
theorem infoRZ : (Tryz.prog.info? 26).map (fun i => (i.zero, i.size, i.bytes)) = some (some (.agg #[.bool false, .slice none 0 0]), 2, 32) := by kernel_rfl
/-- A list of whole numbers of the call's own; its block holds no digits. -/
def OwnZ (w : World) (K : Nat) (v : Value) (vs : List Zr) : Prop := w.ownsRow K 26 2 v vs.length (vs.map zcs).flatten ∧ ∀ g, v.ownBlock = some g → NoInt w g
theorem OwnZ.nil (w : World) (K : Nat) : OwnZ w K (.slice none 0 0) [] := ⟨World.ownsRow_nil w K _ 2, fun g h => by simp [Value.ownBlock] at h⟩
theorem OwnZ.lt {w : World} {K : Nat} {v : Value} {vs : List Zr} (h : OwnZ w K v vs) {g : Nat} (hg : v.ownBlock = some g) : K ≤ g ∧ g < w.heap.size := by
  rcases h.1.2 with ⟨rfl, _⟩ | ⟨g', cap, cur, rfl, hK, h1, _⟩
  · simp [Value.ownBlock] at hg
  · simp [Value.ownBlock] at hg
    subst hg
    exact ⟨hK, (Array.getElem?_eq_some_iff.1 h1).1⟩
theorem OwnZ.below {w w' : World} {K L : Nat} {v : Value} {vs : List Zr} (h : OwnZ w K v vs) (hb : Below L w w') (hL : w.heap.size ≤ L) : OwnZ w' K v vs := by
  refine ⟨⟨h.1.1, ?_⟩, fun g hg => (h.2 g hg).below hb (Nat.lt_of_lt_of_le (h.lt hg).2 hL)⟩
  rcases h.1.2 with h | ⟨g, cap, cur, rfl, hK, h1, h2⟩
  · exact .inl h
  · exact .inr ⟨g, cap, cur, rfl, hK, (hb.block g (Nat.lt_of_lt_of_le (Array.getElem?_eq_some_iff.1 h1).1 hL)).trans h1, h2⟩
theorem OwnZ.on {w w' : World} {K : Nat} {v : Value} {vs : List Zr} (h : OwnZ w K v vs) (hb : Below w.heap.size w w') : OwnZ w' K v vs := h.below hb (Nat.le_refl _)
theorem OwnZ.ne {w : World} {K : Nat} {v : Value} {vs : List Zr} {g : Nat} {cs : Array Value} {T : TypeId} {f : Nat × Nat} (h : OwnZ w K v vs) (hg : w.heap[g]? = some (.cells cs T f)) (hT : T ≠ 26) : v.ownBlock ≠ some g := by
  intro e
  rcases h.1.2 with ⟨rfl, _⟩ | ⟨g', cap, cur, rfl, _, h1, _⟩
  · simp [Value.ownBlock] at e
  · simp [Value.ownBlock] at e
    subst e
    rw [hg] at h1
    cases h1
    exact hT rfl
theorem OwnZ.set {w : World} {K : Nat} {v : Value} {vs : List Zr} {g : Nat} (h : OwnZ w K v vs) (hne : v.ownBlock ≠ some g) (i : Nat) (u : Value) : OwnZ (w.setCell ⟨g, i, none⟩ u) K v vs := by
  refine ⟨⟨h.1.1, ?_⟩, fun g' hg' => ?_⟩
  · rcases h.1.2 with h | ⟨g', cap, cur, rfl, hK, h1, h2⟩
    · exact .inl h
    · have hn : g' ≠ g := by
        rintro rfl
        exact hne rfl
      refine .inr ⟨g', cap, cur, rfl, hK, ?_, h2⟩
      rw [Below.heap_setCell _ _ _ _ (by exact hn)]; exact h1
  · intro cur T f e
    rw [Below.heap_setCell _ _ _ _ (by rintro rfl; exact hne hg')] at e
    exact h.2 g' hg' cur T f e
theorem WhlR.ownz {w w' : World} {v u : Value} {z : Int} {k K : Nat} {vs : List Zr} (h : WhlR w v z k) (ho : OwnZ w K u vs) (hg : w.grownBy w' u.ownBlock) : WhlR w' v z k := by
  cases hu : u.ownBlock with
  | none =>
    rw [hu] at hg
    exact h.below (K := w.heap.size) ⟨hg.os, hg.tape, hg.output, hg.size, fun b hb => hg.block b hb (by simp)⟩ (Nat.le_refl _)
  | some g =>
    rw [hu] at hg
    exact h.grown (ho.2 g hu) hg
theorem OwnZ.grown {w0 w w' : World} {K L : Nat} {u : Value} {vs : List Zr} (ho : OwnZ w L u vs) (hL : K ≤ L) (hb : Below K w0 w) (hK : K ≤ w.heap.size) (hg : w.grownBy w' u.ownBlock) : Below K w0 w' :=
  hb.grown hg hK fun g h => Nat.le_trans hL (ho.lt h).1
theorem OwnZ.parts {w : World} {K : Nat} {v : Value} {vs : List Zr} (h : OwnZ w K v vs) : ∃ p c, v = .slice p vs.length c ∧ vs.length ≤ c ∧ c ≤ maxLen := by
  rcases h.1.2 with ⟨rfl, h0⟩ | ⟨g, cap, cur, rfl, hK, h1, h2, h3, h4, h5⟩
  · exact ⟨none, 0, by rw [h0], by omega, Nat.zero_le _⟩
  · exact ⟨_, cap, rfl, h2, h3⟩
theorem OwnZ.parts' {w : World} {K n : Nat} {v : Value} {vs : List Zr} (h : OwnZ w K v vs) (hn : vs.length = n) : ∃ p c, v = .slice p n c ∧ n ≤ c ∧ c ≤ maxLen := by
  subst hn; exact h.parts
theorem OwnZ.cells {w : World} {K n c : Nat} {p : Option Addr} {vs : List Zr} (h : OwnZ w K (.slice p n c) vs) {i : Nat} (hi : i < vs.length) :
    ∃ g, p = some ⟨g, 0, none⟩ ∧ K ≤ g ∧ w.cell? ⟨g, i * 2, none⟩ = some (.bool (zat vs i).1) ∧ w.cell? ⟨g, i * 2 + 1, none⟩ = some (.slice (zat vs i).2.1 (zat vs i).2.2.1 (zat vs i).2.2.2) := by
  rcases h.1.2 with ⟨e, h0⟩ | ⟨g, cap, cur, e, hK, h1, h2, h3, h4, h5⟩
  · omega
  · cases e
    obtain ⟨f0, f1⟩ := flz_get vs i hi
    have hl : (vs.map zcs).flatten.length = vs.length * 2 := by rw [flat_len 2 _ (zcs_len vs), List.length_map]
    have hc : ∀ j u, j < vs.length * 2 → (flz vs)[j]? = some u → cur[j]? = some u := by
      intro j u hj hu
      unfold flz at hu
      rw [List.getElem?_toArray, ← h5, List.getElem?_take, if_pos hj, Array.getElem?_toList] at hu
      exact hu
    refine ⟨g, rfl, hK, ?_, ?_⟩
    · simp [World.cell?, h1, hc _ _ (by omega) f0]
    · simp [World.cell?, h1, hc _ _ (by omega) f1]
theorem zat_snoc (vs : List Zr) (r : Zr) (m : Nat) : zat (vs ++ [r]) m = if m < vs.length then zat vs m else if m = vs.length then r else (false, none, 0, 0) := by
  unfold zat
  by_cases h : m < vs.length
  · rw [if_pos h, List.getElem?_append_left h]
  · rw [if_neg h, List.getElem?_append_right (by omega)]
    by_cases h2 : m = vs.length
    · subst h2; simp
    · rw [if_neg h2, List.getElem?_eq_none (by simp; omega)]; rfl
theorem znum_few {s : ByteArray} (h : GoodZ s) : (znum s).natAbs < B ^ 25 := Nat.lt_of_lt_of_le (znum_lt h) (by decide +kernel)
theorem zlist_drop {ss : List ByteArray} {i : Nat} (h : i < ss.length) : (zlist ss).drop i = znum (tx ss i) :: (zlist ss).drop (i + 1) := by
  have hl : i < (zlist ss).length := by simpa [zlist] using h
  rw [List.drop_eq_getElem_cons hl]
  congr 1
  simp [zlist, tx, h]
theorem zlist_mem {ss : List ByteArray} {i : Nat} {y : Int} (h : y ∈ (zlist ss).drop i) : ∃ j, i ≤ j ∧ j < ss.length ∧ y = znum (tx ss j) := by
  obtain ⟨j, hj, rfl⟩ := List.mem_iff_getElem.1 h
  simp [zlist] at hj
  exact ⟨i + j, by omega, by omega, by simp [zlist, tx, show i + j < ss.length by omega]⟩
theorem cfback_last {ss : List ByteArray} {i : Nat} (h : i + 1 = ss.length) : cfback ((zlist ss).drop i) = (znum (tx ss i) : Rat) := by
  rw [zlist_drop (by omega), List.drop_of_length_le (by simp [zlist]; omega), cfback_one]
theorem cfback_drop {ss : List ByteArray} {i : Nat} (h : i + 1 < ss.length) (hp : ∀ j, i + 1 ≤ j → j < ss.length → 1 ≤ znum (tx ss j)) :
    cfback ((zlist ss).drop i) = (znum (tx ss i) : Rat) + 1 / cfback ((zlist ss).drop (i + 1)) ∧ cfback ((zlist ss).drop (i + 1)) ≠ 0 := by
  have := cfback_cons (z := znum (tx ss i)) (y := znum (tx ss (i + 1))) (l := (zlist ss).drop (i + 1 + 1)) (by
    intro x hx
    rw [← zlist_drop h] at hx
    obtain ⟨j, h1, h2, rfl⟩ := zlist_mem hx
    exact hp j h1 h2)
  rw [← zlist_drop h, ← zlist_drop (by omega : i < ss.length)] at this
  exact this
theorem pow_few {b a n m : Nat} (hb : 1 < b) (h : a * n < m) : (b ^ a) ^ n < b ^ m := by
  rw [← Nat.pow_mul]
  exact Nat.pow_lt_pow_right hb h
theorem cfback_fit_at {M : Nat} (hM : 751 = M) {ss : List ByteArray} {i : Nat} (h : i < ss.length) (h30 : ss.length ≤ 30) (hA : AllZ ss) (hp : ∀ j, i + 1 ≤ j → j < ss.length → 1 ≤ znum (tx ss j)) :
    (cfback ((zlist ss).drop i)).num.natAbs < B ^ M ∧ (cfback ((zlist ss).drop i)).den < B ^ M := by
  have hs : ∀ k, ∀ y ∈ (zlist ss).drop k, y.natAbs < B ^ 25 := by
    intro k y hy
    obtain ⟨j, _, h2, rfl⟩ := zlist_mem hy
    exact znum_few (hA j h2)
  obtain ⟨e1, e2⟩ := cfback_parts (z := znum (tx ss i)) (l := (zlist ss).drop (i + 1)) (by
    intro y hy
    obtain ⟨j, h1, h2, rfl⟩ := zlist_mem hy
    exact hp j h1 h2)
  rw [← zlist_drop h] at e1 e2
  obtain ⟨s1, _⟩ := cfb_size (B ^ 25) _ (hs i)
  obtain ⟨s2, _⟩ := cfb_size (B ^ 25) _ (hs (i + 1))
  have hu : ∀ k, (B ^ 25) ^ ((zlist ss).drop k).length < B ^ M := by
    intro k
    have hl : 25 * ((zlist ss).drop k).length < 751 := by
      have : ((zlist ss).drop k).length ≤ 30 := by simp [zlist]; omega
      omega
    exact pow_few (by decide) (hM ▸ hl)
  have e3 : (cfback ((zlist ss).drop i)).den = (cfb ((zlist ss).drop (i + 1))).1.natAbs := by rw [← e2, Int.natAbs_natCast]
  rw [e1, e3]
  exact ⟨Nat.lt_of_le_of_lt s1 (hu i), Nat.lt_of_le_of_lt s2 (hu (i + 1))⟩
theorem cfback_fit {ss : List ByteArray} {i : Nat} (h : i < ss.length) (h30 : ss.length ≤ 30) (hA : AllZ ss) (hp : ∀ j, i + 1 ≤ j → j < ss.length → 1 ≤ znum (tx ss j)) :
    (cfback ((zlist ss).drop i)).num.natAbs < B ^ 751 ∧ (cfback ((zlist ss).drop i)).den < B ^ 751 := cfback_fit_at (M := 751) rfl h h30 hA hp

end Go.Proofs.YtjeeepcnaaadmaaGreatDoor

/-
  THE REFERENCE: CfBack.
-/
namespace Go.Proofs.YtjeeepcnaaadmaaGreatDoor
open Go.RowKit
open Num4
open Num (dg isNat dval)
set_option linter.unusedVariables false
set_option maxRecDepth 100000
set_option linter.unusedSimpArgs false

/-- What the reference tells of a list. -/
def RBack (w : World) (ss : List ByteArray) (e : Ending) (w' : World) : Prop :=
  ((∃ k, BadL ss k ∧ e = .returned (.tuple #[.agg #[.bool false, .slice none 0 0, .slice none 0 0], .int .i64 k])) ∨ (GoodL ss ∧ ∃ v, e = .returned (.tuple #[v, .int .i64 0]) ∧ QR w' v (cfback (zlist ss)) 751)) ∧ Below w.heap.size w w'


set_option maxHeartbeats 8000000 in
theorem rcfback {w : World} {v : Value} {ss : List ByteArray} (h : TxsW w v ss) (hs : ∀ i, i < ss.length → (tx ss i).size ≤ maxLen) (hmax : ss.length ≤ 1099511627776) :
    Calls Tryz.prog 33 #[v] w (RBack w ss) := by
  obtain ⟨i0, hi, hz0, hz1, hz2⟩ := info_parts infoRZ
  obtain ⟨p, c, rfl, hn, hc, hA⟩ := h
  obtain ⟨n, hN⟩ : ∃ n, ss.length = n := ⟨_, rfl⟩
  rw [hN] at hn hA hs hmax ⊢
  have HN := hid hN
  have HA := hid hA
  have HS := hid hs
  have HM := hid hmax
  unfold maxLen at hc
  clear hA hs hN hmax
  have hb0 := (Below.refl w.heap.size w).alloc (Nat.le_refl _) (.cells #[.bool false, .slice none 0 0, .slice none 0 0] 28)
  have X0 := hid (Qbx.new w false none 0 0 none 0 0)
  have B := hid hb0
  clear hb0
  go_enter Tryz.func33, Tryz.ntmps33
  go_wp2_with fail
  go_loopw [5, 4] (fun i zv wr => ∃ (j : Nat) (vs : List Zr), j ≤ n ∧ i = .int .i64 j ∧ Hid (vs.length = j) ∧ Hid (OwnZ wr (w.heap.size + 1) zv vs) ∧ Hid (∀ m, m < j → WhlR wr (zag (zat vs m)) (znum (tx ss m)) 100) ∧ Hid (∀ l, l < j → GoodZ (tx ss l)) ∧ Hid (Qbx wr w.heap.size false (.slice none 0 0) (.slice none 0 0)) ∧ Hid (Below w.heap.size w wr)) (fun i _ _ => n - (intOf i).toNat)
  case atStart => exact ⟨0, [], by omega, rfl, hid rfl, hid (OwnZ.nil _ _), hid (fun m hm => by omega), hid (fun m hm => by omega), X0, B⟩
  case round =>
    clear X0 B
    obtain ⟨j, vs, hj, rfl, HV, HO, HW, HG, X0, B⟩ := hrel
    by_cases hlt : j < n
    · obtain ⟨b, off, rfl, hb, cu⟩ := HA.out j hlt
      have cu' := (B.out.cell (p := ⟨b, off + j, none⟩) hb).trans cu
      clear cu
      go_wp2_with fail
      rcases goodZ_or_bad (tx ss j) with hg | ⟨k, hk⟩
      · refine (rwholeof_good hg _).mono ?_
        rintro e w1 ⟨v, rfl, hv, hb1⟩
        obtain ⟨s5, p5, n5, c5, rfl⟩ := hv.opened
        have LB := hid B.out.size
        replace X0 := qx X0 hb1
        replace HO := hid (HO.out.on hb1)
        replace HW : Hid (∀ m, m < j → WhlR w1 (zag (zat vs m)) (znum (tx ss m)) 100) := hid (fun m hm => (HW.out m hm).on hb1)
        replace B := bb B hb1
        replace HG : Hid (∀ l, l < j + 1 → GoodZ (tx ss l)) := hid (fun l hl => if h : l < j then HG.out l h else (show l = j by omega) ▸ hg)
        have HV1 := hid hv
        clear hb1 hg hv LB
        have hb2 := (Below.refl _ _).alloc (Nat.le_refl w1.heap.size) (.cells #[.bool s5, .slice p5 n5 c5] 26)
        have XB := hid (BoxR.new w1 s5 p5 n5 c5)
        replace X0 := qx X0 hb2
        replace HO := hid (HO.out.on hb2)
        replace HW : Hid (∀ m, m < j → WhlR _ (zag (zat vs m)) (znum (tx ss m)) 100) := hid (fun m hm => (HW.out m hm).on hb2)
        replace HV1 := hid (HV1.out.on hb2)
        replace B := bb B hb2
        clear hb2
        have hb3 := (Below.refl _ _).alloc (Nat.le_refl (w1.alloc (.cells #[.bool s5, .slice p5 n5 c5] 26)).heap.size) (.cells #[.bool s5, .slice p5 n5 c5] 26)
        have XR := hid (BoxR.new (w1.alloc (.cells #[.bool s5, .slice p5 n5 c5] 26)) s5 p5 n5 c5)
        have hsz : (w1.alloc (.cells #[.bool s5, .slice p5 n5 c5] 26)).heap.size = w1.heap.size + 1 := by simp
        rw [hsz] at XR
        have HOA := hid (HO.out.on hb3)
        clear hsz
        obtain ⟨cc1, cc2⟩ := XB.out.both
        obtain ⟨cd1, cd2⟩ := XR.out.both
        go_wp2_with (at_builtin; refine wpList_append_ni rfl _ _ 106 rfl (w.heap.size + 1) 26 i0 (.agg #[.bool false, .slice none 0 0]) 2 32 Tryz.underlying106 hi hz0 hz1 hz2 rfl (by decide) _ _ _ rfl HOA.out.1 HOA.out.2 ?c0 ⟨w1.heap.size + 1, 0, none⟩ 1 1 [.bool s5, .slice p5 n5 c5] rfl rfl ?c1 ?c2 ?c3 ?c4 ?c5 ?c6 ?_)
        case c0 => intro u hu; simp [Value.cells] at hu; rcases hu with rfl | rfl; exact NI.bool _; exact NI.slc _ _ _
        case c1 =>
          intro l u hl
          match l, hl with
          | 0, hl => simp at hl; subst hl; simp [Addr.add]
          | 1, hl => simp at hl; subst hl; simp [Addr.add]
        case c2 => intro u hu; simp at hu; rcases hu with rfl | rfl <;> rfl
        case c3 => intro u hu; simp at hu; rcases hu with rfl | rfl; exact NI.bool _; exact NI.slc _ _ _
        case c4 => have := HV.out; have := HM.out; unfold maxLen; omega
        case c5 => have := HV.out; have := HM.out; omega
        case c6 => have := X0.out.lt; simp at this ⊢; omega
        intro v' wa hown hgrow hni
        have ne0 := HOA.out.ne (g := w.heap.size) (((qx X0 hb3).out).1) (by decide)
        replace X0 := qx X0 hb3
        replace HV1 := hid (HV1.out.on hb3)
        replace HW : Hid (∀ m, m < j → WhlR _ (zag (zat vs m)) (znum (tx ss m)) 100) := hid (fun m hm => (HW.out m hm).on hb3)
        replace B := bb B hb3
        replace B := hid (HOA.out.grown (K := w.heap.size) (by omega) B.out (by have := B.out.size; omega) hgrow)
        replace X0 := hid (X0.out.grown hgrow ne0)
        replace HV1 := hid (HV1.out.ownz HOA.out hgrow)
        replace HW : Hid (∀ m, m < j → WhlR wa (zag (zat vs m)) (znum (tx ss m)) 100) := hid (fun m hm => (HW.out m hm).ownz HOA.out hgrow)
        have HV2 : Hid ((vs ++ [(s5, p5, n5, c5)]).length = j + 1) := hid (by rw [List.length_append, HV.out]; rfl)
        have HO2 : Hid (OwnZ wa (w.heap.size + 1) v' (vs ++ [(s5, p5, n5, c5)])) := hid ⟨by
          rw [List.map_append, List.flatten_append, List.length_append]
          exact hown, hni⟩
        have HW2 : Hid (∀ m, m < j + 1 → WhlR wa (zag (zat (vs ++ [(s5, p5, n5, c5)]) m)) (znum (tx ss m)) 100) := hid (fun m hm => by
          rw [zat_snoc, HV.out]
          by_cases h : m < j
          · rw [if_pos h]; exact HW.out m h
          · obtain rfl : m = j := by omega
            rw [if_neg (by omega), if_pos rfl]; exact HV1.out)
        clear hown hgrow hni ne0 hb3 HOA HO HV1 HW XB XR cc1 cc2 cd1 cd2 HV
        go_wp2_with fail
        go_roundw
        case rel => exact ⟨j + 1, _, by omega, by go_num, HV2, HO2, HW2, HG, X0, B⟩
        case measure => simp [intOf]; omega
      · have hk0 : ¬ k = 0 := hk.ne
        refine (rwholeof_any (.inr hk) _ (HS.out j hlt)).mono ?_
        rintro e w1 ⟨t5, p5, n5, c5, rfl, hb1⟩
        replace X0 := qx X0 hb1
        replace B := bb B hb1
        have HK := hid (show BadL ss k from .inl ⟨j, by rw [HN.out]; exact hlt, HG.out, hk⟩)
        clear hb1 hk HW HG HV HO
        have hb2 := (Below.refl _ _).alloc (Nat.le_refl w1.heap.size) (.cells #[.bool t5, .slice p5 n5 c5] 26)
        replace X0 := qx X0 hb2
        replace B := bb B hb2
        clear hb2
        have Y0 := hid ((X0.out.last B.out (Nat.le_refl _) false none 0 0 none 0 0).1)
        obtain ⟨⟨c1, c2⟩, ⟨c3, c4⟩, c5x, c6x⟩ := X0.out.stores
        replace B := hid ((X0.out.last B.out (Nat.le_refl _) false none 0 0 none 0 0).2.1)
        go_wp2_with fail
        refine bodyPost_ret (res_q_tmp rfl rfl rfl Y0.out) rfl ?_
        exact ⟨.inl ⟨k, HK.out, rfl⟩, B.out⟩
    · obtain rfl : j = n := by omega
      clear hlt hj
      have HZ : Hid (AllZ ss) := hid (fun i hi => HG.out i (by rw [HN.out] at hi; exact hi))
      by_cases h0 : j = 0
      · subst h0
        have HK := hid (show BadL ss 3 from .inr (.inl ⟨HZ.out, HN.out, rfl⟩))
        have Y0 := hid ((X0.out.last B.out (Nat.le_refl _) false none 0 0 none 0 0).1)
        obtain ⟨⟨c1, c2⟩, ⟨c3, c4⟩, c5x, c6x⟩ := X0.out.stores
        replace B := hid ((X0.out.last B.out (Nat.le_refl _) false none 0 0 none 0 0).2.1)
        go_wp2_with fail
        refine bodyPost_ret (res_q_tmp rfl rfl rfl Y0.out) rfl ?_
        exact ⟨.inl ⟨3, HK.out, rfl⟩, B.out⟩
      have hz : ¬ (j : Int) = 0 := by omega
      by_cases h30 : 30 < j
      · have HK := hid (show BadL ss 4 from .inr (.inr (.inl ⟨HZ.out, by rw [HN.out]; exact h30, rfl⟩)))
        have Y0 := hid ((X0.out.last B.out (Nat.le_refl _) false none 0 0 none 0 0).1)
        obtain ⟨⟨c1, c2⟩, ⟨c3, c4⟩, c5x, c6x⟩ := X0.out.stores
        replace B := hid ((X0.out.last B.out (Nat.le_refl _) false none 0 0 none 0 0).2.1)
        go_wp2_with fail
        refine bodyPost_ret (res_q_tmp rfl rfl rfl Y0.out) rfl ?_
        exact ⟨.inl ⟨4, HK.out, rfl⟩, B.out⟩
      have hj30 : ¬ (30 : Int) < (j : Int) := by omega
      obtain ⟨m, rfl⟩ : ∃ m, j = m + 1 := ⟨j - 1, by omega⟩
      obtain ⟨pz, cz, rfl, hz1, hz2⟩ := HO.out.parts' HV.out
      unfold maxLen at hz2
      obtain ⟨gz, rfl, hgz, cz0, cz1⟩ := HO.out.cells (i := m) (by rw [HV.out]; omega)
      clear hgz h0 hz
      go_wp2_with fail
      refine (rwhole (HW.out m (by omega)) (by omega)).mono ?_
      rintro e w2 ⟨v, rfl, hv, hb⟩
      obtain ⟨s8a, p8a, n8a, c8a, p8b, n8b, c8b, rfl⟩ := hv.opened
      replace X0 := qx X0 hb
      replace HO := hid (HO.out.on hb)
      replace HW : Hid (∀ l, l < m + 1 → WhlR w2 (zag (zat vs l)) (znum (tx ss l)) 100) := hid (fun l hl => (HW.out l hl).on hb)
      replace B := bb B hb
      have HQ := hid hv
      clear hb hv cz0 cz1
      have hb2 := (Below.refl _ _).alloc (Nat.le_refl w2.heap.size) (.cells #[.bool s8a, .slice p8a n8a c8a, .slice p8b n8b c8b] 28)
      have XQ := hid (Qbx.new w2 s8a p8a n8a c8a p8b n8b c8b)
      have LX := hid X0.out.lt
      replace X0 := qx X0 hb2
      replace HO := hid (HO.out.on hb2)
      replace HW : Hid (∀ l, l < m + 1 → WhlR _ (zag (zat vs l)) (znum (tx ss l)) 100) := hid (fun l hl => (HW.out l hl).on hb2)
      replace B := bb B hb2
      replace HQ := hid (HQ.out.on hb2)
      clear hb2
      go_wp2_with fail
      generalize hG : w2.heap.size = G at *
      clear hG
      go_loopw [9] (fun i wr => ∃ (k : Nat) (s : Bool) (p : Option Addr) (n' c' : Nat) (q : Option Addr) (n2 c2 : Nat), k ≤ m + 1 ∧ i = .int .i64 ((k : Int) - 1) ∧ Hid (Qbx wr G s (.slice p n' c') (.slice q n2 c2)) ∧ Hid (QR wr (.agg #[.bool s, .slice p n' c', .slice q n2 c2]) (cfback ((zlist ss).drop (min k m))) 751) ∧ Hid (OwnZ wr (w.heap.size + 1) (.slice (some ⟨gz, 0, none⟩) (m + 1) cz) vs) ∧ Hid (∀ l, l < m + 1 → WhlR wr (zag (zat vs l)) (znum (tx ss l)) 100) ∧ Hid (∀ l, k ≤ l → 1 ≤ l → l < m + 1 → 1 ≤ znum (tx ss l)) ∧ Hid (Qbx wr w.heap.size false (.slice none 0 0) (.slice none 0 0)) ∧ Hid (Below w.heap.size w wr)) (fun i _ => (intOf i + 1).toNat)
      case atStart => exact ⟨m + 1, _, _, _, _, _, _, _, by omega, by go_num, XQ, hid (by rw [show min (m + 1) m = m by omega, cfback_last (by rw [HN.out])]; exact HQ.out.mono (by omega)), HO, HW, hid (fun l h1 h2 h3 => by omega), X0, B⟩
      case round =>
        clear X0 B XQ HO HW HQ HG
        obtain ⟨k, s, p, n', c', q, n2, c2, hk, rfl, XQ, HQ, HO, HW, HP, X0, B⟩ := hrel
        rcases Nat.eq_zero_or_pos k with rfl | hk1
        · have HGL := hid (show GoodL ss from ⟨HZ.out, by rw [HN.out]; omega, by rw [HN.out]; omega, fun i h1 h2 => HP.out i (by omega) h1 (by rw [← HN.out]; exact h2)⟩)
          have XQ0 := XQ
          have Y0 := hid ((X0.out.last B.out (Nat.le_refl _) s p n' c' q n2 c2).1)
          obtain ⟨⟨d1, d2⟩, ⟨d3, d4⟩, d5, d6⟩ := X0.out.stores
          have HQ2 := hid (HQ.out.moved (fun v z k h => (X0.out.last B.out (Nat.le_refl _) s p n' c' q n2 c2).2.2 h))
          have XQ := hid (((XQ.out.other (g2 := w.heap.size) (by have := LX.out; omega) 0 (.bool s)).other (g2 := w.heap.size) (by have := LX.out; omega) 1 (.slice p n' c')).other (g2 := w.heap.size) (by have := LX.out; omega) 2 (.slice q n2 c2))
          obtain ⟨y1, y2, y3⟩ := XQ0.out.cells
          replace B := hid ((X0.out.last B.out (Nat.le_refl _) s p n' c' q n2 c2).2.1)
          go_wp2_with fail
          refine bodyPost_ret (res_q_tmp rfl rfl rfl Y0.out) rfl ?_
          exact ⟨.inr ⟨HGL.out, _, rfl, by have := HQ2.out; rwa [Nat.zero_min, List.drop_zero] at this⟩, B.out⟩
        obtain ⟨i, rfl⟩ : ∃ i, k = i + 1 := ⟨k - 1, by omega⟩
        rw [show (((i + 1 : Nat) : Int) - 1) = (i : Int) by omega]
        obtain ⟨gz', e, hgz, cz0, cz1⟩ := HO.out.cells (i := i) (by rw [HV.out]; omega)
        cases e
        obtain ⟨szi, pzi, nzi, czi, ezi⟩ : ∃ a b c d, zat vs i = (a, b, c, d) := ⟨_, _, _, _, rfl⟩
        simp only [ezi] at cz0 cz1
        by_cases hbad : 1 ≤ i ∧ znum (tx ss i) ≤ 0
        · have HK := hid (show BadL ss 2 from .inr (.inr (.inr ⟨HZ.out, by rw [HN.out]; omega, by rw [HN.out]; omega, ⟨i, hbad.1, by rw [HN.out]; omega, hbad.2⟩, rfl⟩)))
          have hwi := HW.out i (by omega)
          rw [ezi] at hwi
          have hi0 : (0 : Int) < (i : Int) := by omega
          have hn0 := WhlR.len_zero hwi
          obtain ⟨s', sv', xs', e1, _, _, _, e2, _⟩ := hwi.neg
          simp only [zag, Value.agg.injEq, Array.mk.injEq, List.cons.injEq, Value.bool.injEq, and_true] at e1
          obtain ⟨rfl, rfl⟩ := e1
          have Y0 := hid ((X0.out.last B.out (Nat.le_refl _) false none 0 0 none 0 0).1)
          obtain ⟨⟨d1, d2⟩, ⟨d3, d4⟩, d5, d6⟩ := X0.out.stores
          replace B := hid ((X0.out.last B.out (Nat.le_refl _) false none 0 0 none 0 0).2.1)
          by_cases hneg : znum (tx ss i) < 0
          · rw [decide_eq_true hneg] at e2
            subst e2
            clear hn0 hbad hwi hneg
            go_wp2_with fail
            refine bodyPost_ret (res_q_tmp rfl rfl rfl Y0.out) rfl ?_
            exact ⟨.inl ⟨2, HK.out, rfl⟩, B.out⟩
          · rw [decide_eq_false hneg] at e2
            obtain rfl := hn0.2 (by omega)
            subst e2
            clear hn0 hbad hwi hneg
            go_wp2_with fail
            refine bodyPost_ret (res_q_tmp rfl rfl rfl Y0.out) rfl ?_
            exact ⟨.inl ⟨2, HK.out, rfl⟩, B.out⟩
        have HP2 := hid (show ∀ l, i ≤ l → 1 ≤ l → l < m + 1 → 1 ≤ znum (tx ss l) from fun l h1 h2 h3 => by
          by_cases e : l = i
          · subst e; omega
          · exact HP.out l (by omega) h2 h3)
        have hcond : i = 0 ∨ ((0 : Int) < (i : Int) ∧ szi = false ∧ ¬ nzi = 0) := by
          by_cases h0 : i = 0
          · exact .inl h0
          · have hwi := HW.out i (by omega)
            rw [ezi] at hwi
            have hn0 := WhlR.len_zero hwi
            obtain ⟨s', sv', xs', e1, _, _, _, e2, _⟩ := hwi.neg
            simp only [zag, Value.agg.injEq, Array.mk.injEq, List.cons.injEq, Value.bool.injEq, and_true] at e1
            obtain ⟨rfl, rfl⟩ := e1
            exact .inr ⟨by omega, by rw [e2]; exact decide_eq_false (by omega), fun e => by have := hn0.1 e; omega⟩
        by_cases him : i = m
        · have hm2 : ¬ (i : Int) < (m : Int) := by omega
          have HIM := hid him
          have HR := hid (show QR wr (.agg #[.bool s, .slice p n' c', .slice q n2 c2]) (cfback ((zlist ss).drop (min i m))) 751 by
            have := HQ.out
            rwa [show min (i + 1) m = min i m by omega] at this)
          clear HQ him
          rcases hcond with h0 | ⟨h0, rfl, hnz⟩
          · have h0' : ¬ (0 : Int) < (i : Int) := by omega
            clear h0
            go_wp2_with fail
            go_roundw
            case rel => exact ⟨i, _, _, _, _, _, _, _, by omega, by go_num, XQ, HR, HO, HW, HP2, X0, B⟩
            case measure => simp [intOf] <;> omega
          · have hnz' : ¬ (nzi : Int) = 0 := by omega
            go_wp2_with fail
            go_roundw
            case rel => exact ⟨i, _, _, _, _, _, _, _, by omega, by go_num, XQ, HR, HO, HW, HP2, X0, B⟩
            case measure => simp [intOf] <;> omega
        · have hm2 : (i : Int) < (m : Int) := by omega
          have him2 : i < m := by omega
          have HQ1 := hid (show QR wr (.agg #[.bool s, .slice p n' c', .slice q n2 c2]) (cfback ((zlist ss).drop (i + 1))) 751 by
            have := HQ.out
            rwa [show min (i + 1) m = i + 1 by omega] at this)
          replace HQ := HQ1
          have HST := hid (cfback_drop (ss := ss) (i := i) (by rw [HN.out]; omega) (fun l h1 h2 => HP2.out l (by omega) (by omega) (by rw [← HN.out]; exact h2)))
          have HFT := hid (cfback_fit (ss := ss) (i := i) (by rw [HN.out]; omega) (by rw [HN.out]; omega) HZ.out (fun l h1 h2 => HP2.out l (by omega) (by omega) (by rw [← HN.out]; exact h2)))
          have HNZ := hid HST.out.2
          have LGZ := hid (show gz < wr.heap.size from (HO.out.lt rfl).2)
          have CZ := hid (show wr.cell? ⟨gz, i * 2, none⟩ = some (.bool (zat vs i).1) ∧ wr.cell? ⟨gz, i * 2 + 1, none⟩ = some (.slice (zat vs i).2.1 (zat vs i).2.2.1 (zat vs i).2.2.2) by rw [ezi]; exact ⟨cz0, cz1⟩)
          clear HQ1
          have hib : (i : Int) < (m : Int) + 1 := by omega
          have EZ := hid ezi
          clear ezi
          rcases hcond with h0 | ⟨h0, rfl, hnz⟩
          · have h0' : ¬ (0 : Int) < (i : Int) := by omega
            clear h0
            go_wp2_with fail
            clear cz0 cz1 h0'
            refine region_ops (by kernel_rfl) (by kernel_rfl) (fun a f a' w' => ∃ u78 u79 u80 u81 u82 u83 u84 u85 u86 : Value, a' = { tmps := (((((((((a.tmps.setIfInBounds 78 u78).setIfInBounds 79 u79).setIfInBounds 80 u80).setIfInBounds 81 u81).setIfInBounds 82 u82).setIfInBounds 83 u83).setIfInBounds 84 u84).setIfInBounds 85 u85).setIfInBounds 86 u86), defers := a.defers } ∧ Hid (Below wr.heap.size wr w' ∨ f 9 = true) ∧ Hid (f 0 = true → u78 = .slice (some ⟨gz, 0, none⟩) (m + 1) cz) ∧ Hid (f 1 = true → u79 = .int .i64 i) ∧ Hid (f 2 = true → u80 = .pointer (some ⟨gz, i * 2, none⟩)) ∧ Hid (f 3 = true → u81 = zag (zat vs i)) ∧ Hid (f 4 = true → (QR w' u82 (znum (tx ss i) : Rat) 751 ∨ f 9 = true)) ∧ Hid (f 5 = true → (QR w' u83 (1 : Rat) 1 ∨ f 9 = true)) ∧ Hid (f 6 = true → u84 = .agg #[.bool s, .slice p n' c', .slice q n2 c2]) ∧ Hid (f 7 = true → (QR w' u85 (1 / (cfback ((zlist ss).drop (i + 1)))) 1503 ∨ f 9 = true)) ∧ Hid (f 8 = true → (QR w' u86 ((znum (tx ss i) : Rat) + 1 / (cfback ((zlist ss).drop (i + 1)))) 3007 ∨ f 9 = true)) ∧ Hid (f 9 = true → ∃ w2 s9a p9a n9a c9a p9b n9b c9b, Below wr.heap.size wr w2 ∧ QR w2 (.agg #[.bool s9a, .slice p9a n9a c9a, .slice p9b n9b c9b]) ((znum (tx ss i) : Rat) + 1 / (cfback ((zlist ss).drop (i + 1)))) 3007 ∧ w' = ((w2.setCell ⟨G, 0, none⟩ (.bool s9a)).setCell ⟨G, 1, none⟩ (.slice p9a n9a c9a)).setCell ⟨G, 2, none⟩ (.slice p9b n9b c9b)) ∧ (f 9 = true → f 0 = true) ∧ (f 9 = true → f 1 = true) ∧ (f 9 = true → f 2 = true) ∧ (f 9 = true → f 3 = true) ∧ (f 9 = true → f 4 = true) ∧ (f 9 = true → f 5 = true) ∧ (f 9 = true → f 6 = true) ∧ (f 9 = true → f 7 = true) ∧ (f 9 = true → f 8 = true)) ?h0 ⟨?s0, ?s1, ?s2, ?s3, ?s4, ?s5, ?s6, ?s7, ?s8, ?s9, trivial⟩ ?hend
            case h0 =>
              simp only [List.setIfInBounds_toArray, List.set_cons_zero, List.set_cons_succ]
              exact ⟨_, _, _, _, _, _, _, _, _, rfl, hid (.inl (Below.drew (Below.refl _ _))), hid (fun h => by cases h), hid (fun h => by cases h), hid (fun h => by cases h), hid (fun h => by cases h), hid (fun h => by cases h), hid (fun h => by cases h), hid (fun h => by cases h), hid (fun h => by cases h), hid (fun h => by cases h), hid (fun h => by cases h), fun h => h, fun h => h, fun h => h, fun h => h, fun h => h, fun h => h, fun h => h, fun h => h, fun h => h⟩
            case s0 =>
              rintro f a1 w1 ⟨u78, u79, u80, u81, u82, u83, u84, u85, u86, rfl, HBW, h0, h1, h2, h3, h4, h5, h6, h7, h8, h9, o9_0, o9_1, o9_2, o9_3, o9_4, o9_5, o9_6, o9_7, o9_8⟩ hf hd K hK
              replace HBW := hid (HBW.out.resolve_right (fun e => absurd (o9_0 e) (by rw [hf]; decide)))
              simp only [List.setIfInBounds_toArray, List.set_cons_zero, List.set_cons_succ] at hK ⊢
              replace hK := hid hK
              go_simp
              exact hK.out _ _ ⟨_, _, _, _, _, _, _, _, _, rfl, hid (.inl (HBW).out), hid (fun h => rfl), hid (fun h => h1.out h), hid (fun h => h2.out h), hid (fun h => h3.out h), hid (fun h => h4.out h), hid (fun h => h5.out h), hid (fun h => h6.out h), hid (fun h => h7.out h), hid (fun h => h8.out h), hid (fun h => absurd (o9_0 h) (by rw [hf]; decide)), fun _ => rfl, fun h => o9_1 h, fun h => o9_2 h, fun h => o9_3 h, fun h => o9_4 h, fun h => o9_5 h, fun h => o9_6 h, fun h => o9_7 h, fun h => o9_8 h⟩
            case s1 =>
              rintro f a1 w1 ⟨u78, u79, u80, u81, u82, u83, u84, u85, u86, rfl, HBW, h0, h1, h2, h3, h4, h5, h6, h7, h8, h9, o9_0, o9_1, o9_2, o9_3, o9_4, o9_5, o9_6, o9_7, o9_8⟩ hf hd K hK
              replace HBW := hid (HBW.out.resolve_right (fun e => absurd (o9_1 e) (by rw [hf]; decide)))
              simp only [List.setIfInBounds_toArray, List.set_cons_zero, List.set_cons_succ] at hK ⊢
              replace hK := hid hK
              go_simp
              exact hK.out _ _ ⟨_, _, _, _, _, _, _, _, _, rfl, hid (.inl (HBW).out), hid (fun h => h0.out h), hid (fun h => rfl), hid (fun h => h2.out h), hid (fun h => h3.out h), hid (fun h => h4.out h), hid (fun h => h5.out h), hid (fun h => h6.out h), hid (fun h => h7.out h), hid (fun h => h8.out h), hid (fun h => absurd (o9_1 h) (by rw [hf]; decide)), fun h => o9_0 h, fun _ => rfl, fun h => o9_2 h, fun h => o9_3 h, fun h => o9_4 h, fun h => o9_5 h, fun h => o9_6 h, fun h => o9_7 h, fun h => o9_8 h⟩
            case s2 =>
              rintro f a1 w1 ⟨u78, u79, u80, u81, u82, u83, u84, u85, u86, rfl, HBW, h0, h1, h2, h3, h4, h5, h6, h7, h8, h9, o9_0, o9_1, o9_2, o9_3, o9_4, o9_5, o9_6, o9_7, o9_8⟩ hf hd K hK
              replace HBW := hid (HBW.out.resolve_right (fun e => absurd (o9_2 e) (by rw [hf]; decide)))
              simp only [List.setIfInBounds_toArray, List.set_cons_zero, List.set_cons_succ] at hK ⊢
              replace hK := hid hK
              simp [Region.binds] at hd
              obtain rfl := h0.out hd.1
              obtain rfl := h1.out hd.2
              go_simp
              exact hK.out _ _ ⟨_, _, _, _, _, _, _, _, _, rfl, hid (.inl (HBW).out), hid (fun h => h0.out h), hid (fun h => h1.out h), hid (fun h => rfl), hid (fun h => h3.out h), hid (fun h => h4.out h), hid (fun h => h5.out h), hid (fun h => h6.out h), hid (fun h => h7.out h), hid (fun h => h8.out h), hid (fun h => absurd (o9_2 h) (by rw [hf]; decide)), fun h => o9_0 h, fun h => o9_1 h, fun _ => rfl, fun h => o9_3 h, fun h => o9_4 h, fun h => o9_5 h, fun h => o9_6 h, fun h => o9_7 h, fun h => o9_8 h⟩
            case s3 =>
              rintro f a1 w1 ⟨u78, u79, u80, u81, u82, u83, u84, u85, u86, rfl, HBW, h0, h1, h2, h3, h4, h5, h6, h7, h8, h9, o9_0, o9_1, o9_2, o9_3, o9_4, o9_5, o9_6, o9_7, o9_8⟩ hf hd K hK
              replace HBW := hid (HBW.out.resolve_right (fun e => absurd (o9_3 e) (by rw [hf]; decide)))
              simp only [List.setIfInBounds_toArray, List.set_cons_zero, List.set_cons_succ] at hK ⊢
              replace hK := hid hK
              simp [Region.binds] at hd
              obtain rfl := h2.out hd
              have y1 := (HBW.out.cell (p := ⟨gz, i * 2, none⟩) LGZ.out).trans CZ.out.1
              have y2 := (HBW.out.cell (p := ⟨gz, i * 2 + 1, none⟩) LGZ.out).trans CZ.out.2
              go_simp
              exact hK.out _ _ ⟨_, _, _, _, _, _, _, _, _, rfl, hid (.inl (HBW).out), hid (fun h => h0.out h), hid (fun h => h1.out h), hid (fun h => h2.out h), hid (fun h => rfl), hid (fun h => h4.out h), hid (fun h => h5.out h), hid (fun h => h6.out h), hid (fun h => h7.out h), hid (fun h => h8.out h), hid (fun h => absurd (o9_3 h) (by rw [hf]; decide)), fun h => o9_0 h, fun h => o9_1 h, fun h => o9_2 h, fun _ => rfl, fun h => o9_4 h, fun h => o9_5 h, fun h => o9_6 h, fun h => o9_7 h, fun h => o9_8 h⟩
            case s4 =>
              rintro f a1 w1 ⟨u78, u79, u80, u81, u82, u83, u84, u85, u86, rfl, HBW, h0, h1, h2, h3, h4, h5, h6, h7, h8, h9, o9_0, o9_1, o9_2, o9_3, o9_4, o9_5, o9_6, o9_7, o9_8⟩ hf hd K hK
              replace HBW := hid (HBW.out.resolve_right (fun e => absurd (o9_4 e) (by rw [hf]; decide)))
              simp only [List.setIfInBounds_toArray, List.set_cons_zero, List.set_cons_succ] at hK ⊢
              replace hK := hid hK
              simp [Region.binds] at hd
              obtain rfl := h3.out hd
              go_simp
              refine (rwhole ((HW.out i (by omega)).on HBW.out) (by omega)).mono ?_
              rintro e w2 ⟨v, rfl, hv, hb⟩
              go_wp2_with fail
              exact hK.out _ _ ⟨_, _, _, _, _, _, _, _, _, rfl, hid (.inl (hid (below_next HBW.out hb)).out), hid (fun h => h0.out h), hid (fun h => h1.out h), hid (fun h => h2.out h), hid (fun h => rfl), hid (fun h => .inl (hv.mono (by omega))), hid (fun h => (h5.out h).imp (fun h => h.on hb) id), hid (fun h => h6.out h), hid (fun h => (h7.out h).imp (fun h => h.on hb) id), hid (fun h => (h8.out h).imp (fun h => h.on hb) id), hid (fun h => absurd (o9_4 h) (by rw [hf]; decide)), fun h => o9_0 h, fun h => o9_1 h, fun h => o9_2 h, fun h => o9_3 h, fun _ => rfl, fun h => o9_5 h, fun h => o9_6 h, fun h => o9_7 h, fun h => o9_8 h⟩
            case s5 =>
              rintro f a1 w1 ⟨u78, u79, u80, u81, u82, u83, u84, u85, u86, rfl, HBW, h0, h1, h2, h3, h4, h5, h6, h7, h8, h9, o9_0, o9_1, o9_2, o9_3, o9_4, o9_5, o9_6, o9_7, o9_8⟩ hf hd K hK
              replace HBW := hid (HBW.out.resolve_right (fun e => absurd (o9_5 e) (by rw [hf]; decide)))
              simp only [List.setIfInBounds_toArray, List.set_cons_zero, List.set_cons_succ] at hK ⊢
              replace hK := hid hK
              simp [Region.binds] at hd
              go_simp
              refine (rint 1 (by omega) (by omega) _).mono ?_
              rintro e w2 ⟨v, rfl, hv, hb⟩
              rw [show ((1 : Int) : Rat) = 1 from rfl] at hv
              go_wp2_with fail
              exact hK.out _ _ ⟨_, _, _, _, _, _, _, _, _, rfl, hid (.inl (hid (below_next HBW.out hb)).out), hid (fun h => h0.out h), hid (fun h => h1.out h), hid (fun h => h2.out h), hid (fun h => h3.out h), hid (fun h => (h4.out h).imp (fun h => h.on hb) id), hid (fun h => .inl hv), hid (fun h => h6.out h), hid (fun h => (h7.out h).imp (fun h => h.on hb) id), hid (fun h => (h8.out h).imp (fun h => h.on hb) id), hid (fun h => absurd (o9_5 h) (by rw [hf]; decide)), fun h => o9_0 h, fun h => o9_1 h, fun h => o9_2 h, fun h => o9_3 h, fun h => o9_4 h, fun _ => rfl, fun h => o9_6 h, fun h => o9_7 h, fun h => o9_8 h⟩
            case s6 =>
              rintro f a1 w1 ⟨u78, u79, u80, u81, u82, u83, u84, u85, u86, rfl, HBW, h0, h1, h2, h3, h4, h5, h6, h7, h8, h9, o9_0, o9_1, o9_2, o9_3, o9_4, o9_5, o9_6, o9_7, o9_8⟩ hf hd K hK
              replace HBW := hid (HBW.out.resolve_right (fun e => absurd (o9_6 e) (by rw [hf]; decide)))
              simp only [List.setIfInBounds_toArray, List.set_cons_zero, List.set_cons_succ] at hK ⊢
              replace hK := hid hK
              obtain ⟨y1, y2, y3⟩ := (XQ.out.below HBW.out XQ.out.lt).cells
              go_simp
              exact hK.out _ _ ⟨_, _, _, _, _, _, _, _, _, rfl, hid (.inl (HBW).out), hid (fun h => h0.out h), hid (fun h => h1.out h), hid (fun h => h2.out h), hid (fun h => h3.out h), hid (fun h => h4.out h), hid (fun h => h5.out h), hid (fun h => rfl), hid (fun h => h7.out h), hid (fun h => h8.out h), hid (fun h => absurd (o9_6 h) (by rw [hf]; decide)), fun h => o9_0 h, fun h => o9_1 h, fun h => o9_2 h, fun h => o9_3 h, fun h => o9_4 h, fun h => o9_5 h, fun _ => rfl, fun h => o9_7 h, fun h => o9_8 h⟩
            case s7 =>
              rintro f a1 w1 ⟨u78, u79, u80, u81, u82, u83, u84, u85, u86, rfl, HBW, h0, h1, h2, h3, h4, h5, h6, h7, h8, h9, o9_0, o9_1, o9_2, o9_3, o9_4, o9_5, o9_6, o9_7, o9_8⟩ hf hd K hK
              replace HBW := hid (HBW.out.resolve_right (fun e => absurd (o9_7 e) (by rw [hf]; decide)))
              simp only [List.setIfInBounds_toArray, List.set_cons_zero, List.set_cons_succ] at hK ⊢
              replace hK := hid hK
              simp [Region.binds] at hd
              obtain rfl := h6.out (by simp only [hd])
              have NF : f 9 = false := by cases e : f 9 with | false => rfl | true => exact absurd (o9_7 e) (by rw [hf]; decide)
              have h5a := (h5.out (by simp only [hd])).resolve_right (fun e => by rw [NF] at e; cases e)
              go_simp
              refine (rdivq (h5a.mono (by omega)) (HQ.out.on HBW.out) HNZ.out (by omega)).mono ?_
              rintro e w2 ⟨v, rfl, hv, hb⟩
              go_wp2_with fail
              exact hK.out _ _ ⟨_, _, _, _, _, _, _, _, _, rfl, hid (.inl (hid (below_next HBW.out hb)).out), hid (fun h => h0.out h), hid (fun h => h1.out h), hid (fun h => h2.out h), hid (fun h => h3.out h), hid (fun h => (h4.out h).imp (fun h => h.on hb) id), hid (fun h => (h5.out h).imp (fun h => h.on hb) id), hid (fun h => rfl), hid (fun h => .inl hv), hid (fun h => (h8.out h).imp (fun h => h.on hb) id), hid (fun h => absurd (o9_7 h) (by rw [hf]; decide)), fun h => o9_0 h, fun h => o9_1 h, fun h => o9_2 h, fun h => o9_3 h, fun h => o9_4 h, fun h => o9_5 h, fun h => o9_6 h, fun _ => rfl, fun h => o9_8 h⟩
            case s8 =>
              rintro f a1 w1 ⟨u78, u79, u80, u81, u82, u83, u84, u85, u86, rfl, HBW, h0, h1, h2, h3, h4, h5, h6, h7, h8, h9, o9_0, o9_1, o9_2, o9_3, o9_4, o9_5, o9_6, o9_7, o9_8⟩ hf hd K hK
              replace HBW := hid (HBW.out.resolve_right (fun e => absurd (o9_8 e) (by rw [hf]; decide)))
              simp only [List.setIfInBounds_toArray, List.set_cons_zero, List.set_cons_succ] at hK ⊢
              replace hK := hid hK
              simp [Region.binds] at hd
              have NF : f 9 = false := by cases e : f 9 with | false => rfl | true => exact absurd (o9_8 e) (by rw [hf]; decide)
              have h4a := (h4.out (by simp only [hd])).resolve_right (fun e => by rw [NF] at e; cases e)
              have h7a := (h7.out (by simp only [hd])).resolve_right (fun e => by rw [NF] at e; cases e)
              go_simp
              refine (radd (h4a.mono (by omega)) h7a (by omega)).mono ?_
              rintro e w2 ⟨v, rfl, hv, hb⟩
              go_wp2_with fail
              exact hK.out _ _ ⟨_, _, _, _, _, _, _, _, _, rfl, hid (.inl (hid (below_next HBW.out hb)).out), hid (fun h => h0.out h), hid (fun h => h1.out h), hid (fun h => h2.out h), hid (fun h => h3.out h), hid (fun h => (h4.out h).imp (fun h => h.on hb) id), hid (fun h => (h5.out h).imp (fun h => h.on hb) id), hid (fun h => h6.out h), hid (fun h => (h7.out h).imp (fun h => h.on hb) id), hid (fun h => .inl hv), hid (fun h => absurd (o9_8 h) (by rw [hf]; decide)), fun h => o9_0 h, fun h => o9_1 h, fun h => o9_2 h, fun h => o9_3 h, fun h => o9_4 h, fun h => o9_5 h, fun h => o9_6 h, fun h => o9_7 h, fun _ => rfl⟩
            case s9 =>
              rintro f a1 w1 ⟨u78, u79, u80, u81, u82, u83, u84, u85, u86, rfl, HBW, h0, h1, h2, h3, h4, h5, h6, h7, h8, h9, o9_0, o9_1, o9_2, o9_3, o9_4, o9_5, o9_6, o9_7, o9_8⟩ hf hd K hK
              replace HBW := hid (HBW.out.resolve_right (fun e => by rw [hf] at e; cases e))
              simp only [List.setIfInBounds_toArray, List.set_cons_zero, List.set_cons_succ] at hK ⊢
              replace hK := hid hK
              simp [Region.binds] at hd
              have h8a := (h8.out (by simp only [hd])).resolve_right (fun e => by rw [hf] at e; cases e)
              obtain ⟨s9a, p9a, n9a, c9a, p9b, n9b, c9b, rfl⟩ := h8a.opened
              obtain ⟨⟨y1, y2⟩, ⟨y3, y4⟩, y5, y6⟩ := (XQ.out.below HBW.out XQ.out.lt).stores
              go_simp
              exact hK.out _ _ ⟨_, _, _, _, _, _, _, _, _, rfl, hid (.inr rfl), hid (fun h => h0.out h), hid (fun h => h1.out h), hid (fun h => h2.out h), hid (fun h => h3.out h), hid (fun h => .inr rfl), hid (fun h => .inr rfl), hid (fun h => h6.out h), hid (fun h => .inr rfl), hid (fun h => .inr rfl), hid (fun h => ⟨_, _, _, _, _, _, _, _, HBW.out, h8a, rfl⟩), fun _ => (show f 0 = true from by simp only [hd]), fun _ => (show f 1 = true from by simp only [hd]), fun _ => (show f 2 = true from by simp only [hd]), fun _ => (show f 3 = true from by simp only [hd]), fun _ => (show f 4 = true from by simp only [hd]), fun _ => (show f 5 = true from by simp only [hd]), fun _ => (show f 6 = true from by simp only [hd]), fun _ => (show f 7 = true from by simp only [hd]), fun _ => (show f 8 = true from by simp only [hd])⟩
            case hend =>
              rintro f a1 w1 ⟨u78, u79, u80, u81, u82, u83, u84, u85, u86, rfl, HBW, h0, h1, h2, h3, h4, h5, h6, h7, h8, h9, _⟩ hall
              simp only [List.setIfInBounds_toArray, List.set_cons_zero, List.set_cons_succ]
              obtain ⟨w2, s9a, p9a, n9a, c9a, p9b, n9b, c9b, hb, hq, rfl⟩ := h9.out (hall 9 (by decide))
              rw [← HST.out.1] at hq
              replace hq := hq.fit 751 HFT.out.1 HFT.out.2
              have XQ2 := XQ.out.below hb XQ.out.lt
              have B2 := B.out.trans (hb.mono B.out.size)
              obtain ⟨n1, n2', n3⟩ := XQ2.last B2 (by have := LX.out; omega) s9a p9a n9a c9a p9b n9b c9b
              have neG := (HO.out.on hb).ne (g := G) XQ2.1 (by decide)
              have HO2 := hid ((((HO.out.on hb).set neG 0 (.bool s9a)).set neG 1 (.slice p9a n9a c9a)).set neG 2 (.slice p9b n9b c9b))
              have HW2 : Hid (∀ l, l < m + 1 → WhlR (((w2.setCell ⟨G, 0, none⟩ (.bool s9a)).setCell ⟨G, 1, none⟩ (.slice p9a n9a c9a)).setCell ⟨G, 2, none⟩ (.slice p9b n9b c9b)) (zag (zat vs l)) (znum (tx ss l)) 100) := hid (fun l hl => n3 ((HW.out l hl).on hb))
              have HQ2 := hid (show QR _ _ (cfback ((zlist ss).drop (min i m))) 751 from by rw [show min i m = i by omega]; exact hq.moved (fun v z k h => n3 h))
              have X02 := hid ((((X0.out.below hb X0.out.lt).other (g2 := G) (by have := LX.out; omega) 0 (.bool s9a)).other (g2 := G) (by have := LX.out; omega) 1 (.slice p9a n9a c9a)).other (g2 := G) (by have := LX.out; omega) 2 (.slice p9b n9b c9b))
              have XQ3 := hid n1
              have B3 := hid n2'
              clear h0 h1 h2 h3 h4 h5 h6 h7 h8 h9 hall HBW XQ XQ2 B B2 HO HW HQ X0 n1 n2' n3 neG hq hb
              go_wp2_with fail
              go_roundw
              case rel => exact ⟨i, _, _, _, _, _, _, _, by omega, by go_num, XQ3, HQ2, HO2, HW2, HP2, X02, B3⟩
              case measure => simp [intOf] <;> omega
          · have hnz' : ¬ (nzi : Int) = 0 := by omega
            go_wp2_with fail
            clear cz0 cz1 hnz' hnz h0
            generalize ((nzi : Int) == 0) = zb0
            refine region_ops (by kernel_rfl) (by kernel_rfl) (fun a f a' w' => ∃ u78 u79 u80 u81 u82 u83 u84 u85 u86 : Value, a' = { tmps := (((((((((a.tmps.setIfInBounds 78 u78).setIfInBounds 79 u79).setIfInBounds 80 u80).setIfInBounds 81 u81).setIfInBounds 82 u82).setIfInBounds 83 u83).setIfInBounds 84 u84).setIfInBounds 85 u85).setIfInBounds 86 u86), defers := a.defers } ∧ Hid (Below wr.heap.size wr w' ∨ f 9 = true) ∧ Hid (f 0 = true → u78 = .slice (some ⟨gz, 0, none⟩) (m + 1) cz) ∧ Hid (f 1 = true → u79 = .int .i64 i) ∧ Hid (f 2 = true → u80 = .pointer (some ⟨gz, i * 2, none⟩)) ∧ Hid (f 3 = true → u81 = zag (zat vs i)) ∧ Hid (f 4 = true → (QR w' u82 (znum (tx ss i) : Rat) 751 ∨ f 9 = true)) ∧ Hid (f 5 = true → (QR w' u83 (1 : Rat) 1 ∨ f 9 = true)) ∧ Hid (f 6 = true → u84 = .agg #[.bool s, .slice p n' c', .slice q n2 c2]) ∧ Hid (f 7 = true → (QR w' u85 (1 / (cfback ((zlist ss).drop (i + 1)))) 1503 ∨ f 9 = true)) ∧ Hid (f 8 = true → (QR w' u86 ((znum (tx ss i) : Rat) + 1 / (cfback ((zlist ss).drop (i + 1)))) 3007 ∨ f 9 = true)) ∧ Hid (f 9 = true → ∃ w2 s9a p9a n9a c9a p9b n9b c9b, Below wr.heap.size wr w2 ∧ QR w2 (.agg #[.bool s9a, .slice p9a n9a c9a, .slice p9b n9b c9b]) ((znum (tx ss i) : Rat) + 1 / (cfback ((zlist ss).drop (i + 1)))) 3007 ∧ w' = ((w2.setCell ⟨G, 0, none⟩ (.bool s9a)).setCell ⟨G, 1, none⟩ (.slice p9a n9a c9a)).setCell ⟨G, 2, none⟩ (.slice p9b n9b c9b)) ∧ (f 9 = true → f 0 = true) ∧ (f 9 = true → f 1 = true) ∧ (f 9 = true → f 2 = true) ∧ (f 9 = true → f 3 = true) ∧ (f 9 = true → f 4 = true) ∧ (f 9 = true → f 5 = true) ∧ (f 9 = true → f 6 = true) ∧ (f 9 = true → f 7 = true) ∧ (f 9 = true → f 8 = true)) ?h0 ⟨?s0, ?s1, ?s2, ?s3, ?s4, ?s5, ?s6, ?s7, ?s8, ?s9, trivial⟩ ?hend
            case h0 =>
              simp only [List.setIfInBounds_toArray, List.set_cons_zero, List.set_cons_succ]
              exact ⟨_, _, _, _, _, _, _, _, _, rfl, hid (.inl (Below.drew (Below.refl _ _))), hid (fun h => by cases h), hid (fun h => by cases h), hid (fun h => by cases h), hid (fun h => by cases h), hid (fun h => by cases h), hid (fun h => by cases h), hid (fun h => by cases h), hid (fun h => by cases h), hid (fun h => by cases h), hid (fun h => by cases h), fun h => h, fun h => h, fun h => h, fun h => h, fun h => h, fun h => h, fun h => h, fun h => h, fun h => h⟩
            case s0 =>
              rintro f a1 w1 ⟨u78, u79, u80, u81, u82, u83, u84, u85, u86, rfl, HBW, h0, h1, h2, h3, h4, h5, h6, h7, h8, h9, o9_0, o9_1, o9_2, o9_3, o9_4, o9_5, o9_6, o9_7, o9_8⟩ hf hd K hK
              replace HBW := hid (HBW.out.resolve_right (fun e => absurd (o9_0 e) (by rw [hf]; decide)))
              simp only [List.setIfInBounds_toArray, List.set_cons_zero, List.set_cons_succ] at hK ⊢
              replace hK := hid hK
              go_simp
              exact hK.out _ _ ⟨_, _, _, _, _, _, _, _, _, rfl, hid (.inl (HBW).out), hid (fun h => rfl), hid (fun h => h1.out h), hid (fun h => h2.out h), hid (fun h => h3.out h), hid (fun h => h4.out h), hid (fun h => h5.out h), hid (fun h => h6.out h), hid (fun h => h7.out h), hid (fun h => h8.out h), hid (fun h => absurd (o9_0 h) (by rw [hf]; decide)), fun _ => rfl, fun h => o9_1 h, fun h => o9_2 h, fun h => o9_3 h, fun h => o9_4 h, fun h => o9_5 h, fun h => o9_6 h, fun h => o9_7 h, fun h => o9_8 h⟩
            case s1 =>
              rintro f a1 w1 ⟨u78, u79, u80, u81, u82, u83, u84, u85, u86, rfl, HBW, h0, h1, h2, h3, h4, h5, h6, h7, h8, h9, o9_0, o9_1, o9_2, o9_3, o9_4, o9_5, o9_6, o9_7, o9_8⟩ hf hd K hK
              replace HBW := hid (HBW.out.resolve_right (fun e => absurd (o9_1 e) (by rw [hf]; decide)))
              simp only [List.setIfInBounds_toArray, List.set_cons_zero, List.set_cons_succ] at hK ⊢
              replace hK := hid hK
              go_simp
              exact hK.out _ _ ⟨_, _, _, _, _, _, _, _, _, rfl, hid (.inl (HBW).out), hid (fun h => h0.out h), hid (fun h => rfl), hid (fun h => h2.out h), hid (fun h => h3.out h), hid (fun h => h4.out h), hid (fun h => h5.out h), hid (fun h => h6.out h), hid (fun h => h7.out h), hid (fun h => h8.out h), hid (fun h => absurd (o9_1 h) (by rw [hf]; decide)), fun h => o9_0 h, fun _ => rfl, fun h => o9_2 h, fun h => o9_3 h, fun h => o9_4 h, fun h => o9_5 h, fun h => o9_6 h, fun h => o9_7 h, fun h => o9_8 h⟩
            case s2 =>
              rintro f a1 w1 ⟨u78, u79, u80, u81, u82, u83, u84, u85, u86, rfl, HBW, h0, h1, h2, h3, h4, h5, h6, h7, h8, h9, o9_0, o9_1, o9_2, o9_3, o9_4, o9_5, o9_6, o9_7, o9_8⟩ hf hd K hK
              replace HBW := hid (HBW.out.resolve_right (fun e => absurd (o9_2 e) (by rw [hf]; decide)))
              simp only [List.setIfInBounds_toArray, List.set_cons_zero, List.set_cons_succ] at hK ⊢
              replace hK := hid hK
              simp [Region.binds] at hd
              obtain rfl := h0.out hd.1
              obtain rfl := h1.out hd.2
              go_simp
              exact hK.out _ _ ⟨_, _, _, _, _, _, _, _, _, rfl, hid (.inl (HBW).out), hid (fun h => h0.out h), hid (fun h => h1.out h), hid (fun h => rfl), hid (fun h => h3.out h), hid (fun h => h4.out h), hid (fun h => h5.out h), hid (fun h => h6.out h), hid (fun h => h7.out h), hid (fun h => h8.out h), hid (fun h => absurd (o9_2 h) (by rw [hf]; decide)), fun h => o9_0 h, fun h => o9_1 h, fun _ => rfl, fun h => o9_3 h, fun h => o9_4 h, fun h => o9_5 h, fun h => o9_6 h, fun h => o9_7 h, fun h => o9_8 h⟩
            case s3 =>
              rintro f a1 w1 ⟨u78, u79, u80, u81, u82, u83, u84, u85, u86, rfl, HBW, h0, h1, h2, h3, h4, h5, h6, h7, h8, h9, o9_0, o9_1, o9_2, o9_3, o9_4, o9_5, o9_6, o9_7, o9_8⟩ hf hd K hK
              replace HBW := hid (HBW.out.resolve_right (fun e => absurd (o9_3 e) (by rw [hf]; decide)))
              simp only [List.setIfInBounds_toArray, List.set_cons_zero, List.set_cons_succ] at hK ⊢
              replace hK := hid hK
              simp [Region.binds] at hd
              obtain rfl := h2.out hd
              have y1 := (HBW.out.cell (p := ⟨gz, i * 2, none⟩) LGZ.out).trans CZ.out.1
              have y2 := (HBW.out.cell (p := ⟨gz, i * 2 + 1, none⟩) LGZ.out).trans CZ.out.2
              go_simp
              exact hK.out _ _ ⟨_, _, _, _, _, _, _, _, _, rfl, hid (.inl (HBW).out), hid (fun h => h0.out h), hid (fun h => h1.out h), hid (fun h => h2.out h), hid (fun h => rfl), hid (fun h => h4.out h), hid (fun h => h5.out h), hid (fun h => h6.out h), hid (fun h => h7.out h), hid (fun h => h8.out h), hid (fun h => absurd (o9_3 h) (by rw [hf]; decide)), fun h => o9_0 h, fun h => o9_1 h, fun h => o9_2 h, fun _ => rfl, fun h => o9_4 h, fun h => o9_5 h, fun h => o9_6 h, fun h => o9_7 h, fun h => o9_8 h⟩
            case s4 =>
              rintro f a1 w1 ⟨u78, u79, u80, u81, u82, u83, u84, u85, u86, rfl, HBW, h0, h1, h2, h3, h4, h5, h6, h7, h8, h9, o9_0, o9_1, o9_2, o9_3, o9_4, o9_5, o9_6, o9_7, o9_8⟩ hf hd K hK
              replace HBW := hid (HBW.out.resolve_right (fun e => absurd (o9_4 e) (by rw [hf]; decide)))
              simp only [List.setIfInBounds_toArray, List.set_cons_zero, List.set_cons_succ] at hK ⊢
              replace hK := hid hK
              simp [Region.binds] at hd
              obtain rfl := h3.out hd
              go_simp
              refine (rwhole ((HW.out i (by omega)).on HBW.out) (by omega)).mono ?_
              rintro e w2 ⟨v, rfl, hv, hb⟩
              go_wp2_with fail
              exact hK.out _ _ ⟨_, _, _, _, _, _, _, _, _, rfl, hid (.inl (hid (below_next HBW.out hb)).out), hid (fun h => h0.out h), hid (fun h => h1.out h), hid (fun h => h2.out h), hid (fun h => rfl), hid (fun h => .inl (hv.mono (by omega))), hid (fun h => (h5.out h).imp (fun h => h.on hb) id), hid (fun h => h6.out h), hid (fun h => (h7.out h).imp (fun h => h.on hb) id), hid (fun h => (h8.out h).imp (fun h => h.on hb) id), hid (fun h => absurd (o9_4 h) (by rw [hf]; decide)), fun h => o9_0 h, fun h => o9_1 h, fun h => o9_2 h, fun h => o9_3 h, fun _ => rfl, fun h => o9_5 h, fun h => o9_6 h, fun h => o9_7 h, fun h => o9_8 h⟩
            case s5 =>
              rintro f a1 w1 ⟨u78, u79, u80, u81, u82, u83, u84, u85, u86, rfl, HBW, h0, h1, h2, h3, h4, h5, h6, h7, h8, h9, o9_0, o9_1, o9_2, o9_3, o9_4, o9_5, o9_6, o9_7, o9_8⟩ hf hd K hK
              replace HBW := hid (HBW.out.resolve_right (fun e => absurd (o9_5 e) (by rw [hf]; decide)))
              simp only [List.setIfInBounds_toArray, List.set_cons_zero, List.set_cons_succ] at hK ⊢
              replace hK := hid hK
              simp [Region.binds] at hd
              go_simp
              refine (rint 1 (by omega) (by omega) _).mono ?_
              rintro e w2 ⟨v, rfl, hv, hb⟩
              rw [show ((1 : Int) : Rat) = 1 from rfl] at hv
              go_wp2_with fail
              exact hK.out _ _ ⟨_, _, _, _, _, _, _, _, _, rfl, hid (.inl (hid (below_next HBW.out hb)).out), hid (fun h => h0.out h), hid (fun h => h1.out h), hid (fun h => h2.out h), hid (fun h => h3.out h), hid (fun h => (h4.out h).imp (fun h => h.on hb) id), hid (fun h => .inl hv), hid (fun h => h6.out h), hid (fun h => (h7.out h).imp (fun h => h.on hb) id), hid (fun h => (h8.out h).imp (fun h => h.on hb) id), hid (fun h => absurd (o9_5 h) (by rw [hf]; decide)), fun h => o9_0 h, fun h => o9_1 h, fun h => o9_2 h, fun h => o9_3 h, fun h => o9_4 h, fun _ => rfl, fun h => o9_6 h, fun h => o9_7 h, fun h => o9_8 h⟩
            case s6 =>
              rintro f a1 w1 ⟨u78, u79, u80, u81, u82, u83, u84, u85, u86, rfl, HBW, h0, h1, h2, h3, h4, h5, h6, h7, h8, h9, o9_0, o9_1, o9_2, o9_3, o9_4, o9_5, o9_6, o9_7, o9_8⟩ hf hd K hK
              replace HBW := hid (HBW.out.resolve_right (fun e => absurd (o9_6 e) (by rw [hf]; decide)))
              simp only [List.setIfInBounds_toArray, List.set_cons_zero, List.set_cons_succ] at hK ⊢
              replace hK := hid hK
              obtain ⟨y1, y2, y3⟩ := (XQ.out.below HBW.out XQ.out.lt).cells
              go_simp
              exact hK.out _ _ ⟨_, _, _, _, _, _, _, _, _, rfl, hid (.inl (HBW).out), hid (fun h => h0.out h), hid (fun h => h1.out h), hid (fun h => h2.out h), hid (fun h => h3.out h), hid (fun h => h4.out h), hid (fun h => h5.out h), hid (fun h => rfl), hid (fun h => h7.out h), hid (fun h => h8.out h), hid (fun h => absurd (o9_6 h) (by rw [hf]; decide)), fun h => o9_0 h, fun h => o9_1 h, fun h => o9_2 h, fun h => o9_3 h, fun h => o9_4 h, fun h => o9_5 h, fun _ => rfl, fun h => o9_7 h, fun h => o9_8 h⟩
            case s7 =>
              rintro f a1 w1 ⟨u78, u79, u80, u81, u82, u83, u84, u85, u86, rfl, HBW, h0, h1, h2, h3, h4, h5, h6, h7, h8, h9, o9_0, o9_1, o9_2, o9_3, o9_4, o9_5, o9_6, o9_7, o9_8⟩ hf hd K hK
              replace HBW := hid (HBW.out.resolve_right (fun e => absurd (o9_7 e) (by rw [hf]; decide)))
              simp only [List.setIfInBounds_toArray, List.set_cons_zero, List.set_cons_succ] at hK ⊢
              replace hK := hid hK
              simp [Region.binds] at hd
              obtain rfl := h6.out (by simp only [hd])
              have NF : f 9 = false := by cases e : f 9 with | false => rfl | true => exact absurd (o9_7 e) (by rw [hf]; decide)
              have h5a := (h5.out (by simp only [hd])).resolve_right (fun e => by rw [NF] at e; cases e)
              go_simp
              refine (rdivq (h5a.mono (by omega)) (HQ.out.on HBW.out) HNZ.out (by omega)).mono ?_
              rintro e w2 ⟨v, rfl, hv, hb⟩
              go_wp2_with fail
              exact hK.out _ _ ⟨_, _, _, _, _, _, _, _, _, rfl, hid (.inl (hid (below_next HBW.out hb)).out), hid (fun h => h0.out h), hid (fun h => h1.out h), hid (fun h => h2.out h), hid (fun h => h3.out h), hid (fun h => (h4.out h).imp (fun h => h.on hb) id), hid (fun h => (h5.out h).imp (fun h => h.on hb) id), hid (fun h => rfl), hid (fun h => .inl hv), hid (fun h => (h8.out h).imp (fun h => h.on hb) id), hid (fun h => absurd (o9_7 h) (by rw [hf]; decide)), fun h => o9_0 h, fun h => o9_1 h, fun h => o9_2 h, fun h => o9_3 h, fun h => o9_4 h, fun h => o9_5 h, fun h => o9_6 h, fun _ => rfl, fun h => o9_8 h⟩
            case s8 =>
              rintro f a1 w1 ⟨u78, u79, u80, u81, u82, u83, u84, u85, u86, rfl, HBW, h0, h1, h2, h3, h4, h5, h6, h7, h8, h9, o9_0, o9_1, o9_2, o9_3, o9_4, o9_5, o9_6, o9_7, o9_8⟩ hf hd K hK
              replace HBW := hid (HBW.out.resolve_right (fun e => absurd (o9_8 e) (by rw [hf]; decide)))
              simp only [List.setIfInBounds_toArray, List.set_cons_zero, List.set_cons_succ] at hK ⊢
              replace hK := hid hK
              simp [Region.binds] at hd
              have NF : f 9 = false := by cases e : f 9 with | false => rfl | true => exact absurd (o9_8 e) (by rw [hf]; decide)
              have h4a := (h4.out (by simp only [hd])).resolve_right (fun e => by rw [NF] at e; cases e)
              have h7a := (h7.out (by simp only [hd])).resolve_right (fun e => by rw [NF] at e; cases e)
              go_simp
              refine (radd (h4a.mono (by omega)) h7a (by omega)).mono ?_
              rintro e w2 ⟨v, rfl, hv, hb⟩
              go_wp2_with fail
              exact hK.out _ _ ⟨_, _, _, _, _, _, _, _, _, rfl, hid (.inl (hid (below_next HBW.out hb)).out), hid (fun h => h0.out h), hid (fun h => h1.out h), hid (fun h => h2.out h), hid (fun h => h3.out h), hid (fun h => (h4.out h).imp (fun h => h.on hb) id), hid (fun h => (h5.out h).imp (fun h => h.on hb) id), hid (fun h => h6.out h), hid (fun h => (h7.out h).imp (fun h => h.on hb) id), hid (fun h => .inl hv), hid (fun h => absurd (o9_8 h) (by rw [hf]; decide)), fun h => o9_0 h, fun h => o9_1 h, fun h => o9_2 h, fun h => o9_3 h, fun h => o9_4 h, fun h => o9_5 h, fun h => o9_6 h, fun h => o9_7 h, fun _ => rfl⟩
            case s9 =>
              rintro f a1 w1 ⟨u78, u79, u80, u81, u82, u83, u84, u85, u86, rfl, HBW, h0, h1, h2, h3, h4, h5, h6, h7, h8, h9, o9_0, o9_1, o9_2, o9_3, o9_4, o9_5, o9_6, o9_7, o9_8⟩ hf hd K hK
              replace HBW := hid (HBW.out.resolve_right (fun e => by rw [hf] at e; cases e))
              simp only [List.setIfInBounds_toArray, List.set_cons_zero, List.set_cons_succ] at hK ⊢
              replace hK := hid hK
              simp [Region.binds] at hd
              have h8a := (h8.out (by simp only [hd])).resolve_right (fun e => by rw [hf] at e; cases e)
              obtain ⟨s9a, p9a, n9a, c9a, p9b, n9b, c9b, rfl⟩ := h8a.opened
              obtain ⟨⟨y1, y2⟩, ⟨y3, y4⟩, y5, y6⟩ := (XQ.out.below HBW.out XQ.out.lt).stores
              go_simp
              exact hK.out _ _ ⟨_, _, _, _, _, _, _, _, _, rfl, hid (.inr rfl), hid (fun h => h0.out h), hid (fun h => h1.out h), hid (fun h => h2.out h), hid (fun h => h3.out h), hid (fun h => .inr rfl), hid (fun h => .inr rfl), hid (fun h => h6.out h), hid (fun h => .inr rfl), hid (fun h => .inr rfl), hid (fun h => ⟨_, _, _, _, _, _, _, _, HBW.out, h8a, rfl⟩), fun _ => (show f 0 = true from by simp only [hd]), fun _ => (show f 1 = true from by simp only [hd]), fun _ => (show f 2 = true from by simp only [hd]), fun _ => (show f 3 = true from by simp only [hd]), fun _ => (show f 4 = true from by simp only [hd]), fun _ => (show f 5 = true from by simp only [hd]), fun _ => (show f 6 = true from by simp only [hd]), fun _ => (show f 7 = true from by simp only [hd]), fun _ => (show f 8 = true from by simp only [hd])⟩
            case hend =>
              rintro f a1 w1 ⟨u78, u79, u80, u81, u82, u83, u84, u85, u86, rfl, HBW, h0, h1, h2, h3, h4, h5, h6, h7, h8, h9, _⟩ hall
              simp only [List.setIfInBounds_toArray, List.set_cons_zero, List.set_cons_succ]
              obtain ⟨w2, s9a, p9a, n9a, c9a, p9b, n9b, c9b, hb, hq, rfl⟩ := h9.out (hall 9 (by decide))
              rw [← HST.out.1] at hq
              replace hq := hq.fit 751 HFT.out.1 HFT.out.2
              have XQ2 := XQ.out.below hb XQ.out.lt
              have B2 := B.out.trans (hb.mono B.out.size)
              obtain ⟨n1, n2', n3⟩ := XQ2.last B2 (by have := LX.out; omega) s9a p9a n9a c9a p9b n9b c9b
              have neG := (HO.out.on hb).ne (g := G) XQ2.1 (by decide)
              have HO2 := hid ((((HO.out.on hb).set neG 0 (.bool s9a)).set neG 1 (.slice p9a n9a c9a)).set neG 2 (.slice p9b n9b c9b))
              have HW2 : Hid (∀ l, l < m + 1 → WhlR (((w2.setCell ⟨G, 0, none⟩ (.bool s9a)).setCell ⟨G, 1, none⟩ (.slice p9a n9a c9a)).setCell ⟨G, 2, none⟩ (.slice p9b n9b c9b)) (zag (zat vs l)) (znum (tx ss l)) 100) := hid (fun l hl => n3 ((HW.out l hl).on hb))
              have HQ2 := hid (show QR _ _ (cfback ((zlist ss).drop (min i m))) 751 from by rw [show min i m = i by omega]; exact hq.moved (fun v z k h => n3 h))
              have X02 := hid ((((X0.out.below hb X0.out.lt).other (g2 := G) (by have := LX.out; omega) 0 (.bool s9a)).other (g2 := G) (by have := LX.out; omega) 1 (.slice p9a n9a c9a)).other (g2 := G) (by have := LX.out; omega) 2 (.slice p9b n9b c9b))
              have XQ3 := hid n1
              have B3 := hid n2'
              clear h0 h1 h2 h3 h4 h5 h6 h7 h8 h9 hall HBW XQ XQ2 B B2 HO HW HQ X0 n1 n2' n3 neG hq hb
              go_wp2_with fail
              go_roundw
              case rel => exact ⟨i, _, _, _, _, _, _, _, by omega, by go_num, XQ3, HQ2, HO2, HW2, HP2, X02, B3⟩
              case measure => simp [intOf] <;> omega


end Go.Proofs.YtjeeepcnaaadmaaGreatDoor

/-
  THE REFERENCE: NearOf.
-/
namespace Go.Proofs.YtjeeepcnaaadmaaGreatDoor
open Go.RowKit
open Num4
open Num (dg isNat dval)
set_option linter.unusedVariables false
set_option maxRecDepth 100000
set_option linter.unusedSimpArgs false

theorem cmp_lt2 (q r : Rat) : (q - r).num < 0 ↔ q < r := by
  have := Rat.num_nonneg (q := q - r)
  rw [show (q - r).num < 0 ↔ q - r < 0 by rw [← Rat.not_le, ← this]; omega]
  constructor <;> intro h <;> grind
theorem cmp_lt (q r : Rat) : (q - r).num.sign < 0 ↔ q < r := by
  have h1 : (q - r).num < 0 ↔ q - r < 0 := by
    have := Rat.num_nonneg (q := q - r)
    rw [← Rat.not_le, ← this]
    omega
  rw [Int.sign_neg_iff, h1]
  constructor <;> intro h <;> grind
theorem floor_few {x : Rat} {M D : Nat} (hx : x.num.natAbs < M) (hD : D ≤ 1000) : (x * (D : Rat)).floor.natAbs ≤ M * 1000 := by
  have hf : x.floor.natAbs < M := by
    refine Nat.lt_of_le_of_lt ?_ hx
    rw [Rat.floor_def]; exact natAbs_ediv_le _ _
  have hD0 : (0 : Rat) ≤ (D : Rat) := by exact_mod_cast Nat.zero_le D
  have e1 : x.floor * (D : Int) ≤ (x * (D : Rat)).floor := by
    rw [Rat.le_floor_iff, Rat.intCast_mul, Rat.intCast_natCast]
    exact Rat.mul_le_mul_of_nonneg_right (Rat.floor_le x) hD0
  have e2 : (x * (D : Rat)).floor ≤ (x.floor + 1) * (D : Int) := by
    have h : (((x * (D : Rat)).floor : Int) : Rat) ≤ (((x.floor + 1) * (D : Int) : Int) : Rat) := by
      refine Rat.le_trans (Rat.floor_le _) ?_
      rw [Rat.intCast_mul, Rat.intCast_natCast]
      exact Rat.mul_le_mul_of_nonneg_right (Rat.le_of_lt (Rat.lt_floor_add_one x)) hD0
    exact_mod_cast h
  have a1 : (x.floor * (D : Int)).natAbs ≤ M * 1000 := by
    rw [Int.natAbs_mul]
    exact Nat.mul_le_mul (by omega) (by omega)
  have a2 : ((x.floor + 1) * (D : Int)).natAbs ≤ M * 1000 := by
    rw [Int.natAbs_mul]
    exact Nat.mul_le_mul (by omega) (by omega)
  omega
theorem divInt_few (z : Int) {D : Nat} (hD : 0 < D) : (Rat.divInt z D).num.natAbs ≤ z.natAbs ∧ (Rat.divInt z D).den ≤ D := by
  rw [Rat.num_divInt, Rat.den_divInt, if_neg (by omega), Int.sign_eq_one_of_pos (by omega), Int.one_mul]
  refine ⟨natAbs_ediv_le _ _, ?_⟩
  rw [Int.natAbs_natCast]
  exact Nat.div_le_self _ _
/-- What is as near, in limbs. -/
theorem cand_few {x : Rat} {k D : Nat} {j : Nat} (hx : x.num.natAbs < B ^ k) (hD : 1 ≤ D) (hD2 : D ≤ 1000) (hj : j < 2) :
    (x * (D : Rat)).floor.natAbs < B ^ (k + 1) ∧ (Rat.divInt ((x * (D : Rat)).floor + (j : Int)) D).num.natAbs < B ^ (k + 1) ∧ (Rat.divInt ((x * (D : Rat)).floor + (j : Int)) D).den < B ^ (k + 1) := by
  have h1 := floor_few hx hD2
  obtain ⟨h2, h3⟩ := divInt_few ((x * (D : Rat)).floor + (j : Int)) (D := D) (by omega)
  have h4 : 0 < B ^ k := by omega
  have h5 : B ^ (k + 1) = B ^ k * 10000 := by rw [Nat.pow_succ]; rfl
  rw [h5]
  generalize B ^ k = M at *
  generalize (x * (D : Rat)).floor = L at *
  generalize Rat.divInt (L + (j : Int)) D = c at *
  clear h5
  omega
/-- So far. -/
def nbs (x : Rat) (d : Nat) : Nat → Rat
  | 0 => nfold x d
  | j + 1 => nst x (d + 1) (j : Int) (nbs x d j)
theorem nbs_two (x : Rat) (d : Nat) : nbs x d 2 = nfold x (d + 1) := rfl
theorem rsmalln (w : World) (n : Nat) (hn : n ≤ 1000) : Calls Tryz.prog 37 #[.int .i64 n] w fun e w' => ∃ v, e = .returned v ∧ NatR w' v n 1 ∧ Below w.heap.size w w' := by
  refine (rsmall_lim w n (by omega)).mono ?_
  rintro e w' ⟨v, zs, rfl, h1, h2, h3, _, hb⟩
  exact ⟨v, rfl, ⟨zs, h1, h2, length_le_of_val h2 1 (by rw [h3]; show n < B ^ 1; rw [Nat.pow_one]; show n < 10000; omega), h3⟩, hb⟩

theorem floor_fits {x : Rat} {k : Nat} (h : x.num.natAbs < B ^ k) : ((x.floor : Int) : Rat).num.natAbs < B ^ (k + 1) ∧ ((x.floor : Int) : Rat).den < B ^ (k + 1) := by
  rw [Rat.num_intCast, Rat.den_intCast]
  have h5 : B ^ (k + 1) = B ^ k * 10000 := by rw [Nat.pow_succ]; rfl
  have h1 : x.floor.natAbs ≤ x.num.natAbs := by rw [Rat.floor_def]; exact natAbs_ediv_le _ _
  rw [h5]
  generalize B ^ k = M at *
  clear h5
  omega
set_option maxHeartbeats 8000000 in
theorem rnearof {w : World} {v : Value} {x : Rat} {k m : Nat} (h : QR w v x k) (hk1 : 1 ≤ k) (hk : k ≤ 1000000) (hm1 : 1 ≤ m) (hm : m ≤ 1000) :
    Calls Tryz.prog 38 #[v, .int .i64 m] w fun e w' => ∃ v, e = .returned v ∧ QR w' v (nfold x m) (k + 1) ∧ Below w.heap.size w w' := by
  obtain ⟨s1a, p1a, n1a, c1a, p1b, n1b, c1b, rfl⟩ := h.opened
  obtain ⟨ht1, hu1⟩ := h.two
  have HK := hid hk
  have HK1 := hid hk1
  have HSZ := hid (show x.num.natAbs < B ^ k from ht1.lt)
  have HAx := hid h
  have B := hid (Below.refl w.heap.size w)
  have HN1 := hid ht1
  have HD1 := hid hu1
  have hb1 := (Below.refl _ _).alloc (Nat.le_refl w.heap.size) (.cells #[.bool s1a, .slice p1a n1a c1a, .slice p1b n1b c1b] 28)
  have hx2 := Qbx.new w s1a p1a n1a c1a p1b n1b c1b
  replace HN1 := wr HN1 hb1
  replace HD1 := wr HD1 hb1
  replace B := bb B hb1
  have X2 := hid hx2
  have hs3 : (w.alloc (.cells #[.bool s1a, .slice p1a n1a c1a, .slice p1b n1b c1b] 28)).heap.size = w.heap.size + 1 := by simp
  clear hb1 hx2
  have hb4 := (Below.refl _ _).alloc (Nat.le_refl (w.alloc (.cells #[.bool s1a, .slice p1a n1a c1a, .slice p1b n1b c1b] 28)).heap.size) (.cells #[.bool false, .slice none 0 0, .slice none 0 0] 28)
  have hx5 := Qbx.new (w.alloc (.cells #[.bool s1a, .slice p1a n1a c1a, .slice p1b n1b c1b] 28)) false none 0 0 none 0 0
  rw [hs3] at hx5
  replace X2 := qx X2 hb4
  replace HN1 := wr HN1 hb4
  replace HD1 := wr HD1 hb4
  replace B := bb B hb4
  have XR := hid hx5
  have hs6 : ((w.alloc (.cells #[.bool s1a, .slice p1a n1a c1a, .slice p1b n1b c1b] 28)).alloc (.cells #[.bool false, .slice none 0 0, .slice none 0 0] 28)).heap.size = w.heap.size + 1 + 1 := by simp [hs3]
  clear hb4 hx5
  clear hs6 h ht1 hu1 hk hk1 HAx
  go_enter Tryz.func38, Tryz.ntmps38
  obtain ⟨cc7a, cc7b, cc7c⟩ := X2.out.cells
  obtain ⟨cc8a, cc8b, cc8c⟩ := XR.out.cells
  go_wp2_with fail
  generalize hW : (w.alloc (.cells #[.bool s1a, .slice p1a n1a c1a, .slice p1b n1b c1b] 28)).alloc (.cells #[.bool false, .slice none 0 0, .slice none 0 0] 28) = W9 at *
  clear hW
  refine (rfloor (QR.mk2 HN1.out HD1.out) HK1.out (by have := HK.out; omega)).mono ?_
  rintro e w10 ⟨v, rfl, hv, hb⟩
  obtain ⟨s3, p3, n3, c3, rfl⟩ := hv.opened
  replace X2 := qx X2 hb
  replace XR := qx XR hb
  replace HN1 := wr HN1 hb
  replace HD1 := wr HD1 hb
  replace B := bb B hb
  clear cc7a cc7b cc7c cc8a cc8b cc8c
  have HF := hid hv
  clear hb hv
  obtain ⟨cc11a, cc11b, cc11c⟩ := X2.out.cells
  obtain ⟨cc12a, cc12b, cc12c⟩ := XR.out.cells
  go_wp2_with fail
  refine (rwhole HF.out (by omega)).mono ?_
  rintro e w13 ⟨v, rfl, hv, hb⟩
  obtain ⟨s4a, p4a, n4a, c4a, p4b, n4b, c4b, rfl⟩ := hv.opened
  have HQ4 := hid hv
  replace X2 := qx X2 hb
  replace XR := qx XR hb
  replace HN1 := wr HN1 hb
  replace HD1 := wr HD1 hb
  replace B := bb B hb
  clear cc11a cc11b cc11c cc12a cc12b cc12c
  clear hb hv
  have hb14 := (Below.refl _ _).alloc (Nat.le_refl w13.heap.size) (.cells #[.bool s4a, .slice p4a n4a c4a, .slice p4b n4b c4b] 28)
  have hx15 := Qbx.new w13 s4a p4a n4a c4a p4b n4b c4b
  have L0 := hid XR.out.lt
  replace X2 := qx X2 hb14
  replace XR := qx XR hb14
  replace HN1 := wr HN1 hb14
  replace HD1 := wr HD1 hb14
  replace B := bb B hb14
  have X5 := hid hx15
  have hs16 : (w13.alloc (.cells #[.bool s4a, .slice p4a n4a c4a, .slice p4b n4b c4b] 28)).heap.size = w13.heap.size + 1 := by simp
  clear hb14 hx15
  replace HQ4 := hid (HQ4.out.on ((Below.refl _ _).alloc (Nat.le_refl _) (.cells #[.bool s4a, .slice p4a n4a c4a, .slice p4b n4b c4b] 28)))
  obtain ⟨cc17a, cc17b, cc17c⟩ := X2.out.cells
  obtain ⟨cc18a, cc18b, cc18c⟩ := XR.out.cells
  obtain ⟨cc19a, cc19b, cc19c⟩ := X5.out.cells
  go_wp2_with fail
  clear cc17a cc17b cc17c cc18a cc18b cc18c cc19a cc19b cc19c
  have HA := hid (QR.mk2 HN1.out HD1.out)
  have LG := hid (show w.heap.size + 1 < w13.heap.size from L0.out)
  generalize hG : w13.heap.size = G at *
  clear hG
  have HF0 := hid (floor_fits (k := k) HSZ.out)
  clear HN1 HD1 L0
  go_loopw [6] (fun i wr => ∃ (d : Nat) (sba : Bool) (pba : Option Addr) (nba cba : Nat) (pbb : Option Addr) (nbb cbb : Nat), d ≤ m ∧ i = .int .i64 ((d : Int) + 1) ∧ Hid (Qbx wr w.heap.size s1a (.slice p1a n1a c1a) (.slice p1b n1b c1b)) ∧ Hid (Qbx wr (w.heap.size + 1) false (.slice none 0 0) (.slice none 0 0)) ∧ Hid (Qbx wr G sba (.slice pba nba cba) (.slice pbb nbb cbb)) ∧ Hid (QR wr (.agg #[.bool s1a, .slice p1a n1a c1a, .slice p1b n1b c1b]) x k) ∧ Hid (QR wr (.agg #[.bool sba, .slice pba nba cba, .slice pbb nbb cbb]) (nfold x d) (k + 1)) ∧ Hid (Below w.heap.size w wr)) (fun i _ => m + 1 - (intOf i).toNat)
  case atStart => exact ⟨0, _, _, _, _, _, _, _, by omega, rfl, X2, XR, X5, HA, hid ((HQ4.out).fit (k + 1) HF0.out.1 HF0.out.2), B⟩
  case round =>
    clear X2 XR X5 HA HQ4 B
    obtain ⟨d, sba, pba, nba, cba, pbb, nbb, cbb, hd, rfl, X2, XR, X5, HA, HB, B⟩ := hrel
    by_cases hlt : d < m
    · have hle : (d : Int) + 1 ≤ (m : Int) := by omega
      have HCF := hid (cand_few (j := 0) HSZ.out (D := d + 1) (by omega) (by omega) (by omega))
      have LX5 := hid X5.out.lt
      obtain ⟨wo, rfl⟩ : ∃ wo : World, wo = wr := ⟨_, rfl⟩
      go_wp2_with fail
      refine region_ops (by kernel_rfl) (by kernel_rfl) (fun a f a' w' => ∃ u7 u18 u19 u20 u21 u22 : Value, a' = { tmps := ((((((a.tmps.setIfInBounds 7 u7).setIfInBounds 18 u18).setIfInBounds 19 u19).setIfInBounds 20 u20).setIfInBounds 21 u21).setIfInBounds 22 u22), defers := a.defers } ∧ Hid (Below wo.heap.size wo w') ∧ Hid (f 0 = true → u18 = (.agg #[.bool s1a, .slice p1a n1a c1a, .slice p1b n1b c1b])) ∧ Hid (f 1 = true → u19 = .int .i64 ((d : Int) + 1)) ∧ Hid (f 2 = true → QR w' u20 ((d + 1 : Nat) : Rat) 1) ∧ Hid (f 3 = true → QR w' u21 (x * ((d + 1 : Nat) : Rat)) (k + k + 1)) ∧ Hid (f 4 = true → WhlR w' u22 (x * ((d + 1 : Nat) : Rat)).floor (k + 1)) ∧ Hid (f 5 = true → NewZ wo w' u7 (f 6) u22) ∧ (f 6 = true → f 5 = true) ∧ (f 6 = true → f 4 = true)) ?h0 ⟨?s0, ?s1, ?s2, ?s3, ?s4, ?s5, ?s6, trivial⟩ ?hend
      case h0 =>
        simp only [List.setIfInBounds_toArray, List.set_cons_zero, List.set_cons_succ]
        exact ⟨_, _, _, _, _, _, rfl, hid (Below.drew (Below.refl _ _)), hid (fun h => by cases h), hid (fun h => by cases h), hid (fun h => by cases h), hid (fun h => by cases h), hid (fun h => by cases h), hid (fun h => by cases h), fun h => h, fun h => h⟩
      case s0 =>
        rintro f a1 w1 ⟨u7, u18, u19, u20, u21, u22, rfl, HBW, h0, h1, h2, h3, h4, h5, o6_5, o6_4⟩ hf hd K hK
        simp only [List.setIfInBounds_toArray, List.set_cons_zero, List.set_cons_succ] at hK ⊢
        replace hK := hid hK
        obtain ⟨y1, y2, y3⟩ := (X2.out.below HBW.out X2.out.lt).cells
        go_simp
        exact hK.out _ _ ⟨_, _, _, _, _, _, rfl, HBW, hid (fun h => rfl), hid (fun h => h1.out h), hid (fun h => h2.out h), hid (fun h => h3.out h), hid (fun h => h4.out h), hid (fun h => h5.out h), fun h => o6_5 h, fun h => o6_4 h⟩
      case s1 =>
        rintro f a1 w1 ⟨u7, u18, u19, u20, u21, u22, rfl, HBW, h0, h1, h2, h3, h4, h5, o6_5, o6_4⟩ hf hd K hK
        simp only [List.setIfInBounds_toArray, List.set_cons_zero, List.set_cons_succ] at hK ⊢
        replace hK := hid hK
        go_simp
        exact hK.out _ _ ⟨_, _, _, _, _, _, rfl, HBW, hid (fun h => h0.out h), hid (fun h => rfl), hid (fun h => h2.out h), hid (fun h => h3.out h), hid (fun h => h4.out h), hid (fun h => h5.out h), fun h => o6_5 h, fun h => o6_4 h⟩
      case s2 =>
        rintro f a1 w1 ⟨u7, u18, u19, u20, u21, u22, rfl, HBW, h0, h1, h2, h3, h4, h5, o6_5, o6_4⟩ hf hd K hK
        simp only [List.setIfInBounds_toArray, List.set_cons_zero, List.set_cons_succ] at hK ⊢
        replace hK := hid hK
        simp [Region.binds] at hd
        obtain rfl := h1.out (by simp only [hd])
        go_simp
        refine (rint ((d : Int) + 1) (by omega) (by omega) _).mono ?_
        rintro e w2 ⟨v, rfl, hv, hb⟩
        rw [show (((d : Int) + 1 : Int) : Rat) = ((d + 1 : Nat) : Rat) from by rw [← Rat.intCast_natCast]; rfl] at hv
        go_wp2_with fail
        exact hK.out _ _ ⟨_, _, _, _, _, _, rfl, hid (below_next HBW.out hb), hid (fun h => h0.out h), hid (fun h => rfl), hid (fun h => hv), hid (fun h => (h3.out h).on hb), hid (fun h => (h4.out h).on hb), hid (fun h => (h5.out h).on hb), fun h => o6_5 h, fun h => o6_4 h⟩
      case s3 =>
        rintro f a1 w1 ⟨u7, u18, u19, u20, u21, u22, rfl, HBW, h0, h1, h2, h3, h4, h5, o6_5, o6_4⟩ hf hd K hK
        simp only [List.setIfInBounds_toArray, List.set_cons_zero, List.set_cons_succ] at hK ⊢
        replace hK := hid hK
        simp [Region.binds] at hd
        obtain rfl := h0.out (by simp only [hd])
        go_simp
        refine (rmul (HA.out.on HBW.out) ((h2.out (by simp only [hd])).mono HK1.out) (by have := HK.out; omega)).mono ?_
        rintro e w2 ⟨v, rfl, hv, hb⟩
        go_wp2_with fail
        exact hK.out _ _ ⟨_, _, _, _, _, _, rfl, hid (below_next HBW.out hb), hid (fun h => rfl), hid (fun h => h1.out h), hid (fun h => (h2.out h).on hb), hid (fun h => hv), hid (fun h => (h4.out h).on hb), hid (fun h => (h5.out h).on hb), fun h => o6_5 h, fun h => o6_4 h⟩
      case s4 =>
        rintro f a1 w1 ⟨u7, u18, u19, u20, u21, u22, rfl, HBW, h0, h1, h2, h3, h4, h5, o6_5, o6_4⟩ hf hd K hK
        simp only [List.setIfInBounds_toArray, List.set_cons_zero, List.set_cons_succ] at hK ⊢
        replace hK := hid hK
        simp [Region.binds] at hd
        go_simp
        refine (rfloor (h3.out (by simp only [hd])) (by omega) (by have := HK.out; omega)).mono ?_
        rintro e w2 ⟨v, rfl, hv, hb⟩
        go_wp2_with fail
        exact hK.out _ _ ⟨_, _, _, _, _, _, rfl, hid (below_next HBW.out hb), hid (fun h => h0.out h), hid (fun h => h1.out h), hid (fun h => (h2.out h).on hb), hid (fun h => (h3.out h).on hb), hid (fun h => hv.fit (k + 1) HCF.out.1), hid (fun h => ((h5.out h).on hb).free (by cases e : f 6 with | false => rfl | true => exact absurd (o6_4 e) (by rw [hf]; decide))), fun h => o6_5 h, fun _ => rfl⟩
      case s5 =>
        rintro f a1 w1 ⟨u7, u18, u19, u20, u21, u22, rfl, HBW, h0, h1, h2, h3, h4, h5, o6_5, o6_4⟩ hf hd K hK
        simp only [List.setIfInBounds_toArray, List.set_cons_zero, List.set_cons_succ] at hK ⊢
        replace hK := hid hK
        go_simp
        exact hK.out _ _ ⟨_, _, _, _, _, _, rfl, hid (below_next HBW.out ((Below.refl _ _).alloc (Nat.le_refl _) _)), hid (fun h => h0.out h), hid (fun h => h1.out h), hid (fun h => (h2.out h).on ((Below.refl _ _).alloc (Nat.le_refl _) _)), hid (fun h => (h3.out h).on ((Below.refl _ _).alloc (Nat.le_refl _) _)), hid (fun h => (h4.out h).on ((Below.refl _ _).alloc (Nat.le_refl _) _)), hid (fun h => ⟨w1.heap.size, rfl, HBW.out.size, fun _ => BoxR.new w1 false none 0 0, fun e => absurd (o6_5 e) (by rw [hf]; decide)⟩), fun _ => rfl, fun h => o6_4 h⟩
      case s6 =>
        rintro f a1 w1 ⟨u7, u18, u19, u20, u21, u22, rfl, HBW, h0, h1, h2, h3, h4, h5, o6_5, o6_4⟩ hf hd K hK
        simp only [List.setIfInBounds_toArray, List.set_cons_zero, List.set_cons_succ] at hK ⊢
        replace hK := hid hK
        simp [Region.binds] at hd
        have ga : f 5 = true := by simp only [hd]
        have gv : f 4 = true := by simp only [hd]
        obtain ⟨g, rfl, hg, hn, _⟩ := h5.out ga
        replace hn := hn hf
        have hv9 := h4.out gv
        obtain ⟨s9, p9, n9, c9, rfl⟩ := hv9.opened
        obtain ⟨y1, y2, y3, y4⟩ := hn.stores
        obtain ⟨n1, n2, n3⟩ := hn.last HBW.out hg s9 p9 n9 c9
        have HN := hid (And.intro n1 n2)
        have HV := hid (fun v z k h => @n3 v z k h)
        clear n1 n2 n3
        go_simp
        exact hK.out _ _ ⟨_, _, _, _, _, _, rfl, hid HN.out.2, hid (fun h => h0.out h), hid (fun h => h1.out h), hid (fun h => (h2.out h).moved HV.out), hid (fun h => (h3.out h).moved HV.out), hid (fun h => HV.out _ _ _ (h4.out h)), hid (fun h => ⟨g, rfl, hg, fun e => by simp [more] at e, fun _ => ⟨_, _, _, _, rfl, HN.out.1⟩⟩), fun _ => ga, fun _ => gv⟩
      case hend =>
        rintro f a1 w1 ⟨u7, u18, u19, u20, u21, u22, rfl, HBW, h0, h1, h2, h3, h4, h5, _⟩ hall
        simp only [List.setIfInBounds_toArray, List.set_cons_zero, List.set_cons_succ]
        have hv9 := h4.out (hall 4 (by decide))
        obtain ⟨gL, rfl, hg, _, hn⟩ := h5.out (hall 5 (by decide))
        obtain ⟨sL, pL, nL, cL, rfl, hn2⟩ := hn (hall 6 (by decide))
        replace X2 := qx X2 HBW.out
        replace XR := qx XR HBW.out
        replace X5 := qx X5 HBW.out
        replace HA := hid (HA.out.on HBW.out)
        replace HB := hid (HB.out.on HBW.out)
        have LGL := hid (show G < gL from Nat.lt_of_lt_of_le LX5.out hg)
        replace B := bb B HBW.out
        have XL := hid hn2
        have HL := hid hv9
        clear h0 h1 h2 h3 h4 h5 hall hn hn2 hg hv9 HBW
        go_wp2_with fail
        go_loopw [8] (fun i wr => ∃ (j : Nat) (sba : Bool) (pba : Option Addr) (nba cba : Nat) (pbb : Option Addr) (nbb cbb : Nat), j ≤ 2 ∧ i = .int .i64 j ∧ Hid (Qbx wr w.heap.size s1a (.slice p1a n1a c1a) (.slice p1b n1b c1b)) ∧ Hid (Qbx wr (w.heap.size + 1) false (.slice none 0 0) (.slice none 0 0)) ∧ Hid (Qbx wr G sba (.slice pba nba cba) (.slice pbb nbb cbb)) ∧ Hid (QR wr (.agg #[.bool s1a, .slice p1a n1a c1a, .slice p1b n1b c1b]) x k) ∧ Hid (QR wr (.agg #[.bool sba, .slice pba nba cba, .slice pbb nbb cbb]) (nbs x d j) (k + 1)) ∧ Hid (Below w.heap.size w wr) ∧ Hid (BoxR wr gL sL (.slice pL nL cL)) ∧ Hid (WhlR wr (.agg #[.bool sL, .slice pL nL cL]) (x * ((d + 1 : Nat) : Rat)).floor (k + 1))) (fun i _ => 2 - (intOf i).toNat)
        case atStart => exact ⟨0, _, _, _, _, _, _, _, by omega, rfl, X2, XR, X5, HA, HB, B, XL, HL⟩
        case round =>
          clear X2 XR X5 HA HB B XL HL
          obtain ⟨j, sba, pba, nba, cba, pbb, nbb, cbb, hj, rfl, X2, XR, X5, HA, HB, B, XL, HL⟩ := hrel
          by_cases hj2 : j < 2
          · have hj3 : (j : Int) < 2 := by omega
            have HCF2 := hid (cand_few (j := j) HSZ.out (D := d + 1) (by omega) (by omega) hj2).2
            obtain ⟨wi, rfl⟩ : ∃ wi : World, wi = wr := ⟨_, rfl⟩
            have LX5 := hid X5.out.lt
            go_wp2_with fail
            refine region_ops (by kernel_rfl) (by kernel_rfl) (fun a f a' w' => ∃ u9 u27 u28 u29 u30 u31 u32 u33 : Value, a' = { tmps := ((((((((a.tmps.setIfInBounds 9 u9).setIfInBounds 27 u27).setIfInBounds 28 u28).setIfInBounds 29 u29).setIfInBounds 30 u30).setIfInBounds 31 u31).setIfInBounds 32 u32).setIfInBounds 33 u33), defers := a.defers } ∧ Hid (Below wi.heap.size wi w') ∧ Hid (f 0 = true → u27 = (.agg #[.bool sL, .slice pL nL cL])) ∧ Hid (f 1 = true → u28 = .int .i64 j) ∧ Hid (f 2 = true → WhlR w' u29 (j : Int) 1) ∧ Hid (f 3 = true → WhlR w' u30 ((x * ((d + 1 : Nat) : Rat)).floor + (j : Int)) (k + 2)) ∧ Hid (f 4 = true → u31 = .int .i64 ((d : Int) + 1)) ∧ Hid (f 5 = true → NatR w' u32 (d + 1) 1) ∧ Hid (f 6 = true → QR w' u33 (Rat.divInt ((x * ((d + 1 : Nat) : Rat)).floor + (j : Int)) ((d + 1 : Nat) : Int)) (k + 1)) ∧ Hid (f 7 = true → NewQ wi w' u9 (f 8) u33) ∧ (f 8 = true → f 7 = true) ∧ (f 8 = true → f 6 = true)) ?h0 ⟨?s0, ?s1, ?s2, ?s3, ?s4, ?s5, ?s6, ?s7, ?s8, trivial⟩ ?hend
            case h0 =>
              simp only [List.setIfInBounds_toArray, List.set_cons_zero, List.set_cons_succ]
              exact ⟨_, _, _, _, _, _, _, _, rfl, hid (Below.drew (Below.refl _ _)), hid (fun h => by cases h), hid (fun h => by cases h), hid (fun h => by cases h), hid (fun h => by cases h), hid (fun h => by cases h), hid (fun h => by cases h), hid (fun h => by cases h), hid (fun h => by cases h), fun h => h, fun h => h⟩
            case s0 =>
              rintro f a1 w1 ⟨u9, u27, u28, u29, u30, u31, u32, u33, rfl, HBW, h0, h1, h2, h3, h4, h5, h6, h7, o8_7, o8_6⟩ hf hd K hK
              simp only [List.setIfInBounds_toArray, List.set_cons_zero, List.set_cons_succ] at hK ⊢
              replace hK := hid hK
              obtain ⟨y1, y2⟩ := (XL.out.below HBW.out XL.out.lt).both
              go_simp
              exact hK.out _ _ ⟨_, _, _, _, _, _, _, _, rfl, HBW, hid (fun h => rfl), hid (fun h => h1.out h), hid (fun h => h2.out h), hid (fun h => h3.out h), hid (fun h => h4.out h), hid (fun h => h5.out h), hid (fun h => h6.out h), hid (fun h => h7.out h), fun h => o8_7 h, fun h => o8_6 h⟩
            case s1 =>
              rintro f a1 w1 ⟨u9, u27, u28, u29, u30, u31, u32, u33, rfl, HBW, h0, h1, h2, h3, h4, h5, h6, h7, o8_7, o8_6⟩ hf hd K hK
              simp only [List.setIfInBounds_toArray, List.set_cons_zero, List.set_cons_succ] at hK ⊢
              replace hK := hid hK
              go_simp
              exact hK.out _ _ ⟨_, _, _, _, _, _, _, _, rfl, HBW, hid (fun h => h0.out h), hid (fun h => rfl), hid (fun h => h2.out h), hid (fun h => h3.out h), hid (fun h => h4.out h), hid (fun h => h5.out h), hid (fun h => h6.out h), hid (fun h => h7.out h), fun h => o8_7 h, fun h => o8_6 h⟩
            case s2 =>
              rintro f a1 w1 ⟨u9, u27, u28, u29, u30, u31, u32, u33, rfl, HBW, h0, h1, h2, h3, h4, h5, h6, h7, o8_7, o8_6⟩ hf hd K hK
              simp only [List.setIfInBounds_toArray, List.set_cons_zero, List.set_cons_succ] at hK ⊢
              replace hK := hid hK
              simp [Region.binds] at hd
              obtain rfl := h1.out (by simp only [hd])
              go_simp
              refine (rsmallz (j : Int) (by omega) (by omega) _).mono ?_
              rintro e w2 ⟨v, rfl, hv, hb⟩
              go_wp2_with fail
              exact hK.out _ _ ⟨_, _, _, _, _, _, _, _, rfl, hid (below_next HBW.out hb), hid (fun h => h0.out h), hid (fun h => rfl), hid (fun h => hv), hid (fun h => (h3.out h).on hb), hid (fun h => h4.out h), hid (fun h => (h5.out h).on' hb), hid (fun h => (h6.out h).on hb), hid (fun h => (h7.out h).on hb), fun h => o8_7 h, fun h => o8_6 h⟩
            case s3 =>
              rintro f a1 w1 ⟨u9, u27, u28, u29, u30, u31, u32, u33, rfl, HBW, h0, h1, h2, h3, h4, h5, h6, h7, o8_7, o8_6⟩ hf hd K hK
              simp only [List.setIfInBounds_toArray, List.set_cons_zero, List.set_cons_succ] at hK ⊢
              replace hK := hid hK
              simp [Region.binds] at hd
              obtain rfl := h0.out (by simp only [hd])
              go_simp
              refine (raddz (HL.out.on HBW.out) (h2.out (by simp only [hd])) (by have := HK.out; omega) (by omega)).mono ?_
              rintro e w2 ⟨v, rfl, hv, hb⟩
              go_wp2_with fail
              exact hK.out _ _ ⟨_, _, _, _, _, _, _, _, rfl, hid (below_next HBW.out hb), hid (fun h => rfl), hid (fun h => h1.out h), hid (fun h => (h2.out h).on hb), hid (fun h => hv.mono (by omega)), hid (fun h => h4.out h), hid (fun h => (h5.out h).on' hb), hid (fun h => (h6.out h).on hb), hid (fun h => (h7.out h).on hb), fun h => o8_7 h, fun h => o8_6 h⟩
            case s4 =>
              rintro f a1 w1 ⟨u9, u27, u28, u29, u30, u31, u32, u33, rfl, HBW, h0, h1, h2, h3, h4, h5, h6, h7, o8_7, o8_6⟩ hf hd K hK
              simp only [List.setIfInBounds_toArray, List.set_cons_zero, List.set_cons_succ] at hK ⊢
              replace hK := hid hK
              go_simp
              exact hK.out _ _ ⟨_, _, _, _, _, _, _, _, rfl, HBW, hid (fun h => h0.out h), hid (fun h => h1.out h), hid (fun h => h2.out h), hid (fun h => h3.out h), hid (fun h => rfl), hid (fun h => h5.out h), hid (fun h => h6.out h), hid (fun h => h7.out h), fun h => o8_7 h, fun h => o8_6 h⟩
            case s5 =>
              rintro f a1 w1 ⟨u9, u27, u28, u29, u30, u31, u32, u33, rfl, HBW, h0, h1, h2, h3, h4, h5, h6, h7, o8_7, o8_6⟩ hf hd K hK
              simp only [List.setIfInBounds_toArray, List.set_cons_zero, List.set_cons_succ] at hK ⊢
              replace hK := hid hK
              simp [Region.binds] at hd
              obtain rfl := h4.out (by simp only [hd])
              rw [show ((d : Int) + 1) = ((d + 1 : Nat) : Int) from rfl]
              go_simp
              refine (rsmalln _ (d + 1) (by omega)).mono ?_
              rintro e w2 ⟨v, rfl, hv, hb⟩
              go_wp2_with fail
              exact hK.out _ _ ⟨_, _, _, _, _, _, _, _, rfl, hid (below_next HBW.out hb), hid (fun h => h0.out h), hid (fun h => h1.out h), hid (fun h => (h2.out h).on hb), hid (fun h => (h3.out h).on hb), hid (fun h => rfl), hid (fun h => hv), hid (fun h => (h6.out h).on hb), hid (fun h => (h7.out h).on hb), fun h => o8_7 h, fun h => o8_6 h⟩
            case s6 =>
              rintro f a1 w1 ⟨u9, u27, u28, u29, u30, u31, u32, u33, rfl, HBW, h0, h1, h2, h3, h4, h5, h6, h7, o8_7, o8_6⟩ hf hd K hK
              simp only [List.setIfInBounds_toArray, List.set_cons_zero, List.set_cons_succ] at hK ⊢
              replace hK := hid hK
              simp [Region.binds] at hd
              go_simp
              refine (rover (h3.out (by simp only [hd])) ((h5.out (by simp only [hd])).mono' (by omega)) (by omega) (by have := HK.out; omega)).mono ?_
              rintro e w2 ⟨v, rfl, hv, hb⟩
              go_wp2_with fail
              exact hK.out _ _ ⟨_, _, _, _, _, _, _, _, rfl, hid (below_next HBW.out hb), hid (fun h => h0.out h), hid (fun h => h1.out h), hid (fun h => (h2.out h).on hb), hid (fun h => (h3.out h).on hb), hid (fun h => h4.out h), hid (fun h => (h5.out h).on' hb), hid (fun h => hv.fit (k + 1) HCF2.out.1 HCF2.out.2), hid (fun h => ((h7.out h).on hb).free (by cases e : f 8 with | false => rfl | true => exact absurd (o8_6 e) (by rw [hf]; decide))), fun h => o8_7 h, fun _ => rfl⟩
            case s7 =>
              rintro f a1 w1 ⟨u9, u27, u28, u29, u30, u31, u32, u33, rfl, HBW, h0, h1, h2, h3, h4, h5, h6, h7, o8_7, o8_6⟩ hf hd K hK
              simp only [List.setIfInBounds_toArray, List.set_cons_zero, List.set_cons_succ] at hK ⊢
              replace hK := hid hK
              go_simp
              exact hK.out _ _ ⟨_, _, _, _, _, _, _, _, rfl, hid (below_next HBW.out ((Below.refl _ _).alloc (Nat.le_refl _) _)), hid (fun h => h0.out h), hid (fun h => h1.out h), hid (fun h => (h2.out h).on ((Below.refl _ _).alloc (Nat.le_refl _) _)), hid (fun h => (h3.out h).on ((Below.refl _ _).alloc (Nat.le_refl _) _)), hid (fun h => h4.out h), hid (fun h => (h5.out h).on' ((Below.refl _ _).alloc (Nat.le_refl _) _)), hid (fun h => (h6.out h).on ((Below.refl _ _).alloc (Nat.le_refl _) _)), hid (fun h => ⟨w1.heap.size, rfl, HBW.out.size, fun _ => Qbx.new w1 false none 0 0 none 0 0, fun e => absurd (o8_7 e) (by rw [hf]; decide)⟩), fun _ => rfl, fun h => o8_6 h⟩
            case s8 =>
              rintro f a1 w1 ⟨u9, u27, u28, u29, u30, u31, u32, u33, rfl, HBW, h0, h1, h2, h3, h4, h5, h6, h7, o8_7, o8_6⟩ hf hd K hK
              simp only [List.setIfInBounds_toArray, List.set_cons_zero, List.set_cons_succ] at hK ⊢
              replace hK := hid hK
              simp [Region.binds] at hd
              have ga : f 7 = true := by simp only [hd]
              have gv : f 6 = true := by simp only [hd]
              obtain ⟨g, rfl, hg, hn, _⟩ := h7.out ga
              replace hn := hn hf
              have hv9 := h6.out gv
              obtain ⟨s9a, p9a, n9a, c9a, p9b, n9b, c9b, rfl⟩ := hv9.opened
              obtain ⟨⟨y1, y2⟩, ⟨y3, y4⟩, y5, y6⟩ := hn.stores
              obtain ⟨n1, n2, n3⟩ := hn.last HBW.out hg s9a p9a n9a c9a p9b n9b c9b
              have HN := hid (And.intro n1 n2)
              have HV := hid (fun v z k h => @n3 v z k h)
              clear n1 n2 n3
              go_simp
              exact hK.out _ _ ⟨_, _, _, _, _, _, _, _, rfl, hid HN.out.2, hid (fun h => h0.out h), hid (fun h => h1.out h), hid (fun h => HV.out _ _ _ (h2.out h)), hid (fun h => HV.out _ _ _ (h3.out h)), hid (fun h => h4.out h), hid (fun h => (h5.out h).moved HV.out), hid (fun h => (h6.out h).moved HV.out), hid (fun h => ⟨g, rfl, hg, fun e => by simp [more] at e, fun _ => ⟨_, _, _, _, _, _, _, rfl, HN.out.1⟩⟩), fun _ => ga, fun _ => gv⟩
            case hend =>
              rintro f a1 w3 ⟨u9, u27, u28, u29, u30, u31, u32, u33, rfl, HBW, h0, h1, h2, h3, h4, h5, h6, h7, _⟩ hall
              simp only [List.setIfInBounds_toArray, List.set_cons_zero, List.set_cons_succ]
              have hv9 := h6.out (hall 6 (by decide))
              obtain ⟨g, rfl, hg, _, hn⟩ := h7.out (hall 7 (by decide))
              obtain ⟨s9a, p9a, n9a, c9a, p9b, n9b, c9b, rfl, hn2⟩ := hn (hall 8 (by decide))
              replace X2 := qx X2 HBW.out
              replace XR := qx XR HBW.out
              replace X5 := qx X5 HBW.out
              replace XL := br XL HBW.out
              replace HA := hid (HA.out.on HBW.out)
              replace HB := hid (HB.out.on HBW.out)
              replace HL := hid (HL.out.on HBW.out)
              replace B := bb B HBW.out
              have XN := hid hn2
              obtain ⟨cX, hcX⟩ : ∃ c, c = (Rat.divInt ((x * ((d + 1 : Nat) : Rat)).floor + (j : Int)) ((d + 1 : Nat) : Int)) := ⟨_, rfl⟩
              rw [← hcX] at hv9
              have HCX := hid hcX
              have HX := hid hv9
              clear hcX
              have LGN := hid (show G < g from Nat.lt_of_lt_of_le LX5.out hg)
              clear h0 h1 h2 h3 h4 h5 h6 h7 hall hn hn2 hg hv9 HBW
              go_wp2_with fail
              refine region_ops (by kernel_rfl) (by kernel_rfl) (fun a f a' w' => ∃ u34 u35 u36 u37 u38 u39 u40 u41 u42 u43 : Value, a' = { tmps := ((((((((((a.tmps.setIfInBounds 34 u34).setIfInBounds 35 u35).setIfInBounds 36 u36).setIfInBounds 37 u37).setIfInBounds 38 u38).setIfInBounds 39 u39).setIfInBounds 40 u40).setIfInBounds 41 u41).setIfInBounds 42 u42).setIfInBounds 43 u43), defers := a.defers } ∧ Hid (Below w3.heap.size w3 w') ∧ Hid (f 0 = true → u34 = (.agg #[.bool s1a, .slice p1a n1a c1a, .slice p1b n1b c1b])) ∧ Hid (f 1 = true → u35 = (.agg #[.bool s9a, .slice p9a n9a c9a, .slice p9b n9b c9b])) ∧ Hid (f 2 = true → QR w' u36 (x - cX) (k + 1 + (k + 1) + 1)) ∧ Hid (f 3 = true → QR w' u37 (siz (x - cX)) (k + 1 + (k + 1) + 1)) ∧ Hid (f 4 = true → u38 = (.agg #[.bool s1a, .slice p1a n1a c1a, .slice p1b n1b c1b])) ∧ Hid (f 5 = true → u39 = (.agg #[.bool sba, .slice pba nba cba, .slice pbb nbb cbb])) ∧ Hid (f 6 = true → QR w' u40 (x - (nbs x d j)) (k + 1 + (k + 1) + 1)) ∧ Hid (f 7 = true → QR w' u41 (siz (x - (nbs x d j))) (k + 1 + (k + 1) + 1)) ∧ Hid (f 8 = true → u42 = .int .i64 (siz (x - cX) - siz (x - (nbs x d j))).num.sign) ∧ Hid (f 9 = true → u43 = .bool (decide (siz (x - cX) < siz (x - (nbs x d j)))))) ?h0 ⟨?s0, ?s1, ?s2, ?s3, ?s4, ?s5, ?s6, ?s7, ?s8, ?s9, trivial⟩ ?hend
              case h0 =>
                simp only [List.setIfInBounds_toArray, List.set_cons_zero, List.set_cons_succ]
                exact ⟨_, _, _, _, _, _, _, _, _, _, rfl, hid (Below.drew (Below.refl _ _)), hid (fun h => by cases h), hid (fun h => by cases h), hid (fun h => by cases h), hid (fun h => by cases h), hid (fun h => by cases h), hid (fun h => by cases h), hid (fun h => by cases h), hid (fun h => by cases h), hid (fun h => by cases h), hid (fun h => by cases h)⟩
              case s0 =>
                rintro f a1 w1 ⟨u34, u35, u36, u37, u38, u39, u40, u41, u42, u43, rfl, HBW, h0, h1, h2, h3, h4, h5, h6, h7, h8, h9⟩ hf hd K hK
                simp only [List.setIfInBounds_toArray, List.set_cons_zero, List.set_cons_succ] at hK ⊢
                replace hK := hid hK
                obtain ⟨y1, y2, y3⟩ := (X2.out.below HBW.out X2.out.lt).cells
                go_simp
                exact hK.out _ _ ⟨_, _, _, _, _, _, _, _, _, _, rfl, HBW, hid (fun h => rfl), hid (fun h => h1.out h), hid (fun h => h2.out h), hid (fun h => h3.out h), hid (fun h => h4.out h), hid (fun h => h5.out h), hid (fun h => h6.out h), hid (fun h => h7.out h), hid (fun h => h8.out h), hid (fun h => h9.out h)⟩
              case s1 =>
                rintro f a1 w1 ⟨u34, u35, u36, u37, u38, u39, u40, u41, u42, u43, rfl, HBW, h0, h1, h2, h3, h4, h5, h6, h7, h8, h9⟩ hf hd K hK
                simp only [List.setIfInBounds_toArray, List.set_cons_zero, List.set_cons_succ] at hK ⊢
                replace hK := hid hK
                obtain ⟨y1, y2, y3⟩ := (XN.out.below HBW.out XN.out.lt).cells
                go_simp
                exact hK.out _ _ ⟨_, _, _, _, _, _, _, _, _, _, rfl, HBW, hid (fun h => h0.out h), hid (fun h => rfl), hid (fun h => h2.out h), hid (fun h => h3.out h), hid (fun h => h4.out h), hid (fun h => h5.out h), hid (fun h => h6.out h), hid (fun h => h7.out h), hid (fun h => h8.out h), hid (fun h => h9.out h)⟩
              case s2 =>
                rintro f a1 w1 ⟨u34, u35, u36, u37, u38, u39, u40, u41, u42, u43, rfl, HBW, h0, h1, h2, h3, h4, h5, h6, h7, h8, h9⟩ hf hd K hK
                simp only [List.setIfInBounds_toArray, List.set_cons_zero, List.set_cons_succ] at hK ⊢
                replace hK := hid hK
                simp [Region.binds] at hd
                obtain rfl := h0.out (by simp only [hd])
                obtain rfl := h1.out (by simp only [hd])
                go_simp
                refine (rsub ((HA.out.on HBW.out).mono (by omega)) (HX.out.on HBW.out) (by have := HK.out; omega)).mono ?_
                rintro e w2 ⟨v, rfl, hv, hb⟩
                go_wp2_with fail
                exact hK.out _ _ ⟨_, _, _, _, _, _, _, _, _, _, rfl, hid (below_next HBW.out hb), hid (fun h => rfl), hid (fun h => rfl), hid (fun h => hv), hid (fun h => (h3.out h).on hb), hid (fun h => h4.out h), hid (fun h => h5.out h), hid (fun h => (h6.out h).on hb), hid (fun h => (h7.out h).on hb), hid (fun h => h8.out h), hid (fun h => h9.out h)⟩
              case s3 =>
                rintro f a1 w1 ⟨u34, u35, u36, u37, u38, u39, u40, u41, u42, u43, rfl, HBW, h0, h1, h2, h3, h4, h5, h6, h7, h8, h9⟩ hf hd K hK
                simp only [List.setIfInBounds_toArray, List.set_cons_zero, List.set_cons_succ] at hK ⊢
                replace hK := hid hK
                simp [Region.binds] at hd
                go_simp
                refine (rsize (h2.out (by simp only [hd]))).mono ?_
                rintro e w2 ⟨v, rfl, hv, hb⟩
                go_wp2_with fail
                exact hK.out _ _ ⟨_, _, _, _, _, _, _, _, _, _, rfl, hid (below_next HBW.out hb), hid (fun h => h0.out h), hid (fun h => h1.out h), hid (fun h => (h2.out h).on hb), hid (fun h => hv), hid (fun h => h4.out h), hid (fun h => h5.out h), hid (fun h => (h6.out h).on hb), hid (fun h => (h7.out h).on hb), hid (fun h => h8.out h), hid (fun h => h9.out h)⟩
              case s4 =>
                rintro f a1 w1 ⟨u34, u35, u36, u37, u38, u39, u40, u41, u42, u43, rfl, HBW, h0, h1, h2, h3, h4, h5, h6, h7, h8, h9⟩ hf hd K hK
                simp only [List.setIfInBounds_toArray, List.set_cons_zero, List.set_cons_succ] at hK ⊢
                replace hK := hid hK
                obtain ⟨y1, y2, y3⟩ := (X2.out.below HBW.out X2.out.lt).cells
                go_simp
                exact hK.out _ _ ⟨_, _, _, _, _, _, _, _, _, _, rfl, HBW, hid (fun h => h0.out h), hid (fun h => h1.out h), hid (fun h => h2.out h), hid (fun h => h3.out h), hid (fun h => rfl), hid (fun h => h5.out h), hid (fun h => h6.out h), hid (fun h => h7.out h), hid (fun h => h8.out h), hid (fun h => h9.out h)⟩
              case s5 =>
                rintro f a1 w1 ⟨u34, u35, u36, u37, u38, u39, u40, u41, u42, u43, rfl, HBW, h0, h1, h2, h3, h4, h5, h6, h7, h8, h9⟩ hf hd K hK
                simp only [List.setIfInBounds_toArray, List.set_cons_zero, List.set_cons_succ] at hK ⊢
                replace hK := hid hK
                obtain ⟨y1, y2, y3⟩ := (X5.out.below HBW.out X5.out.lt).cells
                go_simp
                exact hK.out _ _ ⟨_, _, _, _, _, _, _, _, _, _, rfl, HBW, hid (fun h => h0.out h), hid (fun h => h1.out h), hid (fun h => h2.out h), hid (fun h => h3.out h), hid (fun h => h4.out h), hid (fun h => rfl), hid (fun h => h6.out h), hid (fun h => h7.out h), hid (fun h => h8.out h), hid (fun h => h9.out h)⟩
              case s6 =>
                rintro f a1 w1 ⟨u34, u35, u36, u37, u38, u39, u40, u41, u42, u43, rfl, HBW, h0, h1, h2, h3, h4, h5, h6, h7, h8, h9⟩ hf hd K hK
                simp only [List.setIfInBounds_toArray, List.set_cons_zero, List.set_cons_succ] at hK ⊢
                replace hK := hid hK
                simp [Region.binds] at hd
                obtain rfl := h4.out (by simp only [hd])
                obtain rfl := h5.out (by simp only [hd])
                go_simp
                refine (rsub ((HA.out.on HBW.out).mono (by omega)) (HB.out.on HBW.out) (by have := HK.out; omega)).mono ?_
                rintro e w2 ⟨v, rfl, hv, hb⟩
                go_wp2_with fail
                exact hK.out _ _ ⟨_, _, _, _, _, _, _, _, _, _, rfl, hid (below_next HBW.out hb), hid (fun h => h0.out h), hid (fun h => h1.out h), hid (fun h => (h2.out h).on hb), hid (fun h => (h3.out h).on hb), hid (fun h => rfl), hid (fun h => rfl), hid (fun h => hv), hid (fun h => (h7.out h).on hb), hid (fun h => h8.out h), hid (fun h => h9.out h)⟩
              case s7 =>
                rintro f a1 w1 ⟨u34, u35, u36, u37, u38, u39, u40, u41, u42, u43, rfl, HBW, h0, h1, h2, h3, h4, h5, h6, h7, h8, h9⟩ hf hd K hK
                simp only [List.setIfInBounds_toArray, List.set_cons_zero, List.set_cons_succ] at hK ⊢
                replace hK := hid hK
                simp [Region.binds] at hd
                go_simp
                refine (rsize (h6.out (by simp only [hd]))).mono ?_
                rintro e w2 ⟨v, rfl, hv, hb⟩
                go_wp2_with fail
                exact hK.out _ _ ⟨_, _, _, _, _, _, _, _, _, _, rfl, hid (below_next HBW.out hb), hid (fun h => h0.out h), hid (fun h => h1.out h), hid (fun h => (h2.out h).on hb), hid (fun h => (h3.out h).on hb), hid (fun h => h4.out h), hid (fun h => h5.out h), hid (fun h => (h6.out h).on hb), hid (fun h => hv), hid (fun h => h8.out h), hid (fun h => h9.out h)⟩
              case s8 =>
                rintro f a1 w1 ⟨u34, u35, u36, u37, u38, u39, u40, u41, u42, u43, rfl, HBW, h0, h1, h2, h3, h4, h5, h6, h7, h8, h9⟩ hf hd K hK
                simp only [List.setIfInBounds_toArray, List.set_cons_zero, List.set_cons_succ] at hK ⊢
                replace hK := hid hK
                simp [Region.binds] at hd
                have hcc := rcmp (h3.out (by simp only [hd])) (h7.out (by simp only [hd])) (by have := HK.out; omega)
                go_simp
                refine (hcc).mono ?_
                rintro e w2 ⟨rfl, hb⟩
                go_wp2_with fail
                exact hK.out _ _ ⟨_, _, _, _, _, _, _, _, _, _, rfl, hid (below_next HBW.out hb), hid (fun h => h0.out h), hid (fun h => h1.out h), hid (fun h => (h2.out h).on hb), hid (fun h => (h3.out h).on hb), hid (fun h => h4.out h), hid (fun h => h5.out h), hid (fun h => (h6.out h).on hb), hid (fun h => (h7.out h).on hb), hid (fun h => rfl), hid (fun h => h9.out h)⟩
              case s9 =>
                rintro f a1 w1 ⟨u34, u35, u36, u37, u38, u39, u40, u41, u42, u43, rfl, HBW, h0, h1, h2, h3, h4, h5, h6, h7, h8, h9⟩ hf hd K hK
                simp only [List.setIfInBounds_toArray, List.set_cons_zero, List.set_cons_succ] at hK ⊢
                replace hK := hid hK
                simp [Region.binds] at hd
                obtain rfl := h8.out (by simp only [hd])
                go_simp
                exact hK.out _ _ ⟨_, _, _, _, _, _, _, _, _, _, rfl, HBW, hid (fun h => h0.out h), hid (fun h => h1.out h), hid (fun h => h2.out h), hid (fun h => h3.out h), hid (fun h => h4.out h), hid (fun h => h5.out h), hid (fun h => h6.out h), hid (fun h => h7.out h), hid (fun h => rfl), hid (fun h => (by first | exact congrArg Value.bool (decide_eq_decide.2 (cmp_lt _ _)) | exact congrArg Value.bool (decide_eq_decide.2 (cmp_lt2 _ _))))⟩
              case hend =>
                rintro f a1 w4 ⟨u34, u35, u36, u37, u38, u39, u40, u41, u42, u43, rfl, HBW, h0, h1, h2, h3, h4, h5, h6, h7, h8, h9⟩ hall
                simp only [List.setIfInBounds_toArray, List.set_cons_zero, List.set_cons_succ]
                obtain rfl := h9.out (hall 9 (by decide))
                replace X2 := qx X2 HBW.out
                replace XR := qx XR HBW.out
                replace X5 := qx X5 HBW.out
                replace XL := br XL HBW.out
                replace XN := qx XN HBW.out
                replace HA := hid (HA.out.on HBW.out)
                replace HB := hid (HB.out.on HBW.out)
                replace HX := hid (HX.out.on HBW.out)
                replace HL := hid (HL.out.on HBW.out)
                replace B := bb B HBW.out
                clear h0 h1 h2 h3 h4 h5 h6 h7 h8 h9 hall HBW
                have HNB := hid (show nbs x d (j + 1) = if siz (x - cX) < siz (x - nbs x d j) then cX else nbs x d j by rw [HCX.out]; rfl)
                by_cases hc : siz (x - cX) < siz (x - nbs x d j)
                · have e1 := HNB.out
                  rw [if_pos hc] at e1
                  have HB2 := hid (show QR _ _ (nbs x d (j + 1)) (k + 1) by rw [e1]; exact HX.out)
                  rw [decide_eq_true hc]
                  clear hc e1 HNB HB
                  obtain ⟨y1, y2, y3⟩ := XN.out.cells
                  obtain ⟨⟨z1, z2⟩, ⟨z3, z4⟩, z5, z6⟩ := X5.out.stores
                  obtain ⟨n1, n2, n3⟩ := X5.out.last B.out (by have := LG.out; omega) s9a p9a n9a c9a p9b n9b c9b
                  have Y2 := hid (((X2.out.other (g2 := G) (by have := LG.out; omega) 0 (.bool s9a)).other (g2 := G) (by have := LG.out; omega) 1 (.slice p9a n9a c9a)).other (g2 := G) (by have := LG.out; omega) 2 (.slice p9b n9b c9b))
                  have YR := hid (((XR.out.other (g2 := G) (by have := LG.out; omega) 0 (.bool s9a)).other (g2 := G) (by have := LG.out; omega) 1 (.slice p9a n9a c9a)).other (g2 := G) (by have := LG.out; omega) 2 (.slice p9b n9b c9b))
                  have YL := hid (((XL.out.other (g2 := G) (by have := LGL.out; omega) 0 (.bool s9a)).other (g2 := G) (by have := LGL.out; omega) 1 (.slice p9a n9a c9a)).other (g2 := G) (by have := LGL.out; omega) 2 (.slice p9b n9b c9b))
                  have Y5 := hid n1
                  have BY := hid n2
                  have HA2 := hid (HA.out.moved (fun v z k h => n3 h))
                  have HB3 := hid (HB2.out.moved (fun v z k h => n3 h))
                  have HL2 := hid (n3 HL.out)
                  clear n1 n2 n3 X2 XR X5 XL HA HB2 HL B
                  go_wp2_with fail
                  go_roundw
                  case rel => exact ⟨j + 1, _, _, _, _, _, _, _, by omega, by go_num, Y2, YR, Y5, HA2, HB3, BY, YL, HL2⟩
                  case measure => simp [intOf] <;> omega
                · have e1 := HNB.out
                  rw [if_neg hc] at e1
                  have HB2 := hid (show QR _ _ (nbs x d (j + 1)) (k + 1) by rw [e1]; exact HB.out)
                  rw [decide_eq_false hc]
                  clear hc e1 HNB HB
                  go_wp2_with fail
                  go_roundw
                  case rel => exact ⟨j + 1, _, _, _, _, _, _, _, by omega, by go_num, X2, XR, X5, HA, HB2, B, XL, HL⟩
                  case measure => simp [intOf] <;> omega
          · obtain rfl : j = 2 := by omega
            go_wp2_with fail
            go_roundw
            case rel => exact ⟨d + 1, _, _, _, _, _, _, _, by omega, by go_num, X2, XR, X5, HA, HB, B⟩
            case measure => simp [intOf] <;> omega
    · obtain rfl : d = m := by omega
      have hle : ¬ (d : Int) + 1 ≤ (d : Int) := by omega
      obtain ⟨y1, y2, y3⟩ := X5.out.cells
      obtain ⟨⟨z1, z2⟩, ⟨z3, z4⟩, z5, z6⟩ := XR.out.stores
      obtain ⟨n1, n2, n3⟩ := XR.out.last B.out (by omega) sba pba nba cba pbb nbb cbb
      have YR := hid n1
      have BY := hid n2
      have HB2 := hid (HB.out.moved (fun v z k h => n3 h))
      clear n1 n2 n3 HB B HA X2
      go_wp2_with fail
      refine bodyPost_ret (res_q rfl rfl YR.out) rfl ?_
      exact ⟨_, rfl, HB2.out, BY.out⟩

end Go.Proofs.YtjeeepcnaaadmaaGreatDoor

/-
  CfTells: what its walk stands on.
-/
namespace Go.Proofs.YtjeeepcnaaadmaaGreatDoor
open Go.RowKit
open Num4
open Num (dg isNat dval)
set_option linter.unusedVariables false
set_option maxRecDepth 100000
set_option linter.unusedSimpArgs false

theorem rcfback_good {w : World} {v : Value} {ss : List ByteArray} (h : TxsW w v ss) (hs : ∀ i, i < ss.length → (tx ss i).size ≤ maxLen) (hmax : ss.length ≤ 1099511627776) (hg : GoodL ss) :
    Calls Tryz.prog 33 #[v] w fun e w' => ∃ v, e = .returned (.tuple #[v, .int .i64 0]) ∧ QR w' v (cfback (zlist ss)) 751 ∧ Below w.heap.size w w' := by
  refine (rcfback h hs hmax).mono ?_
  rintro e w' ⟨(⟨k, hk, _⟩ | ⟨_, v, rfl, hv⟩), hb⟩
  · exact absurd hg hk.not
  · exact ⟨v, rfl, hv, hb⟩
theorem rcfback_bad {w : World} {v : Value} {ss : List ByteArray} {k : Int} (h : TxsW w v ss) (hs : ∀ i, i < ss.length → (tx ss i).size ≤ maxLen) (hmax : ss.length ≤ 1099511627776) (hk : BadL ss k) :
    Calls Tryz.prog 33 #[v] w fun e w' => e = .returned (.tuple #[.agg #[.bool false, .slice none 0 0, .slice none 0 0], .int .i64 k]) ∧ Below w.heap.size w w' := by
  refine (rcfback h hs hmax).mono ?_
  rintro e w' ⟨(⟨k', hk', rfl⟩ | ⟨hg, _⟩), hb⟩
  · rw [hk.uniq hk']; exact ⟨rfl, hb⟩
  · exact absurd hg hk.not
theorem natof_some_any (s : ByteArray) (hs : s.size ≤ maxLen) (w : World) :
    Calls Tryz.prog 35 #[.string s] w fun e w' => ∃ p n c k, e = .returned (.tuple #[.slice p n c, .int .i64 k]) ∧ Below w.heap.size w w' := by
  rcases good_or_bad s with h | ⟨k, h⟩
  · refine (natof_good w h.1 h.2).mono ?_
    rintro e w' ⟨v, xs, rfl, hl, _, _, hb⟩
    obtain ⟨p, n, c, rfl⟩ := hl.slice
    exact ⟨p, n, c, 0, rfl, hb⟩
  · refine (natof_bad w hs h).mono ?_
    rintro e w' ⟨rfl, hb⟩
    exact ⟨none, 0, 0, k, rfl, hb⟩
theorem lim_none {w : World} {v : Value} {xs : List Nat} (h : LimR w v xs) (ht : Trim xs) (hv : val xs = 0) : ∃ p c, v = .slice p 0 c := by
  obtain rfl := ht.zero_iff.1 hv
  obtain ⟨_, p, c, h1, _⟩ := h
  exact ⟨p, c, h1⟩
theorem lim_single {w : World} {v : Value} {xs : List Nat} {n : Nat} (h : LimR w v xs) (ht : Trim xs) (hv : val xs = n) (h1 : 1 ≤ n) (h2 : n ≤ 1000) :
    ∃ b off c, v = .slice (some ⟨b, off, none⟩) 1 c ∧ 1 ≤ c ∧ b < w.heap.size ∧ w.cell? ⟨b, off, none⟩ = some (.int .i64 n) := by
  have hl := length_le_of_val ht 1 (by rw [hv, Nat.pow_one]; show n < 10000; omega)
  obtain ⟨_, p, c, rfl, hc, _, ha⟩ := h
  match xs, hl with
  | [], _ => rw [val_nil] at hv; omega
  | [x], _ =>
    rw [val_single] at hv
    subst hv
    rcases ha with ⟨_, rfl⟩ | ⟨b, off, rfl, hb, hcell⟩
    · simp at hc
    · exact ⟨b, off, c, rfl, by simpa using hc, hb, by simpa [dg] using hcell 0 (by simp)⟩
theorem good_trim {w : World} {v : Value} {xs : List Nat} {n : Nat} (h : LimR w v xs) (ht : Trim xs) (hv : val xs = n) (h1 : 1 ≤ n) : ∃ p m c, v = .slice p m c ∧ ¬ (m : Int) = 0 ∧ xs.length ≤ 1 + n := by
  obtain ⟨_, p, c, rfl, _⟩ := h
  refine ⟨p, xs.length, c, rfl, ?_, length_le_of_val ht (1 + n) (by rw [hv]; exact Nat.lt_of_lt_of_le (Nat.lt_pow_self (by decide)) (Nat.pow_le_pow_right (by decide) (by omega)))⟩
  intro e
  have : xs = [] := List.eq_nil_of_length_eq_zero (by omega)
  subst this
  rw [val_nil] at hv
  omega
theorem num_few {s : ByteArray} (h : Good s) : num s < B ^ 25 := Nat.lt_of_lt_of_le (by
  have := (good_whole h).2
  have h2 := znum_lt (good_whole h).1
  rw [this] at h2
  simpa using h2) (by decide +kernel)
theorem good_len {w : World} {v : Value} {xs : List Nat} {s : ByteArray} (ht : Trim xs) (hg : Good s) (hv : val xs = num s) : xs.length ≤ 25 := length_le_of_val ht 25 (by rw [hv]; exact num_few hg)

end Go.Proofs.YtjeeepcnaaadmaaGreatDoor

/-
  CfTells: a case.
-/
namespace Go.Proofs.YtjeeepcnaaadmaaGreatDoor
open Go.RowKit
open Num4
open Num (dg isNat dval)
set_option linter.unusedVariables false
set_option maxRecDepth 100000
set_option linter.unusedSimpArgs false

set_option maxHeartbeats 16000000 in
theorem cft_bg_any (a d : ByteArray) (v : Value) (ss : List ByteArray) (sa : a.size ≤ maxLen) (sd : d.size ≤ maxLen) (w : World) (hv : TxsW w v ss) (hs : ∀ i, i < ss.length → (tx ss i).size ≤ maxLen) (hr : ss.length ≤ 1048576) {ka kl kd : Int} (ha : BadQ a ka) (hl : GoodL ss) (hd : Door w) :
    Calls Tryz.prog 4 #[.string a, v, .string d] w fun e w' => e = .returned (.bool true) ∧ Below w.heap.size w w' := by
  have Hha := hid ha
  have Hhl := hid hl
  have hka : (ka == 0) = false := by rcases ha with ⟨_, h⟩ | ⟨_, _, h⟩ <;> subst h <;> rfl
  have HKA := hid (show ka ≠ 0 by rcases ha with ⟨_, h⟩ | ⟨_, _, h⟩ <;> omega)
  have HDR := hid hd
  have V0 := hid hv
  have HS := hid hs
  have HMX := hid (show ss.length ≤ 1099511627776 by omega)
  have hne := errv_neq
  obtain ⟨pv, nv, cv, rfl⟩ : ∃ p n c, v = .slice p n c := by obtain ⟨p, c, h, _⟩ := hv; exact ⟨p, _, c, h⟩
  have B := hid (Below.refl w.heap.size w)
  clear  ha hl hd hv hs hr
  go_enter Tryz.func4, Tryz.ntmps4
  go_wp2_with fail
  refine (golden_true w).mono ?_
  rintro e w1 ⟨rfl, hb⟩
  replace B := bb B hb
  clear hb 
  go_wp2_with fail
  refine (ratof_bad Hha.out w1 sa).mono ?_
  rintro e w2 ⟨s1a, p1a, n1a, c1a, p1b, n1b, c1b, rfl, hb⟩
  replace B := bb B hb
  clear hb 
  have hb3 := (Below.refl _ _).alloc (Nat.le_refl w2.heap.size) (.cells #[.bool s1a, .slice p1a n1a c1a, .slice p1b n1b c1b] 28)
  have hx4 := Qbx.new w2 s1a p1a n1a c1a p1b n1b c1b
  replace B := bb B hb3
  have X8 := hid hx4
  have hs5 : (w2.alloc (.cells #[.bool s1a, .slice p1a n1a c1a, .slice p1b n1b c1b] 28)).heap.size = w2.heap.size + 1 := by simp
  clear hb3 hx4
  obtain ⟨cc6a, cc6b, cc6c⟩ := X8.out.cells
  go_wp2_with fail
  generalize hW : w2.alloc (.cells #[.bool s1a, .slice p1a n1a c1a, .slice p1b n1b c1b] 28) = W7 at *
  clear hW
  refine (of_bad Hha.out sa W7).mono ?_
  rintro e w8 ⟨rfl, hb⟩
  replace B := bb B hb
  clear cc6a cc6b cc6c
  clear hb 
  go_wp2_with fail
  refine (same_no ka HKA.out w8 (HDR.out.below B.out)).mono ?_
  rintro e w9 ⟨rfl, hb⟩
  replace B := bb B hb
  clear hb 
  go_wp2_with fail
  have hst := same_texts (Txs.nil w9) (Txs.nil w9)
  rw [decide_eq_true rfl] at hst
  refine (hst).mono ?_
  rintro e w10 ⟨rfl, hb⟩
  replace B := bb B hb
  clear hb hst
  go_wp2_with fail
  refine (rcfback_good (V0.out.below B.out (Nat.le_refl _)) HS.out HMX.out Hhl.out).mono ?_
  rintro e w11 ⟨v, rfl, hv, hb⟩
  obtain ⟨s5a, p5a, n5a, c5a, p5b, n5b, c5b, rfl⟩ := hv.opened
  obtain ⟨ht5, hu5⟩ := hv.two
  replace B := bb B hb
  have HN5 := hid ht5
  have HD5 := hid hu5
  clear hb hv ht5 hu5
  have hb12 := (Below.refl _ _).alloc (Nat.le_refl w11.heap.size) (.cells #[.bool s5a, .slice p5a n5a c5a, .slice p5b n5b c5b] 28)
  have hx13 := Qbx.new w11 s5a p5a n5a c5a p5b n5b c5b
  replace HN5 := wr HN5 hb12
  replace HD5 := wr HD5 hb12
  replace B := bb B hb12
  have X15 := hid hx13
  have hs14 : (w11.alloc (.cells #[.bool s5a, .slice p5a n5a c5a, .slice p5b n5b c5b] 28)).heap.size = w11.heap.size + 1 := by simp
  clear hb12 hx13
  obtain ⟨cc15a, cc15b, cc15c⟩ := X15.out.cells
  go_wp2_with fail
  generalize hW : w11.alloc (.cells #[.bool s5a, .slice p5a n5a c5a, .slice p5b n5b c5b] 28) = W16 at *
  clear hW
  refine (rqtext (QR.mk2 HN5.out HD5.out) (by omega)).mono ?_
  rintro e w17 ⟨rfl, hb⟩
  replace B := bb B hb
  clear cc15a cc15b cc15c
  clear hb 
  go_wp2_with fail
  refine (back_good (V0.out.below B.out (Nat.le_refl _)) HS.out Hhl.out).mono ?_
  rintro e w18 ⟨rfl, hb⟩
  replace B := bb B hb
  clear hb 
  go_wp2_with fail
  refine (same_nil w18 (HDR.out.below B.out)).mono ?_
  rintro e w19 ⟨rfl, hb⟩
  replace B := bb B hb
  clear hb 
  go_wp2_with fail
  refine (natof_some_any d sd w19).mono ?_
  rintro e w20 ⟨pn, nn, cn, kn, rfl, hb⟩
  replace B := bb B hb
  clear hb 
  go_wp2_with fail
  refine (two_some ka _ HKA.out w20).mono ?_
  rintro e w' ⟨rfl, rfl⟩
  go_wp2_with fail
  refine (near_a Hha.out sa w20).mono ?_
  rintro e w22 ⟨rfl, hb⟩
  replace B := bb B hb
  clear hb 
  go_wp2_with fail
  refine (same_no ka HKA.out w22 (HDR.out.below B.out)).mono ?_
  rintro e w23 ⟨rfl, hb⟩
  replace B := bb B hb
  clear hb 
  go_wp2_with fail
  go_ret
  exact ⟨rfl, B.out⟩

end Go.Proofs.YtjeeepcnaaadmaaGreatDoor

/-
  CfTells: a case.
-/
namespace Go.Proofs.YtjeeepcnaaadmaaGreatDoor
open Go.RowKit
open Num4
open Num (dg isNat dval)
set_option linter.unusedVariables false
set_option maxRecDepth 100000
set_option linter.unusedSimpArgs false

set_option maxHeartbeats 16000000 in
theorem cft_bb_any (a d : ByteArray) (v : Value) (ss : List ByteArray) (sa : a.size ≤ maxLen) (sd : d.size ≤ maxLen) (w : World) (hv : TxsW w v ss) (hs : ∀ i, i < ss.length → (tx ss i).size ≤ maxLen) (hr : ss.length ≤ 1048576) {ka kl kd : Int} (ha : BadQ a ka) (hl : BadL ss kl) (hd : Door w) :
    Calls Tryz.prog 4 #[.string a, v, .string d] w fun e w' => e = .returned (.bool true) ∧ Below w.heap.size w w' := by
  have Hha := hid ha
  have Hhl := hid hl
  have hka : (ka == 0) = false := by rcases ha with ⟨_, h⟩ | ⟨_, _, h⟩ <;> subst h <;> rfl
  have HKA := hid (show ka ≠ 0 by rcases ha with ⟨_, h⟩ | ⟨_, _, h⟩ <;> omega)
  have hkl : (kl == 0) = false := by simpa using hl.ne
  have HKL := hid hl.ne
  have HDR := hid hd
  have V0 := hid hv
  have HS := hid hs
  have HMX := hid (show ss.length ≤ 1099511627776 by omega)
  have hne := errv_neq
  obtain ⟨pv, nv, cv, rfl⟩ : ∃ p n c, v = .slice p n c := by obtain ⟨p, c, h, _⟩ := hv; exact ⟨p, _, c, h⟩
  have B := hid (Below.refl w.heap.size w)
  clear  ha hl hd hv hs hr
  go_enter Tryz.func4, Tryz.ntmps4
  go_wp2_with fail
  refine (golden_true w).mono ?_
  rintro e w1 ⟨rfl, hb⟩
  replace B := bb B hb
  clear hb 
  go_wp2_with fail
  refine (ratof_bad Hha.out w1 sa).mono ?_
  rintro e w2 ⟨s1a, p1a, n1a, c1a, p1b, n1b, c1b, rfl, hb⟩
  replace B := bb B hb
  clear hb 
  have hb3 := (Below.refl _ _).alloc (Nat.le_refl w2.heap.size) (.cells #[.bool s1a, .slice p1a n1a c1a, .slice p1b n1b c1b] 28)
  have hx4 := Qbx.new w2 s1a p1a n1a c1a p1b n1b c1b
  replace B := bb B hb3
  have X8 := hid hx4
  have hs5 : (w2.alloc (.cells #[.bool s1a, .slice p1a n1a c1a, .slice p1b n1b c1b] 28)).heap.size = w2.heap.size + 1 := by simp
  clear hb3 hx4
  obtain ⟨cc6a, cc6b, cc6c⟩ := X8.out.cells
  go_wp2_with fail
  generalize hW : w2.alloc (.cells #[.bool s1a, .slice p1a n1a c1a, .slice p1b n1b c1b] 28) = W7 at *
  clear hW
  refine (of_bad Hha.out sa W7).mono ?_
  rintro e w8 ⟨rfl, hb⟩
  replace B := bb B hb
  clear cc6a cc6b cc6c
  clear hb 
  go_wp2_with fail
  refine (same_no ka HKA.out w8 (HDR.out.below B.out)).mono ?_
  rintro e w9 ⟨rfl, hb⟩
  replace B := bb B hb
  clear hb 
  go_wp2_with fail
  have hst := same_texts (Txs.nil w9) (Txs.nil w9)
  rw [decide_eq_true rfl] at hst
  refine (hst).mono ?_
  rintro e w10 ⟨rfl, hb⟩
  replace B := bb B hb
  clear hb hst
  go_wp2_with fail
  refine (rcfback_bad (V0.out.below B.out (Nat.le_refl _)) HS.out HMX.out Hhl.out).mono ?_
  rintro e w11 ⟨rfl, hb⟩
  replace B := bb B hb
  clear hb 
  have hb12 := (Below.refl _ _).alloc (Nat.le_refl w11.heap.size) (.cells #[.bool false, .slice none 0 0, .slice none 0 0] 28)
  have hx13 := Qbx.new w11 false none 0 0 none 0 0
  replace B := bb B hb12
  have X15 := hid hx13
  have hs14 : (w11.alloc (.cells #[.bool false, .slice none 0 0, .slice none 0 0] 28)).heap.size = w11.heap.size + 1 := by simp
  clear hb12 hx13
  obtain ⟨cc15a, cc15b, cc15c⟩ := X15.out.cells
  go_wp2_with fail
  generalize hW : w11.alloc (.cells #[.bool false, .slice none 0 0, .slice none 0 0] 28) = W16 at *
  clear hW
  refine (back_bad (V0.out.below B.out (Nat.le_refl _)) HS.out Hhl.out).mono ?_
  rintro e w17 ⟨rfl, hb⟩
  replace B := bb B hb
  clear cc15a cc15b cc15c
  clear hb 
  go_wp2_with fail
  refine (same_no kl HKL.out w17 (HDR.out.below B.out)).mono ?_
  rintro e w18 ⟨rfl, hb⟩
  replace B := bb B hb
  clear hb 
  go_wp2_with fail
  refine (natof_some_any d sd w18).mono ?_
  rintro e w19 ⟨pn, nn, cn, kn, rfl, hb⟩
  replace B := bb B hb
  clear hb 
  go_wp2_with fail
  refine (two_some ka _ HKA.out w19).mono ?_
  rintro e w' ⟨rfl, rfl⟩
  go_wp2_with fail
  refine (near_a Hha.out sa w19).mono ?_
  rintro e w21 ⟨rfl, hb⟩
  replace B := bb B hb
  clear hb 
  go_wp2_with fail
  refine (same_no ka HKA.out w21 (HDR.out.below B.out)).mono ?_
  rintro e w22 ⟨rfl, hb⟩
  replace B := bb B hb
  clear hb 
  go_wp2_with fail
  go_ret
  exact ⟨rfl, B.out⟩

end Go.Proofs.YtjeeepcnaaadmaaGreatDoor
