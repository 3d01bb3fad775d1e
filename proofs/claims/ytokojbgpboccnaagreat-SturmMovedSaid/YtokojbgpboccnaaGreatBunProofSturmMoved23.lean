import Derived.Test.YtokojbgpboccnaaGreatBunProofSturmMoved18
import Derived.Test.YtokojbgpboccnaaGreatBunProofSturmMoved22
import Derived.Test.YtokojbgpboccnaaGreatBunProofSturmMoved17
import Derived.Test.YtokojbgpboccnaaGreatBunProofSturmMoved7
import Derived.Test.YtokojbgpboccnaaGreatBunProofSturmMoved13
/-
  PACKAGE sturm: Counter.
-/
namespace Go.Proofs.YtokojbgpboccnaaGreat
open Go.RowKit
open Num
set_option linter.unusedVariables false
set_option maxRecDepth 100000
set_option linter.unusedSimpArgs false

theorem lof_map (fs : List (List Rat)) (q : Rat) : lof fs.length (fun t => pv (fs[t]?.getD []) q) = fs.map (pv · q) := by
  apply List.ext_getElem?
  intro i
  unfold lof
  rw [List.getElem?_map, List.getElem?_map]
  by_cases h : i < fs.length
  · rw [List.getElem?_range h, List.getElem?_eq_getElem h]; simp [h]
  · rw [List.getElem?_eq_none (by simp; omega), List.getElem?_eq_none (by omega)]; rfl
set_option maxHeartbeats 4000000 in
/-- How often signs change along a chain, at a number. -/
theorem chgs_p {w : World} {v xv : Value} {K : Nat} {fs : List (List Rat)} {q : Rat} {nq : Nat} (h : OwnF w K v fs) (hx : NF w xv q) (hs : ∀ f ∈ fs, Cml f 7000000 ∧ f.length ≤ 9) (hl : fs.length ≤ 9) (hsx : Sm q nq) (hq : nq ≤ 1000000) :
    Calls Tryz.prog 32 #[v, xv] w fun e w' => e = .returned (.int .i64 ((vch fs q : Nat) : Int)) ∧ Below w.heap.size w w' := by
  obtain ⟨a, c, rfl, hc1⟩ := h.opened
  obtain ⟨s1a, p1a, n1a, c1a, s1b, p1b, n1b, c1b, rfl⟩ := hx.opened
  have HX0 := hid hx
  have HS := hid hs
  have SX := hid hsx
  have HNQ := hid hq
  have HO := hid h
  obtain ⟨nl, hNL⟩ : ∃ nl, fs.length = nl := ⟨_, rfl⟩
  have NL := hid hNL
  rw [hNL] at hl HO ⊢
  unfold maxLen at hc1
  have B := hid (Below.refl w.heap.size w)
  obtain ⟨hb1, hx2, hs3⟩ := Nbx.made w s1a s1b (.slice p1a n1a c1a) (.slice p1b n1b c1b)
  replace B := bb B hb1
  have X1 := hid hx2
  clear hb1 hx2
  have HZ := hid hs3
  clear hs3 h hx hs hsx hq hNL
  go_enter Tryz.func32, Tryz.ntmps32
  have cc4 := X1.out.cells
  go_wp2_with (refine wpList_make_ns _ rfl _ _ _ rfl Tryz.underlying34 nl rfl rfl (by omega) ?_)
  intro w0 hrow hb0 hs0
  generalize hW : w.alloc (.cells #[.bool s1a, .slice p1a n1a c1a, .bool s1b, .slice p1b n1b c1b] 43) = W5 at *
  have L1 := hid X1.out.lt
  have hb1 : Below W5.heap.size W5 w0 := by rw [HZ.out]; exact hb0
  replace X1 := nx X1 hb1
  replace B := bb B hb1
  have ROW := hid hrow
  have HZ5 := HZ.out
  clear hW hrow hb0 hs0 cc4 hb1 HZ
  obtain ⟨b0, hbe⟩ : ∃ b0, b0 = w.heap.size + 1 := ⟨_, rfl⟩
  obtain ⟨g1, hg1⟩ : ∃ g1, g1 = w.heap.size := ⟨_, rfl⟩
  have HG1 := hid (show w.heap.size ≤ g1 ∧ g1 < b0 by have := L1.out; omega)
  have HB3 := hid (show w.heap.size ≤ b0 by have := L1.out; omega)
  rw [← hbe] at ROW ⊢
  rw [← hg1] at X1 ⊢
  clear hbe hg1 L1 HZ5
  go_wp2_with fail
  obtain ⟨rs0, ROW⟩ : ∃ rs : Nat → Nr, Hid (NRw w0 b0 nl rs) := ⟨_, ROW⟩
  go_loopw [13] (fun x wr => ∃ (i : Nat) (rs : Nat → Nr), i ≤ nl ∧ x = .int .i64 i ∧ Hid (NRw wr b0 nl rs) ∧ Hid (∀ t, t < i → NF wr (nag (rs t)) (pv (fs[t]?.getD []) q)) ∧ Hid (Nbx wr g1 s1a (.slice p1a n1a c1a) s1b (.slice p1b n1b c1b)) ∧ Hid (Below w.heap.size w wr)) (fun x _ => nl - (intOf x).toNat)
  case atStart => exact ⟨0, rs0, by omega, rfl, ROW, hid (fun t ht => by omega), X1, B⟩
  case round =>
    clear ROW X1 B
    obtain ⟨i, rs, hi, rfl, ROW, HW, X1, B⟩ := hrel
    by_cases hlt : i < nl
    · obtain ⟨g, p, mm, cc, rfl, hg, cd5, hp5⟩ := (HO.out.on B.out).at (i := i) (by rw [NL.out]; exact hlt)
      have HP5 := hid hp5
      have HXR := hid (HX0.out.on B.out)
      have HS5 := hid (HS.out (fs[i]?.getD []) (by
        have h1 : i < fs.length := by rw [NL.out]; exact hlt
        rw [List.getElem?_eq_getElem h1]
        exact List.getElem_mem h1))
      have HB5 : Hid ((fs[i]?.getD []).length * (7000000 + nq + 1) + 2 * 7000000 + 2 * nq + 4 ≤ 68719476736) := hid (by
        have h1 := Nat.mul_le_mul_right (7000000 + nq + 1) HS5.out.2
        have := HNQ.out
        omega)
      clear hp5 hg
      have L00 := hid ROW.out.lt
      have L11 := hid X1.out.lt
      have cc301 := X1.out.cells
      go_wp2_with fail
      refine (peval_p HP5.out HXR.out HS5.out.1.sml SX.out HB5.out (by have := HS5.out.2; omega)).mono ?_
      rintro e w302 ⟨v, rfl, hv, hb⟩
      obtain ⟨s2a, p2a, n2a, c2a, s2b, p2b, n2b, c2b, rfl⟩ := hv.opened
      replace X1 := nx X1 hb
      replace ROW := rwo ROW hb
      replace HW := hid (fun q_ hq_ => (HW.out q_ hq_).on hb)
      replace B := bb B hb
      clear cc301
      have HV := hid hv
      clear hb hv cd5
      have cc303 := ROW.out.stores hlt
      replace X1 := hid (X1.out.kept (ROW.out.far i (by have := HB3.out; have := HG1.out; have := L00.out; have := L11.out; omega) s2a p2a n2a c2a s2b p2b n2b c2b))
      replace HV := hid (HV.out.put ROW.out i s2a p2a n2a c2a s2b p2b n2b c2b)
      replace HW := hid (fun q_ hq_ => (HW.out q_ hq_).put ROW.out i s2a p2a n2a c2a s2b p2b n2b c2b)
      replace B := hid (ROW.out.below B.out i (by have := HB3.out; have := HG1.out; have := L00.out; have := L11.out; omega) s2a p2a n2a c2a s2b p2b n2b c2b)
      replace ROW := hid (ROW.out.put hlt s2a p2a n2a c2a s2b p2b n2b c2b)
      go_wp2_with fail
      go_roundw
      case rel => exact ⟨i + 1, _, by omega, by go_num, ROW, hid (fun t ht => by
          by_cases e : t = i
          · subst e; rw [upd_self]; exact HV.out
          · rw [upd_ne _ _ e]; exact HW.out t (by omega)), X1, B⟩
      case measure => simp [intOf]; omega
    · obtain rfl : i = nl := by omega
      have HP2 : Hid (PN wr (.slice (some ⟨b0, 0, none⟩) i i) (fs.map (pv · q))) := hid (by
        rw [← lof_map, NL.out]
        exact ROW.out.pn (by simp [lof]) (Nat.le_refl _) (by unfold maxLen; omega) (fun t ht => (HW.out t ht).cast (by rw [co_lof, if_pos ht])))
      have HCH := hid (chg_p HP2.out (by rw [List.length_map, NL.out]; omega))
      go_wp2_with fail
      refine HCH.out.mono ?_
      rintro e w5 ⟨rfl, hb⟩
      replace B := bb B hb
      clear hb HCH
      go_wp2_with fail
      go_ret
      exact ⟨rfl, B.out⟩

set_option maxHeartbeats 2000000 in
/-- How many roots there are between. -/
theorem betw_p {w : World} {v av bv : Value} {K : Nat} {fs : List (List Rat)} {qa qb : Rat} {nq : Nat} (h : OwnF w K v fs) (ha : NF w av qa) (hb' : NF w bv qb) (hs : ∀ f ∈ fs, Cml f 7000000 ∧ f.length ≤ 9) (hl : fs.length ≤ 9) (hsa : Sm qa nq) (hsb : Sm qb nq) (hn : nq ≤ 1000000) :
    Calls Tryz.prog 16 #[v, av, bv] w fun e w' => e = .returned (.int .i64 (((vch fs qa : Nat) : Int) - ((vch fs qb : Nat) : Int))) ∧ Below w.heap.size w w' := by
  obtain ⟨s1a, p1a, n1a, c1a, s1b, p1b, n1b, c1b, rfl⟩ := ha.opened
  obtain ⟨s2a, p2a, n2a, c2a, s2b, p2b, n2b, c2b, rfl⟩ := hb'.opened
  have HA := hid ha
  have HB := hid hb'
  have HS := hid hs
  have HL := hid hl
  have SA := hid hsa
  have SB := hid hsb
  have HN := hid hn
  have HO := hid h
  have h8 : ∀ x, vch fs x ≤ 8 := fun x => by have := vch_len fs x; omega
  have k1 := h8 qa
  have k2 := h8 qb
  have hw : IntKind.i64.wrap (((vch fs qa : Nat) : Int) - ((vch fs qb : Nat) : Int)) = ((vch fs qa : Nat) : Int) - ((vch fs qb : Nat) : Int) := IntWalk.i64_in _ (by omega)
  have B := hid (Below.refl w.heap.size w)
  obtain ⟨hb1, hx2, hs3⟩ := Nbx.made w s1a s1b (.slice p1a n1a c1a) (.slice p1b n1b c1b)
  replace HA := nf HA hb1
  replace HB := nf HB hb1
  replace B := bb B hb1
  replace HO := hid (HO.out.on hb1)
  have X1 := hid hx2
  clear hb1 hx2
  obtain ⟨hb4, hx5, hs6⟩ := Nbx.made (w.alloc (.cells #[.bool s1a, .slice p1a n1a c1a, .bool s1b, .slice p1b n1b c1b] 43)) s2a s2b (.slice p2a n2a c2a) (.slice p2b n2b c2b)
  rw [hs3] at hx5 hs6
  replace X1 := nx X1 hb4
  replace HA := nf HA hb4
  replace HB := nf HB hb4
  replace B := bb B hb4
  replace HO := hid (HO.out.on hb4)
  have X2 := hid hx5
  clear hb4 hx5
  clear hs6 h ha hb' hs hl hsa hsb hn h8 k1 k2
  go_enter Tryz.func16, Tryz.ntmps16
  have cc7 := X1.out.cells
  have cc8 := X2.out.cells
  go_wp2_with fail
  generalize hW : (w.alloc (.cells #[.bool s1a, .slice p1a n1a c1a, .bool s1b, .slice p1b n1b c1b] 43)).alloc (.cells #[.bool s2a, .slice p2a n2a c2a, .bool s2b, .slice p2b n2b c2b] 43) = W9 at *
  clear hW
  have cc10 := X1.out.cells
  have cc11 := X2.out.cells
  replace X1 := hid X1.out.dr
  replace X2 := hid X2.out.dr
  replace HA := hid HA.out.drew
  replace HB := hid HB.out.drew
  replace B := hid (Below.drew B.out)
  replace HO := hid (HO.out.on (Below.drew (Below.refl _ _)))
  have cc12 := X1.out.cells
  have cc13 := X2.out.cells
  go_region_held3 (fun w' => w'.cell? ⟨w.heap.size, 0, none⟩ = some (.bool s1a) ∧ w'.cell? ⟨w.heap.size, 1, none⟩ = some (.slice p1a n1a c1a) ∧ w'.cell? ⟨w.heap.size, 2, none⟩ = some (.bool s1b) ∧ w'.cell? ⟨w.heap.size, 3, none⟩ = some (.slice p1b n1b c1b) ∧ w'.cell? ⟨w.heap.size + 1, 0, none⟩ = some (.bool s2a) ∧ w'.cell? ⟨w.heap.size + 1, 1, none⟩ = some (.slice p2a n2a c2a) ∧ w'.cell? ⟨w.heap.size + 1, 2, none⟩ = some (.bool s2b) ∧ w'.cell? ⟨w.heap.size + 1, 3, none⟩ = some (.slice p2b n2b c2b)) (go_keep) (first
    | (have hm := mk14_0; clear hm; go_at_call 32; refine (chgs_p HO.out HB.out HS.out HL.out SB.out HN.out).mono ?_; rintro e w18 ⟨rfl, hb⟩; replace X1 := nx X1 hb; replace X2 := nx X2 hb; replace B := bb B hb; replace HO := hid (HO.out.on hb); clear cc16 cc17; clear hb ; have cc19 := X1.out.cells; have cc20 := X2.out.cells; have mk14_1 := hid True.intro)
    | (go_at_call 32; refine (chgs_p HO.out HA.out HS.out HL.out SA.out HN.out).mono ?_; rintro e w15 ⟨rfl, hb⟩; replace X1 := nx X1 hb; replace X2 := nx X2 hb; replace HB := nf HB hb; replace B := bb B hb; replace HO := hid (HO.out.on hb); clear cc7 cc8 cc10 cc11 cc12 cc13; clear hb ; have cc16 := X1.out.cells; have cc17 := X2.out.cells; have mk14_0 := hid True.intro))
  go_wp2_with fail
  go_ret
  exact ⟨rfl, B.out⟩

end Go.Proofs.YtokojbgpboccnaaGreat

/-
  PACKAGE poly: Polynomial.Shift.
-/
namespace Go.Proofs.YtokojbgpboccnaaGreat
open Go.RowKit Go.Shelf
open Num
set_option linter.unusedVariables false
set_option maxRecDepth 100000
set_option linter.unusedSimpArgs false
attribute [local go_sem] Oper.semAt_some

/-- What holds between two rounds. -/
def SI (w : World) (lp : List Rat) (n : Nat) (rs : Nat → Nr) (q : Rat) (g5 G bf : Nat) (pre : List {i : Nat // i < n}) (W : World) : Prop :=
  (∃ p6 n6 c6, Sbx W G p6 n6 c6 ∧ PN W (.slice p6 n6 c6) (mvf lp q (pre.map (·.1)))) ∧ (∀ i, i < n → NF W (nag (rs i)) (co lp i)) ∧ Sbx W g5 (some ⟨bf, 0, none⟩) 2 2 ∧ PN W (.slice (some ⟨bf, 0, none⟩) 2 2) [q, 1] ∧ Below w.heap.size w W ∧ G + 1 < W.heap.size
section
variable {w : World} {lp : List Rat} {n : Nat} {rs : Nat → Nr} {q : Rat} {g5 G bf : Nat}
theorem SI.own {K : Nat} (hK : w.heap.size ≤ K) : OwnFrom K (SI w lp n rs q g5 G bf) := by
  rintro s W W' row ⟨⟨p6, n6, c6, h1, h2⟩, h3, h4, h5, h7, h8⟩ hg hr
  have hr' := fun r e => (hr r e).2
  exact ⟨⟨p6, n6, c6, h1.turned hg hr', h2.turned hg hr'⟩, fun i hi => (h3 i hi).turned hg hr', h4.turned hg hr', h5.turned hg hr', h7.grown hg h7.size (fun g e => Nat.le_trans hK (hr g e).1), Nat.lt_of_lt_of_le h8 hg.size⟩
theorem SI.alloc {pre : List {i : Nat // i < n}} {W : World} (h : SI w lp n rs q g5 G bf pre W) (o : Obj) : SI w lp n rs q g5 G bf pre (W.alloc o) := by
  have hb := (Below.refl W.heap.size W).alloc (Nat.le_refl _) o
  obtain ⟨⟨p6, n6, c6, h1, h2⟩, h3, h4, h5, h7, h8⟩ := h
  exact ⟨⟨p6, n6, c6, h1.below hb h1.lt, h2.on hb⟩, fun i hi => (h3 i hi).on hb, h4.below hb h4.lt, h5.on hb, h7.trans (hb.mono h7.size), Nat.lt_of_lt_of_le h8 hb.size⟩
end

set_option maxHeartbeats 8000000 in
theorem pshift_p {w : World} {v xv : Value} {lp : List Rat} {q : Rat} {m nq : Nat} (h : PN w v lp) (hx : NF w xv q) (hs : Sml lp m) (hsx : Sm q nq) (hm : shb lp.length m nq) (hl : lp.length ≤ 1000) :
    Calls Tryz.prog 18 #[v, xv] w fun e w' => ∃ v', e = .returned v' ∧ PN w' v' (moved lp q) ∧ Below w.heap.size w w' := by
  refine (callsIn_wide (n := 10)).1 ?_
  obtain ⟨a, c, rs, rfl, hn, hc, hA⟩ := h
  obtain ⟨n, hN⟩ : ∃ n, lp.length = n := ⟨_, rfl⟩
  have HN := hid hN
  rw [hN] at hn hA hm hl ⊢
  obtain ⟨s1a, p1a, n1a, c1a, s1b, p1b, n1b, c1b, rfl⟩ := hx.opened
  have HA := hid hA
  have SL := hid hs
  have SX := hid hsx
  have HM := hid hm
  have HW : Hid (∀ i, i < n → NF w (nag (rs i)) (co lp i)) := hid (fun i hi => by obtain ⟨_, _, _, _, h⟩ := hA i hi; exact h)
  have B := hid (Below.refl w.heap.size w)
  have HX := hid hx
  obtain ⟨hb1, hx2, hs3⟩ := Nbx.made w s1a s1b (.slice p1a n1a c1a) (.slice p1b n1b c1b)
  replace HX := nf HX hb1
  replace HW := hid (fun q_ hq_ => (HW.out q_ hq_).on hb1)
  replace B := bb B hb1
  have X3 := hid hx2
  clear hb1 hx2
  clear hA hs hsx hx hm hN hs3
  refine callsIn_of_wp_marks Tryz.func18 rfl trivial ?_ rfl
  simp only [Tryz.ntmps18, List.size_toArray, List.length_cons, List.length_nil, Nat.reduceAdd, Nat.reduceSub, Array.replicate_succ, Array.replicate_zero, List.push_toArray, List.append_toArray, List.nil_append, List.cons_append]
  gi_wp2
  generalize hW : w.alloc (.cells #[.bool s1a, .slice p1a n1a c1a, .bool s1b, .slice p1b n1b c1b] 43) = W4 at *
  clear hW
  refine wpIn_wide.2 ?_
  refine region_ops (by kernel_rfl) (by kernel_rfl) (fun a f a' w' => ∃ u5 u9 u10 u11 u12 v9 : Value, a' = { tmps := (((((a.tmps.setIfInBounds 5 u5).setIfInBounds 9 u9).setIfInBounds 10 u10).setIfInBounds 11 u11).setIfInBounds 12 u12), defers := a.defers } ∧ Hid (Below W4.heap.size W4 w') ∧ Hid (f 0 = true → u9 = (.agg #[.bool s1a, .slice p1a n1a c1a, .bool s1b, .slice p1b n1b c1b])) ∧ Hid (f 1 = true → Whl w' u10 1 1) ∧ Hid (f 2 = true → NF w' u11 1) ∧ Hid (f 3 = true → ((∃ bf, u12 = .slice (some ⟨bf, 0, none⟩) 2 2) ∧ u12 = v9 ∧ PN w' u12 [q, 1])) ∧ Hid (f 4 = true → NewS W4 w' u5 (f 5) v9) ∧ (f 5 = true → f 4 = true) ∧ (f 5 = true → f 3 = true)) ?h0 ⟨?s0, ?s1, ?s2, ?s3, ?s4, ?s5, trivial⟩ ?hend
  case h0 =>
    simp only [List.setIfInBounds_toArray, List.set_cons_zero, List.set_cons_succ]
    exact ⟨_, _, _, _, _, .nilIface, rfl, hid (Below.drew (Below.refl _ _)), hid (fun h => by cases h), hid (fun h => by cases h), hid (fun h => by cases h), hid (fun h => by cases h), hid (fun h => by cases h), fun h => h, fun h => h⟩
  case s0 =>
    rintro f a1 w1 ⟨u5, u9, u10, u11, u12, v9, rfl, HBW, h0, h1, h2, h3, h4, o5_4, o5_3⟩ hf hd K hK
    simp only [List.setIfInBounds_toArray, List.set_cons_zero, List.set_cons_succ] at hK ⊢
    replace hK := hid hK
    obtain ⟨y1, y2, y3, y4⟩ := (X3.out.below HBW.out X3.out.lt).cells
    go_simp
    exact hK.out _ _ ⟨_, _, _, _, _, v9, rfl, HBW, hid (fun h => rfl), hid (fun h => h1.out h), hid (fun h => h2.out h), hid (fun h => h3.out h), hid (fun h => h4.out h), fun h => o5_4 h, fun h => o5_3 h⟩
  case s1 =>
    rintro f a1 w1 ⟨u5, u9, u10, u11, u12, v9, rfl, HBW, h0, h1, h2, h3, h4, o5_4, o5_3⟩ hf hd K hK
    simp only [List.setIfInBounds_toArray, List.set_cons_zero, List.set_cons_succ] at hK ⊢
    replace hK := hid hK
    go_simp
    refine (of_small 1 (by decide) _).mono ?_
    rintro e w2 ⟨v, rfl, hv, hb⟩
    go_wp2_with fail
    exact hK.out _ _ ⟨_, _, _, _, _, v9, rfl, hid (below_next HBW.out hb), hid (fun h => h0.out h), hid (fun h => hv), hid (fun h => (h2.out h).on hb), hid (fun h => ⟨(h3.out h).1, (h3.out h).2.1, (h3.out h).2.2.on hb⟩), hid (fun h => (h4.out h).on hb), fun h => o5_4 h, fun h => o5_3 h⟩
  case s2 =>
    rintro f a1 w1 ⟨u5, u9, u10, u11, u12, v9, rfl, HBW, h0, h1, h2, h3, h4, o5_4, o5_3⟩ hf hd K hK
    simp only [List.setIfInBounds_toArray, List.set_cons_zero, List.set_cons_succ] at hK ⊢
    replace hK := hid hK
    simp [Region.binds] at hd
    have hw := h1.out (by simp only [hd])
    obtain ⟨s6, p6, n6, c6, rfl⟩ := hw.opened
    go_simp
    refine (wholeq hw).mono ?_
    rintro e w2 ⟨v, rfl, hv, hb⟩
    go_wp2_with fail
    exact hK.out _ _ ⟨_, _, _, _, _, v9, rfl, hid (below_next HBW.out hb), hid (fun h => h0.out h), hid (fun h => (h1.out h).on hb), hid (fun h => hv.nf.cast (by simp)), hid (fun h => ⟨(h3.out h).1, (h3.out h).2.1, (h3.out h).2.2.on hb⟩), hid (fun h => (h4.out h).on hb), fun h => o5_4 h, fun h => o5_3 h⟩
  case s3 =>
    rintro f a1 w1 ⟨u5, u9, u10, u11, u12, v9, rfl, HBW, h0, h1, h2, h3, h4, o5_4, o5_3⟩ hf hd K hK
    simp only [List.setIfInBounds_toArray, List.set_cons_zero, List.set_cons_succ] at hK ⊢
    replace hK := hid hK
    simp [Region.binds] at hd
    obtain rfl := h0.out (by simp only [hd])
    have hn6 := h2.out (by simp only [hd])
    obtain ⟨s6a, p6a, n6a, c6a, s6b, p6b, n6b, c6b, rfl⟩ := hn6.opened
    go_simp
    exact hK.out _ _ ⟨_, _, _, _, _, .slice (some ⟨w1.heap.size, 0, none⟩) 2 2, rfl, hid (below_next HBW.out ((Below.refl _ _).alloc (Nat.le_refl _) _)), hid (fun h => rfl), hid (fun h => (h1.out h).on ((Below.refl _ _).alloc (Nat.le_refl _) _)), hid (fun h => (h2.out h).on ((Below.refl _ _).alloc (Nat.le_refl _) _)), hid (fun h => ⟨⟨_, rfl⟩, rfl, pn_new2 (HX.out.on HBW.out) hn6⟩), hid (fun h => ((h4.out h).on ((Below.refl _ _).alloc (Nat.le_refl _) _)).free (by cases e : f 5 with | false => rfl | true => exact absurd (o5_3 e) (by rw [hf]; decide))), fun h => o5_4 h, fun _ => rfl⟩
  case s4 =>
    rintro f a1 w1 ⟨u5, u9, u10, u11, u12, v9, rfl, HBW, h0, h1, h2, h3, h4, o5_4, o5_3⟩ hf hd K hK
    simp only [List.setIfInBounds_toArray, List.set_cons_zero, List.set_cons_succ] at hK ⊢
    replace hK := hid hK
    go_simp
    exact hK.out _ _ ⟨_, _, _, _, _, v9, rfl, hid (below_next HBW.out ((Below.refl _ _).alloc (Nat.le_refl _) _)), hid (fun h => h0.out h), hid (fun h => (h1.out h).on ((Below.refl _ _).alloc (Nat.le_refl _) _)), hid (fun h => (h2.out h).on ((Below.refl _ _).alloc (Nat.le_refl _) _)), hid (fun h => ⟨(h3.out h).1, (h3.out h).2.1, (h3.out h).2.2.on ((Below.refl _ _).alloc (Nat.le_refl _) _)⟩), hid (fun h => ⟨w1.heap.size, rfl, HBW.out.size, fun _ => (Sbx.made w1 none 0 0).2.1, fun e => absurd (o5_4 e) (by rw [hf]; decide)⟩), fun _ => rfl, fun h => o5_3 h⟩
  case s5 =>
    rintro f a1 w1 ⟨u5, u9, u10, u11, u12, v9, rfl, HBW, h0, h1, h2, h3, h4, o5_4, o5_3⟩ hf hd K hK
    simp only [List.setIfInBounds_toArray, List.set_cons_zero, List.set_cons_succ] at hK ⊢
    replace hK := hid hK
    simp [Region.binds] at hd
    have g3 : f 3 = true := by simp only [hd]
    have g4 : f 4 = true := by simp only [hd]
    obtain ⟨⟨bf, e8⟩, e9, hp⟩ := h3.out g3
    subst e9
    subst e8
    obtain ⟨g, rfl, hg, hn, _⟩ := h4.out g4
    replace hn := hn hf
    obtain ⟨c1, c2⟩ := hn.stores
    obtain ⟨n1, n2, n3⟩ := hn.last HBW.out hg (some ⟨bf, 0, none⟩) 2 2
    have HN2 := hid (And.intro n1 n2)
    have HV := hid (fun v z k h => @n3 v z k h)
    have HP9 := hid (hp.sbx hn (some ⟨bf, 0, none⟩) 2 2)
    clear n1 n2 n3
    go_simp
    exact hK.out _ _ ⟨_, _, _, _, _, _, rfl, hid HN2.out.2, hid (fun h => h0.out h), hid (fun h => HV.out _ _ _ (h1.out h)), hid (fun h => (h2.out h).moved HV.out), hid (fun h => ⟨⟨bf, rfl⟩, rfl, HP9.out⟩), hid (fun h => ⟨g, rfl, hg, fun e => by simp [more] at e, fun _ => ⟨_, _, _, rfl, HN2.out.1⟩⟩), fun _ => g4, fun _ => g3⟩
  case hend =>
    rintro f a1 w1 ⟨u5, u9, u10, u11, u12, v9, rfl, HBW, h0, h1, h2, h3, h4, _⟩ hall
    simp only [List.setIfInBounds_toArray, List.set_cons_zero, List.set_cons_succ]
    obtain ⟨⟨bf, e8⟩, e9, hp⟩ := h3.out (hall 3 (by decide))
    subst e9
    subst e8
    obtain ⟨g5, rfl, hg, _, hn5⟩ := h4.out (hall 4 (by decide))
    obtain ⟨p5, n5, c5, e10, hn2⟩ := hn5 (hall 5 (by decide))
    cases e10
    have X5 := hid hn2
    have HF := hid hp
    replace HW := hid (fun i hi => (HW.out i hi).on HBW.out)
    replace B := bb B HBW.out
    have LW0 := hid (show w.heap.size ≤ w1.heap.size from B.out.size)
    clear h0 h1 h2 h3 h4 hall hn5 hn2 hp HBW X3 HX
    have LG5 := hid X5.out.lt
    obtain ⟨hb301, hx302, hs303⟩ := Sbx.made w1 none 0 0
    have L0 := hid X5.out.lt
    replace X5 := sx X5 hb301
    replace HW := hid (fun q_ hq_ => (HW.out q_ hq_).on hb301)
    replace HF := pno HF hb301
    replace B := bb B hb301
    have X6 := hid hx302
    clear hb301 hx302
    have hS8 := hs303
    gi_wp2
    generalize hW8 : w1.alloc (.cells #[.slice none 0 0] 35) = W8 at *
    clear hW8
    generalize hG : w1.heap.size = G at *
    clear hG
    refine ⟨trivial, (pbk_in Fence.wide _ trivial rfl _ _ _ _).mono ?_⟩
    rintro e w' ⟨rfl, rfl⟩
    have hbS := (Below.refl _ _).alloc (Nat.le_refl W8.heap.size) (.cells #[.slice a n c] 35)
    have cS : (W8.alloc (.cells #[.slice a n c] 35)).cell? ⟨G + 1, 0, none⟩ = some (.slice a n c) := by rw [← hS8]; simp
    replace X5 := sx X5 hbS
    replace X6 := sx X6 hbS
    replace HW := hid (fun q_ hq_ => (HW.out q_ hq_).on hbS)
    replace HF := pno HF hbS
    replace B := bb B hbS
    have hS9 : (W8.alloc (.cells #[.slice a n c] 35)).heap.size = G + 1 + 1 := by simp [hS8]
    rw [hS8]
    clear hbS
    generalize hW9 : W8.alloc (.cells #[.slice a n c] 35) = W0 at *
    clear hW9
    gi_wp2
    have hsz := B.out.size
    have hI0 : SI w lp n rs q g5 G bf [] W0 := ⟨⟨_, _, _, X6.out, PN.nil W0 (Nat.zero_le _)⟩, HW.out, X5.out, HF.out, B.out, by omega⟩
    have hget : ∀ W', KB w.heap.size (G + 1) W0 W' → ∀ i, i < n → ∃ x : {i : Nat // i < n}, x.1 = i ∧ ∃ b, a = some ⟨b, 0, none⟩ ∧ At4 W' b (i * 4) (rs x.1) := fun W' h i hi => by
      obtain ⟨b, e, hb, hA, _⟩ := HA.out i hi
      exact ⟨⟨i, hi⟩, rfl, b, e, (hA.kept (B.out.block b hb)).kept (h.1.block b hb)⟩
    clear X5 X6 HF HW
    refine wpIn_rangeFunc_ownH (F := Fence.wide) rfl (by decide) (gf := 60) (lb := #[.pointer (some ⟨G + 1, 0, none⟩)]) rfl trivial (enters_of Tryz.func60 (by kernel_rfl) rfl)
      (pbk_stops Fence.wide (10 - 1) trivial rfl (by decide) (fun x : {i : Nat // i < n} => x.1) (fun x => rs x.1) (G + 1) n c a (by omega) (KB w.heap.size (G + 1)) (KB.refl _ _) (fun h h' => h.trans h') W0 (fun W hW => ⟨hW.mono hsz, hW.block _ (by omega)⟩) (fun W' h => (h.cell 0).trans cS) hget)
      (fun h h' => h.trans h') (fun W l o o' h1 h2 h3 h4 => ⟨belowK_b hsz W l o o' h1 h2 h3 h4, World.putObj_heap_other (fun e => by omega)⟩) (Below.refl _ _) (fun _ => rfl)
      (SI w lp n rs q g5 G bf) (fun _ _ _ => False) (SI.own hsz) (fun _ _ _ _ _ hs _ _ => hs) hI0
      (fun x a' W => ∃ Bx, G + 1 < Bx ∧ Nbx W Bx (rs x.1).1.1 (.slice (rs x.1).1.2.1 (rs x.1).1.2.2.1 (rs x.1).1.2.2.2) (rs x.1).2.1 (.slice (rs x.1).2.2.1 (rs x.1).2.2.2.1 (rs x.1).2.2.2.2) ∧ a' = { tmps := #[Value.slice a n c, (.agg #[.bool s1a, .slice p1a n1a c1a, .bool s1b, .slice p1b n1b c1b]), undef, Value.pointer (some ⟨w.heap.size, 0, none⟩), Value.slice none 0 0, Value.pointer (some ⟨g5, 0, none⟩), Value.pointer (some ⟨G, 0, none⟩), undef, Value.pointer (some ⟨Bx, 0, none⟩), u9, u10, u11, Value.slice (some ⟨bf, 0, none⟩) 2 2, Value.slice a n c, Value.func (Fn.func 60) #[] #[Value.pointer (some ⟨G + 1, 0, none⟩)], Value.int IntKind.i64 (x.1 : Int), (.agg #[.bool (rs x.1).1.1, .slice (rs x.1).1.2.1 (rs x.1).1.2.2.1 (rs x.1).1.2.2.2, .bool (rs x.1).2.1, .slice (rs x.1).2.2.1 (rs x.1).2.2.2.1 (rs x.1).2.2.2.2]), undef, undef, undef, undef, undef, undef, undef], defers := [] })
      (fun x a' _ X Y row hs hg hr => by obtain ⟨Bx, h1, h2, h3⟩ := hs; exact ⟨Bx, h1, h2.turned hg (fun r e => (hr r e).2), h3⟩)
      ?assign ?body ?done ?stop
    case assign =>
      intro l pre x W K hi hK
      have hs1 : G + 1 < W.heap.size := hi.2.2.2.2.2
      have hlw := LW0.out
      have hX := Nbx.new W (rs x.1).1.1 (rs x.1).2.1 (.slice (rs x.1).1.2.1 (rs x.1).1.2.2.1 (rs x.1).1.2.2.2) (.slice (rs x.1).2.2.1 (rs x.1).2.2.2.1 (rs x.1).2.2.2.2)
      simp only [nag] at hK ⊢
      gi_wp2
      exact hK _ _ ((KeepsOthers.alloc _ _).from _) ⟨(Below.refl _ W).alloc (by omega) _, Below.heap_alloc _ _ _ (by omega)⟩ (hi.alloc _) ⟨W.heap.size, by omega, hX, rfl⟩
    case body =>
      rintro l pre x a' W hl_ _ hi ⟨Bx, hBx, hX, rfl⟩ hlt
      obtain ⟨⟨p6, n6, c6, hT, hV⟩, hZ, hx5, hf5, hBw, hs1⟩ := hi
      have hC := hZ x.1 x.2
      obtain ⟨s7a, p7a, n7a, c7a, s7b, p7b, n7b, c7b, hz7⟩ : ∃ s7a p7a n7a c7a s7b p7b n7b c7b, rs x.1 = ((s7a, p7a, n7a, c7a), (s7b, p7b, n7b, c7b)) := ⟨_, _, _, _, _, _, _, _, rfl⟩
      rw [hz7] at hX hC ⊢
      simp only [nag] at hX hC
      simp only [] at hX ⊢
      have X6 := hid hT
      have HS := hid hV
      have HW := hid hZ
      have X5 := hid hx5
      have HF := hid hf5
      have B := hid hBw
      have HS1 := hid hs1
      have XX := hid hX
      have HC := hid hC
      have LX := hid hBx
      have HPL := hid (show (pre.map (·.1)).length = pre.length from List.length_map _)
      have HLL := hid (show (mvf lp q (pre.map (·.1))).length ≤ pre.length by have := mvf_len lp q (pre.map (·.1)) []; rw [HPL.out, List.length_nil, Nat.zero_add] at this; exact this)
      have SV := hid (show Sml (mvf lp q (pre.map (·.1))) ((m + nq + 4) * 2 ^ pre.length - (m + nq + 3)) by have := Sml.mvf SL.out SX.out (pre.map (·.1)) [] 0 (Sml.nil (by omega)); rw [HPL.out, Nat.zero_add] at this; exact this)
      have SF := hid (Sml.lin SX.out)
      have HB1 := hid (shb_mul HM.out (Nat.le_of_lt hlt) HLL.out)
      have HB2 := hid (shb_add HM.out (Nat.le_of_lt hlt))
      have HE := hid (mvf_snoc lp q (pre.map (·.1)) x.1)
      have HPN := hid (show pre.length ≤ 1000 by omega)
      clear hT hV hZ hx5 hf5 hBw hs1 hX hC hBx hz7 hI0 cS hget hlt
      generalize mvf lp q (pre.map (·.1)) = mm at *
      generalize hM : (m + nq + 4) * 2 ^ pre.length - (m + nq + 3) = M at *
      clear hM
      gi_wp2
      refine region_ops_in (by kernel_rfl) (by kernel_rfl) (by kernel_rfl) (fun a f a' w' => ∃ u17 u18 u19 u20 u21 u22 : Value, a' = { tmps := ((((((a.tmps.setIfInBounds 17 u17).setIfInBounds 18 u18).setIfInBounds 19 u19).setIfInBounds 20 u20).setIfInBounds 21 u21).setIfInBounds 22 u22), defers := a.defers } ∧ Hid (Below W.heap.size W w' ∨ f 6 = true) ∧ Hid (f 0 = true → u17 = .slice p6 n6 c6) ∧ Hid (f 1 = true → u18 = .slice (some ⟨bf, 0, none⟩) 2 2) ∧ Hid (f 2 = true → PN w' u19 (mulp mm [q, 1])) ∧ Hid (f 3 = true → u20 = (.agg #[.bool s7a, .slice p7a n7a c7a, .bool s7b, .slice p7b n7b c7b])) ∧ Hid (f 4 = true → PN w' u21 [co lp x.1]) ∧ Hid (f 5 = true → (PN w' u22 (addp (mulp mm [q, 1]) [co lp x.1]) ∧ ∃ p n c, u22 = .slice p n c)) ∧ Hid (f 6 = true → ((∃ p8 n8 c8, Sbx w' G p8 n8 c8 ∧ PN w' (.slice p8 n8 c8) (addp (mulp mm [q, 1]) [co lp x.1])) ∧ (∀ i, i < n → NF w' (nag (rs i)) (co lp i)) ∧ Sbx w' g5 (some ⟨bf, 0, none⟩) 2 2 ∧ PN w' (.slice (some ⟨bf, 0, none⟩) 2 2) [q, 1] ∧ Below w.heap.size w w' ∧ G + 1 < w'.heap.size ∧ KB w.heap.size (G + 1) W w' ∧ KeepsOthers W w')) ∧ (f 6 = true → f 0 = true) ∧ (f 6 = true → f 1 = true) ∧ (f 6 = true → f 2 = true) ∧ (f 6 = true → f 3 = true) ∧ (f 6 = true → f 4 = true) ∧ (f 6 = true → f 5 = true)) ?h0 ⟨?s0, ?s1, ?s2, ?s3, ?s4, ?s5, ?s6, trivial⟩ ?hend
      case h0 =>
        simp only [List.setIfInBounds_toArray, List.set_cons_zero, List.set_cons_succ]
        exact ⟨_, _, _, _, _, _, rfl, hid (.inl (Below.drew (Below.refl _ _))), hid (fun h => by cases h), hid (fun h => by cases h), hid (fun h => by cases h), hid (fun h => by cases h), hid (fun h => by cases h), hid (fun h => by cases h), hid (fun h => by cases h), fun h => h, fun h => h, fun h => h, fun h => h, fun h => h, fun h => h⟩
      case s0 =>
        rintro f a1 w1 ⟨u17, u18, u19, u20, u21, u22, rfl, HBW, h0, h1, h2, h3, h4, h5, h6, o6_0, o6_1, o6_2, o6_3, o6_4, o6_5⟩ hf hd K hK
        replace HBW := hid (HBW.out.resolve_right (fun e => absurd (o6_0 e) (by rw [hf]; decide)))
        simp only [List.setIfInBounds_toArray, List.set_cons_zero, List.set_cons_succ] at hK ⊢
        replace hK := hid hK
        have y1 := (X6.out.below HBW.out X6.out.lt).cells
        go_simp
        exact hK.out _ _ ⟨_, _, _, _, _, _, rfl, hid (.inl (HBW).out), hid (fun h => rfl), hid (fun h => h1.out h), hid (fun h => h2.out h), hid (fun h => h3.out h), hid (fun h => h4.out h), hid (fun h => h5.out h), hid (fun h => absurd (o6_0 h) (by rw [hf]; decide)), fun _ => rfl, fun h => o6_1 h, fun h => o6_2 h, fun h => o6_3 h, fun h => o6_4 h, fun h => o6_5 h⟩
      case s1 =>
        rintro f a1 w1 ⟨u17, u18, u19, u20, u21, u22, rfl, HBW, h0, h1, h2, h3, h4, h5, h6, o6_0, o6_1, o6_2, o6_3, o6_4, o6_5⟩ hf hd K hK
        replace HBW := hid (HBW.out.resolve_right (fun e => absurd (o6_1 e) (by rw [hf]; decide)))
        simp only [List.setIfInBounds_toArray, List.set_cons_zero, List.set_cons_succ] at hK ⊢
        replace hK := hid hK
        have y1 := (X5.out.below HBW.out X5.out.lt).cells
        go_simp
        exact hK.out _ _ ⟨_, _, _, _, _, _, rfl, hid (.inl (HBW).out), hid (fun h => h0.out h), hid (fun h => rfl), hid (fun h => h2.out h), hid (fun h => h3.out h), hid (fun h => h4.out h), hid (fun h => h5.out h), hid (fun h => absurd (o6_1 h) (by rw [hf]; decide)), fun h => o6_0 h, fun _ => rfl, fun h => o6_2 h, fun h => o6_3 h, fun h => o6_4 h, fun h => o6_5 h⟩
      case s2 =>
        rintro f a1 w1 ⟨u17, u18, u19, u20, u21, u22, rfl, HBW, h0, h1, h2, h3, h4, h5, h6, o6_0, o6_1, o6_2, o6_3, o6_4, o6_5⟩ hf hd K hK
        replace HBW := hid (HBW.out.resolve_right (fun e => absurd (o6_2 e) (by rw [hf]; decide)))
        simp only [List.setIfInBounds_toArray, List.set_cons_zero, List.set_cons_succ] at hK ⊢
        replace hK := hid hK
        simp [Region.binds] at hd
        obtain rfl := h0.out (by simp only [hd])
        obtain rfl := h1.out (by simp only [hd])
        go_simp
        refine (pmul_p (HS.out.on HBW.out) (HF.out.on HBW.out) SV.out SF.out HB1.out (by have := HLL.out; have := HPN.out; omega) (by simp)).mono ?_
        rintro e w2 ⟨v, rfl, hv, hb⟩
        go_wp2_with fail
        exact hK.out _ _ ⟨_, _, _, _, _, _, rfl, hid (.inl (hid (below_next HBW.out hb)).out), hid (fun h => rfl), hid (fun h => rfl), hid (fun h => hv), hid (fun h => h3.out h), hid (fun h => (h4.out h).on hb), hid (fun h => ⟨(h5.out h).1.on hb, (h5.out h).2⟩), hid (fun h => absurd (o6_2 h) (by rw [hf]; decide)), fun h => o6_0 h, fun h => o6_1 h, fun _ => rfl, fun h => o6_3 h, fun h => o6_4 h, fun h => o6_5 h⟩
      case s3 =>
        rintro f a1 w1 ⟨u17, u18, u19, u20, u21, u22, rfl, HBW, h0, h1, h2, h3, h4, h5, h6, o6_0, o6_1, o6_2, o6_3, o6_4, o6_5⟩ hf hd K hK
        replace HBW := hid (HBW.out.resolve_right (fun e => absurd (o6_3 e) (by rw [hf]; decide)))
        simp only [List.setIfInBounds_toArray, List.set_cons_zero, List.set_cons_succ] at hK ⊢
        replace hK := hid hK
        obtain ⟨y1, y2, y3, y4⟩ := (XX.out.below HBW.out XX.out.lt).cells
        go_simp
        exact hK.out _ _ ⟨_, _, _, _, _, _, rfl, hid (.inl (HBW).out), hid (fun h => h0.out h), hid (fun h => h1.out h), hid (fun h => h2.out h), hid (fun h => rfl), hid (fun h => h4.out h), hid (fun h => h5.out h), hid (fun h => absurd (o6_3 h) (by rw [hf]; decide)), fun h => o6_0 h, fun h => o6_1 h, fun h => o6_2 h, fun _ => rfl, fun h => o6_4 h, fun h => o6_5 h⟩
      case s4 =>
        rintro f a1 w1 ⟨u17, u18, u19, u20, u21, u22, rfl, HBW, h0, h1, h2, h3, h4, h5, h6, o6_0, o6_1, o6_2, o6_3, o6_4, o6_5⟩ hf hd K hK
        replace HBW := hid (HBW.out.resolve_right (fun e => absurd (o6_4 e) (by rw [hf]; decide)))
        simp only [List.setIfInBounds_toArray, List.set_cons_zero, List.set_cons_succ] at hK ⊢
        replace hK := hid hK
        simp [Region.binds] at hd
        obtain rfl := h3.out (by simp only [hd])
        go_simp
        exact hK.out _ _ ⟨_, _, _, _, _, _, rfl, hid (.inl (hid (below_next HBW.out ((Below.refl _ _).alloc (Nat.le_refl _) _))).out), hid (fun h => h0.out h), hid (fun h => h1.out h), hid (fun h => (h2.out h).on ((Below.refl _ _).alloc (Nat.le_refl _) _)), hid (fun h => rfl), hid (fun h => pn_new1 (HC.out.on HBW.out)), hid (fun h => ⟨(h5.out h).1.on ((Below.refl _ _).alloc (Nat.le_refl _) _), (h5.out h).2⟩), hid (fun h => absurd (o6_4 h) (by rw [hf]; decide)), fun h => o6_0 h, fun h => o6_1 h, fun h => o6_2 h, fun h => o6_3 h, fun _ => rfl, fun h => o6_5 h⟩
      case s5 =>
        rintro f a1 w1 ⟨u17, u18, u19, u20, u21, u22, rfl, HBW, h0, h1, h2, h3, h4, h5, h6, o6_0, o6_1, o6_2, o6_3, o6_4, o6_5⟩ hf hd K hK
        replace HBW := hid (HBW.out.resolve_right (fun e => absurd (o6_5 e) (by rw [hf]; decide)))
        simp only [List.setIfInBounds_toArray, List.set_cons_zero, List.set_cons_succ] at hK ⊢
        replace hK := hid hK
        simp [Region.binds] at hd
        have g2 : f 2 = true := by simp only [hd]
        have g4 : f 4 = true := by simp only [hd]
        go_simp
        refine (padd_p (h2.out g2) (h4.out g4) (SV.out.linp SX.out) (Sml.one (SL.out.2 x.1)) HB2.out.1 HB2.out.2 (Nat.le_trans (trim_len _) (by have := HLL.out; have := HPN.out; simp [lof]; omega)) (by simp)).mono ?_
        rintro e w2 ⟨v, rfl, hv, hb⟩
        have hv2 : ∃ p n c, v = .slice p n c := by obtain ⟨a, c, e, _⟩ := hv.opened; exact ⟨_, _, _, e⟩
        go_wp2_with fail
        exact hK.out _ _ ⟨_, _, _, _, _, _, rfl, hid (.inl (hid (below_next HBW.out hb)).out), hid (fun h => h0.out h), hid (fun h => h1.out h), hid (fun h => (h2.out h).on hb), hid (fun h => h3.out h), hid (fun h => (h4.out h).on hb), hid (fun h => ⟨hv, hv2⟩), hid (fun h => absurd (o6_5 h) (by rw [hf]; decide)), fun h => o6_0 h, fun h => o6_1 h, fun h => o6_2 h, fun h => o6_3 h, fun h => o6_4 h, fun _ => rfl⟩
      case s6 =>
        rintro f a1 w1 ⟨u17, u18, u19, u20, u21, u22, rfl, HBW, h0, h1, h2, h3, h4, h5, h6, o6_0, o6_1, o6_2, o6_3, o6_4, o6_5⟩ hf hd K hK
        replace HBW := hid (HBW.out.resolve_right (fun e => by rw [hf] at e; cases e))
        simp only [List.setIfInBounds_toArray, List.set_cons_zero, List.set_cons_succ] at hK ⊢
        replace hK := hid hK
        simp [Region.binds] at hd
        obtain ⟨hp9, p9, n9, c9, rfl⟩ := h5.out (by simp only [hd])
        have hx6 := X6.out.below HBW.out X6.out.lt
        obtain ⟨y1, y2⟩ := hx6.stores
        have hlw := LW0.out
        have hb1 := B.out.trans (HBW.out.mono B.out.size)
        have hs1 := Nat.lt_of_lt_of_le HS1.out HBW.out.size
        have hlg := LG5.out
        have HFIN : Hid ((∃ p8 n8 c8, Sbx (w1.setCell ⟨G, 0, none⟩ (.slice p9 n9 c9)) G p8 n8 c8 ∧ PN (w1.setCell ⟨G, 0, none⟩ (.slice p9 n9 c9)) (.slice p8 n8 c8) (addp (mulp mm [q, 1]) [co lp x.1])) ∧ (∀ i, i < n → NF (w1.setCell ⟨G, 0, none⟩ (.slice p9 n9 c9)) (nag (rs i)) (co lp i)) ∧ Sbx (w1.setCell ⟨G, 0, none⟩ (.slice p9 n9 c9)) g5 (some ⟨bf, 0, none⟩) 2 2 ∧ PN (w1.setCell ⟨G, 0, none⟩ (.slice p9 n9 c9)) (.slice (some ⟨bf, 0, none⟩) 2 2) [q, 1] ∧ Below w.heap.size w (w1.setCell ⟨G, 0, none⟩ (.slice p9 n9 c9)) ∧ G + 1 < (w1.setCell ⟨G, 0, none⟩ (.slice p9 n9 c9)).heap.size ∧ KB w.heap.size (G + 1) W (w1.setCell ⟨G, 0, none⟩ (.slice p9 n9 c9)) ∧ KeepsOthers W (w1.setCell ⟨G, 0, none⟩ (.slice p9 n9 c9))) := hid ⟨⟨p9, n9, c9, hx6.set0 p9 n9 c9, hp9.sbx hx6 p9 n9 c9⟩, fun i hi => ((HW.out i hi).on HBW.out).moved fun _ _ _ h => h.sbx hx6 0 _, (X5.out.below HBW.out X5.out.lt).kept (heap1 (by omega) _), (HF.out.on HBW.out).sbx hx6 p9 n9 c9, hb1.setCell (p := ⟨G, 0, none⟩) hlw _, by simpa [World.setCell] using hs1, KB.set ⟨HBW.out.mono B.out.size, HBW.out.block (G + 1) HS1.out⟩ hlw (by omega) 0 _, (KeepsOthers.of_below HBW.out).trans (KeepsOthers.setCell _ ⟨G, 0, none⟩ _)⟩
        have HX6 := hid hx6
        clear hb1 hs1 hx6 hp9
        have g0 : f 0 = true := by simp only [hd]
        have g1 : f 1 = true := by simp only [hd]
        have g2 : f 2 = true := by simp only [hd]
        have g3 : f 3 = true := by simp only [hd]
        have g4 : f 4 = true := by simp only [hd]
        have g5 : f 5 = true := by simp only [hd]
        go_simp
        exact hK.out _ _ ⟨_, _, _, _, _, _, rfl, hid (.inr rfl), hid (fun h => h0.out h), hid (fun h => h1.out h), hid (fun h => (h2.out h).sbx HX6.out p9 n9 c9), hid (fun h => h3.out h), hid (fun h => (h4.out h).sbx HX6.out p9 n9 c9), hid (fun h => ⟨(h5.out h).1.sbx HX6.out p9 n9 c9, (h5.out h).2⟩), hid (fun h => HFIN.out), fun _ => g0, fun _ => g1, fun _ => g2, fun _ => g3, fun _ => g4, fun _ => g5⟩
      case hend =>
        rintro f a1 w1 ⟨u17, u18, u19, u20, u21, u22, rfl, _, h0, h1, h2, h3, h4, h5, h6, _⟩ hall
        simp only [List.setIfInBounds_toArray, List.set_cons_zero, List.set_cons_succ]
        obtain ⟨h1, h2, h3, h4, h5, h6, h7, h8⟩ := h6.out (hall 6 (by decide))
        gi_wp2
        exact ⟨h8.from _, h7, ⟨by rw [List.map_append]; exact HE.out ▸ h1, h2, h3, h4, h5, h6⟩⟩
    case done =>
      rintro D ys W hD hys ⟨⟨p6, n6, c6, hT, hV⟩, hZ, hx5, hf5, hBw, hs1⟩ hK
      have y1 := hT.cells
      have HV : Hid (PN W (.slice p6 n6 c6) (moved lp q)) := hid (by have e : mvf lp q (ys.map (·.1)) = moved lp q := (by rw [hys]; exact mvf_all HN.out q); rw [← e]; exact hV)
      have B := hid hBw
      have LD := hid (show w.heap.size ≤ D by omega)
      have hKD := hK
      clear hT hV hZ hx5 hf5 hBw hs1 hK hI0 cS hget
      gi_wp2
      have hgp := grownBy_putObj' W D (.deferred none)
      have hgr : ∀ r, some D = some r → ∃ o : Obj, W.heap[r]? = some o ∧ o.isCells = false := fun r e => by cases e; exact ⟨_, hKD, rfl⟩
      refine ⟨by simp, .inl ⟨_, _, rfl, run_takeDeferred hKD, ?_⟩⟩
      refine ⟨_, res_tmp rfl rfl, ?_⟩
      exact ⟨_, rfl, HV.out.turned hgp hgr, B.out.grown hgp B.out.size (fun g e => by cases e; have := LD.out; omega)⟩
    case stop =>
      rintro D c pre W _ _ h _
      exact h.elim

end Go.Proofs.YtokojbgpboccnaaGreat

/-
  PACKAGE poly: Shift.
-/
namespace Go.Proofs.YtokojbgpboccnaaGreat
open Go.RowKit
open Num
set_option linter.unusedVariables false
set_option maxRecDepth 100000
set_option linter.unusedSimpArgs false

theorem shb_nine {n : Nat} (h : n ≤ 9) : (n + 2) * ((25 + 25 + 4) * 2 ^ n + 25 + 25 + 4) ≤ 68719476736 := by
  have h1 : 2 ^ n ≤ 2 ^ 9 := Nat.pow_le_pow_right (by omega) h
  have h2 := Nat.mul_le_mul (show n + 2 ≤ 11 by omega) (show (25 + 25 + 4) * 2 ^ n + 25 + 25 + 4 ≤ (25 + 25 + 4) * 2 ^ 9 + 25 + 25 + 4 by omega)
  omega
theorem two_nine {n m : Nat} (h : n ≤ 9) (hm : m ≤ 1000) : m * 2 ^ n ≤ 512000 := by
  have h1 : 2 ^ n ≤ 2 ^ 9 := Nat.pow_le_pow_right (by omega) h
  exact Nat.le_trans (Nat.mul_le_mul hm h1) (by decide)
set_option maxHeartbeats 1000000 in
theorem pshifts_any {w : World} {v : Value} {p : List ByteArray} {x : ByteArray} (h : TxsW w v p) (hs : Szs p) (hx : x.size ≤ maxLen) :
    Calls Tryz.prog 7 #[v, .string x] w fun e w' => ∃ r ss k, e = .returned (.tuple #[r, errv k]) ∧ OwnS w' w.heap.size r ss ∧ PShifts p x ss k ∧ Below w.heap.size w w' := by
  have H1 := hid (pwith_any h hs hx)
  have hne := errv_neq
  have hgd := errv_guard
  clear h hs hx
  have B := hid (Below.refl w.heap.size w)
  go_enter Tryz.func7, Tryz.ntmps7
  go_wp2_with fail
  refine H1.out.mono ?_
  rintro e w1 ⟨y, z, k, rfl, hr, hb⟩
  replace B := bb B hb
  rcases hr with ⟨rfl, hg, hq, hp, hn⟩ | ⟨hk, hw, rfl, rfl⟩
  · obtain ⟨s3a, p3a, n3a, c3a, s3b, p3b, n3b, c3b, rfl⟩ := hn.opened
    have HG := hid hg
    have HQ := hid hq
    have HP := hid hp
    have HN := hid hn
    clear hb hg hq hp hn
    obtain ⟨hb101, hx102, hs103⟩ := Nbx.made w1 s3a s3b (.slice p3a n3a c3a) (.slice p3b n3b c3b)
    replace HN := nf HN hb101
    replace HP := pno HP hb101
    replace B := bb B hb101
    have X7 := hid hx102
    clear hb101 hx102
    have cc104 := X7.out.cells
    go_wp2_with fail
    generalize hW : w1.alloc (.cells #[.bool s3a, .slice p3a n3a c3a, .bool s3b, .slice p3b n3b c3b] 43) = W105 at *
    clear hW
    refine (pshift_p HP.out HN.out HG.out.sml (Sm.good HQ.out) (by have := HG.out.1; unfold shb; rw [rdp_len]; exact shb_nine this) (by have := HG.out.1; rw [rdp_len]; omega)).mono ?_
    rintro e w106 ⟨v2, rfl, hv, hb⟩
    have HV := hid hv
    replace X7 := nx X7 hb
    replace HN := nf HN hb
    replace HP := pno HP hb
    replace B := bb B hb
    clear cc104
    clear hb hv
    go_wp2_with fail
    refine (texts_s HV.out (trm_moved _ _) ((sml_moved HG.out.sml (Sm.good HQ.out)).mono (two_nine (by have := HG.out.1; rw [rdp_len]; exact this) (by decide))) (by decide) (by rw [moved_len HG.out.2.2, rdp_len]; have := HG.out.1; omega)).mono ?_
    rintro e w9 ⟨s, rfl, ho, hb⟩
    have HO := hid (show OwnS w9 w.heap.size s _ from ⟨ho.1.mono B.out.size, ho.2⟩)
    replace B := bb B hb
    clear hb ho
    go_wp2_with fail
    go_ret2
    exact ⟨_, _, 0, rfl, HO.out, .inl ⟨rfl, HG.out, HQ.out, rfl⟩, B.out⟩
  · have HK := hid hk
    have HW := hid hw
    have f1 : (k != 0) = true := by simpa using hk
    clear hb hw
    obtain ⟨hb301, hx302, hs303⟩ := Nbx.made w1 false false (.slice none 0 0) (.slice none 0 0)
    replace B := bb B hb301
    have X7 := hid hx302
    clear hb301 hx302
    have cc304 := X7.out.cells
    go_wp2_with fail
    go_ret2
    exact ⟨_, [], k, rfl, OwnS.nil _ _, .inr ⟨HK.out, HW.out, rfl⟩, B.out⟩

end Go.Proofs.YtokojbgpboccnaaGreat

/-
  PACKAGE poly: Mul.
-/
namespace Go.Proofs.YtokojbgpboccnaaGreat
open Go.RowKit
open Num
set_option linter.unusedVariables false
set_option maxRecDepth 100000
set_option linter.unusedSimpArgs false

set_option maxHeartbeats 1000000 in
theorem comb_mulp {w : World} {v u : Value} {p q : List ByteArray} (h : TxsW w v p) (h' : TxsW w u q) (hs : Szs p) (hs' : Szs q) :
    Calls Tryz.prog 24 #[v, u, .func (.func 25) #[] #[]] w fun e w' => ∃ r ss k, e = .returned (.tuple #[r, errv k]) ∧ OwnS w' w.heap.size r ss ∧ PTells mulp p q ss k ∧ Below w.heap.size w w' := by
  have H1 := hid (pboth_any h h' hs hs')
  have hne := errv_neq
  have hgd := errv_guard
  clear h h' hs hs'
  go_enter Tryz.func24, Tryz.ntmps24
  go_wp2_with fail
  refine H1.out.mono ?_
  rintro e w1 ⟨x, y, k, rfl, hr, hb⟩
  have B := hid hb
  rcases hr with ⟨rfl, hg, hg2, hp, hp2⟩ | ⟨hk, hw, rfl, rfl⟩
  · have HG := hid hg
    have HG2 := hid hg2
    have HP := hid hp
    have HP2 := hid hp2
    clear hb hg hg2 hp hp2
    go_wp2_with fail
    refine (pmul_p HP.out HP2.out HG.out.sml HG2.out.sml (by have := HG.out.1; rw [rdp_len]; omega) (by have := HG.out.1; rw [rdp_len]; omega) (by have := HG2.out.1; rw [rdp_len]; omega)).mono ?_
    rintro e w2 ⟨r, rfl, hr, hb2⟩
    replace B := bb B hb2
    have HR := hid hr
    clear hb2 hr
    go_wp2_with fail
    refine (texts_s HR.out (trm_mulp _ _) (HG.out.sml.prod HG2.out.sml) (by have := HG.out.1; rw [rdp_len]; omega) (Nat.le_trans (mulp_len _ _) (by have := HG.out.1; have := HG2.out.1; rw [rdp_len, rdp_len]; omega))).mono ?_
    rintro e w3 ⟨s, rfl, ho, hb3⟩
    have HO := hid (show OwnS w3 w.heap.size s _ from ⟨ho.1.mono B.out.size, ho.2⟩)
    replace B := bb B hb3
    clear hb3 ho
    go_wp2_with fail
    go_ret2
    exact ⟨_, _, 0, rfl, HO.out, .inl ⟨rfl, HG.out, HG2.out, rfl⟩, B.out⟩
  · have HK := hid hk
    have HW := hid hw
    have f1 : (k != 0) = true := by simpa using hk
    clear hb hw
    go_wp2_with fail
    go_ret2
    exact ⟨_, [], k, rfl, OwnS.nil _ _, .inr ⟨HK.out, HW.out, rfl⟩, B.out⟩

set_option maxHeartbeats 1000000 in
theorem pmuls_any {w : World} {v u : Value} {p q : List ByteArray} (h : TxsW w v p) (h' : TxsW w u q) (hs : Szs p) (hs' : Szs q) :
    Calls Tryz.prog 11 #[v, u] w fun e w' => ∃ r ss k, e = .returned (.tuple #[r, errv k]) ∧ OwnS w' w.heap.size r ss ∧ PTells mulp p q ss k ∧ Below w.heap.size w w' := by
  have H1 := hid (comb_mulp h h' hs hs')
  clear h h' hs hs'
  go_enter Tryz.func11, Tryz.ntmps11
  go_wp2_with fail
  refine H1.out.mono ?_
  rintro e w1 ⟨r, ss, k, rfl, ho, ht, hb⟩
  have HO := hid ho
  have HT := hid ht
  have B := hid hb
  clear ho ht hb
  go_wp2_with fail
  go_ret2
  exact ⟨_, _, k, rfl, HO.out, HT.out, B.out⟩

end Go.Proofs.YtokojbgpboccnaaGreat
