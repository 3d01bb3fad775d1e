import Derived.Test.YtokojbgpboccnaaGreatBunProofSturmMoved17
import Derived.Test.YtokojbgpboccnaaGreatBunProofSturmMoved2
import Derived.Test.YtokojbgpboccnaaGreatBunProofSturmMoved1
import Derived.Test.YtokojbgpboccnaaGreatBunProofSturmMoved16
import Derived.Test.YtokojbgpboccnaaGreatBunProofSturmMoved5
import Derived.Test.YtokojbgpboccnaaGreatBunProofSturmMoved13
/-
  PACKAGE pgcd: what holds in each round of gcd. Nothing of a program.
-/
namespace Go.Proofs.YtokojbgpboccnaaGreat
open Go.RowKit
open Num
set_option linter.unusedVariables false
def Szp (m : Nat) (p q : List Int) : Prop := ∃ a b, Zl p a ∧ Zl q b ∧ ((q.length < p.length ∧ a + 1 ≤ psA (10 - p.length) * (m + 1) ∧ b + 1 ≤ psA (11 - p.length) * (m + 1)) ∨ (q.length ≤ p.length ∧ a ≤ m ∧ b ≤ m))
theorem Szp.next {m : Nat} {p q : List Int} (h : Szp m p q) (h0 : q ≠ []) (hl : p.length ≤ 9) : ∃ a b, Zl p a ∧ Zl q b ∧ a + (p.length - q.length + 1) * (b + 1) + 1 ≤ 3363 * (m + 1) ∧ b + 1 ≤ 3363 * (m + 1) ∧ ∀ c : List Int, c.length < q.length → Zl c (a + (p.length - q.length + 1) * (b + 1)) → Szp m q c := by
  have hq := List.length_pos_iff.2 h0
  have e10 : psA 10 = 3363 := by decide
  obtain ⟨a, b, h1, h2, h3⟩ := h
  have key : a + (p.length - q.length + 1) * (b + 1) + 1 ≤ psA (11 - q.length) * (m + 1) ∧ b + 1 ≤ psA (10 - q.length) * (m + 1) := by
    rcases h3 with ⟨h3, h4, h5⟩ | ⟨h3, h4, h5⟩
    · have k1 := psA_step (10 - p.length) (p.length - q.length + 1) (by omega) (by omega)
      rw [show 10 - p.length + (p.length - q.length + 1) = 11 - q.length by omega, show 10 - p.length + 1 = 11 - p.length by omega] at k1
      have k2 := Nat.mul_le_mul_right (m + 1) k1
      have k3 := Nat.mul_le_mul_left (p.length - q.length + 1) h5
      have k4 := psA_mono (i := 11 - p.length) (j := 10 - q.length) (by omega) (by omega)
      have k5 := Nat.mul_le_mul_right (m + 1) k4
      rw [Nat.add_mul, Nat.mul_assoc] at k2
      omega
    · have k1 := psA_self (n := 11 - q.length) (by omega) (by omega)
      have k2 := Nat.mul_le_mul_right (m + 1) (show p.length - q.length + 1 + 1 ≤ psA (11 - q.length) by omega)
      have k3 := Nat.mul_le_mul_left (p.length - q.length + 1) (show b + 1 ≤ m + 1 by omega)
      have k4 := psA_self (n := 10 - q.length) (by omega) (by omega)
      have k5 := Nat.mul_le_mul_right (m + 1) (show 1 ≤ psA (10 - q.length) by omega)
      rw [Nat.add_mul] at k2
      omega
  have b1 := Nat.mul_le_mul_right (m + 1) (psA_mono (i := 11 - q.length) (j := 10) (by omega) (by omega))
  have b2 := Nat.mul_le_mul_right (m + 1) (psA_mono (i := 10 - q.length) (j := 10) (by omega) (by omega))
  rw [e10] at b1 b2
  refine ⟨a, b, h1, h2, by omega, by omega, fun c hc hz => ⟨b, _, h2, hz, .inl ⟨hc, key.2, key.1⟩⟩⟩
/-- A round's state. -/
def Gst (m : Nat) (lp lq p q : List Int) (g h : Int) : Prop := (Ztr p ∧ Ztr q ∧ p.length ≤ 9 ∧ q.length ≤ p.length) ∧ Szp m p q ∧ (g ≠ 0 ∧ h ≠ 0 ∧ Zm g (3363 * (m + 1)) ∧ Zm h (30000 * (m + 1))) ∧ gcdp (zq lp) (zq lq) = gcdp (zq p) (zq q) ∧ (q ≠ [] → SInv g h (zc p) (zc q) (p.length - 1) (q.length - 1))
theorem Gst.start {m : Nat} {p q : List Int} (hp : Ztr p) (hq : Ztr q) (hs : Zl p m) (hs' : Zl q m) (hl : p.length ≤ 9) (hle : q.length ≤ p.length) : Gst m p q p q 1 1 :=
  ⟨⟨hp, hq, hl, hle⟩, ⟨m, m, hs, hs', .inr ⟨hle, Nat.le_refl _, Nat.le_refl _⟩⟩, ⟨by decide, by decide, Zm.one.mono (by omega), Zm.one.mono (by omega)⟩, rfl, fun _ => SInv.start _ _ _ _⟩
theorem over_exact {r : List Int} {K : Int} (hK : K ≠ 0) (hd : ∀ i, K ∣ zc r i) (ht : Ztr r) : Ztr (r.map (· / K)) ∧ ∀ i, zc r i = K * zc (r.map (· / K)) i := by
  have e : ∀ i, zc r i = K * zc (r.map (· / K)) i := fun i => by
    rw [show zc (r.map (· / K)) i = zc r i / K from by
      unfold zc
      rw [List.getElem?_map]
      cases r[i]? <;> simp]
    exact (Int.mul_ediv_cancel' (hd i)).symm
  refine ⟨?_, e⟩
  rcases ht with rfl | ht
  · exact .inl rfl
  · refine .inr fun h => ht ?_
    rw [List.length_map] at h
    rw [e, h]; exact Int.mul_zero _
theorem Zl.over {r : List Int} {K : Int} {a : Nat} (h : Zl r a) : Zl (r.map (· / K)) a := fun i => by
  rw [show zc (r.map (· / K)) i = zc r i / K from by
    unfold zc
    rw [List.getElem?_map]
    cases r[i]? <;> simp]
  exact (h i).le (Int.natAbs_ediv_le_natAbs _ _)
theorem Gst.next {m d a b : Nat} {lp lq p q r : List Int} {g h : Int} (H : Gst m lp lq p q g h) (hd : q.length = d + 1) (hr : Ztr r) (hl : r.length ≤ d)
    (hS : SRed (zc q) (zc q d) (p.length - q.length) (p.length - q.length + 1) (zc p) (zc r)) (hb : Zl q b) (hbm : b + 1 ≤ 3363 * (m + 1)) (hz : Zl r (a + (p.length - q.length + 1) * (b + 1)))
    (hn : ∀ c : List Int, c.length < q.length → Zl c (a + (p.length - q.length + 1) * (b + 1)) → Szp m q c) :
    g * h ^ (p.length - q.length) ≠ 0 ∧ (∀ h', (q.length < p.length → h' = zc q d ^ (p.length - q.length) / h ^ (p.length - q.length - 1)) → (q.length = p.length → h' = h) → Gst m lp lq q (r.map (· / (g * h ^ (p.length - q.length)))) (zc q d) h') := by
  obtain ⟨⟨hp, hq, hl9, hle⟩, _, ⟨hg, hh, hgm, hhm⟩, he, hi⟩ := H
  have h0 : q ≠ [] := by rintro rfl; simp at hd
  have hi := hi h0
  have hd' : d = q.length - 1 := by omega
  have hdv := ig_rest hi hq h0 hle (by rw [hd'] at hS; exact hS) (fun i hi => zc_ge (by omega))
  have hK : g * h ^ (p.length - q.length) ≠ 0 := Int.mul_ne_zero hg (spow_ne hh _)
  obtain ⟨ht, hc⟩ := over_exact hK hdv hr
  have hl0 : zc q d ≠ 0 := by rw [hd']; exact hq.top h0
  refine ⟨hK, fun h' hs1 hs2 => ⟨⟨hq, ht, by omega, by rw [List.length_map]; omega⟩, hn _ (by rw [List.length_map]; omega) hz.over, ?_, ?_, ?_⟩⟩
  · by_cases hlt : q.length < p.length
    · have hsd := ig_scale hi h0 hlt
      rw [← hd'] at hsd
      have e1 : h' * h ^ (p.length - q.length - 1) = zc q d ^ (p.length - q.length) := by rw [hs1 hlt]; exact Int.ediv_mul_cancel hsd
      refine ⟨hl0, scale_ne hl0 (by rw [show p.length - q.length - 1 = (p.length - q.length) - 1 from rfl] at e1; exact e1), (hb d).mono (by omega), ?_⟩
      rw [hs1 hlt]
      have h1 : Zm (zc q d ^ (p.length - q.length) / h ^ (p.length - q.length - 1)) ((p.length - q.length) * b + 1) := ((hb d).pow _).le (Int.natAbs_ediv_le_natAbs _ _)
      refine h1.mono ?_
      have h2 := Nat.mul_le_mul_right b (show p.length - q.length ≤ 8 by omega)
      omega
    · rw [hs2 (by omega)]
      exact ⟨hl0, hh, (hb d).mono (by omega), hhm⟩
  · rw [he]
    exact ig_next hp hq h0 hle hg hh (by rw [hd'] at hS; exact hS) hc ht
  · intro hc0
    have h3 := ig_inv (h' := h') hi hq h0 hle hg hh (by rw [hd'] at hS; exact hS) hc (by rw [List.length_map]; omega) hc0 (fun e => hs2 (by omega)) (fun e => by
      have hsd := ig_scale hi h0 e
      rw [hs1 e, hd']
      exact Int.ediv_mul_cancel hsd)
    rw [← hd'] at h3
    rw [show q.length - 1 = d by omega]
    exact h3
theorem Gst.end {m : Nat} {lp lq p : List Int} {g h : Int} (H : Gst m lp lq p [] g h) : Ztr p ∧ p.length ≤ 9 ∧ mnc (zq p) = gcdp (zq lp) (zq lq) ∧ Zl p (3363 * (m + 1)) := by
  obtain ⟨⟨hp, _, hl9, _⟩, ⟨a, b, h1, _, h3⟩, _, he, _⟩ := H
  refine ⟨hp, hl9, ?_, fun i => (h1 i).mono ?_⟩
  · rw [he]
    exact (gcdp_end hp.trm).symm
  · rcases h3 with ⟨_, h4, _⟩ | ⟨_, h4, _⟩
    · have b1 := Nat.mul_le_mul_right (m + 1) (psA_mono (i := 10 - p.length) (j := 10) (by omega) (by omega))
      have e10 : psA 10 = 3363 := by decide
      rw [e10] at b1
      omega
    · omega
end Go.Proofs.YtokojbgpboccnaaGreat

/-
  PACKAGE poly: Polynomial.Add.
-/
namespace Go.Proofs.YtokojbgpboccnaaGreat
open Go.RowKit
open Num
set_option linter.unusedVariables false
set_option maxRecDepth 100000
set_option linter.unusedSimpArgs false

set_option maxHeartbeats 4000000 in
theorem padd_one {w : World} {v u : Value} {l r : List Rat} {m n : Nat} (h : PN w v l) (h' : PN w u r) (hs : Sml l m) (hs' : Sml r n) (hm : m ≤ 68719476736) (hn : n ≤ 68719476736) (hl : l.length ≤ 1000000) (hle : r.length ≤ l.length) :
    Calls Tryz.prog 36 #[v, u] w fun e w' => ∃ v', e = .returned v' ∧ PN w' v' (addp l r) ∧ Below w.heap.size w w' := by
  obtain ⟨a, c, rfl, hn1, hc1⟩ := h.opened
  obtain ⟨a', c', rfl, hn2, hc2⟩ := h'.opened
  have HP := hid h
  have HP' := hid h'
  have SL := hid hs
  have SR := hid hs'
  have HM := hid hm
  have HM' := hid hn
  have HC := hid (nclone h hl)
  have HK : Hid (addp l r = trimQ (lof l.length fun i => co l i + co r i)) := hid (by rw [addp, Nat.max_eq_left (by omega)])
  obtain ⟨nl, hNL⟩ : ∃ nl, l.length = nl := ⟨_, rfl⟩
  obtain ⟨nr, hNR⟩ : ∃ nr, r.length = nr := ⟨_, rfl⟩
  have NL := hid hNL
  have NR := hid hNR
  rw [hNL] at hn1 hl hle HP HC HK ⊢
  rw [hNR] at hn2 hle HP' ⊢
  clear h h' hs hs' hm hn hNL hNR
  unfold maxLen at hc1 hc2
  go_enter Tryz.func36, Tryz.ntmps36
  go_wp2_with fail
  refine HC.out.mono ?_
  rintro e w1 ⟨v1, rfl, ho, hb⟩
  have B := hid hb
  clear hb HC
  rcases ho with ⟨h0, a1, c1, rfl, hc3⟩ | ⟨b0, c1, rs, rfl, hb0, hrow, hn3, hc3, hw⟩
  · have h00 : nl = 0 := by rw [← NL.out, h0]; rfl
    subst h00
    obtain rfl : nr = 0 := by omega
    have HT := hid (trim_pn (PN.nil w1 (a := a1) hc3))
    unfold maxLen at hc3
    go_wp2_with fail
    go_loopw [19] (fun i wr => i = .int .i64 0 ∧ ∃ j, wr = w1.drewN j) (fun i _ => 0)
    case atStart => exact ⟨rfl, 0, rfl⟩
    case round =>
      obtain ⟨rfl, j, rfl⟩ := hrel
      have HT := hid (trim_pn (PN.nil (w1.drewN j) (a := a1) (c := c1) (by unfold maxLen; omega)))
      have BJ := hid (below_drewN (Below.refl w1.heap.size w1) j)
      go_wp2_with fail
      refine HT.out.mono ?_
      rintro e w2 ⟨rfl, hb⟩
      go_wp2_with fail
      go_ret
      have e0 : addp l r = [] := by rw [HK.out]; rfl
      rw [e0]
      exact ⟨_, rfl, PN.nil w2 (by unfold maxLen; omega), (B.out.trans (BJ.out.mono B.out.size)).trans (hb.mono (B.out.trans (BJ.out.mono B.out.size)).size)⟩
  · rw [NL.out] at hrow hn3 hw ⊢
    have HB := hid hb0
    have ROW := hid hrow
    have HW : Hid (∀ j, j < nl → NF w1 (nag (rs j)) (co l j + if j < 0 then co r j else 0)) := hid (fun j hj => (hw j hj).cast (by rw [if_neg (by omega)]; grind))
    have HC3 := hid hc3
    clear hrow hw hb0
    unfold maxLen at hc3
    go_wp2_with fail
    go_loopw [19] (fun i wr => ∃ (k : Nat) (rs : Nat → Nr), k ≤ nr ∧ i = .int .i64 k ∧ Hid (NRw wr b0 nl rs) ∧ Hid (∀ j, j < nl → NF wr (nag (rs j)) (co l j + if j < k then co r j else 0)) ∧ Hid (Below w.heap.size w wr)) (fun i _ => nr - (intOf i).toNat)
    case atStart => exact ⟨0, rs, by omega, rfl, ROW, HW, B⟩
    case round =>
      clear ROW HW B
      obtain ⟨k, rs, hk, rfl, ROW, HW, B⟩ := hrel
      by_cases hlt : k < nr
      · have hkn : k < nl := by omega
        obtain ⟨b5, s5a, p5a, n5a, c5a, s5b, p5b, n5b, c5b, rfl, hb5, cd5, hq5⟩ := pn_at HP'.out B.out (i := k) (by rw [NR.out]; exact hlt)
        obtain ⟨s6a, p6a, n6a, c6a, s6b, p6b, n6b, c6b, hz6⟩ : ∃ s6a p6a n6a c6a s6b p6b n6b c6b, rs k = ((s6a, p6a, n6a, c6a), (s6b, p6b, n6b, c6b)) := ⟨_, _, _, _, _, _, _, _, rfl⟩
        have hq6 := HW.out k hkn
        rw [hz6, if_neg (by omega)] at hq6
        dsimp only [nag] at hq6
        have HQ := hid hq5
        have HS := hid (hq6.cast (show co l k + 0 = co l k by grind))
        have HN3 := hid hn3
        clear hq5 hq6
        have LB := hid ROW.out.lt
        obtain ⟨hb101, hx102, hs103⟩ := Nbx.made wr s5a s5b (.slice p5a n5a c5a) (.slice p5b n5b c5b)
        replace HQ := nf HQ hb101
        replace HS := nf HS hb101
        replace ROW := rwo ROW hb101
        replace HW := hid (fun q_ hq_ => (HW.out q_ hq_).on hb101)
        replace B := bb B hb101
        have X7 := hid hx102
        clear hb101 hx102
        have cc104 := X7.out.cells
        have cr := ROW.out.cells hkn
        rw [hz6] at cr
        go_wp2_with fail
        generalize hW : wr.alloc (.cells #[.bool s5a, .slice p5a n5a c5a, .bool s5b, .slice p5b n5b c5b] 43) = W105 at *
        clear hW
        clear cr
        have cc106 := X7.out.cells
        replace X7 := hid X7.out.dr
        replace HQ := hid HQ.out.drew
        replace HS := hid HS.out.drew
        replace HW := hid (fun q_ hq_ => (HW.out q_ hq_).drew)
        replace ROW := hid ROW.out.dr
        replace B := hid (Below.drew B.out)
        have cr := ROW.out.cells hkn
        rw [hz6] at cr
        have cc107 := X7.out.cells
        go_region_with (first
          | (go_at_call 23; refine (nadd_f HS.out HQ.out (SL.out.2 k) (SR.out.2 k) HM.out HM'.out).mono ?_; rintro e w109 ⟨v, rfl, hv, hb⟩; obtain ⟨s7a, p7a, n7a, c7a, s7b, p7b, n7b, c7b, rfl⟩ := hv.opened; replace X7 := nx X7 hb; replace HQ := nf HQ hb; replace HS := nf HS hb; replace ROW := rwo ROW hb; replace HW := hid (fun q_ hq_ => (HW.out q_ hq_).on hb); replace B := bb B hb; clear cc104 cc106 cc107; have HV := hid hv; clear hb hv cr; have cc110 := X7.out.cells; have cr := ROW.out.cells hkn; rw [hz6] at cr; have cc111 := ROW.out.stores hkn; replace X7 := hid (X7.out.kept (ROW.out.far k (by have := HB.out; have := LB.out; omega) s7a p7a n7a c7a s7b p7b n7b c7b)); replace HQ := hid (HQ.out.put ROW.out k s7a p7a n7a c7a s7b p7b n7b c7b); replace HS := hid (HS.out.put ROW.out k s7a p7a n7a c7a s7b p7b n7b c7b); replace HV := hid (HV.out.put ROW.out k s7a p7a n7a c7a s7b p7b n7b c7b); replace HW := hid (fun q_ hq_ => (HW.out q_ hq_).put ROW.out k s7a p7a n7a c7a s7b p7b n7b c7b); replace B := hid (ROW.out.below B.out k (by have := HB.out; have := LB.out; omega) s7a p7a n7a c7a s7b p7b n7b c7b); replace ROW := hid (ROW.out.put hkn s7a p7a n7a c7a s7b p7b n7b c7b); have mk108_0 := hid True.intro))
        all_goals
          go_wp2_with fail
          go_roundw
          case rel => exact ⟨k + 1, _, by omega, by go_num, ROW, hid (fun j hj => by
            by_cases hjk : j = k
            · subst hjk; rw [upd_self, if_pos (by omega)]; exact HV.out
            · rw [upd_ne _ _ hjk]; exact (HW.out j hj).cast (by split <;> split <;> first | rfl | omega)), B⟩
          case measure => simp [intOf]; omega
      · obtain rfl : k = nr := by omega
        have HP2 : Hid (PN wr (.slice (some ⟨b0, 0, none⟩) nl c1) (lof nl fun i => co l i + co r i)) := hid (ROW.out.pn (by simp [lof]) hn3 HC3.out (fun i hi => (HW.out i hi).cast (by rw [co_lof, if_pos hi]; split; rfl; rw [co_ge (l := r) (by rw [NR.out]; omega)])))
        go_wp2_with fail
        refine (trim_p HP2.out).mono ?_
        rintro e w2 ⟨v2, rfl, hp, hb⟩
        have HR := hid hp
        have B2 := hid (B.out.trans (hb.mono B.out.size))
        clear hp hb
        go_wp2_with fail
        go_ret
        exact ⟨_, rfl, by rw [HK.out]; exact HR.out, B2.out⟩

set_option maxHeartbeats 4000000 in
theorem padd_swap {w : World} {v u : Value} {l r : List Rat} {m n : Nat} (h : PN w v l) (h' : PN w u r) (hs : Sml l m) (hs' : Sml r n) (hm : m ≤ 68719476736) (hn : n ≤ 68719476736) (hl : l.length ≤ 1000000) (hle : r.length < l.length) :
    Calls Tryz.prog 36 #[u, v] w fun e w' => ∃ v', e = .returned v' ∧ PN w' v' (addp l r) ∧ Below w.heap.size w w' := by
  obtain ⟨a, c, rfl, hn1, hc1⟩ := h.opened
  obtain ⟨a', c', rfl, hn2, hc2⟩ := h'.opened
  have HP := hid h
  have HP' := hid h'
  have SL := hid hs
  have SR := hid hs'
  have HM := hid hm
  have HM' := hid hn
  have HC := hid (nclone h hl)
  have HK : Hid (addp l r = trimQ (lof l.length fun i => co l i + co r i)) := hid (by rw [addp, Nat.max_eq_left (by omega)])
  obtain ⟨nl, hNL⟩ : ∃ nl, l.length = nl := ⟨_, rfl⟩
  obtain ⟨nr, hNR⟩ : ∃ nr, r.length = nr := ⟨_, rfl⟩
  have NL := hid hNL
  have NR := hid hNR
  rw [hNL] at hn1 hl hle HP HC HK ⊢
  rw [hNR] at hn2 hle HP' ⊢
  clear h h' hs hs' hm hn hNL hNR
  unfold maxLen at hc1 hc2
  have hle2 : (nr : Int) < (nl : Int) := by omega
  go_enter Tryz.func36, Tryz.ntmps36
  go_wp2_with fail
  refine HC.out.mono ?_
  rintro e w1 ⟨v1, rfl, ho, hb⟩
  have B := hid hb
  clear hb HC
  rcases ho with ⟨h0, a1, c1, rfl, hc3⟩ | ⟨b0, c1, rs, rfl, hb0, hrow, hn3, hc3, hw⟩
  · have h00 : nl = 0 := by rw [← NL.out, h0]; rfl
    subst h00
    obtain rfl : nr = 0 := by omega
    have HT := hid (trim_pn (PN.nil w1 (a := a1) hc3))
    unfold maxLen at hc3
    go_wp2_with fail
    go_loopw [19] (fun i wr => i = .int .i64 0 ∧ ∃ j, wr = w1.drewN j) (fun i _ => 0)
    case atStart => exact ⟨rfl, 0, rfl⟩
    case round =>
      obtain ⟨rfl, j, rfl⟩ := hrel
      have HT := hid (trim_pn (PN.nil (w1.drewN j) (a := a1) (c := c1) (by unfold maxLen; omega)))
      have BJ := hid (below_drewN (Below.refl w1.heap.size w1) j)
      go_wp2_with fail
      refine HT.out.mono ?_
      rintro e w2 ⟨rfl, hb⟩
      go_wp2_with fail
      go_ret
      have e0 : addp l r = [] := by rw [HK.out]; rfl
      rw [e0]
      exact ⟨_, rfl, PN.nil w2 (by unfold maxLen; omega), (B.out.trans (BJ.out.mono B.out.size)).trans (hb.mono (B.out.trans (BJ.out.mono B.out.size)).size)⟩
  · rw [NL.out] at hrow hn3 hw ⊢
    have HB := hid hb0
    have ROW := hid hrow
    have HW : Hid (∀ j, j < nl → NF w1 (nag (rs j)) (co l j + if j < 0 then co r j else 0)) := hid (fun j hj => (hw j hj).cast (by rw [if_neg (by omega)]; grind))
    have HC3 := hid hc3
    clear hrow hw hb0
    unfold maxLen at hc3
    go_wp2_with fail
    go_loopw [19] (fun i wr => ∃ (k : Nat) (rs : Nat → Nr), k ≤ nr ∧ i = .int .i64 k ∧ Hid (NRw wr b0 nl rs) ∧ Hid (∀ j, j < nl → NF wr (nag (rs j)) (co l j + if j < k then co r j else 0)) ∧ Hid (Below w.heap.size w wr)) (fun i _ => nr - (intOf i).toNat)
    case atStart => exact ⟨0, rs, by omega, rfl, ROW, HW, B⟩
    case round =>
      clear ROW HW B
      obtain ⟨k, rs, hk, rfl, ROW, HW, B⟩ := hrel
      by_cases hlt : k < nr
      · have hkn : k < nl := by omega
        obtain ⟨b5, s5a, p5a, n5a, c5a, s5b, p5b, n5b, c5b, rfl, hb5, cd5, hq5⟩ := pn_at HP'.out B.out (i := k) (by rw [NR.out]; exact hlt)
        obtain ⟨s6a, p6a, n6a, c6a, s6b, p6b, n6b, c6b, hz6⟩ : ∃ s6a p6a n6a c6a s6b p6b n6b c6b, rs k = ((s6a, p6a, n6a, c6a), (s6b, p6b, n6b, c6b)) := ⟨_, _, _, _, _, _, _, _, rfl⟩
        have hq6 := HW.out k hkn
        rw [hz6, if_neg (by omega)] at hq6
        dsimp only [nag] at hq6
        have HQ := hid hq5
        have HS := hid (hq6.cast (show co l k + 0 = co l k by grind))
        have HN3 := hid hn3
        clear hq5 hq6
        have LB := hid ROW.out.lt
        obtain ⟨hb101, hx102, hs103⟩ := Nbx.made wr s5a s5b (.slice p5a n5a c5a) (.slice p5b n5b c5b)
        replace HQ := nf HQ hb101
        replace HS := nf HS hb101
        replace ROW := rwo ROW hb101
        replace HW := hid (fun q_ hq_ => (HW.out q_ hq_).on hb101)
        replace B := bb B hb101
        have X7 := hid hx102
        clear hb101 hx102
        have cc104 := X7.out.cells
        have cr := ROW.out.cells hkn
        rw [hz6] at cr
        go_wp2_with fail
        generalize hW : wr.alloc (.cells #[.bool s5a, .slice p5a n5a c5a, .bool s5b, .slice p5b n5b c5b] 43) = W105 at *
        clear hW
        clear cr
        have cc106 := X7.out.cells
        replace X7 := hid X7.out.dr
        replace HQ := hid HQ.out.drew
        replace HS := hid HS.out.drew
        replace HW := hid (fun q_ hq_ => (HW.out q_ hq_).drew)
        replace ROW := hid ROW.out.dr
        replace B := hid (Below.drew B.out)
        have cr := ROW.out.cells hkn
        rw [hz6] at cr
        have cc107 := X7.out.cells
        go_region_with (first
          | (go_at_call 23; refine (nadd_f HS.out HQ.out (SL.out.2 k) (SR.out.2 k) HM.out HM'.out).mono ?_; rintro e w109 ⟨v, rfl, hv, hb⟩; obtain ⟨s7a, p7a, n7a, c7a, s7b, p7b, n7b, c7b, rfl⟩ := hv.opened; replace X7 := nx X7 hb; replace HQ := nf HQ hb; replace HS := nf HS hb; replace ROW := rwo ROW hb; replace HW := hid (fun q_ hq_ => (HW.out q_ hq_).on hb); replace B := bb B hb; clear cc104 cc106 cc107; have HV := hid hv; clear hb hv cr; have cc110 := X7.out.cells; have cr := ROW.out.cells hkn; rw [hz6] at cr; have cc111 := ROW.out.stores hkn; replace X7 := hid (X7.out.kept (ROW.out.far k (by have := HB.out; have := LB.out; omega) s7a p7a n7a c7a s7b p7b n7b c7b)); replace HQ := hid (HQ.out.put ROW.out k s7a p7a n7a c7a s7b p7b n7b c7b); replace HS := hid (HS.out.put ROW.out k s7a p7a n7a c7a s7b p7b n7b c7b); replace HV := hid (HV.out.put ROW.out k s7a p7a n7a c7a s7b p7b n7b c7b); replace HW := hid (fun q_ hq_ => (HW.out q_ hq_).put ROW.out k s7a p7a n7a c7a s7b p7b n7b c7b); replace B := hid (ROW.out.below B.out k (by have := HB.out; have := LB.out; omega) s7a p7a n7a c7a s7b p7b n7b c7b); replace ROW := hid (ROW.out.put hkn s7a p7a n7a c7a s7b p7b n7b c7b); have mk108_0 := hid True.intro))
        all_goals
          go_wp2_with fail
          go_roundw
          case rel => exact ⟨k + 1, _, by omega, by go_num, ROW, hid (fun j hj => by
            by_cases hjk : j = k
            · subst hjk; rw [upd_self, if_pos (by omega)]; exact HV.out
            · rw [upd_ne _ _ hjk]; exact (HW.out j hj).cast (by split <;> split <;> first | rfl | omega)), B⟩
          case measure => simp [intOf]; omega
      · obtain rfl : k = nr := by omega
        have HP2 : Hid (PN wr (.slice (some ⟨b0, 0, none⟩) nl c1) (lof nl fun i => co l i + co r i)) := hid (ROW.out.pn (by simp [lof]) hn3 HC3.out (fun i hi => (HW.out i hi).cast (by rw [co_lof, if_pos hi]; split; rfl; rw [co_ge (l := r) (by rw [NR.out]; omega)])))
        go_wp2_with fail
        refine (trim_p HP2.out).mono ?_
        rintro e w2 ⟨v2, rfl, hp, hb⟩
        have HR := hid hp
        have B2 := hid (B.out.trans (hb.mono B.out.size))
        clear hp hb
        go_wp2_with fail
        go_ret
        exact ⟨_, rfl, by rw [HK.out]; exact HR.out, B2.out⟩

theorem addp_comm (l r : List Rat) : addp l r = addp r l := trm_ext (trm_addp _ _) (trm_addp _ _) fun i => by rw [co_addp, co_addp]; grind
/-- The sum. -/
theorem padd_p {w : World} {v u : Value} {l r : List Rat} {m n : Nat} (h : PN w v l) (h' : PN w u r) (hs : Sml l m) (hs' : Sml r n) (hm : m ≤ 68719476736) (hn : n ≤ 68719476736) (hl : l.length ≤ 1000000) (hr : r.length ≤ 1000000) :
    Calls Tryz.prog 36 #[v, u] w fun e w' => ∃ v', e = .returned v' ∧ PN w' v' (addp l r) ∧ Below w.heap.size w w' := by
  by_cases hle : r.length ≤ l.length
  · exact padd_one h h' hs hs' hm hn hl hle
  · rw [addp_comm]
    exact padd_swap h' h hs' hs hn hm hr (by omega)

end Go.Proofs.YtokojbgpboccnaaGreat

/-
  PACKAGE pgcd: MonicOf.
-/
namespace Go.Proofs.YtokojbgpboccnaaGreat
open Go.RowKit
open Num
set_option linter.unusedVariables false
set_option maxRecDepth 100000
set_option linter.unusedSimpArgs false

set_option maxHeartbeats 4000000 in
theorem padd_own {w : World} {v u : Value} {l r : List Rat} {m n : Nat} (h : PN w v l) (h' : PN w u r) (hs : Sml l m) (hs' : Sml r n) (hm : m ≤ 68719476736) (hn : n ≤ 68719476736) (hl : l.length ≤ 1000000) (hle : r.length ≤ l.length) :
    Calls Tryz.prog 36 #[v, u] w fun e w' => ∃ v', e = .returned v' ∧ OwnN w' w.heap.size v' (addp l r) ∧ Below w.heap.size w w' := by
  obtain ⟨a, c, rfl, hn1, hc1⟩ := h.opened
  obtain ⟨a', c', rfl, hn2, hc2⟩ := h'.opened
  have HP := hid h
  have HP' := hid h'
  have SL := hid hs
  have SR := hid hs'
  have HM := hid hm
  have HM' := hid hn
  have HC := hid (nclone h hl)
  have HK : Hid (addp l r = trimQ (lof l.length fun i => co l i + co r i)) := hid (by rw [addp, Nat.max_eq_left (by omega)])
  obtain ⟨nl, hNL⟩ : ∃ nl, l.length = nl := ⟨_, rfl⟩
  obtain ⟨nr, hNR⟩ : ∃ nr, r.length = nr := ⟨_, rfl⟩
  have NL := hid hNL
  have NR := hid hNR
  rw [hNL] at hn1 hl hle HP HC HK ⊢
  rw [hNR] at hn2 hle HP' ⊢
  clear h h' hs hs' hm hn hNL hNR
  unfold maxLen at hc1 hc2
  go_enter Tryz.func36, Tryz.ntmps36
  go_wp2_with fail
  refine HC.out.mono ?_
  rintro e w1 ⟨v1, rfl, ho, hb⟩
  have B := hid hb
  clear hb HC
  rcases ho with ⟨h0, a1, c1, rfl, hc3⟩ | ⟨b0, c1, rs, rfl, hb0, hrow, hn3, hc3, hw⟩
  · have h00 : nl = 0 := by rw [← NL.out, h0]; rfl
    subst h00
    obtain rfl : nr = 0 := by omega
    have HT := hid (trim_pn (PN.nil w1 (a := a1) hc3))
    unfold maxLen at hc3
    go_wp2_with fail
    go_loopw [19] (fun i wr => i = .int .i64 0 ∧ ∃ j, wr = w1.drewN j) (fun i _ => 0)
    case atStart => exact ⟨rfl, 0, rfl⟩
    case round =>
      obtain ⟨rfl, j, rfl⟩ := hrel
      have HT := hid (trim_pn (PN.nil (w1.drewN j) (a := a1) (c := c1) (by unfold maxLen; omega)))
      have BJ := hid (below_drewN (Below.refl w1.heap.size w1) j)
      go_wp2_with fail
      refine HT.out.mono ?_
      rintro e w2 ⟨rfl, hb⟩
      go_wp2_with fail
      go_ret
      have e0 : addp l r = [] := by rw [HK.out]; rfl
      rw [e0]
      exact ⟨_, rfl, .inl ⟨rfl, _, _, rfl, by unfold maxLen; omega⟩, (B.out.trans (BJ.out.mono B.out.size)).trans (hb.mono (B.out.trans (BJ.out.mono B.out.size)).size)⟩
  · rw [NL.out] at hrow hn3 hw ⊢
    have HB := hid hb0
    have ROW := hid hrow
    have HW : Hid (∀ j, j < nl → NF w1 (nag (rs j)) (co l j + if j < 0 then co r j else 0)) := hid (fun j hj => (hw j hj).cast (by rw [if_neg (by omega)]; grind))
    have HC3 := hid hc3
    clear hrow hw hb0
    unfold maxLen at hc3
    go_wp2_with fail
    go_loopw [19] (fun i wr => ∃ (k : Nat) (rs : Nat → Nr), k ≤ nr ∧ i = .int .i64 k ∧ Hid (NRw wr b0 nl rs) ∧ Hid (∀ j, j < nl → NF wr (nag (rs j)) (co l j + if j < k then co r j else 0)) ∧ Hid (Below w.heap.size w wr)) (fun i _ => nr - (intOf i).toNat)
    case atStart => exact ⟨0, rs, by omega, rfl, ROW, HW, B⟩
    case round =>
      clear ROW HW B
      obtain ⟨k, rs, hk, rfl, ROW, HW, B⟩ := hrel
      by_cases hlt : k < nr
      · have hkn : k < nl := by omega
        obtain ⟨b5, s5a, p5a, n5a, c5a, s5b, p5b, n5b, c5b, rfl, hb5, cd5, hq5⟩ := pn_at HP'.out B.out (i := k) (by rw [NR.out]; exact hlt)
        obtain ⟨s6a, p6a, n6a, c6a, s6b, p6b, n6b, c6b, hz6⟩ : ∃ s6a p6a n6a c6a s6b p6b n6b c6b, rs k = ((s6a, p6a, n6a, c6a), (s6b, p6b, n6b, c6b)) := ⟨_, _, _, _, _, _, _, _, rfl⟩
        have hq6 := HW.out k hkn
        rw [hz6, if_neg (by omega)] at hq6
        dsimp only [nag] at hq6
        have HQ := hid hq5
        have HS := hid (hq6.cast (show co l k + 0 = co l k by grind))
        have HN3 := hid hn3
        clear hq5 hq6
        have LB := hid ROW.out.lt
        obtain ⟨hb101, hx102, hs103⟩ := Nbx.made wr s5a s5b (.slice p5a n5a c5a) (.slice p5b n5b c5b)
        replace HQ := nf HQ hb101
        replace HS := nf HS hb101
        replace ROW := rwo ROW hb101
        replace HW := hid (fun q_ hq_ => (HW.out q_ hq_).on hb101)
        replace B := bb B hb101
        have X7 := hid hx102
        clear hb101 hx102
        have cc104 := X7.out.cells
        have cr := ROW.out.cells hkn
        rw [hz6] at cr
        go_wp2_with fail
        generalize hW : wr.alloc (.cells #[.bool s5a, .slice p5a n5a c5a, .bool s5b, .slice p5b n5b c5b] 43) = W105 at *
        clear hW
        clear cr
        have cc106 := X7.out.cells
        replace X7 := hid X7.out.dr
        replace HQ := hid HQ.out.drew
        replace HS := hid HS.out.drew
        replace HW := hid (fun q_ hq_ => (HW.out q_ hq_).drew)
        replace ROW := hid ROW.out.dr
        replace B := hid (Below.drew B.out)
        have cr := ROW.out.cells hkn
        rw [hz6] at cr
        have cc107 := X7.out.cells
        go_region_with (first
          | (go_at_call 23; refine (nadd_f HS.out HQ.out (SL.out.2 k) (SR.out.2 k) HM.out HM'.out).mono ?_; rintro e w109 ⟨v, rfl, hv, hb⟩; obtain ⟨s7a, p7a, n7a, c7a, s7b, p7b, n7b, c7b, rfl⟩ := hv.opened; replace X7 := nx X7 hb; replace HQ := nf HQ hb; replace HS := nf HS hb; replace ROW := rwo ROW hb; replace HW := hid (fun q_ hq_ => (HW.out q_ hq_).on hb); replace B := bb B hb; clear cc104 cc106 cc107; have HV := hid hv; clear hb hv cr; have cc110 := X7.out.cells; have cr := ROW.out.cells hkn; rw [hz6] at cr; have cc111 := ROW.out.stores hkn; replace X7 := hid (X7.out.kept (ROW.out.far k (by have := HB.out; have := LB.out; omega) s7a p7a n7a c7a s7b p7b n7b c7b)); replace HQ := hid (HQ.out.put ROW.out k s7a p7a n7a c7a s7b p7b n7b c7b); replace HS := hid (HS.out.put ROW.out k s7a p7a n7a c7a s7b p7b n7b c7b); replace HV := hid (HV.out.put ROW.out k s7a p7a n7a c7a s7b p7b n7b c7b); replace HW := hid (fun q_ hq_ => (HW.out q_ hq_).put ROW.out k s7a p7a n7a c7a s7b p7b n7b c7b); replace B := hid (ROW.out.below B.out k (by have := HB.out; have := LB.out; omega) s7a p7a n7a c7a s7b p7b n7b c7b); replace ROW := hid (ROW.out.put hkn s7a p7a n7a c7a s7b p7b n7b c7b); have mk108_0 := hid True.intro))
        all_goals
          go_wp2_with fail
          go_roundw
          case rel => exact ⟨k + 1, _, by omega, by go_num, ROW, hid (fun j hj => by
            by_cases hjk : j = k
            · subst hjk; rw [upd_self, if_pos (by omega)]; exact HV.out
            · rw [upd_ne _ _ hjk]; exact (HW.out j hj).cast (by split <;> split <;> first | rfl | omega)), B⟩
          case measure => simp [intOf]; omega
      · obtain rfl : k = nr := by omega
        have HP2 : Hid (PN wr (.slice (some ⟨b0, 0, none⟩) nl c1) (lof nl fun i => co l i + co r i)) := hid (ROW.out.pn (by simp [lof]) hn3 HC3.out (fun i hi => (HW.out i hi).cast (by rw [co_lof, if_pos hi]; split; rfl; rw [co_ge (l := r) (by rw [NR.out]; omega)])))
        go_wp2_with fail
        refine (trim_pn HP2.out).mono ?_
        rintro e w2 ⟨rfl, hb⟩
        replace ROW := rwo ROW hb
        replace HW : Hid (∀ j, j < nl → NF w2 (nag (rs j)) (co l j + if j < k then co r j else 0)) := hid (fun j hj => (HW.out j hj).on hb)
        have B2 := hid (B.out.trans (hb.mono B.out.size))
        have HLE := hid (show (trimQ (lof nl fun i => co l i + co r i)).length ≤ nl from Nat.le_trans (trim_len _) (by simp [lof]))
        clear hb
        go_wp2_with fail
        go_ret
        refine ⟨_, rfl, ?_, B2.out⟩
        rw [HK.out]
        refine .inr ⟨b0, c1, rs, rfl, HB.out, ROW.out.less HLE.out, Nat.le_trans HLE.out hn3, by unfold maxLen; omega, fun i hi => ?_⟩
        have hi2 : i < nl := Nat.lt_of_lt_of_le hi HLE.out
        rw [co_trim, co_lof, if_pos hi2]
        exact (HW.out i hi2).cast (by split; rfl; rw [co_ge (l := r) (by rw [NR.out]; omega)])

def dvi (l : List Rat) (c : Rat) (i t : Nat) : Rat := if t < i then co l t / c else co l t
theorem addp_nil {l : List Rat} (h : Trm l) : addp l [] = l := trm_ext (trm_addp _ _) h fun i => by rw [co_addp, co_nil]; grind
set_option maxHeartbeats 4000000 in
/-- With 1 at its end. -/
theorem monicof_p {w : World} {v : Value} {l : List Rat} {m : Nat} (h : PN w v l) (ht : Trm l) (hs : Cml l m) (hm : m ≤ 68719476736) (hl : l.length ≤ 9) :
    Calls Tryz.prog 52 #[v] w fun e w' => ∃ v', e = .returned v' ∧ PN w' v' (mnc l) ∧ Below w.heap.size w w' := by
  have HC := padd_own (r := []) (u := .slice none 0 0) h (PN.nil w (by decide)) hs.sml (Sml.nil (m := 1) (by omega)) hm (by decide) (by omega) (by simp)
  rw [addp_nil ht] at HC
  have HC := hid HC
  have SL := hid hs.sml
  have HM := hid hm
  obtain ⟨a, c, rfl, hn, hc⟩ := h.opened
  by_cases hl0 : l = []
  · subst hl0
    clear h ht hs hm hl
    go_enter Tryz.func52, Tryz.ntmps52
    go_wp2_with fail
    refine HC.out.mono ?_
    rintro e w1 ⟨v1, rfl, ho, hb⟩
    have B := hid hb
    rcases ho with ⟨_, a1, c1, rfl, hc3⟩ | ⟨b0, c1, rs, rfl, hb0, hrow, hn3, hc3, hw⟩
    · clear hb
      go_wp2_with fail
      go_ret
      exact ⟨_, rfl, PN.nil _ (by decide), B.out⟩
    · clear hb hrow hw
      go_wp2_with fail
      go_ret
      exact ⟨_, rfl, PN.nil _ (by decide), B.out⟩
  · obtain ⟨d, hd⟩ : ∃ d, l.length = d + 1 := ⟨l.length - 1, by have := List.length_pos_iff.2 hl0; omega⟩
    have HD := hid hd
    have H0 : Hid (co l d ≠ 0) := hid (by have := trm_last ht hl0; rwa [hd] at this)
    have HTR := hid ht
    have HL0 := hid hl0
    rw [hd] at hn hl ⊢
    rw [hd] at HC
    have hd0 : (0 : Int) ≤ (d : Int) := by omega
    have hd1 : (d : Int) < (d : Int) + 1 := by omega
    have hz0 : ((d : Int) + 1 == 0) = false := by rw [beq_eq_false_iff_ne]; omega
    clear h ht hs hm hl0 hd
    go_enter Tryz.func52, Tryz.ntmps52
    go_wp2_with fail
    refine HC.out.mono ?_
    rintro e w1 ⟨v1, rfl, ho, hb⟩
    have B := hid hb
    rcases ho with ⟨h00, _⟩ | ⟨b0, c1, rs, rfl, hb0, hrow, hn3, hc3, hw⟩
    · exact absurd h00 HL0.out
    rw [HD.out] at hrow hn3 hw ⊢
    have ROW := hid hrow
    have HB := hid hb0
    have HW := hid hw
    unfold maxLen at hc3
    clear hrow hb0 hw hb HC
    obtain ⟨s4a, p4a, n4a, c4a, s4b, p4b, n4b, c4b, hz4⟩ : ∃ s4a p4a n4a c4a s4b p4b n4b c4b, rs d = ((s4a, p4a, n4a, c4a), (s4b, p4b, n4b, c4b)) := ⟨_, _, _, _, _, _, _, _, rfl⟩
    have hr4 := HW.out d (by omega)
    rw [hz4] at hr4
    dsimp only [nag] at hr4
    have HT := hid hr4
    clear hr4
    have LB := hid ROW.out.lt
    have cr := ROW.out.cells (show d < d + 1 by omega)
    rw [hz4] at cr
    obtain ⟨hb11, hx12, hs13⟩ := Nbx.made w1 s4a s4b (.slice p4a n4a c4a) (.slice p4b n4b c4b)
    replace HT := nf HT hb11
    replace ROW := rwo ROW hb11
    replace HW := hid (fun q_ hq_ => (HW.out q_ hq_).on hb11)
    replace B := bb B hb11
    have X4 := hid hx12
    clear hb11 hx12
    have cc14 := X4.out.cells
    go_wp2_with fail
    generalize hW : w1.alloc (.cells #[.bool s4a, .slice p4a n4a c4a, .bool s4b, .slice p4b n4b c4b] 43) = W15 at *
    clear hW
    obtain ⟨g4, hg4⟩ : ∃ g4, g4 = w1.heap.size := ⟨_, rfl⟩
    rw [← hg4] at X4 LB ⊢
    have L04 := LB
    clear hg4 LB cr cc14
    go_loopw [20] (fun x wr => ∃ (i : Nat) (rs : Nat → Nr), i ≤ d + 1 ∧ x = .int .i64 i ∧ Hid (NRw wr b0 (d + 1) rs) ∧ Hid (∀ t, t < d + 1 → NF wr (nag (rs t)) (dvi l (co l d) i t)) ∧ Hid (Nbx wr g4 s4a (.slice p4a n4a c4a) s4b (.slice p4b n4b c4b)) ∧ Hid (NF wr (.agg #[.bool s4a, .slice p4a n4a c4a, .bool s4b, .slice p4b n4b c4b]) (co l d)) ∧ Hid (Below w.heap.size w wr)) (fun x _ => d + 1 - (intOf x).toNat)
    case atStart => exact ⟨0, rs, by omega, rfl, ROW, hid (fun t ht => (HW.out t ht).cast (if_neg (by omega)).symm), X4, HT, B⟩
    case round =>
      clear ROW HW X4 HT B
      obtain ⟨i, rs, hi, rfl, ROW, HW, X4, HT, B⟩ := hrel
      by_cases hlt : i < d + 1
      · obtain ⟨s5a, p5a, n5a, c5a, s5b, p5b, n5b, c5b, hz5⟩ : ∃ s5a p5a n5a c5a s5b p5b n5b c5b, rs i = ((s5a, p5a, n5a, c5a), (s5b, p5b, n5b, c5b)) := ⟨_, _, _, _, _, _, _, _, rfl⟩
        have hq5 := HW.out i hlt
        rw [hz5, dvi, if_neg (by omega)] at hq5
        dsimp only [nag] at hq5
        have HQ := hid hq5
        clear hq5
        have L44 := hid X4.out.lt
        have cr := ROW.out.cells hlt
        rw [hz5] at cr
        obtain ⟨hb201, hx202, hs203⟩ := Nbx.made wr s5a s5b (.slice p5a n5a c5a) (.slice p5b n5b c5b)
        have L3 := hid X4.out.lt
        replace X4 := nx X4 hb201
        replace HT := nf HT hb201
        replace HQ := nf HQ hb201
        replace ROW := rwo ROW hb201
        replace HW := hid (fun q_ hq_ => (HW.out q_ hq_).on hb201)
        replace B := bb B hb201
        have X6 := hid hx202
        clear hb201 hx202
        have cc204 := X4.out.cells
        have cc205 := X6.out.cells
        go_wp2_with fail
        refine (ndiv_f HQ.out HT.out (SL.out.2 i) (SL.out.2 d) H0.out HM.out HM.out).mono ?_
        rintro e w206 ⟨v, rfl, hv, hb⟩
        obtain ⟨s8a, p8a, n8a, c8a, s8b, p8b, n8b, c8b, rfl⟩ := hv.opened
        replace X4 := nx X4 hb
        replace X6 := nx X6 hb
        replace HT := nf HT hb
        replace HQ := nf HQ hb
        replace ROW := rwo ROW hb
        replace HW := hid (fun q_ hq_ => (HW.out q_ hq_).on hb)
        replace B := bb B hb
        clear cc204 cc205
        have HX := hid hv
        clear hb hv cr
        have cc207 := ROW.out.stores hlt
        replace X4 := hid (X4.out.kept (ROW.out.far i (by have := HB.out; have := L04.out; have := L44.out; have := L3.out; omega) s8a p8a n8a c8a s8b p8b n8b c8b))
        replace X6 := hid (X6.out.kept (ROW.out.far i (by have := HB.out; have := L04.out; have := L44.out; have := L3.out; omega) s8a p8a n8a c8a s8b p8b n8b c8b))
        replace HT := hid (HT.out.put ROW.out i s8a p8a n8a c8a s8b p8b n8b c8b)
        replace HQ := hid (HQ.out.put ROW.out i s8a p8a n8a c8a s8b p8b n8b c8b)
        replace HX := hid (HX.out.put ROW.out i s8a p8a n8a c8a s8b p8b n8b c8b)
        replace HW := hid (fun q_ hq_ => (HW.out q_ hq_).put ROW.out i s8a p8a n8a c8a s8b p8b n8b c8b)
        replace B := hid (ROW.out.below B.out i (by have := HB.out; have := L04.out; have := L44.out; have := L3.out; omega) s8a p8a n8a c8a s8b p8b n8b c8b)
        replace ROW := hid (ROW.out.put hlt s8a p8a n8a c8a s8b p8b n8b c8b)
        go_wp2_with fail
        go_roundw
        case rel => exact ⟨i + 1, _, by omega, by go_num, ROW, hid (fun t ht => by
            by_cases e : t = i
            · subst e; rw [upd_self, dvi, if_pos (by omega)]; exact HX.out
            · rw [upd_ne _ _ e]; exact (HW.out t ht).cast (by unfold dvi; by_cases h : t < i; rw [if_pos h, if_pos (by omega)]; rw [if_neg h, if_neg (by omega)])), X4, HT, B⟩
        case measure => simp [intOf]; omega
      · obtain rfl : i = d + 1 := by omega
        have HP2 : Hid (PN wr (.slice (some ⟨b0, 0, none⟩) (d + 1) c1) (mnc l)) := hid (ROW.out.pn (by rw [mnc_len HTR.out HL0.out]; exact HD.out) hn3 (by unfold maxLen; omega) (fun t ht => (HW.out t ht).cast (by
          rw [dvi, if_pos ht, co_mnc, top, HD.out, Nat.add_sub_cancel, Rat.div_def, Rat.div_def]; grind)))
        go_wp2_with fail
        go_ret
        exact ⟨_, rfl, HP2.out, B.out⟩

end Go.Proofs.YtokojbgpboccnaaGreat

/-
  PACKAGE poly: what goes into all coefficients. Nothing of a walk but Parts.
-/
namespace Go.Proofs.YtokojbgpboccnaaGreat
open Go.RowKit
open Num
set_option linter.unusedVariables false
set_option maxRecDepth 100000
set_option linter.unusedSimpArgs false

theorem den_dvd {q : Rat} {D z : Int} (e : q * (D : Rat) = (z : Rat)) : (q.den : Int) ∣ D := by
  have h1 : q * ((q.den : Int) : Rat) = (q.num : Rat) := by
    have h2 := Rat.num_divInt_den q
    have h3 : ((q.den : Int) : Rat) ≠ 0 := int_ne (by have := q.den_pos; omega)
    rw [Rat.divInt_eq_div] at h2
    have h4 : (q.num : Rat) / ((q.den : Int) : Rat) * ((q.den : Int) : Rat) = (q.num : Rat) := Rat.div_mul_cancel h3
    rw [h2] at h4
    exact h4
  have h2 : ((q.num * D : Int) : Rat) = ((z * q.den : Int) : Rat) := by
    rw [Rat.intCast_mul, Rat.intCast_mul, ← h1, ← e]; grind
  have h3 : q.num * D = z * q.den := by exact_mod_cast h2
  have h4 : q.den ∣ q.num.natAbs * D.natAbs := by
    rw [← Int.natAbs_mul, h3, Int.natAbs_mul]
    exact Nat.dvd_mul_left _ _
  exact Int.ofNat_dvd_left.2 (Nat.Coprime.dvd_of_dvd_mul_left q.reduced.symm h4)
theorem lcm_parts {M y : Int} (hM : M ≠ 0) (hy : y ≠ 0) : ((Int.gcd M y : Nat) : Int) ≠ 0 ∧ M * (y / (Int.gcd M y : Nat)) ≠ 0 ∧ y ∣ M * (y / (Int.gcd M y : Nat)) ∧ ∀ D, M ∣ D → y ∣ D → M * (y / (Int.gcd M y : Nat)) ∣ D := by
  have hg : Int.gcd M y ≠ 0 := fun e => hM (Int.gcd_eq_zero_iff.1 e).1
  have hgi : ((Int.gcd M y : Nat) : Int) ≠ 0 := by omega
  obtain ⟨a, ha⟩ := Int.gcd_dvd_left M y
  obtain ⟨b, hb⟩ := Int.gcd_dvd_right M y
  have hyb : y / (Int.gcd M y : Nat) = b := by
    rw [show y / ((Int.gcd M y : Nat) : Int) = (((Int.gcd M y : Nat) : Int) * b) / ((Int.gcd M y : Nat) : Int) by rw [← hb]]
    exact Int.mul_ediv_cancel_left b hgi
  have hb0 : b ≠ 0 := by rintro rfl; exact hy (by rw [hb]; omega)
  rw [hyb]
  refine ⟨hgi, Int.mul_ne_zero hM hb0, ⟨a, ?_⟩, fun D h1 h2 => ?_⟩
  · generalize ((Int.gcd M y : Nat) : Int) = g at *
    rw [ha, hb]; grind
  · have h3 : Nat.lcm M.natAbs y.natAbs ∣ D.natAbs := Nat.lcm_dvd (Int.natAbs_dvd_natAbs.2 h1) (Int.natAbs_dvd_natAbs.2 h2)
    have h4 : (M * b).natAbs = Nat.lcm M.natAbs y.natAbs := by
      have h5 : y.natAbs = Int.gcd M y * b.natAbs := by
        have := congrArg Int.natAbs hb
        rwa [Int.natAbs_mul, Int.natAbs_natCast] at this
      have h6 : Nat.gcd M.natAbs y.natAbs * Nat.lcm M.natAbs y.natAbs = M.natAbs * y.natAbs := Nat.gcd_mul_lcm _ _
      have h7 : Nat.gcd M.natAbs y.natAbs = Int.gcd M y := rfl
      rw [h7] at h6
      have h8 : Int.gcd M y * Nat.lcm M.natAbs y.natAbs = Int.gcd M y * (M * b).natAbs := by
        rw [h6, Int.natAbs_mul, h5]; grind
      exact (Nat.eq_of_mul_eq_mul_left (by omega) h8).symm
    exact Int.natAbs_dvd_natAbs.1 (by rw [h4]; exact h3)
theorem dvd_le {M D : Int} (h : M ∣ D) (hD : D ≠ 0) : M.natAbs ≤ D.natAbs := Nat.le_of_dvd (by omega) (Int.natAbs_dvd_natAbs.2 h)
/-- A coefficient, times what goes into the denominator of all. -/
theorem clr_co {q : Rat} {M : Int} (h : (q.den : Int) ∣ M) : ((q.num * (M / q.den) : Int) : Rat) = q * (M : Rat) := by
  have h1 : q * ((q.den : Int) : Rat) = (q.num : Rat) := by
    have h2 := Rat.num_divInt_den q
    have h3 : ((q.den : Int) : Rat) ≠ 0 := int_ne (by have := q.den_pos; omega)
    rw [Rat.divInt_eq_div] at h2
    have h4 : (q.num : Rat) / ((q.den : Int) : Rat) * ((q.den : Int) : Rat) = (q.num : Rat) := Rat.div_mul_cancel h3
    rw [h2] at h4
    exact h4
  obtain ⟨y, hy⟩ := h
  have h2 : M / (q.den : Int) = y := by rw [hy]; exact Int.mul_ediv_cancel_left y (by have := q.den_pos; omega)
  rw [h2, hy, Rat.intCast_mul, Rat.intCast_mul, ← h1]; grind
theorem clr_zm {q : Rat} {M D z : Int} {m : Nat} (h : (q.den : Int) ∣ M) (hM : M ∣ D) (hD : D ≠ 0) (e : q * (D : Rat) = (z : Rat)) (hz : Zm z m) : Zm (q.num * (M / q.den)) m := by
  obtain ⟨y, hy⟩ := hM
  have h1 := clr_co h
  generalize q.num * (M / q.den) = N at *
  have h2 : ((N * y : Int) : Rat) = (z : Rat) := by
    rw [Rat.intCast_mul, h1, ← e, hy, Rat.intCast_mul]; grind
  have h3 : N * y = z := by exact_mod_cast h2
  have h4 : y ≠ 0 := by rintro rfl; exact hD (by rw [hy]; omega)
  refine hz.le ?_
  rw [← h3, Int.natAbs_mul]
  exact Nat.le_mul_of_pos_right _ (by omega)
theorem nparts_f {w : World} {v : Value} {q : Rat} {m : Nat} (h : NF w v q) (hs : Sm q m) :
    Calls Tryz.prog 37 #[v] w fun e w' => ∃ v u, e = .returned (.tuple #[v, u]) ∧ ZF w' v q.num ∧ ZF w' u q.den ∧ Below w.heap.size w w' := by
  refine (parts_rtl (h.sm hs) hs.pos).mono ?_
  rintro e w' ⟨v, u, rfl, hv, hu, hb⟩
  exact ⟨v, u, rfl, hv.zf, hu.zf, hb⟩
/-- What goes into all so far, and one more. -/
theorem gcd_more {G x : Int} {m : Nat} (hG : Zm G m) (hx : Zm x m) : 0 ≤ ((Int.gcd G x : Nat) : Int) ∧ ((Int.gcd G x : Nat) : Int) ∣ G ∧ ((Int.gcd G x : Nat) : Int) ∣ x ∧ (((Int.gcd G x : Nat) : Int) = 0 → G = 0 ∧ x = 0) ∧ Zm ((Int.gcd G x : Nat) : Int) m := by
  have h0 : ((Int.gcd G x : Nat) : Int) = 0 → G = 0 ∧ x = 0 := fun e => Int.gcd_eq_zero_iff.1 (by omega)
  refine ⟨by omega, Int.gcd_dvd_left G x, Int.gcd_dvd_right G x, h0, ?_⟩
  by_cases e : G = 0
  · by_cases e2 : x = 0
    · rw [e, e2]; show (0 : Nat) < _; exact Nat.pow_pos (by decide)
    · exact hx.le (dvd_le (Int.gcd_dvd_right G x) e2)
  · exact hG.le (dvd_le (Int.gcd_dvd_left G x) e)
/-- A coefficient without a denominator, and without what goes into all. -/
def prq (M G : Int) (q : Rat) : Int := q.num / G * (M / q.den)
theorem prq_co {q : Rat} {M G : Int} (hG : G ≠ 0) (h : G ∣ q.num) (hd : (q.den : Int) ∣ M) : ((prq M G q : Int) : Rat) = q * ((M : Rat) / (G : Rat)) := by
  obtain ⟨y, hy⟩ := h
  have h1 := clr_co hd
  have h2 : q.num / G = y := by rw [hy]; exact Int.mul_ediv_cancel_left y hG
  have hg : (G : Rat) ≠ 0 := int_ne hG
  unfold prq
  rw [h2]
  have h3 : ((q.num * (M / q.den) : Int) : Rat) = (G : Rat) * ((y * (M / q.den) : Int) : Rat) := by rw [hy, ← Rat.intCast_mul, Int.mul_assoc]
  rw [h3] at h1
  have h4 : (G : Rat) * ((y * (M / q.den) : Int) : Rat) / (G : Rat) = q * (M : Rat) / (G : Rat) := by rw [h1]
  rw [← Rat.div_mul_cancel (b := (G : Rat)) (a := ((y * (M / q.den) : Int) : Rat)) hg, Rat.div_def]
  have h5 := Rat.mul_inv_cancel _ hg
  rw [Rat.div_def] at h4 ⊢
  rw [Rat.div_def] at h4
  grind
theorem prq_zm {q : Rat} {M G : Int} {m : Nat} (hz : Zm (q.num * (M / q.den)) m) : Zm (prq M G q) m := by
  refine hz.le ?_
  unfold prq
  rw [Int.natAbs_mul, Int.natAbs_mul]
  exact Nat.mul_le_mul_right _ (Int.natAbs_ediv_le_natAbs _ _)
theorem pos_part {M y : Int} (hM : 0 < M) (hy : 0 < y) : 0 < M * (y / (Int.gcd M y : Nat)) := by
  obtain ⟨b, hb⟩ := Int.gcd_dvd_right M y
  have hg : 0 < ((Int.gcd M y : Nat) : Int) := by
    have : Int.gcd M y ≠ 0 := fun e => by have := (Int.gcd_eq_zero_iff.1 e).1; omega
    omega
  have hyb : y / (Int.gcd M y : Nat) = b := by
    rw [show y / ((Int.gcd M y : Nat) : Int) = (((Int.gcd M y : Nat) : Int) * b) / ((Int.gcd M y : Nat) : Int) by rw [← hb]]
    exact Int.mul_ediv_cancel_left b (by omega)
  rw [hyb]
  have hb0 : 0 < b := by
    rcases Int.lt_trichotomy b 0 with h | h | h
    · have := Int.mul_neg_of_pos_of_neg hg h; omega
    · rw [h, Int.mul_zero] at hb; omega
    · exact h
  exact Int.mul_pos hM hb0


end Go.Proofs.YtokojbgpboccnaaGreat

/-
  PACKAGE poly: divided.
-/
namespace Go.Proofs.YtokojbgpboccnaaGreat
open Go.RowKit
open Num
set_option linter.unusedVariables false
set_option maxRecDepth 100000
set_option linter.unusedSimpArgs false

set_option maxHeartbeats 1000000 in
/-- How often one goes into another one. -/
theorem pdivd_f {w : World} {v u : Value} {z y : Int} {m n : Nat} (h : ZF w v z) (h' : ZF w u y) (h0 : y ≠ 0) (hz : Zm z m) (hy : Zm y n) (hm : m ≤ 68719476736) (hn : n ≤ 68719476736) :
    Calls Tryz.prog 55 #[v, u] w fun e w' => ∃ v, e = .returned v ∧ ZF w' v (z / y) ∧ Below w.heap.size w w' := by
  obtain ⟨s1, p1, n1, c1, rfl⟩ := h.opened
  obtain ⟨s2, p2, n2, c2, rfl⟩ := h'.opened
  have H0 := hid h0
  have HZ := hid hz
  have HY := hid hy
  have HM := hid hm
  have HN := hid hn
  have HA := hid h
  have HB := hid h'
  have B := hid (Below.refl w.heap.size w)
  obtain ⟨hb1, hx2, hs3⟩ := Box.made w s1 p1 n1 c1
  replace HA := zf HA hb1
  replace HB := zf HB hb1
  replace B := bb B hb1
  have X1 := hid hx2
  clear hb1 hx2
  obtain ⟨hb4, hx5, hs6⟩ := Box.made (w.alloc (.cells #[.bool s1, .slice p1 n1 c1] 41)) s2 p2 n2 c2
  rw [hs3] at hx5 hs6
  replace X1 := bx X1 hb4
  replace HA := zf HA hb4
  replace HB := zf HB hb4
  replace B := bb B hb4
  have X2 := hid hx5
  clear hb4 hx5
  obtain ⟨hb7, hx8, hs9⟩ := Box.made ((w.alloc (.cells #[.bool s1, .slice p1 n1 c1] 41)).alloc (.cells #[.bool s2, .slice p2 n2 c2] 41)) false none 0 0
  rw [hs6] at hx8 hs9
  replace X1 := bx X1 hb7
  replace X2 := bx X2 hb7
  replace HA := zf HA hb7
  replace HB := zf HB hb7
  replace B := bb B hb7
  have XQ := hid hx8
  clear hb7 hx8
  clear hs9 h h' h0 hz hy hm hn
  go_enter Tryz.func55, Tryz.ntmps55
  have cc10 := X1.out.both
  have cc11 := X2.out.both
  have cc12 := XQ.out.both
  go_wp2_with fail
  generalize hW : ((w.alloc (.cells #[.bool s1, .slice p1 n1 c1] 41)).alloc (.cells #[.bool s2, .slice p2 n2 c2] 41)).alloc (.cells #[.bool false, .slice none 0 0] 41) = W13 at *
  clear hW
  refine (zdiv_f HA.out HB.out H0.out HZ.out HY.out HM.out HN.out).mono ?_
  rintro e w14 ⟨v, u, rfl, hv, hu, hb⟩
  obtain ⟨s3, p3, n3, c3, rfl⟩ := hv.opened
  obtain ⟨s4, p4, n4, c4, rfl⟩ := hu.opened
  replace X1 := bx X1 hb
  replace X2 := bx X2 hb
  replace XQ := bx XQ hb
  replace HA := zf HA hb
  replace HB := zf HB hb
  replace B := bb B hb
  clear cc10 cc11 cc12
  have HV := hid hv
  clear hb hv hu
  obtain ⟨hb15, hx16, hs17⟩ := Box.made w14 s3 p3 n3 c3
  have L0 := hid XQ.out.lt
  replace X1 := bx X1 hb15
  replace X2 := bx X2 hb15
  replace XQ := bx XQ hb15
  replace HA := zf HA hb15
  replace HB := zf HB hb15
  replace HV := zf HV hb15
  replace B := bb B hb15
  have X5 := hid hx16
  clear hb15 hx16
  obtain ⟨hb18, hx19, hs20⟩ := Box.made (w14.alloc (.cells #[.bool s3, .slice p3 n3 c3] 41)) s4 p4 n4 c4
  rw [hs17] at hx19 hs20
  replace X1 := bx X1 hb18
  replace X2 := bx X2 hb18
  replace XQ := bx XQ hb18
  replace X5 := bx X5 hb18
  replace HA := zf HA hb18
  replace HB := zf HB hb18
  replace HV := zf HV hb18
  replace B := bb B hb18
  have X6 := hid hx19
  clear hb18 hx19
  have cc21 := X1.out.both
  have cc22 := X2.out.both
  have cc23 := XQ.out.both
  have cc24 := X5.out.both
  have cc25 := X6.out.both
  have cc26 := XQ.out.stores
  obtain ⟨r27a, r27b, r27c⟩ := XQ.out.last B.out (by have := L0.out; omega) s3 p3 n3 c3
  replace X1 := hid (X1.out.kept (heap2 (g := w.heap.size + 1 + 1) (by have := L0.out; omega) (.bool s3) (.slice p3 n3 c3)))
  replace X2 := hid (X2.out.kept (heap2 (g := w.heap.size + 1 + 1) (by have := L0.out; omega) (.bool s3) (.slice p3 n3 c3)))
  replace X5 := hid (X5.out.kept (heap2 (g := w.heap.size + 1 + 1) (by have := L0.out; omega) (.bool s3) (.slice p3 n3 c3)))
  replace X6 := hid (X6.out.kept (heap2 (g := w.heap.size + 1 + 1) (by have := L0.out; omega) (.bool s3) (.slice p3 n3 c3)))
  replace HA := hid (HA.out.moved fun _ _ _ hv => r27c hv)
  replace HB := hid (HB.out.moved fun _ _ _ hv => r27c hv)
  replace HV := hid (HV.out.moved fun _ _ _ hv => r27c hv)
  replace XQ := hid r27a
  replace B := hid r27b
  clear r27a r27b r27c
  go_wp2_with fail
  refine bodyPost_ret (res_one rfl rfl XQ.out) rfl ?_
  exact ⟨_, rfl, HV.out, B.out⟩

end Go.Proofs.YtokojbgpboccnaaGreat

/-
  PACKAGE poly: Primitive.
-/
namespace Go.Proofs.YtokojbgpboccnaaGreat
open Go.RowKit
open Num
set_option linter.unusedVariables false
set_option maxRecDepth 100000
set_option linter.unusedSimpArgs false

set_option maxHeartbeats 8000000 in
/-- Without denominators, and without what goes into all. -/
theorem prim_p {w : World} {v : Value} {l : List Rat} {m : Nat} (h : PN w v l) (hs : Cml l m) (hm : m ≤ 68719476736) (hl : l.length ≤ 1000000) :
    Calls Tryz.prog 31 #[v] w fun e w' => ∃ (v' : Value) (P : List Rat) (k : Rat), e = .returned v' ∧ PN w' v' P ∧ Trm P ∧ P.length = (trimQ l).length ∧ 0 < k ∧ (∀ i, co P i = co l i * k) ∧ (∀ i, ∃ z : Int, co P i = (z : Rat) ∧ Zm z m) ∧ Below w.heap.size w w' := by
  obtain ⟨a, c, rfl, hn1, hc1⟩ := h.opened
  have SL := hid hs.sml
  obtain ⟨hm1, D, hD, hDm, hDz⟩ := hs
  have HP := hid h
  have HM := hid hm
  have HD0 := hid hD
  have HZ := hid hDz
  have HDM : Hid (Zm D m) := hid hDm
  have HT := hid (trm_trim l)
  have HTL := hid (trim_len l)
  obtain ⟨nl, hNL⟩ : ∃ nl, l.length = nl := ⟨_, rfl⟩
  have NL := hid hNL
  rw [hNL] at hn1 hl HP
  rw [hNL]
  unfold maxLen at hc1
  have B := hid (Below.refl w.heap.size w)
  clear  h hm hD hDz hDm hNL hm1
  go_enter Tryz.func31, Tryz.ntmps31
  go_wp2_with fail
  refine (of_small 0 (by decide) _).mono ?_
  rintro e w1 ⟨v, rfl, hv, hb⟩
  obtain ⟨s3, p3, n3, c3, rfl⟩ := hv.opened
  replace B := bb B hb
  have HC := hid hv.zf
  clear hb hv
  go_wp2_with fail
  refine (of_small 1 (by decide) _).mono ?_
  rintro e w2 ⟨v, rfl, hv, hb⟩
  obtain ⟨s4, p4, n4, c4, rfl⟩ := hv.opened
  replace HC := zf HC hb
  replace B := bb B hb
  have HV := hid hv.zf
  clear hb hv
  have HB0 := hid B.out.size
  obtain ⟨hb3, hx4, hs5⟩ := Box.made w2 s3 p3 n3 c3
  replace HC := zf HC hb3
  replace HV := zf HV hb3
  replace B := bb B hb3
  have X3 := hid hx4
  clear hb3 hx4
  obtain ⟨hb6, hx7, hs8⟩ := Box.made (w2.alloc (.cells #[.bool s3, .slice p3 n3 c3] 41)) s4 p4 n4 c4
  rw [hs5] at hx7 hs8
  replace X3 := bx X3 hb6
  replace HC := zf HC hb6
  replace HV := zf HV hb6
  replace B := bb B hb6
  have X4 := hid hx7
  clear hb6 hx7
  have cc9 := X3.out.both
  have cc10 := X4.out.both
  go_wp2_with fail
  generalize hW : (w2.alloc (.cells #[.bool s3, .slice p3 n3 c3] 41)).alloc (.cells #[.bool s4, .slice p4 n4 c4] 41) = W11 at *
  clear hW
  obtain ⟨g3, hg3⟩ : ∃ g3, g3 = w2.heap.size := ⟨_, rfl⟩
  have L3 := hid X3.out.lt
  have L4 := hid X4.out.lt
  rw [← hg3] at X3 X4 HB0 L3 L4 ⊢
  clear hg3 L3 L4 cc9 cc10
  have L34 := hid (show g3 < g3 + 1 by omega)
  generalize g3 + 1 = g4 at *
  go_loopw [18] (fun x wr => ∃ (i : Nat) (G M : Int) (s3 : Bool) (p3 : Option Addr) (n3 c3 : Nat) (s4 : Bool) (p4 : Option Addr) (n4 c4 : Nat), i ≤ nl ∧ x = .int .i64 i ∧ Hid (0 < M ∧ M ∣ D ∧ ∀ t, t < i → ((co l t).den : Int) ∣ M) ∧ Hid (0 ≤ G ∧ Zm G m ∧ ∀ t, t < i → G ∣ (co l t).num ∧ (G = 0 → (co l t).num = 0)) ∧ Hid (Box wr g3 s3 (.slice p3 n3 c3)) ∧ Hid (Box wr g4 s4 (.slice p4 n4 c4)) ∧ Hid (ZF wr (.agg #[.bool s3, .slice p3 n3 c3]) G) ∧ Hid (ZF wr (.agg #[.bool s4, .slice p4 n4 c4]) M) ∧ Hid (Below w.heap.size w wr)) (fun x _ => nl - (intOf x).toNat)
  case atStart => exact ⟨0, 0, 1, _, _, _, _, _, _, _, _, by omega, rfl, hid ⟨by decide, Int.one_dvd _, fun t ht => by omega⟩, hid ⟨by decide, by show (0 : Nat) < _; exact Nat.pow_pos (by decide), fun t ht => by omega⟩, X3, X4, HC, HV, B⟩
  case round =>
    clear X3 X4 HC HV B
    obtain ⟨i, G, M, s3, p3, n3, c3, s4, p4, n4, c4, hi, rfl, HM0, HG0, X3, X4, HC, HV, B⟩ := hrel
    have hMn : M ≠ 0 := by have := HM0.out.1; omega
    have ZM := hid (HDM.out.le (dvd_le HM0.out.2.1 HD0.out))
    have GZ := hid HG0.out.2.1
    by_cases hlt : i < nl
    · obtain ⟨b5, s5a, p5a, n5a, c5a, s5b, p5b, n5b, c5b, rfl, hb5, cd5, hq5⟩ := pn_at HP.out B.out (i := i) (by rw [NL.out]; exact hlt)
      have HQ := hid hq5
      have DD : Hid (((co l i).den : Int) ∣ D) := hid (by obtain ⟨z, _, hz⟩ := HZ.out i; exact den_dvd hz)
      have hdp : 0 < ((co l i).den : Int) := by have := (co l i).den_pos; omega
      have hdn : ((co l i).den : Int) ≠ 0 := by omega
      have HL := hid (lcm_parts hMn hdn)
      have PP := hid (pos_part HM0.out.1 hdp)
      have ZN : Hid (Zm (co l i).num m) := hid ((SL.out.2 i).1)
      have GM := hid (gcd_more GZ.out ZN.out)
      have ZD := hid (HDM.out.le (dvd_le DD.out HD0.out))
      have ZG := hid (ZD.out.le (dvd_le (Int.gcd_dvd_right M ((co l i).den : Int)) hdn))
      have ZY : Hid (Zm (((co l i).den : Int) / (Int.gcd M ((co l i).den : Int) : Nat)) m) := hid (ZD.out.le (Int.natAbs_ediv_le_natAbs _ _))
      clear hq5 hdn hdp hMn
      have L33 := hid X3.out.lt
      have L44 := hid X4.out.lt
      obtain ⟨hb101, hx102, hs103⟩ := Nbx.made wr s5a s5b (.slice p5a n5a c5a) (.slice p5b n5b c5b)
      have L4 := hid X4.out.lt
      replace X3 := bx X3 hb101
      replace X4 := bx X4 hb101
      replace HQ := nf HQ hb101
      replace HC := zf HC hb101
      replace HV := zf HV hb101
      replace B := bb B hb101
      have X5 := hid hx102
      clear hb101 hx102
      have cc104 := X3.out.both
      have cc105 := X4.out.both
      have cc106 := X5.out.cells
      go_wp2_with fail
      refine (nparts_f HQ.out (SL.out.2 i)).mono ?_
      rintro e w107 ⟨v, u, rfl, hv, hu, hb⟩
      obtain ⟨s6, p6, n6, c6, rfl⟩ := hv.opened
      obtain ⟨s7, p7, n7, c7, rfl⟩ := hu.opened
      replace X3 := bx X3 hb
      replace X4 := bx X4 hb
      replace HC := zf HC hb
      replace HV := zf HV hb
      replace B := bb B hb
      clear cc104 cc105 cc106
      have HT6 := hid hv
      have HU := hid hu
      clear hb hv hu cd5
      have LW := hid (show g3 < w107.heap.size ∧ g4 < w107.heap.size from ⟨X3.out.lt, X4.out.lt⟩)
      obtain ⟨hb108, hx109, hs110⟩ := Box.made w107 s6 p6 n6 c6
      have L6 := hid X4.out.lt
      replace X3 := bx X3 hb108
      replace X4 := bx X4 hb108
      replace HC := zf HC hb108
      replace HV := zf HV hb108
      replace HT6 := zf HT6 hb108
      replace HU := zf HU hb108
      replace B := bb B hb108
      have X6 := hid hx109
      clear hb108 hx109
      obtain ⟨hb111, hx112, hs113⟩ := Box.made (w107.alloc (.cells #[.bool s6, .slice p6 n6 c6] 41)) s7 p7 n7 c7
      rw [hs110] at hx112 hs113
      replace X3 := bx X3 hb111
      replace X4 := bx X4 hb111
      replace X6 := bx X6 hb111
      replace HC := zf HC hb111
      replace HV := zf HV hb111
      replace HT6 := zf HT6 hb111
      replace HU := zf HU hb111
      replace B := bb B hb111
      have X7 := hid hx112
      clear hb111 hx112
      have cc114 := X3.out.both
      have cc115 := X4.out.both
      have cc116 := X6.out.both
      have cc117 := X7.out.both
      go_wp2_with fail
      refine (zgcd_f HC.out HT6.out GZ.out ZN.out HM.out).mono ?_
      rintro e w118 ⟨v, rfl, hv, hb⟩
      obtain ⟨s8, p8, n8, c8, rfl⟩ := hv.opened
      replace X3 := bx X3 hb
      replace X4 := bx X4 hb
      replace X6 := bx X6 hb
      replace X7 := bx X7 hb
      replace HC := zf HC hb
      replace HV := zf HV hb
      replace HT6 := zf HT6 hb
      replace HU := zf HU hb
      replace B := bb B hb
      clear cc114 cc115 cc116 cc117
      have HG8 := hid hv
      clear hb hv
      have cc119 := X3.out.both
      have cc120 := X3.out.stores
      obtain ⟨r121a, r121b, r121c⟩ := X3.out.last B.out (by have := HB0.out; have := L34.out; have := L33.out; have := L44.out; have := L4.out; have := LW.out; have := L6.out; omega) s8 p8 n8 c8
      replace X4 := hid (X4.out.kept (heap2 (g := g3) (by have := HB0.out; have := L34.out; have := L33.out; have := L44.out; have := L4.out; have := LW.out; have := L6.out; omega) (.bool s8) (.slice p8 n8 c8)))
      replace X6 := hid (X6.out.kept (heap2 (g := g3) (by have := HB0.out; have := L34.out; have := L33.out; have := L44.out; have := L4.out; have := LW.out; have := L6.out; omega) (.bool s8) (.slice p8 n8 c8)))
      replace X7 := hid (X7.out.kept (heap2 (g := g3) (by have := HB0.out; have := L34.out; have := L33.out; have := L44.out; have := L4.out; have := LW.out; have := L6.out; omega) (.bool s8) (.slice p8 n8 c8)))
      replace HC := hid (HC.out.moved fun _ _ _ hv => r121c hv)
      replace HV := hid (HV.out.moved fun _ _ _ hv => r121c hv)
      replace HT6 := hid (HT6.out.moved fun _ _ _ hv => r121c hv)
      replace HU := hid (HU.out.moved fun _ _ _ hv => r121c hv)
      replace HG8 := hid (HG8.out.moved fun _ _ _ hv => r121c hv)
      replace X3 := hid r121a
      replace B := hid r121b
      clear r121a r121b r121c
      have cc122 := X3.out.both
      have cc123 := X4.out.both
      have cc124 := X7.out.both
      go_wp2_with fail
      generalize hW : (w118.setCell ⟨g3, 0, none⟩ (.bool s8)).setCell ⟨g3, 1, none⟩ (.slice p8 n8 c8) = W125 at *
      clear hW
      clear cc119 cc120 cc122 cc123 cc124
      refine region_ops (by kernel_rfl) (by kernel_rfl) (fun a f a' w' => ∃ u30 u31 u32 u33 u34 u35 u36 : Value, a' = { tmps := (((((((a.tmps.setIfInBounds 30 u30).setIfInBounds 31 u31).setIfInBounds 32 u32).setIfInBounds 33 u33).setIfInBounds 34 u34).setIfInBounds 35 u35).setIfInBounds 36 u36), defers := a.defers } ∧ Hid (Below W125.heap.size W125 w' ∨ f 7 = true) ∧ Hid (f 0 = true → u30 = (.agg #[.bool s4, .slice p4 n4 c4])) ∧ Hid (f 1 = true → u31 = (.agg #[.bool s7, .slice p7 n7 c7])) ∧ Hid (f 2 = true → u32 = (.agg #[.bool s4, .slice p4 n4 c4])) ∧ Hid (f 3 = true → u33 = (.agg #[.bool s7, .slice p7 n7 c7])) ∧ Hid (f 4 = true → (ZF w' u34 (((Int.gcd M ((co l i).den : Int) : Nat) : Int)) ∨ f 7 = true)) ∧ Hid (f 5 = true → (ZF w' u35 (((co l i).den : Int) / ((Int.gcd M ((co l i).den : Int) : Nat) : Int)) ∨ f 7 = true)) ∧ Hid (f 6 = true → (ZF w' u36 (M * (((co l i).den : Int) / ((Int.gcd M ((co l i).den : Int) : Nat) : Int))) ∨ f 7 = true)) ∧ Hid (f 7 = true → ∃ w2 s9 p9 n9 c9, Below W125.heap.size W125 w2 ∧ ZF w2 (.agg #[.bool s9, .slice p9 n9 c9]) (M * (((co l i).den : Int) / ((Int.gcd M ((co l i).den : Int) : Nat) : Int))) ∧ w' = (w2.setCell ⟨g4, 0, none⟩ (.bool s9)).setCell ⟨g4, 1, none⟩ (.slice p9 n9 c9)) ∧ (f 7 = true → f 0 = true) ∧ (f 7 = true → f 1 = true) ∧ (f 7 = true → f 2 = true) ∧ (f 7 = true → f 3 = true) ∧ (f 7 = true → f 4 = true) ∧ (f 7 = true → f 5 = true) ∧ (f 7 = true → f 6 = true)) ?h0 ⟨?s0, ?s1, ?s2, ?s3, ?s4, ?s5, ?s6, ?s7, trivial⟩ ?hend
      case h0 =>
        simp only [List.setIfInBounds_toArray, List.set_cons_zero, List.set_cons_succ]
        exact ⟨_, _, _, _, _, _, _, rfl, hid (.inl (Below.drew (Below.refl _ _))), hid (fun h => by cases h), hid (fun h => by cases h), hid (fun h => by cases h), hid (fun h => by cases h), hid (fun h => by cases h), hid (fun h => by cases h), hid (fun h => by cases h), hid (fun h => by cases h), fun h => h, fun h => h, fun h => h, fun h => h, fun h => h, fun h => h, fun h => h⟩
      case s0 =>
        rintro f a1 w1 ⟨u30, u31, u32, u33, u34, u35, u36, rfl, HBW, h0, h1, h2, h3, h4, h5, h6, h7, o7_0, o7_1, o7_2, o7_3, o7_4, o7_5, o7_6⟩ hf hd K hK
        replace HBW := hid (HBW.out.resolve_right (fun e => absurd (o7_0 e) (by rw [hf]; decide)))
        simp only [List.setIfInBounds_toArray, List.set_cons_zero, List.set_cons_succ] at hK ⊢
        replace hK := hid hK
        obtain ⟨y1, y2⟩ := (X4.out.below HBW.out X4.out.lt).both
        go_simp
        exact hK.out _ _ ⟨_, _, _, _, _, _, _, rfl, hid (.inl (HBW).out), hid (fun h => rfl), hid (fun h => h1.out h), hid (fun h => h2.out h), hid (fun h => h3.out h), hid (fun h => h4.out h), hid (fun h => h5.out h), hid (fun h => h6.out h), hid (fun h => absurd (o7_0 h) (by rw [hf]; decide)), fun _ => rfl, fun h => o7_1 h, fun h => o7_2 h, fun h => o7_3 h, fun h => o7_4 h, fun h => o7_5 h, fun h => o7_6 h⟩
      case s1 =>
        rintro f a1 w1 ⟨u30, u31, u32, u33, u34, u35, u36, rfl, HBW, h0, h1, h2, h3, h4, h5, h6, h7, o7_0, o7_1, o7_2, o7_3, o7_4, o7_5, o7_6⟩ hf hd K hK
        replace HBW := hid (HBW.out.resolve_right (fun e => absurd (o7_1 e) (by rw [hf]; decide)))
        simp only [List.setIfInBounds_toArray, List.set_cons_zero, List.set_cons_succ] at hK ⊢
        replace hK := hid hK
        obtain ⟨y1, y2⟩ := (X7.out.below HBW.out X7.out.lt).both
        go_simp
        exact hK.out _ _ ⟨_, _, _, _, _, _, _, rfl, hid (.inl (HBW).out), hid (fun h => h0.out h), hid (fun h => rfl), hid (fun h => h2.out h), hid (fun h => h3.out h), hid (fun h => h4.out h), hid (fun h => h5.out h), hid (fun h => h6.out h), hid (fun h => absurd (o7_1 h) (by rw [hf]; decide)), fun h => o7_0 h, fun _ => rfl, fun h => o7_2 h, fun h => o7_3 h, fun h => o7_4 h, fun h => o7_5 h, fun h => o7_6 h⟩
      case s2 =>
        rintro f a1 w1 ⟨u30, u31, u32, u33, u34, u35, u36, rfl, HBW, h0, h1, h2, h3, h4, h5, h6, h7, o7_0, o7_1, o7_2, o7_3, o7_4, o7_5, o7_6⟩ hf hd K hK
        replace HBW := hid (HBW.out.resolve_right (fun e => absurd (o7_2 e) (by rw [hf]; decide)))
        simp only [List.setIfInBounds_toArray, List.set_cons_zero, List.set_cons_succ] at hK ⊢
        replace hK := hid hK
        obtain ⟨y1, y2⟩ := (X4.out.below HBW.out X4.out.lt).both
        go_simp
        exact hK.out _ _ ⟨_, _, _, _, _, _, _, rfl, hid (.inl (HBW).out), hid (fun h => h0.out h), hid (fun h => h1.out h), hid (fun h => rfl), hid (fun h => h3.out h), hid (fun h => h4.out h), hid (fun h => h5.out h), hid (fun h => h6.out h), hid (fun h => absurd (o7_2 h) (by rw [hf]; decide)), fun h => o7_0 h, fun h => o7_1 h, fun _ => rfl, fun h => o7_3 h, fun h => o7_4 h, fun h => o7_5 h, fun h => o7_6 h⟩
      case s3 =>
        rintro f a1 w1 ⟨u30, u31, u32, u33, u34, u35, u36, rfl, HBW, h0, h1, h2, h3, h4, h5, h6, h7, o7_0, o7_1, o7_2, o7_3, o7_4, o7_5, o7_6⟩ hf hd K hK
        replace HBW := hid (HBW.out.resolve_right (fun e => absurd (o7_3 e) (by rw [hf]; decide)))
        simp only [List.setIfInBounds_toArray, List.set_cons_zero, List.set_cons_succ] at hK ⊢
        replace hK := hid hK
        obtain ⟨y1, y2⟩ := (X7.out.below HBW.out X7.out.lt).both
        go_simp
        exact hK.out _ _ ⟨_, _, _, _, _, _, _, rfl, hid (.inl (HBW).out), hid (fun h => h0.out h), hid (fun h => h1.out h), hid (fun h => h2.out h), hid (fun h => rfl), hid (fun h => h4.out h), hid (fun h => h5.out h), hid (fun h => h6.out h), hid (fun h => absurd (o7_3 h) (by rw [hf]; decide)), fun h => o7_0 h, fun h => o7_1 h, fun h => o7_2 h, fun _ => rfl, fun h => o7_4 h, fun h => o7_5 h, fun h => o7_6 h⟩
      case s4 =>
        rintro f a1 w1 ⟨u30, u31, u32, u33, u34, u35, u36, rfl, HBW, h0, h1, h2, h3, h4, h5, h6, h7, o7_0, o7_1, o7_2, o7_3, o7_4, o7_5, o7_6⟩ hf hd K hK
        replace HBW := hid (HBW.out.resolve_right (fun e => absurd (o7_4 e) (by rw [hf]; decide)))
        simp only [List.setIfInBounds_toArray, List.set_cons_zero, List.set_cons_succ] at hK ⊢
        replace hK := hid hK
        simp [Region.binds] at hd
        obtain rfl := h2.out (by simp only [hd])
        obtain rfl := h3.out (by simp only [hd])
        go_simp
        refine (zgcd_f (HV.out.on HBW.out) (HU.out.on HBW.out) ZM.out ZD.out HM.out).mono ?_
        rintro e w2 ⟨v, rfl, hv, hb⟩
        go_wp2_with fail
        exact hK.out _ _ ⟨_, _, _, _, _, _, _, rfl, hid (.inl (hid (below_next HBW.out hb)).out), hid (fun h => h0.out h), hid (fun h => h1.out h), hid (fun h => rfl), hid (fun h => rfl), hid (fun h => .inl hv), hid (fun h => (h5.out h).imp (fun h => h.on hb) id), hid (fun h => (h6.out h).imp (fun h => h.on hb) id), hid (fun h => absurd (o7_4 h) (by rw [hf]; decide)), fun h => o7_0 h, fun h => o7_1 h, fun h => o7_2 h, fun h => o7_3 h, fun _ => rfl, fun h => o7_5 h, fun h => o7_6 h⟩
      case s5 =>
        rintro f a1 w1 ⟨u30, u31, u32, u33, u34, u35, u36, rfl, HBW, h0, h1, h2, h3, h4, h5, h6, h7, o7_0, o7_1, o7_2, o7_3, o7_4, o7_5, o7_6⟩ hf hd K hK
        replace HBW := hid (HBW.out.resolve_right (fun e => absurd (o7_5 e) (by rw [hf]; decide)))
        simp only [List.setIfInBounds_toArray, List.set_cons_zero, List.set_cons_succ] at hK ⊢
        replace hK := hid hK
        simp [Region.binds] at hd
        obtain rfl := h1.out (by simp only [hd])
        have NF : f 7 = false := by cases e : f 7 with | false => rfl | true => exact absurd (o7_5 e) (by rw [hf]; decide)
        have h4a := (h4.out (by simp only [hd])).resolve_right (fun e => by rw [NF] at e; cases e)
        go_simp
        refine (pdivd_f (HU.out.on HBW.out) h4a HL.out.1 ZD.out ZG.out HM.out HM.out).mono ?_
        rintro e w2 ⟨v, rfl, hv, hb⟩
        go_wp2_with fail
        exact hK.out _ _ ⟨_, _, _, _, _, _, _, rfl, hid (.inl (hid (below_next HBW.out hb)).out), hid (fun h => h0.out h), hid (fun h => rfl), hid (fun h => h2.out h), hid (fun h => h3.out h), hid (fun h => (h4.out h).imp (fun h => h.on hb) id), hid (fun h => .inl hv), hid (fun h => (h6.out h).imp (fun h => h.on hb) id), hid (fun h => absurd (o7_5 h) (by rw [hf]; decide)), fun h => o7_0 h, fun h => o7_1 h, fun h => o7_2 h, fun h => o7_3 h, fun h => o7_4 h, fun _ => rfl, fun h => o7_6 h⟩
      case s6 =>
        rintro f a1 w1 ⟨u30, u31, u32, u33, u34, u35, u36, rfl, HBW, h0, h1, h2, h3, h4, h5, h6, h7, o7_0, o7_1, o7_2, o7_3, o7_4, o7_5, o7_6⟩ hf hd K hK
        replace HBW := hid (HBW.out.resolve_right (fun e => absurd (o7_6 e) (by rw [hf]; decide)))
        simp only [List.setIfInBounds_toArray, List.set_cons_zero, List.set_cons_succ] at hK ⊢
        replace hK := hid hK
        simp [Region.binds] at hd
        obtain rfl := h0.out (by simp only [hd])
        have NF : f 7 = false := by cases e : f 7 with | false => rfl | true => exact absurd (o7_6 e) (by rw [hf]; decide)
        have h5a := (h5.out (by simp only [hd])).resolve_right (fun e => by rw [NF] at e; cases e)
        go_simp
        refine (zmul_f (HV.out.on HBW.out) h5a ZM.out ZY.out HM.out HM.out).mono ?_
        rintro e w2 ⟨v, rfl, hv, hb⟩
        go_wp2_with fail
        exact hK.out _ _ ⟨_, _, _, _, _, _, _, rfl, hid (.inl (hid (below_next HBW.out hb)).out), hid (fun h => rfl), hid (fun h => h1.out h), hid (fun h => h2.out h), hid (fun h => h3.out h), hid (fun h => (h4.out h).imp (fun h => h.on hb) id), hid (fun h => (h5.out h).imp (fun h => h.on hb) id), hid (fun h => .inl hv), hid (fun h => absurd (o7_6 h) (by rw [hf]; decide)), fun h => o7_0 h, fun h => o7_1 h, fun h => o7_2 h, fun h => o7_3 h, fun h => o7_4 h, fun h => o7_5 h, fun _ => rfl⟩
      case s7 =>
        rintro f a1 w1 ⟨u30, u31, u32, u33, u34, u35, u36, rfl, HBW, h0, h1, h2, h3, h4, h5, h6, h7, o7_0, o7_1, o7_2, o7_3, o7_4, o7_5, o7_6⟩ hf hd K hK
        replace HBW := hid (HBW.out.resolve_right (fun e => by rw [hf] at e; cases e))
        simp only [List.setIfInBounds_toArray, List.set_cons_zero, List.set_cons_succ] at hK ⊢
        replace hK := hid hK
        simp [Region.binds] at hd
        have h6a := (h6.out (by simp only [hd])).resolve_right (fun e => by rw [hf] at e; cases e)
        obtain ⟨s9, p9, n9, c9, rfl⟩ := h6a.opened
        obtain ⟨y1, y2, y3, y4⟩ := (X4.out.below HBW.out X4.out.lt).stores
        go_simp
        exact hK.out _ _ ⟨_, _, _, _, _, _, _, rfl, hid (.inr rfl), hid (fun h => h0.out h), hid (fun h => h1.out h), hid (fun h => h2.out h), hid (fun h => h3.out h), hid (fun h => .inr rfl), hid (fun h => .inr rfl), hid (fun h => .inr rfl), hid (fun h => ⟨_, _, _, _, _, HBW.out, h6a, rfl⟩), fun _ => (show f 0 = true from by simp only [hd]), fun _ => (show f 1 = true from by simp only [hd]), fun _ => (show f 2 = true from by simp only [hd]), fun _ => (show f 3 = true from by simp only [hd]), fun _ => (show f 4 = true from by simp only [hd]), fun _ => (show f 5 = true from by simp only [hd]), fun _ => (show f 6 = true from by simp only [hd])⟩
      case hend =>
        rintro f a1 w' ⟨u30, u31, u32, u33, u34, u35, u36, rfl, HBW, h0, h1, h2, h3, h4, h5, h6, h7, _⟩ hall
        simp only [List.setIfInBounds_toArray, List.set_cons_zero, List.set_cons_succ]
        obtain ⟨w2, s9, p9, n9, c9, hb, hv, rfl⟩ := h7.out (hall 7 (by decide))
        clear HBW hall h0 h1 h2 h3 h4 h5 h6 h7
        replace X3 := bx X3 hb
        replace X4 := bx X4 hb
        replace HG8 := zf HG8 hb
        replace B := bb B hb
        have HX := hid hv
        clear hb hv
        have cc301 := X4.out.stores
        obtain ⟨r302a, r302b, r302c⟩ := X4.out.last B.out (by have := HB0.out; have := L34.out; omega) s9 p9 n9 c9
        replace X3 := hid (X3.out.kept (heap2 (g := g4) (by have := HB0.out; have := L34.out; omega) (.bool s9) (.slice p9 n9 c9)))
        replace HG8 := hid (HG8.out.moved fun _ _ _ hv => r302c hv)
        replace HX := hid (HX.out.moved fun _ _ _ hv => r302c hv)
        replace X4 := hid r302a
        replace B := hid r302b
        clear r302a r302b r302c
        go_wp2_with fail
        go_roundw
        case rel => exact ⟨i + 1, _, _, _, _, _, _, _, _, _, _, by omega, by go_num, hid ⟨PP.out, HL.out.2.2.2 D HM0.out.2.1 DD.out, fun t ht => by
            by_cases e : t = i
            · subst e; exact HL.out.2.2.1
            · exact Int.dvd_mul_of_dvd_left (HM0.out.2.2 t (by omega))⟩, hid ⟨GM.out.1, GM.out.2.2.2.2, fun t ht => by
            by_cases e : t = i
            · subst e; exact ⟨GM.out.2.2.1, fun e => (GM.out.2.2.2.1 e).2⟩
            · exact ⟨Int.dvd_trans GM.out.2.1 (HG0.out.2.2 t (by omega)).1, fun e => (HG0.out.2.2 t (by omega)).2 (GM.out.2.2.2.1 e).1⟩⟩, X3, X4, HG8, HX, B⟩
        case measure => simp [intOf]; omega
    · obtain rfl : i = nl := by omega
      have HP1 := hid (HP.out.on (show Below w.heap.size w wr from B.out))
      have HTR := hid (trim_p HP1.out)
      clear hMn
      go_wp2_with fail
      refine HTR.out.mono ?_
      rintro e1 w1 ⟨v1, rfl, hp, hb⟩
      have HTP := hid (nclone hp (by have := HTL.out; have := NL.out; omega))
      replace X3 := bx X3 hb
      replace X4 := bx X4 hb
      replace HC := zf HC hb
      replace HV := zf HV hb
      replace B := bb B hb
      clear hp hb HTR
      go_wp2_with fail
      refine HTP.out.mono ?_
      rintro e1 w2 ⟨v2, rfl, ho, hb⟩
      have LB3 := hid (show g3 < w1.heap.size ∧ g4 < w1.heap.size from ⟨X3.out.lt, X4.out.lt⟩)
      have LBW := hid B.out.size
      replace X3 := bx X3 hb
      replace X4 := bx X4 hb
      replace HC := zf HC hb
      replace HV := zf HV hb
      replace B := bb B hb
      clear hb HTP
      rcases ho with ⟨hnil, a0, c0, rfl, hc0⟩ | ⟨b0, c0, rs0, rfl, hK0, hrow, hn0, hc0, hq0⟩
      · have HN := hid hnil
        have HC0 := hid hc0
        clear hnil hc0
        go_wp2_with fail
        go_loopw [43] (fun x wr => x = .int .i64 0 ∧ wr = w2) (fun x _ => 0)
        case atStart => exact ⟨rfl, rfl⟩
        case round =>
          obtain ⟨rfl, rfl⟩ := hrel
          go_wp2_with fail
          go_ret
          refine ⟨_, [], 1, rfl, PN.nil _ HC0.out, rfl, by rw [HN.out], by decide, fun t => ?_, fun t => ⟨0, rfl, by show (0 : Nat) < _; exact Nat.pow_pos (by decide)⟩, B.out⟩
          rw [← co_trim l t, HN.out, co_nil]
          show (0 : Rat) = 0 * 1
          grind
      · have HK0 := hid hK0
        have HN0 := hid hn0
        have HC0 := hid hc0
        have HO := hid (fun t (ht : t < (trimQ l).length) (_ : 0 ≤ t) => (hq0 t ht).cast (co_trim l t))
        have ROW := hid hrow
        have HDV : Hid (∀ t, ((co l t).den : Int) ∣ M) := hid (fun t => by
          by_cases h : t < i
          · exact HM0.out.2.2 t h
          · rw [co_ge (by rw [NL.out]; omega)]; exact Int.one_dvd _)
        have HGV : Hid (∀ t, G ∣ (co l t).num ∧ (G = 0 → (co l t).num = 0)) := hid (fun t => by
          by_cases h : t < i
          · exact HG0.out.2.2 t h
          · rw [co_ge (by rw [NL.out]; omega)]; exact ⟨Int.dvd_zero _, fun _ => rfl⟩)
        have HGN : Hid ((trimQ l).length ≠ 0 → G ≠ 0) := hid (fun h0 e => by
          have h1 : trimQ l ≠ [] := fun e => h0 (by rw [e]; rfl)
          have h2 := trm_last HT.out h1
          rw [co_trim] at h2
          exact h2 (Rat.num_eq_zero.1 ((HGV.out _).2 e)))
        obtain ⟨np, hnp⟩ : ∃ np, (trimQ l).length = np := ⟨_, rfl⟩
        have NP := hid hnp
        have hnp9 : np ≤ 1000000 := by have := HTL.out; have := NL.out; omega
        rw [hnp] at HN0 HO ROW HGN ⊢
        clear hK0 hrow hn0 hc0 hq0 hnp hi
        obtain ⟨rs0, ROW, HO⟩ : ∃ rs, Hid (NRw w2 b0 np rs) ∧ Hid (∀ t, t < np → 0 ≤ t → NF w2 (nag (rs t)) (co l t)) := ⟨_, ROW, HO⟩
        go_wp2_with fail
        go_loopw [43] (fun x wr => ∃ (i : Nat) (rs : Nat → Nr), i ≤ np ∧ x = .int .i64 i ∧ Hid (NRw wr b0 np rs) ∧ Hid (∀ t, t < i → NF wr (nag (rs t)) ((prq M G (co l t) : Int) : Rat)) ∧ Hid (∀ t, t < np → i ≤ t → NF wr (nag (rs t)) (co l t)) ∧ Hid (Box wr g3 s3 (.slice p3 n3 c3)) ∧ Hid (Box wr g4 s4 (.slice p4 n4 c4)) ∧ Hid (ZF wr (.agg #[.bool s3, .slice p3 n3 c3]) G) ∧ Hid (ZF wr (.agg #[.bool s4, .slice p4 n4 c4]) M) ∧ Hid (Below w.heap.size w wr)) (fun x _ => np - (intOf x).toNat)
        case atStart => exact ⟨0, rs0, by omega, rfl, ROW, hid (fun t ht => by omega), HO, X3, X4, HC, HV, B⟩
        case round =>
          clear ROW HO X3 X4 HC HV B
          obtain ⟨i, rs, hi, rfl, ROW, HW, HO, X3, X4, HC, HV, B⟩ := hrel
          by_cases hlt : i < np
          · have HGNN : Hid (G ≠ 0) := hid (HGN.out (by omega))
            have HDN : Hid (((co l i).den : Int) ≠ 0) := hid (by have := (co l i).den_pos; omega)
            have ZD : Hid (Zm ((co l i).den : Int) m) := hid (ZM.out.le (dvd_le (HDV.out i) (by have := HM0.out.1; omega)))
            have ZY : Hid (Zm (M / ((co l i).den : Int)) m) := hid (ZM.out.le (Int.natAbs_ediv_le_natAbs _ _))
            have ZT : Hid (Zm (co l i).num m) := hid ((SL.out.2 i).1)
            have ZTG : Hid (Zm ((co l i).num / G) m) := hid (ZT.out.le (Int.natAbs_ediv_le_natAbs _ _))
            have L00 := hid ROW.out.lt
            have L33 := hid X3.out.lt
            have L44 := hid X4.out.lt
            have cr := ROW.out.cells hlt
            have HQ := hid (HO.out i hlt (Nat.le_refl _))
            obtain ⟨r5, hr5⟩ : ∃ r, r = rs i := ⟨_, rfl⟩
            rw [← hr5] at cr HQ
            clear hr5
            obtain ⟨⟨s5a, p5a, n5a, c5a⟩, ⟨s5b, p5b, n5b, c5b⟩⟩ := r5
            change Hid (NF wr (.agg #[.bool s5a, .slice p5a n5a c5a, .bool s5b, .slice p5b n5b c5b]) (co l i)) at HQ
            simp only [] at cr
            obtain ⟨hb401, hx402, hs403⟩ := Nbx.made wr s5a s5b (.slice p5a n5a c5a) (.slice p5b n5b c5b)
            have L7 := hid X4.out.lt
            replace X3 := bx X3 hb401
            replace X4 := bx X4 hb401
            replace HQ := nf HQ hb401
            replace HC := zf HC hb401
            replace HV := zf HV hb401
            replace ROW := rwo ROW hb401
            replace HW := hid (fun q_ hq_ => (HW.out q_ hq_).on hb401)
            replace HO := hid (fun q_ hq_ hr_ => (HO.out q_ hq_ hr_).on hb401)
            replace B := bb B hb401
            have X5 := hid hx402
            clear hb401 hx402
            have cc404 := X3.out.both
            have cc405 := X4.out.both
            have cc406 := X5.out.cells
            go_wp2_with fail
            refine (nparts_f HQ.out (SL.out.2 i)).mono ?_
            rintro e w407 ⟨v, u, rfl, hv, hu, hb⟩
            obtain ⟨s6, p6, n6, c6, rfl⟩ := hv.opened
            obtain ⟨s7, p7, n7, c7, rfl⟩ := hu.opened
            replace X3 := bx X3 hb
            replace X4 := bx X4 hb
            replace HC := zf HC hb
            replace HV := zf HV hb
            replace ROW := rwo ROW hb
            replace HW := hid (fun q_ hq_ => (HW.out q_ hq_).on hb)
            replace HO := hid (fun q_ hq_ hr_ => (HO.out q_ hq_ hr_).on hb)
            replace B := bb B hb
            clear cc404 cc405 cc406
            have HT6 := hid hv
            have HU := hid hu
            clear hb hv hu cr
            have LW := hid (show b0 < w407.heap.size ∧ g3 < w407.heap.size ∧ g4 < w407.heap.size from ⟨ROW.out.lt, X3.out.lt, X4.out.lt⟩)
            obtain ⟨hb408, hx409, hs410⟩ := Box.made w407 s6 p6 n6 c6
            have L9 := hid X4.out.lt
            replace X3 := bx X3 hb408
            replace X4 := bx X4 hb408
            replace HC := zf HC hb408
            replace HV := zf HV hb408
            replace HT6 := zf HT6 hb408
            replace HU := zf HU hb408
            replace ROW := rwo ROW hb408
            replace HW := hid (fun q_ hq_ => (HW.out q_ hq_).on hb408)
            replace HO := hid (fun q_ hq_ hr_ => (HO.out q_ hq_ hr_).on hb408)
            replace B := bb B hb408
            have X6 := hid hx409
            clear hb408 hx409
            obtain ⟨hb411, hx412, hs413⟩ := Box.made (w407.alloc (.cells #[.bool s6, .slice p6 n6 c6] 41)) s7 p7 n7 c7
            rw [hs410] at hx412 hs413
            replace X3 := bx X3 hb411
            replace X4 := bx X4 hb411
            replace X6 := bx X6 hb411
            replace HC := zf HC hb411
            replace HV := zf HV hb411
            replace HT6 := zf HT6 hb411
            replace HU := zf HU hb411
            replace ROW := rwo ROW hb411
            replace HW := hid (fun q_ hq_ => (HW.out q_ hq_).on hb411)
            replace HO := hid (fun q_ hq_ hr_ => (HO.out q_ hq_ hr_).on hb411)
            replace B := bb B hb411
            have X7 := hid hx412
            clear hb411 hx412
            have cc414 := X3.out.both
            have cc415 := X4.out.both
            have cc416 := X6.out.both
            have cc417 := X7.out.both
            go_wp2_with fail
            generalize hW : (w407.alloc (.cells #[.bool s6, .slice p6 n6 c6] 41)).alloc (.cells #[.bool s7, .slice p7 n7 c7] 41) = W418 at *
            clear hW
            clear cc414 cc415 cc416 cc417
            have cc419 := X3.out.both
            have cc420 := X4.out.both
            have cc421 := X6.out.both
            have cc422 := X7.out.both
            replace X3 := hid X3.out.dr
            replace X4 := hid X4.out.dr
            replace X6 := hid X6.out.dr
            replace X7 := hid X7.out.dr
            replace HC := hid HC.out.drew
            replace HV := hid HV.out.drew
            replace HT6 := hid HT6.out.drew
            replace HU := hid HU.out.drew
            replace HW := hid (fun q_ hq_ => (HW.out q_ hq_).drew)
            replace HO := hid (fun q_ hq_ hr_ => (HO.out q_ hq_ hr_).drew)
            replace ROW := hid ROW.out.dr
            replace B := hid (Below.drew B.out)
            have cc423 := X3.out.both
            have cc424 := X4.out.both
            have cc425 := X6.out.both
            have cc426 := X7.out.both
            go_region_held3 (fun w' => w'.cell? ⟨g3, 0, none⟩ = some (.bool s3) ∧ w'.cell? ⟨g3, 1, none⟩ = some (.slice p3 n3 c3) ∧ w'.cell? ⟨g4, 0, none⟩ = some (.bool s4) ∧ w'.cell? ⟨g4, 1, none⟩ = some (.slice p4 n4 c4) ∧ w'.cell? ⟨w407.heap.size, 0, none⟩ = some (.bool s6) ∧ w'.cell? ⟨w407.heap.size, 1, none⟩ = some (.slice p6 n6 c6) ∧ w'.cell? ⟨w407.heap.size + 1, 0, none⟩ = some (.bool s7) ∧ w'.cell? ⟨w407.heap.size + 1, 1, none⟩ = some (.slice p7 n7 c7)) (go_keep) (first
              | (have hm := mk427_2; clear hm; go_at_call 33; refine (zwhole_f HX0.out).mono ?_; rintro e w443 ⟨v, rfl, hv, hb⟩; obtain ⟨s2a, p2a, n2a, c2a, s2b, p2b, n2b, c2b, rfl⟩ := hv.opened; replace X3 := bx X3 hb; replace X4 := bx X4 hb; replace X6 := bx X6 hb; replace X7 := bx X7 hb; replace HC := zf HC hb; replace HV := zf HV hb; replace ROW := rwo ROW hb; replace HW := hid (fun q_ hq_ => (HW.out q_ hq_).on hb); replace HO := hid (fun q_ hq_ hr_ => (HO.out q_ hq_ hr_).on hb); replace B := bb B hb; clear cc439 cc440 cc441 cc442; have HX := hid hv; clear hb hv; have cc444 := X3.out.both; have cc445 := X4.out.both; have cc446 := X6.out.both; have cc447 := X7.out.both; have cc448 := ROW.out.stores hlt; replace X3 := hid (X3.out.kept (ROW.out.far i (by have := HB0.out; have := L34.out; have := LB3.out; have := HK0.out; have := L00.out; have := L33.out; have := L44.out; have := L7.out; have := LW.out; have := L9.out; omega) s2a p2a n2a c2a s2b p2b n2b c2b)); replace X4 := hid (X4.out.kept (ROW.out.far i (by have := HB0.out; have := L34.out; have := LB3.out; have := HK0.out; have := L00.out; have := L33.out; have := L44.out; have := L7.out; have := LW.out; have := L9.out; omega) s2a p2a n2a c2a s2b p2b n2b c2b)); replace X6 := hid (X6.out.kept (ROW.out.far i (by have := HB0.out; have := L34.out; have := LB3.out; have := HK0.out; have := L00.out; have := L33.out; have := L44.out; have := L7.out; have := LW.out; have := L9.out; omega) s2a p2a n2a c2a s2b p2b n2b c2b)); replace X7 := hid (X7.out.kept (ROW.out.far i (by have := HB0.out; have := L34.out; have := LB3.out; have := HK0.out; have := L00.out; have := L33.out; have := L44.out; have := L7.out; have := LW.out; have := L9.out; omega) s2a p2a n2a c2a s2b p2b n2b c2b)); replace HX := hid (HX.out.put ROW.out i s2a p2a n2a c2a s2b p2b n2b c2b); replace HC := hid (HC.out.put ROW.out i s2a p2a n2a c2a s2b p2b n2b c2b); replace HV := hid (HV.out.put ROW.out i s2a p2a n2a c2a s2b p2b n2b c2b); replace HW := hid (fun q_ hq_ => (HW.out q_ hq_).put ROW.out i s2a p2a n2a c2a s2b p2b n2b c2b); replace HO := hid (fun q_ hq_ hr_ => (HO.out q_ hq_ hr_).put ROW.out i s2a p2a n2a c2a s2b p2b n2b c2b); replace B := hid (ROW.out.below B.out i (by have := HB0.out; have := L34.out; have := LB3.out; have := HK0.out; have := L00.out; have := L33.out; have := L44.out; have := L7.out; have := LW.out; have := L9.out; omega) s2a p2a n2a c2a s2b p2b n2b c2b); replace ROW := hid (ROW.out.put hlt s2a p2a n2a c2a s2b p2b n2b c2b); have cc449 := X3.out.both; have cc450 := X4.out.both; have cc451 := X6.out.both; have cc452 := X7.out.both; have mk427_3 := hid True.intro)
              | (have hm := mk427_1; clear hm; go_at_call 39; refine (zmul_f HY8.out HY9.out ZTG.out ZY.out HM.out HM.out).mono ?_; rintro e w438 ⟨v, rfl, hv, hb⟩; obtain ⟨s0, p0, n0, c0, rfl⟩ := hv.opened; replace X3 := bx X3 hb; replace X4 := bx X4 hb; replace X6 := bx X6 hb; replace X7 := bx X7 hb; replace HC := zf HC hb; replace HV := zf HV hb; replace ROW := rwo ROW hb; replace HW := hid (fun q_ hq_ => (HW.out q_ hq_).on hb); replace HO := hid (fun q_ hq_ hr_ => (HO.out q_ hq_ hr_).on hb); replace B := bb B hb; clear cc434 cc435 cc436 cc437; have HX0 := hid hv; clear hb hv; have cc439 := X3.out.both; have cc440 := X4.out.both; have cc441 := X6.out.both; have cc442 := X7.out.both; have mk427_2 := hid True.intro)
              | (have hm := mk427_0; clear hm; go_at_call 55; refine (pdivd_f HV.out HU.out HDN.out ZM.out ZD.out HM.out HM.out).mono ?_; rintro e w433 ⟨v, rfl, hv, hb⟩; obtain ⟨s9, p9, n9, c9, rfl⟩ := hv.opened; replace X3 := bx X3 hb; replace X4 := bx X4 hb; replace X6 := bx X6 hb; replace X7 := bx X7 hb; replace HC := zf HC hb; replace HV := zf HV hb; replace HY8 := zf HY8 hb; replace ROW := rwo ROW hb; replace HW := hid (fun q_ hq_ => (HW.out q_ hq_).on hb); replace HO := hid (fun q_ hq_ hr_ => (HO.out q_ hq_ hr_).on hb); replace B := bb B hb; clear cc429 cc430 cc431 cc432; have HY9 := hid hv; clear hb hv; have cc434 := X3.out.both; have cc435 := X4.out.both; have cc436 := X6.out.both; have cc437 := X7.out.both; have mk427_1 := hid True.intro)
              | (go_at_call 55; refine (pdivd_f HT6.out HC.out HGNN.out ZT.out GZ.out HM.out HM.out).mono ?_; rintro e w428 ⟨v, rfl, hv, hb⟩; obtain ⟨s8, p8, n8, c8, rfl⟩ := hv.opened; replace X3 := bx X3 hb; replace X4 := bx X4 hb; replace X6 := bx X6 hb; replace X7 := bx X7 hb; replace HC := zf HC hb; replace HV := zf HV hb; replace HU := zf HU hb; replace ROW := rwo ROW hb; replace HW := hid (fun q_ hq_ => (HW.out q_ hq_).on hb); replace HO := hid (fun q_ hq_ hr_ => (HO.out q_ hq_ hr_).on hb); replace B := bb B hb; clear cc419 cc420 cc421 cc422 cc423 cc424 cc425 cc426; have HY8 := hid hv; clear hb hv; have cc429 := X3.out.both; have cc430 := X4.out.both; have cc431 := X6.out.both; have cc432 := X7.out.both; have mk427_0 := hid True.intro))
            go_wp2_with fail
            go_roundw
            case rel => exact ⟨i + 1, _, by omega, by go_num, ROW, hid (fun t ht => by
                by_cases e : t = i
                · subst e; rw [upd_self]; exact HX.out
                · rw [upd_ne _ _ e]; exact HW.out t (by omega)), hid (fun t ht hti => by
                rw [upd_ne _ _ (by omega)]; exact HO.out t ht (by omega)), X3, X4, HC, HV, B⟩
            case measure => simp [intOf]; omega
          · obtain rfl : i = np := by omega
            have HP2 : Hid (PN wr (.slice (some ⟨b0, 0, none⟩) i c0) (lof i fun t => ((prq M G (co l t) : Int) : Rat))) := hid (ROW.out.pn (by simp [lof]) HN0.out HC0.out (fun t ht => (HW.out t ht).cast (by rw [co_lof, if_pos ht])))
            go_wp2_with fail
            go_ret
            by_cases h0 : i = 0
            · subst h0
              refine ⟨_, _, 1, rfl, HP2.out, rfl, by rw [NP.out]; rfl, by decide, fun t => ?_, fun t => ⟨0, rfl, by show (0 : Nat) < _; exact Nat.pow_pos (by decide)⟩, B.out⟩
              have e1 : co l t = 0 := by rw [← co_trim l t]; exact co_ge (by rw [NP.out]; omega)
              rw [e1]
              show (0 : Rat) = 0 * 1
              grind
            · have hg := HGN.out h0
              have hgr : (G : Rat) ≠ 0 := int_ne hg
              have hco : ∀ t, co (lof i fun t => ((prq M G (co l t) : Int) : Rat)) t = co l t * ((M : Rat) / (G : Rat)) := fun t => by
                rw [co_lof]
                by_cases h : t < i
                · rw [if_pos h, prq_co hg (HGV.out t).1 (HDV.out t)]
                · rw [if_neg h, ← co_trim l t, co_ge (by rw [NP.out]; omega)]; grind
              have h4 : 0 < G := by have := HG0.out.1; omega
              have hgp : ((0 : Int) : Rat) < (G : Rat) := Rat.intCast_lt_intCast.2 h4
              have hmp : ((0 : Int) : Rat) < (M : Rat) := Rat.intCast_lt_intCast.2 HM0.out.1
              have hk : (0 : Rat) < (M : Rat) / (G : Rat) := by rw [Rat.div_def]; exact Rat.mul_pos hmp (Rat.inv_pos.2 hgp)
              refine ⟨_, _, (M : Rat) / (G : Rat), rfl, HP2.out, trm_of_last (.inr ?_), by rw [NP.out]; simp [lof], hk, hco, fun t => ⟨prq M G (co (trimQ l) t), ?_, ?_⟩, B.out⟩
              · rw [hco]
                have h1 : trimQ l ≠ [] := fun e => h0 (by rw [← NP.out, e]; rfl)
                have h2 := trm_last HT.out h1
                rw [co_trim, NP.out] at h2
                rw [show (lof i fun t => ((prq M G (co l t) : Int) : Rat)).length = i by simp [lof]]
                intro e
                rcases Rat.mul_eq_zero.1 e with h | h
                · exact h2 h
                · rw [h] at hk; exact absurd hk (by decide)
              · rw [hco, co_trim, prq_co hg (HGV.out t).1 (HDV.out t)]
              · rw [co_trim]
                obtain ⟨z, hz1, hz2⟩ := HZ.out t
                exact prq_zm (clr_zm (HDV.out t) HM0.out.2.1 HD0.out hz2 hz1)

end Go.Proofs.YtokojbgpboccnaaGreat

/-
  PACKAGE pgcd: cleared.
-/
namespace Go.Proofs.YtokojbgpboccnaaGreat
open Go.RowKit
open Num
set_option linter.unusedVariables false
set_option maxRecDepth 100000
set_option linter.unusedSimpArgs false

theorem num_of_int {q : Rat} {z : Int} (h : q = (z : Rat)) : q.num = z ∧ q.den = 1 := by subst h; exact ⟨Rat.num_intCast z, Rat.den_intCast z⟩
set_option maxHeartbeats 4000000 in
/-- Without denominators. -/
theorem zclear_p {w : World} {v : Value} {l : List Rat} {m : Nat} (h : PN w v l) (hs : Cml l m) (hm : m ≤ 68719476736) (hl : l.length ≤ 1000000) :
    Calls Tryz.prog 77 #[v] w fun e w' => ∃ (v' : Value) (L : List Int) (M : Rat), e = .returned v' ∧ IN w' v' L ∧ Ztr L ∧ L.length ≤ l.length ∧ M ≠ 0 ∧ (∀ i, ((zc L i : Int) : Rat) = co l i * M) ∧ Zl L m ∧ Below w.heap.size w w' := by
  have H1 := hid (prim_p h hs hm hl)
  have HL := hid (trim_len l)
  have hm1 := hs.1
  clear h hs
  go_enter Tryz.func77, Tryz.ntmps77
  go_wp2_with fail
  refine H1.out.mono ?_
  rintro e w1 ⟨v1, P, k, rfl, hp, htr, hlen, hk, hco, hint, hb⟩
  have SM : Hid (∀ i, Sm (co P i) m) := hid (fun i => by
    obtain ⟨z, h1, h2⟩ := hint i
    obtain ⟨e1, e2⟩ := num_of_int h1
    exact ⟨by rw [e1]; exact h2, by rw [e2]; exact Nat.one_lt_pow (by omega) (by decide)⟩)
  obtain ⟨a, c, rfl, hn1, hc1⟩ := hp.opened
  have HP := hid hp
  have B := hid hb
  have HTR := hid htr
  have HK := hid hk
  have HCO := hid hco
  have HIN := hid hint
  obtain ⟨nl, hNL⟩ : ∃ nl, P.length = nl := ⟨_, rfl⟩
  have NL := hid hNL
  have hl9 : nl ≤ 1000000 := by have := HL.out; omega
  have HLL : Hid (nl ≤ l.length) := hid (by have := HL.out; omega)
  rw [hNL] at hn1 HP ⊢
  unfold maxLen at hc1
  clear hp hb htr hk hco hint hlen hNL H1
  go_wp2_with (refine wpList_make_is _ rfl _ _ _ rfl Tryz.underlying103 nl rfl rfl (by omega) ?_)
  intro w0 hrow hb0 hs0
  have B1 := B
  replace B := hid hb0
  have ROW := hid hrow
  clear hrow hb0 hs0
  obtain ⟨b0, hbe⟩ : ∃ b0, b0 = w1.heap.size := ⟨_, rfl⟩
  have HB3 := hid (show w1.heap.size ≤ b0 by omega)
  rw [← hbe] at ROW ⊢
  clear hbe
  go_wp2_with fail
  obtain ⟨rs0, ROW⟩ : ∃ rs : Nat → Zr, Hid (IRw w0 b0 nl rs) := ⟨_, ROW⟩
  go_loopw [14] (fun x wr => ∃ (i : Nat) (rs : Nat → Zr), i ≤ nl ∧ x = .int .i64 i ∧ Hid (IRw wr b0 nl rs) ∧ Hid (∀ t, t < i → ZF wr (iag (rs t)) (co P t).num) ∧ Hid (Below w1.heap.size w1 wr)) (fun x _ => nl - (intOf x).toNat)
  case atStart => exact ⟨0, rs0, by omega, rfl, ROW, hid (fun t ht => by omega), B⟩
  case round =>
    clear ROW B
    obtain ⟨i, rs, hi, rfl, ROW, HW, B⟩ := hrel
    by_cases hlt : i < nl
    · obtain ⟨b5, s5a, p5a, n5a, c5a, s5b, p5b, n5b, c5b, rfl, hb5, cd5, hq5⟩ := pn_at HP.out B.out (i := i) (by rw [NL.out]; exact hlt)
      have HQ := hid hq5
      clear hq5
      have L00 := hid ROW.out.lt
      obtain ⟨hb401, hx402, hs403⟩ := Nbx.made wr s5a s5b (.slice p5a n5a c5a) (.slice p5b n5b c5b)
      replace HQ := nf HQ hb401
      replace ROW := rwi ROW hb401
      replace HW := hid (fun q_ hq_ => (HW.out q_ hq_).on hb401)
      replace B := bb B hb401
      have X5 := hid hx402
      clear hb401 hx402
      have cc404 := X5.out.cells
      go_wp2_with fail
      refine (nparts_f HQ.out (SM.out i)).mono ?_
      rintro e w405 ⟨v, u, rfl, hv, hu, hb⟩
      obtain ⟨s6, p6, n6, c6, rfl⟩ := hv.opened
      obtain ⟨s7, p7, n7, c7, rfl⟩ := hu.opened
      replace ROW := rwi ROW hb
      replace HW := hid (fun q_ hq_ => (HW.out q_ hq_).on hb)
      replace B := bb B hb
      clear cc404
      have HT := hid hv
      clear hb hv hu cd5
      have cc406 := ROW.out.stores hlt
      replace HT := hid (HT.out.iput ROW.out i s6 p6 n6 c6)
      replace HW := hid (fun q_ hq_ => (HW.out q_ hq_).iput ROW.out i s6 p6 n6 c6)
      replace B := hid (ROW.out.below B.out i (by have := HB3.out; have := L00.out; omega) s6 p6 n6 c6)
      replace ROW := hid (ROW.out.put hlt s6 p6 n6 c6)
      go_wp2_with fail
      go_roundw
      case rel => exact ⟨i + 1, _, by omega, by go_num, ROW, hid (fun t ht => by
          by_cases e : t = i
          · subst e; rw [upi_self]; exact HT.out
          · rw [upi_ne _ _ e]; exact HW.out t (by omega)), B⟩
      case measure => simp [intOf]; omega
    · obtain rfl : i = nl := by omega
      have hzr : ∀ t, i ≤ t → (co P t).num = 0 := fun t ht => by rw [co_ge (by rw [NL.out]; exact ht)]; rfl
      have HP2 : Hid (IN wr (.slice (some ⟨b0, 0, none⟩) i i) (zlf i fun t => (co P t).num)) := hid (ROW.out.inn (zlf_len _ _) (Nat.le_refl _) (by unfold maxLen; omega) (fun t ht => (HW.out t ht).cast (zc_zlf hzr t).symm))
      have HZR := hid hzr
      clear hzr
      go_wp2_with fail
      go_ret
      refine ⟨_, _, k, rfl, HP2.out, ?_, by rw [zlf_len]; exact HLL.out, fun e => by have := HK.out; rw [e] at this; exact absurd this (by decide), fun t => ?_, fun t => ?_, B1.out.trans (B.out.mono B1.out.size)⟩
      · by_cases h0 : i = 0
        · exact .inl (List.length_eq_zero_iff.1 (by rw [zlf_len]; exact h0))
        · refine .inr ?_
          rw [zlf_len, zc_zlf HZR.out]
          have h1 : P ≠ [] := fun e => h0 (by rw [← NL.out, e]; rfl)
          have h2 := trm_last HTR.out h1
          rw [NL.out] at h2
          exact fun e => h2 (Rat.num_eq_zero.1 e)
      · rw [zc_zlf HZR.out, ← HCO.out]
        obtain ⟨z, h1, _⟩ := HIN.out t
        rw [(num_of_int h1).1, h1]
      · rw [zc_zlf HZR.out]
        obtain ⟨z, h1, h2⟩ := HIN.out t
        rw [(num_of_int h1).1]; exact h2

end Go.Proofs.YtokojbgpboccnaaGreat

/-
  PACKAGE pgcd: how long its results are. Nothing of a program.
-/
namespace Go.Proofs.YtokojbgpboccnaaGreat
open Go.RowKit
open Num4
set_option linter.unusedVariables false
set_option maxRecDepth 100000
set_option linter.unusedSimpArgs false

theorem cml_slope2 {l : List Rat} {m : Nat} (h : Cml l m) (hl : l.length ≤ 9) : Cml (slope l) (m + 1) ∧ (slope l).length ≤ 9 := ⟨h.slope (by omega), Nat.le_trans (Nat.le_trans (trim_len _) (by simp [lof])) hl⟩
theorem cml_gcdp2 {p q : List Rat} {m : Nat} (hp : Trm p) (hq : Trm q) (h : Cml p m) (h' : Cml q m) (hl : p.length ≤ 9) (hl' : q.length ≤ 9) : Cml (gcdp p q) (m + 7) ∧ (gcdp p q).length ≤ 9 := by
  by_cases h0 : p = []
  · by_cases h1 : q = []
    · subst h0; subst h1
      rw [gcdp_nil]
      exact ⟨Cml.nil (by have := h.1; omega), by decide⟩
    · rw [gcdp_comm hp hq]
      obtain ⟨u, v, k1, k2, k3, _⟩ := gcdp_spec hq hp (.inl h1)
      exact ⟨h'.dv k1 hq h1 k2 hl', Nat.le_trans (k2.len k1.trm hq h1) hl'⟩
  · obtain ⟨u, v, k1, k2, k3, _⟩ := gcdp_spec hp hq (.inl h0)
    exact ⟨h.dv k1 hp h0 k2 hl, Nat.le_trans (k2.len k1.trm hp h0) hl⟩
theorem cml_freep {p : List Rat} {m : Nat} (hp : Trm p) (h : Cml p m) (hl : p.length ≤ 9) : Cml (freep p) (m + 7) ∧ (freep p).length ≤ 9 := by
  by_cases h0 : p = []
  · subst h0
    rw [freep_nil]
    exact ⟨Cml.nil (by have := h.1; omega), by decide⟩
  · have k1 := mnc_freep hp h0
    have k2 := freep_dv hp h0
    exact ⟨h.dv k1 hp h0 k2 hl, Nat.le_trans (k2.len k1.trm hp h0) hl⟩
theorem cml_mnc2 {p : List Rat} {m : Nat} (hp : Trm p) (h : Cml p m) (hl : p.length ≤ 9) : Cml (mnc p) m ∧ (mnc p).length ≤ 9 := by
  by_cases h0 : p = []
  · subst h0
    rw [mnc_nil]
    exact ⟨h, by decide⟩
  · exact ⟨h.mnc hp h0, by rw [mnc_len hp h0]; exact hl⟩

end Go.Proofs.YtokojbgpboccnaaGreat

/-
  PACKAGE poly: Texts.
-/
namespace Go.Proofs.YtokojbgpboccnaaGreat
open Go.RowKit
open Num
set_option linter.unusedVariables false
set_option maxRecDepth 100000
set_option linter.unusedSimpArgs false

/-- Block b holds n texts, and may be written. -/
def SRw (w : World) (b n : Nat) (ss : Nat → ByteArray) : Prop := ∃ cur, w.heap[b]? = some (.cells cur 9 (0, 0)) ∧ cur.size = n ∧ ∀ i, i < n → cur[i]? = some (.string (ss i))
theorem SRw.lt {w : World} {b n : Nat} {ss : Nat → ByteArray} (h : SRw w b n ss) : b < w.heap.size := by
  obtain ⟨cur, h, _⟩ := h
  exact (Array.getElem?_eq_some_iff.1 h).1
theorem SRw.on {w w' : World} {b n : Nat} {ss : Nat → ByteArray} (h : SRw w b n ss) (hb : Below w.heap.size w w') : SRw w' b n ss := by
  have hl := h.lt
  obtain ⟨cur, h, h2⟩ := h
  exact ⟨cur, (hb.block b hl).trans h, h2⟩
theorem SRw.stores {w : World} {b n : Nat} {ss : Nat → ByteArray} (h : SRw w b n ss) {i : Nat} (hi : i < n) : w.cell? ⟨b, i, none⟩ = some (.string (ss i)) ∧ w.frozen? ⟨b, i, none⟩ = false := by
  obtain ⟨cur, h, hs, h2⟩ := h
  exact ⟨by simp [World.cell?, h, h2 i hi], by simp [World.frozen?, h]⟩
theorem SRw.put {w : World} {b n : Nat} {ss : Nat → ByteArray} (h : SRw w b n ss) {i : Nat} (hi : i < n) (s : ByteArray) : SRw (w.setCell ⟨b, i, none⟩ (.string s)) b n (fun k => if k = i then s else ss k) := by
  obtain ⟨cur, h, hs, h2⟩ := h
  refine ⟨cur.setIfInBounds i (.string s), heap_set h _, by simpa using hs, fun k hk => ?_⟩
  show (cur.setIfInBounds i (.string s))[k]? = some (.string (if k = i then s else ss k))
  by_cases hki : k = i
  · subst hki
    rw [if_pos rfl, Array.getElem?_setIfInBounds_self_of_lt (by omega)]
  · rw [if_neg hki, Array.getElem?_setIfInBounds_ne (by omega)]
    exact h2 k hk
theorem SRw.own {w : World} {b n K : Nat} {ss : Nat → ByteArray} {l : List ByteArray} (h : SRw w b n ss) (hK : K ≤ b) (hl : l.length = n) (hn : n ≤ maxLen) (hs : ∀ i, i < n → ss i = tx l i) : OwnT w K (.slice (some ⟨b, 0, none⟩) n n) l := by
  obtain ⟨cur, h, h1, h2⟩ := h
  subst hl
  refine ⟨by simp, .inr ⟨b, l.length, cur, rfl, hK, h, Nat.le_refl _, hn, by omega, ?_⟩⟩
  rw [Nat.mul_one]
  apply List.ext_getElem?
  intro i
  rw [List.getElem?_take]
  by_cases hi : i < l.length
  · rw [if_pos hi, Array.getElem?_toList, h2 i hi, hs i hi, List.getElem?_map, tx_lt hi, List.getElem?_eq_getElem hi]; rfl
  · rw [if_neg hi, List.getElem?_eq_none (by simp; omega)]
/-- 'make([]string, n)'. -/
theorem wpList_make_ts (w : World) {ops : Array Oper} {rest : List Oper} {o : Oper} {a : Act} {Q : Exit → Act → World → Prop}
    (hg : o.guard = none) (l c : Operand) (t : TypeId) (hop : o.op = Op.makeSlice t l c) (h1 : Tryz.prog.underlying t = some (.slice 9))
    (n : Nat) (hl : a.eval l = .int .i64 n) (hc : a.eval c = .int .i64 n) (hb : n ≤ 1000000000000)
    (hK : ∀ w', SRw w' w.heap.size n (fun _ => ⟨#[]⟩) → Below w.heap.size w w' → w'.heap.size = w.heap.size + 1 → wpList Tryz.prog ops Q rest (a.put o.dst (.slice (some ⟨w.heap.size, 0, none⟩) n n)) w') :
    wpList Tryz.prog ops Q (o :: rest) a w := by
  obtain ⟨i, hi, hz0, hz1, hz2⟩ := info_parts infoStr
  refine wpList_plain hg fun K hK' => ?_
  have hr := run_make (P := Tryz.prog) w t _ i _ h1 hi hz0 .i64 .i64 (n : Int) (n : Int) (by omega) (by omega) (by rw [hz2]; omega) (by omega)
  simp only [Int.toNat_natCast] at hr
  unfold Oper.wp
  simp [execOp, hop, hl, hc, hr, Result.andThen]
  rw [hz1]
  refine hK' _ _ (hK _ ⟨_, by show (w.heap.push _)[w.heap.size]? = _; simp; rfl, by simp [madeCells], fun j hj => ?_⟩ ((Below.refl _ _).alloc (Nat.le_refl _) _) (by simp))
  have hcs : (Value.string ⟨#[]⟩).cells = #[.string ⟨#[]⟩] := by simp [Value.cells]
  rw [hcs]
  simp [madeCells, hj, Nat.mod_one]

set_option maxHeartbeats 1000000 in
theorem texts_p {w : World} {v : Value} {l : List Rat} {m : Nat} (h : PN w v l) (hs : Sml l m) (hm : m ≤ 4294967296) (hl : l.length ≤ 1000000) :
    Calls Tryz.prog 19 #[v] w fun e w' => ∃ u, e = .returned u ∧ OwnT w' w.heap.size u ((trimQ l).map qtxt) ∧ Below w.heap.size w w' := by
  obtain ⟨a, c, rfl, hn, hc⟩ := h.opened
  have HP0 := hid (trim_p h)
  have HL := hid (Nat.le_trans (trim_len l) hl)
  have HS := hid hs.trim
  have HM := hid hm
  generalize trimQ l = t at *
  clear h hs hm hl
  generalize l.length = n0 at *
  go_enter Tryz.func19, Tryz.ntmps19
  go_wp2_with fail
  refine HP0.out.mono ?_
  rintro e w1 ⟨v1, rfl, hp, hb⟩
  have B0 := hid hb
  have B := hid (Below.refl w1.heap.size w1)
  obtain ⟨a1, c1, rfl, hn1, hc1⟩ := hp.opened
  have HP := hid hp
  obtain ⟨n, hN⟩ : ∃ n, t.length = n := ⟨_, rfl⟩
  rw [hN] at hn1 HL HP ⊢
  have HN := hid hN
  have hl := HL.out
  clear hb hp hN HP0 hn hc
  unfold maxLen at hc1
  go_wp2_with (refine wpList_make_ts _ rfl _ _ _ rfl Tryz.underlying22 n rfl rfl (by omega) ?_)
  intro w2 hsr hb2 hs2
  have SR := hid hsr
  replace B := bb B hb2
  clear hsr hb2
  obtain ⟨b0, hb0⟩ : ∃ b0, w1.heap.size = b0 := ⟨_, rfl⟩
  have HB := hid (show w1.heap.size ≤ b0 by omega)
  rw [hb0] at SR ⊢
  clear hb0 hs2
  go_wp2_with fail
  go_loopw [13] (fun i wr => ∃ (k : Nat) (ss : Nat → ByteArray), k ≤ n ∧ i = .int .i64 k ∧ Hid (SRw wr b0 n ss) ∧ Hid (∀ j, j < k → ss j = qtxt (co t j)) ∧ Hid (Below w1.heap.size w1 wr)) (fun i _ => n - (intOf i).toNat)
  case atStart => exact ⟨0, _, by omega, rfl, SR, hid (fun j hj => by omega), B⟩
  case round =>
    obtain ⟨k, ss, hk, rfl, SR, HT, B⟩ := hrel
    by_cases hlt : k < n
    · obtain ⟨b, s5a, p5a, n5a, c5a, s5b, p5b, n5b, c5b, rfl, hb, cd, hq⟩ := pn_at HP.out B.out (i := k) (by rw [HN.out]; exact hlt)
      have HQ := hid hq
      clear hq
      have LB := hid SR.out.lt
      obtain ⟨hb101, hx102, hs103⟩ := Nbx.made wr s5a s5b (.slice p5a n5a c5a) (.slice p5b n5b c5b)
      replace HQ := nf HQ hb101
      replace B := bb B hb101
      replace SR := hid (SR.out.on hb101)
      have X5 := hid hx102
      clear hb101 hx102
      have cc104 := X5.out.cells
      go_wp2_with fail
      generalize hW : wr.alloc (.cells #[.bool s5a, .slice p5a n5a c5a, .bool s5b, .slice p5b n5b c5b] 43) = W105 at *
      clear hW
      refine (nstr_f HQ.out (HS.out.2 k) HM.out).mono ?_
      rintro e w106 ⟨rfl, hb⟩
      replace B := bb B hb
      replace SR := hid (SR.out.on hb)
      clear cc104
      clear hb 
      have cc := SR.out.stores hlt
      have SR2 := hid (SR.out.put hlt (qtxt (co t k)))
      have B2 := hid (B.out.setCell (p := ⟨b0, k, none⟩) HB.out (.string (qtxt (co t k))))
      go_wp2_with fail
      go_roundw
      case rel => exact ⟨k + 1, _, by omega, by go_num, SR2, hid (fun j hj => by by_cases hjk : j = k; exact hjk ▸ if_pos rfl; exact (if_neg hjk).trans (HT.out j (by omega))), B2⟩
      case measure => simp [intOf]; omega
    · obtain rfl : k = n := by omega
      go_wp2_with fail
      go_ret
      exact ⟨_, rfl, SR.out.own (Nat.le_trans B0.out.size HB.out) (by rw [List.length_map, HN.out]) (by unfold maxLen; omega) (fun i hi => by rw [HT.out i hi, tx_lt (by rw [List.length_map, HN.out]; exact hi), List.getElem_map, co_lt (by rw [HN.out]; exact hi)]), B0.out.trans (B.out.mono B0.out.size)⟩

end Go.Proofs.YtokojbgpboccnaaGreat

/-
  PACKAGE sturm: ChangesOf.
-/
namespace Go.Proofs.YtokojbgpboccnaaGreat
open Go.RowKit
open Num
set_option linter.unusedVariables false
set_option maxRecDepth 100000
set_option linter.unusedSimpArgs false

theorem sgn_neg {q : Rat} (h : q < 0) : q.num.sign = -1 := by
  have h1 : q.num < 0 := Int.not_le.1 fun h2 => by have := Rat.num_nonneg.1 h2; grind
  exact Int.sign_eq_neg_one_of_neg h1
theorem sgn_pos {q : Rat} (h : 0 < q) : q.num.sign = 1 := by
  have h1 : 0 < q.num := by
    have h2 : 0 ≤ q.num := Rat.num_nonneg.2 (Rat.le_of_lt h)
    have h3 : q.num ≠ 0 := fun e => by have := Rat.num_eq_zero.1 e; rw [this] at h; exact absurd h (by decide)
    omega
  exact Int.sign_eq_one_of_pos h1
theorem sgn_all (a : Rat) : (a < 0 ∧ a.num.sign = -1) ∨ (a = 0 ∧ a.num.sign = 0) ∨ (0 < a ∧ a.num.sign = 1) := by
  rcases tri a with h | h | h
  · exact .inl ⟨h, sgn_neg h⟩
  · exact .inr (.inl ⟨h, by rw [h]; rfl⟩)
  · exact .inr (.inr ⟨h, sgn_pos h⟩)
theorem chq_drop {l : List Rat} {i : Nat} (h : i < l.length) (a : Rat) : chq a (l.drop i) = if co l i = 0 then chq a (l.drop (i + 1)) else (if a * co l i < 0 then 1 else 0) + chq (co l i) (l.drop (i + 1)) := by
  have e : co l i = l[i] := by simp [co, h]
  rw [List.drop_eq_getElem_cons h, e]
  rfl

set_option maxHeartbeats 4000000 in
/-- How often the sign changes. -/
theorem chg_p {w : World} {v : Value} {l : List Rat} (h : PN w v l) (hl : l.length ≤ 1000000000000) :
    Calls Tryz.prog 58 #[v] w fun e w' => e = .returned (.int .i64 ((chq 0 l : Nat) : Int)) ∧ Below w.heap.size w w' := by
  obtain ⟨a, c, rfl, hn1, hc1⟩ := h.opened
  have HP := hid h
  have HQL := hid (chq_len l 0)
  obtain ⟨nl, hNL⟩ : ∃ nl, l.length = nl := ⟨_, rfl⟩
  have NL := hid hNL
  rw [hNL] at hn1 hl HP HQL ⊢
  unfold maxLen at hc1
  clear h hNL
  go_enter Tryz.func58, Tryz.ntmps58
  go_wp2_with fail
  go_loopw [3, 4, 10] (fun ch la x wr => ∃ (i n : Nat) (q : Rat) (z : Int), i ≤ nl ∧ x = .int .i64 i ∧ ch = .int .i64 n ∧ la = .int .i64 z ∧ Hid (z = q.num.sign) ∧ Hid (n + chq q (l.drop i) = chq 0 l) ∧ n ≤ i ∧ Hid (Below w.heap.size w wr)) (fun _ _ x _ => nl - (intOf x).toNat)
  case atStart => exact ⟨0, 0, 0, 0, by omega, rfl, rfl, rfl, hid rfl, hid (by rw [List.drop_zero, Nat.zero_add]), Nat.le_refl _, hid (Below.refl _ _)⟩
  case round =>
    obtain ⟨i, n, q, z, hi, rfl, rfl, rfl, HZ, HI, hni, B⟩ := hrel
    by_cases hlt : i < nl
    · obtain ⟨b5, s5a, p5a, n5a, c5a, s5b, p5b, n5b, c5b, rfl, hb5, cd5, hq5⟩ := pn_at HP.out B.out (i := i) (by rw [NL.out]; exact hlt)
      have HQ := hid hq5
      have HD := hid (chq_drop (l := l) (i := i) (by rw [NL.out]; exact hlt) q)
      obtain ⟨x, hx⟩ : ∃ x, x = co l i := ⟨_, rfl⟩
      rw [← hx] at HD HQ
      clear hq5 hx
      obtain ⟨hb201, hx202, hs203⟩ := Nbx.made wr s5a s5b (.slice p5a n5a c5a) (.slice p5b n5b c5b)
      replace HQ := nf HQ hb201
      replace B := bb B hb201
      have X5 := hid hx202
      clear hb201 hx202
      have cc204 := X5.out.cells
      rcases sgn_all x with ⟨hs, hz⟩ | ⟨hs, hz⟩ | ⟨hs, hz⟩
      · have HS := hid hs
        have HN := hid (nsgn_f HQ.out hz)
        clear hs hz
        by_cases hzz : z = 1
        · have HC : Hid (q * x < 0) := hid (by
            have h1 := HZ.out
            rw [hzz] at h1
            rcases sgn_all q with ⟨k1, k2⟩ | ⟨k1, k2⟩ | ⟨k1, k2⟩
            · rw [k2] at h1; cases h1
            · rw [k2] at h1; cases h1
            · exact mul_pn k1 HS.out)
          have HX0 : Hid (x ≠ 0) := hid (fun e => by have := HS.out; rw [e] at this; exact absurd this (by decide))
          have HS2 : Hid ((-1 : Int) = x.num.sign) := hid (sgn_neg HS.out).symm
          subst hzz
          go_wp2_with fail
          refine HN.out.mono ?_
          rintro e w2 ⟨rfl, hb⟩
          replace B := bb B hb
          clear hb HN
          go_wp2_with fail
          go_roundw
          case rel => exact ⟨i + 1, n + 1, x, -1, by omega, by go_num, by go_num, rfl, HS2, hid (by rw [← HI.out, HD.out, if_neg HX0.out, if_pos HC.out]; omega), by omega, B⟩
          case measure => simp [intOf]; omega
        · have HC : Hid (¬ q * x < 0) := hid (fun hh => by
            have h1 := HZ.out
            rcases sgn_all q with ⟨k1, k2⟩ | ⟨k1, k2⟩ | ⟨k1, k2⟩
            · have := mul_neg' k1 HS.out; grind
            · rw [k1] at hh; grind
            · exact hzz (by rw [h1, k2]))
          have HX0 : Hid (x ≠ 0) := hid (fun e => by have := HS.out; rw [e] at this; exact absurd this (by decide))
          have HS2 : Hid ((-1 : Int) = x.num.sign) := hid (sgn_neg HS.out).symm
          go_wp2_with fail
          refine HN.out.mono ?_
          rintro e w2 ⟨rfl, hb⟩
          replace B := bb B hb
          clear hb HN
          go_wp2_with fail
          go_roundw
          case rel => exact ⟨i + 1, n, x, -1, by omega, by go_num, rfl, rfl, HS2, hid (by rw [← HI.out, HD.out, if_neg HX0.out, if_neg HC.out]; omega), by omega, B⟩
          case measure => simp [intOf]; omega
      · have HS := hid hs
        have HN := hid (nsgn_f HQ.out hz)
        clear hs hz
        go_wp2_with fail
        refine HN.out.mono ?_
        rintro e w2 ⟨rfl, hb⟩
        replace B := bb B hb
        clear hb HN
        go_wp2_with fail
        go_roundw
        case rel => exact ⟨i + 1, n, q, z, by omega, by go_num, rfl, rfl, HZ, hid (by rw [← HI.out, HD.out, if_pos HS.out]), by omega, B⟩
        case measure => simp [intOf]; omega
      · have HS := hid hs
        have HN := hid (nsgn_f HQ.out hz)
        clear hs hz
        by_cases hzz : z = -1
        · have HC : Hid (q * x < 0) := hid (by
            have h1 := HZ.out
            rw [hzz] at h1
            rcases sgn_all q with ⟨k1, k2⟩ | ⟨k1, k2⟩ | ⟨k1, k2⟩
            · exact mul_np k1 HS.out
            · rw [k2] at h1; cases h1
            · rw [k2] at h1; cases h1)
          have HX0 : Hid (x ≠ 0) := hid (fun e => by have := HS.out; rw [e] at this; exact absurd this (by decide))
          have HS2 : Hid ((1 : Int) = x.num.sign) := hid (sgn_pos HS.out).symm
          subst hzz
          go_wp2_with fail
          refine HN.out.mono ?_
          rintro e w2 ⟨rfl, hb⟩
          replace B := bb B hb
          clear hb HN
          go_wp2_with fail
          go_roundw
          case rel => exact ⟨i + 1, n + 1, x, 1, by omega, by go_num, by go_num, rfl, HS2, hid (by rw [← HI.out, HD.out, if_neg HX0.out, if_pos HC.out]; omega), by omega, B⟩
          case measure => simp [intOf]; omega
        · have HC : Hid (¬ q * x < 0) := hid (fun hh => by
            have h1 := HZ.out
            rcases sgn_all q with ⟨k1, k2⟩ | ⟨k1, k2⟩ | ⟨k1, k2⟩
            · exact hzz (by rw [h1, k2])
            · rw [k1] at hh; grind
            · have := Rat.mul_pos k1 HS.out; grind)
          have HX0 : Hid (x ≠ 0) := hid (fun e => by have := HS.out; rw [e] at this; exact absurd this (by decide))
          have HS2 : Hid ((1 : Int) = x.num.sign) := hid (sgn_pos HS.out).symm
          go_wp2_with fail
          refine HN.out.mono ?_
          rintro e w2 ⟨rfl, hb⟩
          replace B := bb B hb
          clear hb HN
          go_wp2_with fail
          go_roundw
          case rel => exact ⟨i + 1, n, x, 1, by omega, by go_num, rfl, rfl, HS2, hid (by rw [← HI.out, HD.out, if_neg HX0.out, if_neg HC.out]; omega), by omega, B⟩
          case measure => simp [intOf]; omega
    · obtain rfl : i = nl := by omega
      have hE : n = chq 0 l := by have := HI.out; rw [List.drop_of_length_le (by rw [NL.out]; exact Nat.le_refl _)] at this; exact this
      have HE := hid hE
      clear hE
      go_wp2_with fail
      go_ret
      exact ⟨ret_int (by rw [← HE.out]), B.out⟩

end Go.Proofs.YtokojbgpboccnaaGreat

/-
  PACKAGE poly: Polynomial.Mul.
-/
namespace Go.Proofs.YtokojbgpboccnaaGreat
open Go.RowKit
open Num
set_option linter.unusedVariables false
set_option maxRecDepth 100000
set_option linter.unusedSimpArgs false

/-- Sums of products: so many rows of them, and so many of the next row. -/
def psum (l r : List Rat) (i t : Nat) : Rat := sumN (fun a => if a ≤ t then co l a * co r (t - a) else 0) i
def pprod (l r : List Rat) (i j t : Nat) : Rat := psum l r i t + if i ≤ t ∧ t < i + j then co l i * co r (t - i) else 0
theorem pprod_start (l r : List Rat) (i t : Nat) : pprod l r i 0 t = psum l r i t := by
  rw [pprod, if_neg (by omega)]; grind
theorem pprod_self (l r : List Rat) (i j : Nat) : pprod l r i j (i + j) = psum l r i (i + j) := by
  rw [pprod, if_neg (by omega)]; grind
theorem pprod_next (l r : List Rat) (i j : Nat) : pprod l r i (j + 1) (i + j) = psum l r i (i + j) + co l i * co r j := by
  rw [pprod, if_pos (by omega), Nat.add_sub_cancel_left]
theorem pprod_ne (l r : List Rat) {i j t : Nat} (h : t ≠ i + j) : pprod l r i (j + 1) t = pprod l r i j t := by
  rw [pprod, pprod]
  by_cases h1 : i ≤ t ∧ t < i + j
  · rw [if_pos h1, if_pos (by omega)]
  · rw [if_neg h1, if_neg (by omega)]
theorem pprod_end (l r : List Rat) {i j t : Nat} (h : r.length ≤ j) : pprod l r i j t = psum l r (i + 1) t := by
  show _ = psum l r i t + (if i ≤ t then co l i * co r (t - i) else 0)
  rw [pprod]
  congr 1
  by_cases h1 : i ≤ t
  · rw [if_pos h1]
    by_cases h2 : t < i + j
    · rw [if_pos ⟨h1, h2⟩]
    · rw [if_neg (by omega), co_ge (l := r) (by omega)]; grind
  · rw [if_neg (by omega), if_neg h1]
theorem part_all (l r : List Rat) (t : Nat) : psum l r l.length t = cnv l r t := by
  have h1 : cnv l r t = sumN (fun a => if a ≤ t then co l a * co r (t - a) else 0) (t + 1) := sumN_congr fun k hk => (if_pos (by omega)).symm
  rw [h1, psum]
  rcases Nat.le_total l.length (t + 1) with h | h
  · exact (sumN_more _ h fun k h2 h3 => by
      show (if k ≤ t then co l k * _ else 0) = 0
      rw [co_ge h2]; split <;> grind).symm
  · exact sumN_more _ h fun k h2 h3 => by
      show (if k ≤ t then co l k * _ else 0) = 0
      rw [if_neg (by omega)]
theorem Sml.rows {l r : List Rat} {m n : Nat} (h : Sml l m) (h' : Sml r n) (t : Nat) : ∀ i, Sm (psum l r i t) (i * (m + n + 1) + 1) := by
  intro i
  induction i with
  | zero => exact Sm.zero (by omega)
  | succ i ih =>
    show Sm (psum l r i t + if i ≤ t then co l i * co r (t - i) else 0) _
    refine (ih.add (n := m + n) ?_).mono (by rw [Nat.succ_mul]; omega)
    split
    · exact (h.2 i).mul (h'.2 (t - i))
    · exact Sm.zero (by have := h.1; omega)
theorem mulp_of (l r : List Rat) : trimQ (lof (l.length + r.length) fun t => psum l r l.length t) = mulp l r := by
  refine trim_ext fun i => ?_
  rw [co_lof, co_lof]
  by_cases h : i < l.length + r.length - 1
  · rw [if_pos h, if_pos (by omega), part_all]
  · rw [if_neg h]
    split
    · rw [part_all, cnv_big (by omega)]
    · rfl

set_option maxHeartbeats 8000000 in
theorem pmul_p {w : World} {v u : Value} {l r : List Rat} {m n : Nat} (h : PN w v l) (h' : PN w u r) (hs : Sml l m) (hs' : Sml r n) (hm : l.length * (m + n + 1) + m + n + 2 ≤ 68719476736) (hl : l.length ≤ 1000000) (hr : r.length ≤ 1000000) :
    Calls Tryz.prog 25 #[v, u] w fun e w' => ∃ v', e = .returned v' ∧ PN w' v' (mulp l r) ∧ Below w.heap.size w w' := by
  obtain ⟨a, c, rfl, hn1, hc1⟩ := h.opened
  obtain ⟨a', c', rfl, hn2, hc2⟩ := h'.opened
  have HP := hid h
  have HP' := hid h'
  have SL := hid hs
  have SR := hid hs'
  have HM := hid (show m + n + 2 ≤ 68719476736 by omega)
  have HI0 : Hid (∀ i, i ≤ l.length → i * (m + n + 1) + 1 ≤ 68719476736) := hid (fun i hi => by have := Nat.mul_le_mul_right (m + n + 1) hi; omega)
  have HK := hid (mulp_of l r)
  obtain ⟨nl, hNL⟩ : ∃ nl, l.length = nl := ⟨_, rfl⟩
  obtain ⟨nr, hNR⟩ : ∃ nr, r.length = nr := ⟨_, rfl⟩
  have NL := hid hNL
  have NR := hid hNR
  rw [hNL] at hn1 hl HP HK HI0 ⊢
  rw [hNR] at hn2 hr HP' HK ⊢
  clear h h' hs hs' hm hNL hNR
  unfold maxLen at hc1 hc2
  go_enter Tryz.func25, Tryz.ntmps25
  go_wp2_with (refine wpList_make_ns _ rfl _ _ _ rfl Tryz.underlying35 (nl + nr) (by show Value.int .i64 ((nl : Int) + nr) = _; push_cast; rfl) (by show Value.int .i64 ((nl : Int) + nr) = _; push_cast; rfl) (by omega) ?_)
  intro w0 hrow hb0 hs0
  have B := hid hb0
  have ROW := hid hrow
  have HB := hid (Nat.le_refl w.heap.size)
  have HW : Hid (∀ t, t < nl + nr → NF w0 (nag Nz) (psum l r 0 t)) := hid (fun t ht => NF.zero w0)
  clear hrow hb0 hs0
  go_wp2_with fail
  obtain ⟨b0, hb0⟩ : ∃ b0, b0 = w.heap.size := ⟨_, rfl⟩
  have HB := hid (show w.heap.size ≤ b0 by omega)
  rw [← hb0] at ROW ⊢
  clear hb0
  have W0 : ∃ rs : Nat → Nr, Hid (NRw w0 b0 (nl + nr) rs) ∧ Hid (∀ t, t < nl + nr → NF w0 (nag (rs t)) (psum l r 0 t)) := ⟨_, ROW, HW⟩
  clear ROW HW
  obtain ⟨rs0, ROW, HW⟩ := W0
  go_loopw [18] (fun x wr => ∃ (i : Nat) (rs : Nat → Nr), i ≤ nl ∧ x = .int .i64 i ∧ Hid (NRw wr b0 (nl + nr) rs) ∧ Hid (∀ t, t < nl + nr → NF wr (nag (rs t)) (psum l r i t)) ∧ Hid (Below w.heap.size w wr)) (fun x _ => nl - (intOf x).toNat)
  case atStart => exact ⟨0, rs0, by omega, rfl, ROW, HW, B⟩
  case round =>
    clear ROW HW B
    obtain ⟨i, rs, hi, rfl, ROW, HW, B⟩ := hrel
    by_cases hlt : i < nl
    · obtain ⟨b5, s5a, p5a, n5a, c5a, s5b, p5b, n5b, c5b, rfl, hb5, cd5, hq5⟩ := pn_at HP.out B.out (i := i) (by rw [NL.out]; exact hlt)
      have HQ := hid hq5
      have HI := hid (HI0.out i hi)
      clear hq5
      have LB := hid ROW.out.lt
      obtain ⟨hb301, hx302, hs303⟩ := Nbx.made wr s5a s5b (.slice p5a n5a c5a) (.slice p5b n5b c5b)
      replace HQ := nf HQ hb301
      replace ROW := rwo ROW hb301
      replace HW := hid (fun q_ hq_ => (HW.out q_ hq_).on hb301)
      replace B := bb B hb301
      have X7 := hid hx302
      clear hb301 hx302
      have cc304 := X7.out.cells
      go_wp2_with fail
      generalize hW : wr.alloc (.cells #[.bool s5a, .slice p5a n5a c5a, .bool s5b, .slice p5b n5b c5b] 43) = W305 at *
      clear hW
      obtain ⟨g7, hg7⟩ : ∃ g7, g7 = wr.heap.size := ⟨_, rfl⟩
      rw [← hg7] at X7 LB ⊢
      have LG := LB
      clear cc304 hg7 LB cd5
      go_loopw [25] (fun x wr => ∃ (j : Nat) (rs : Nat → Nr), j ≤ nr ∧ x = .int .i64 j ∧ Hid (NRw wr b0 (nl + nr) rs) ∧ Hid (∀ t, t < nl + nr → NF wr (nag (rs t)) (pprod l r i j t)) ∧ Hid (Nbx wr g7 s5a (.slice p5a n5a c5a) s5b (.slice p5b n5b c5b)) ∧ Hid (NF wr (.agg #[.bool s5a, .slice p5a n5a c5a, .bool s5b, .slice p5b n5b c5b]) (co l i)) ∧ Hid (Below w.heap.size w wr)) (fun x _ => nr - (intOf x).toNat)
      case atStart => exact ⟨0, rs, by omega, rfl, ROW, hid (fun t ht => (HW.out t ht).cast (pprod_start l r i t).symm), X7, HQ, B⟩
      case round =>
        clear ROW HW B X7 HQ
        obtain ⟨j, rs, hj, rfl, ROW, HW, X7, HQ, B⟩ := hrel
        by_cases hltj : j < nr
        · have hkn : i + j < nl + nr := by omega
          have hx1 : (0 : Int) ≤ (i : Int) + (j : Int) := by omega
          have hx2 : (i : Int) + (j : Int) < (nl : Int) + (nr : Int) := by omega
          have hx3 : ((i : Int) + (j : Int)).toNat = i + j := by omega
          have hx4 : IntKind.i64.wrap ((i : Int) + (j : Int)) = (i : Int) + (j : Int) := IntWalk.i64_in _ (by omega)
          obtain ⟨b6, s6a, p6a, n6a, c6a, s6b, p6b, n6b, c6b, rfl, hb6, cd6, hq6⟩ := pn_at HP'.out B.out (i := j) (by rw [NR.out]; exact hltj)
          obtain ⟨s7a, p7a, n7a, c7a, s7b, p7b, n7b, c7b, hz7⟩ : ∃ s7a p7a n7a c7a s7b p7b n7b c7b, rs (i + j) = ((s7a, p7a, n7a, c7a), (s7b, p7b, n7b, c7b)) := ⟨_, _, _, _, _, _, _, _, rfl⟩
          have hq7 := HW.out (i + j) hkn
          rw [hz7] at hq7
          dsimp only [nag] at hq7
          have HD := hid hq6
          have HS := hid (hq7.cast (pprod_self l r i j))
          clear hq6 hq7
          obtain ⟨hb101, hx102, hs103⟩ := Nbx.made wr s6a s6b (.slice p6a n6a c6a) (.slice p6b n6b c6b)
          have L2 := hid X7.out.lt
          replace X7 := nx X7 hb101
          replace HQ := nf HQ hb101
          replace HD := nf HD hb101
          replace HS := nf HS hb101
          replace ROW := rwo ROW hb101
          replace HW := hid (fun q_ hq_ => (HW.out q_ hq_).on hb101)
          replace B := bb B hb101
          have X9 := hid hx102
          clear hb101 hx102
          have cc104 := X7.out.cells
          have cc105 := X9.out.cells
          have cr := ROW.out.cells hkn
          rw [hz7] at cr
          go_wp2_with fail
          generalize hW : wr.alloc (.cells #[.bool s6a, .slice p6a n6a c6a, .bool s6b, .slice p6b n6b c6b] 43) = W106 at *
          clear hW
          clear cr cd6 cc104 cc105
          have cc107 := X7.out.cells
          have cc108 := X9.out.cells
          replace X7 := hid X7.out.dr
          replace X9 := hid X9.out.dr
          replace HQ := hid HQ.out.drew
          replace HD := hid HD.out.drew
          replace HS := hid HS.out.drew
          replace HW := hid (fun q_ hq_ => (HW.out q_ hq_).drew)
          replace ROW := hid ROW.out.dr
          replace B := hid (Below.drew B.out)
          have cr := ROW.out.cells hkn
          rw [hz7] at cr
          have cc109 := X7.out.cells
          have cc110 := X9.out.cells
          go_region_with (first
            | (have hm := mk111_0; clear hm; go_at_call 23; refine (nadd_f HS.out HV.out (SL.out.rows SR.out (i + j) i) ((SL.out.2 i).mul (SR.out.2 j)) HI.out (by have := HM.out; omega)).mono ?_; rintro e w115 ⟨v, rfl, hv, hb⟩; obtain ⟨s9a, p9a, n9a, c9a, s9b, p9b, n9b, c9b, rfl⟩ := hv.opened; replace X7 := nx X7 hb; replace X9 := nx X9 hb; replace HQ := nf HQ hb; replace HD := nf HD hb; replace HS := nf HS hb; replace HV := nf HV hb; replace ROW := rwo ROW hb; replace HW := hid (fun q_ hq_ => (HW.out q_ hq_).on hb); replace B := bb B hb; clear cc113 cc114; have HX := hid hv; clear hb hv cr; have cc116 := X7.out.cells; have cc117 := X9.out.cells; have cr := ROW.out.cells hkn; rw [hz7] at cr; have cc118 := ROW.out.stores hkn; replace X7 := hid (X7.out.kept (ROW.out.far (i + j) (by have := HB.out; have := LG.out; have := L2.out; omega) s9a p9a n9a c9a s9b p9b n9b c9b)); replace X9 := hid (X9.out.kept (ROW.out.far (i + j) (by have := HB.out; have := LG.out; have := L2.out; omega) s9a p9a n9a c9a s9b p9b n9b c9b)); replace HQ := hid (HQ.out.put ROW.out (i + j) s9a p9a n9a c9a s9b p9b n9b c9b); replace HD := hid (HD.out.put ROW.out (i + j) s9a p9a n9a c9a s9b p9b n9b c9b); replace HS := hid (HS.out.put ROW.out (i + j) s9a p9a n9a c9a s9b p9b n9b c9b); replace HV := hid (HV.out.put ROW.out (i + j) s9a p9a n9a c9a s9b p9b n9b c9b); replace HX := hid (HX.out.put ROW.out (i + j) s9a p9a n9a c9a s9b p9b n9b c9b); replace HW := hid (fun q_ hq_ => (HW.out q_ hq_).put ROW.out (i + j) s9a p9a n9a c9a s9b p9b n9b c9b); replace B := hid (ROW.out.below B.out (i + j) (by have := HB.out; have := LG.out; have := L2.out; omega) s9a p9a n9a c9a s9b p9b n9b c9b); replace ROW := hid (ROW.out.put hkn s9a p9a n9a c9a s9b p9b n9b c9b); have mk111_1 := hid True.intro)
            | (go_at_call 21; refine (nmul_f HQ.out HD.out (SL.out.2 i) (SR.out.2 j) (by have := HM.out; omega) (by have := HM.out; omega)).mono ?_; rintro e w112 ⟨v, rfl, hv, hb⟩; obtain ⟨s8a, p8a, n8a, c8a, s8b, p8b, n8b, c8b, rfl⟩ := hv.opened; replace X7 := nx X7 hb; replace X9 := nx X9 hb; replace HQ := nf HQ hb; replace HD := nf HD hb; replace HS := nf HS hb; replace ROW := rwo ROW hb; replace HW := hid (fun q_ hq_ => (HW.out q_ hq_).on hb); replace B := bb B hb; clear cc107 cc108 cc109 cc110; have HV := hid hv; clear hb hv cr; have cc113 := X7.out.cells; have cc114 := X9.out.cells; have cr := ROW.out.cells hkn; rw [hz7] at cr; have mk111_0 := hid True.intro))
          all_goals
            go_wp2_with fail
            go_roundw
            case rel => exact ⟨j + 1, _, by omega, by go_num, ROW, hid (fun t ht => by
              by_cases htj : t = i + j
              · subst htj; rw [upd_self, pprod_next]; exact HX.out
              · rw [upd_ne _ _ htj, pprod_ne _ _ htj]; exact HW.out t ht), X7, HQ, B⟩
            case measure => simp [intOf]; omega
        · obtain rfl : j = nr := by omega
          go_wp2_with fail
          go_roundw
          case rel => exact ⟨i + 1, rs, by omega, by go_num, ROW, hid (fun t ht => (HW.out t ht).cast (pprod_end l r (by rw [NR.out]; exact Nat.le_refl _))), B⟩
          case measure => simp [intOf]; omega
    · obtain rfl : i = nl := by omega
      have HP2 : Hid (PN wr (.slice (some ⟨b0, 0, none⟩) (i + nr) (i + nr)) (lof (i + nr) fun t => psum l r i t)) := hid (ROW.out.pn (by simp [lof]) (Nat.le_refl _) (by unfold maxLen; omega) (fun t ht => (HW.out t ht).cast (by rw [co_lof, if_pos ht])))
      go_wp2_with fail
      refine (trim_p HP2.out).mono ?_
      rintro e w2 ⟨v2, rfl, hp, hb⟩
      have HR := hid hp
      have B2 := hid (B.out.trans (hb.mono B.out.size))
      clear hp hb
      go_wp2_with fail
      go_ret
      exact ⟨_, rfl, by rw [← HK.out]; exact HR.out, B2.out⟩

end Go.Proofs.YtokojbgpboccnaaGreat

namespace Go.Proofs.YtokojbgpboccnaaGreat
open Go.RowKit
open Num
set_option linter.unusedVariables false
theorem less_true {a b : ByteArray} {t : Bool} (h : QLess a b t 0) (hl : qnum a < qnum b) : t = true := by
  rw [(h.yes rfl).2.2]; exact decide_eq_true hl
theorem good_half : GoodQ ⟨#[49, 47, 50]⟩ := ⟨by decide, by decide +kernel⟩
theorem qnum_half : qnum ⟨#[49, 47, 50]⟩ = 1 / 2 := by decide +kernel
theorem between {a b s m : ByteArray} {is x y : Bool} (h1 : QLess a b is 0) (h2 : QTells (· + ·) a b s 0) (h3 : QTells (· * ·) s ⟨#[49, 47, 50]⟩ m 0) (h4 : QLess a m x 0) (h5 : QLess m b y 0) (hi : is = true) : x = true ∧ y = true := by
  have e1 := (h1.yes rfl).2.2
  rw [hi] at e1
  have l := of_decide_eq_true e1.symm
  have em : qnum m = (qnum a + qnum b) * (1 / 2) := by
    rw [(h3.yes rfl).2.2, (h2.yes rfl).2.2, qnum_qtxt, qnum_qtxt, qnum_half]
  exact ⟨less_true h4 (by rw [em]; grind), less_true h5 (by rw [em]; grind)⟩
end Go.Proofs.YtokojbgpboccnaaGreat

namespace Go.Proofs.YtokojbgpboccnaaGreat
open Go.RowKit
open Num
set_option linter.unusedVariables false
set_option maxRecDepth 100000
set_option linter.unusedSimpArgs false

theorem qhalves (w : World) :
    Calls Tryz.prog 8 #[.string ⟨#[49, 47, 50]⟩, .string ⟨#[49, 47, 50]⟩] w fun e w' => e = .returned (.tuple #[.string ⟨#[49, 47, 52]⟩, .nilIface]) ∧ Below w.heap.size w w' := by
  have h := qmul_good good_half good_half w
  have e1 := qtxt_qnum (s := ⟨#[49, 47, 52]⟩) (by decide +kernel)
  have e3 : qnum ⟨#[49, 47, 50]⟩ * qnum ⟨#[49, 47, 50]⟩ = qnum ⟨#[49, 47, 52]⟩ := by decide +kernel
  rw [e3, e1] at h
  exact h

set_option maxHeartbeats 400000 in
theorem half_true (w : World) :
    Calls Tryz.prog 10 #[] w fun e w' => e = .returned (.bool true) ∧ Below w.heap.size w w' := by
  have H := hid (qhalves w)
  go_enter Tryz.func10, Tryz.ntmps10
  go_wp2_with fail
  refine H.out.mono ?_
  rintro e w' ⟨rfl, hb⟩
  go_wp2_with fail
  go_ret
  exact ⟨rfl, hb⟩

end Go.Proofs.YtokojbgpboccnaaGreat
