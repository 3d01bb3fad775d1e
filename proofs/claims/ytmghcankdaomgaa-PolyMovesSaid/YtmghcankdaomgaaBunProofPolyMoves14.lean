import Derived.Test.YtmghcankdaomgaaBunProofPolyMoves13
/-
  PACKAGE poly: Polynomial.Add.
-/
namespace Go.Proofs.Ytmghcankdaomgaa
open Go.RowKit
open Num
set_option linter.unusedVariables false
set_option maxRecDepth 100000
set_option linter.unusedSimpArgs false

set_option maxHeartbeats 4000000 in
theorem padd_one {w : World} {v u : Value} {l r : List Rat} {m n : Nat} (h : PN w v l) (h' : PN w u r) (hs : Sml l m) (hs' : Sml r n) (hm : m ≤ 68719476736) (hn : n ≤ 68719476736) (hl : l.length ≤ 1000000) (hle : r.length ≤ l.length) :
    Calls Try.prog 30 #[v, u] w fun e w' => ∃ v', e = .returned v' ∧ PN w' v' (addp l r) ∧ Below w.heap.size w w' := by
  obtain ⟨a, c, rfl, hn1, hc1⟩ := h.opened
  obtain ⟨a', c', rfl, hn2, hc2⟩ := h'.opened
  have HP := hid h
  have HP' := hid h'
  have SL := hid hs
  have SR := hid hs'
  have HM := hid hm
  have HM' := hid hn
  have HC := hid (nclone h hl)
  have HK : Hid (addp l r = trimQ (lof l.length fun i => co l i + co r i)) := hid (by rw [addp, Nat.max_eq_left (by omega)])
  obtain ⟨nl, hNL⟩ : ∃ nl, l.length = nl := ⟨_, rfl⟩
  obtain ⟨nr, hNR⟩ : ∃ nr, r.length = nr := ⟨_, rfl⟩
  have NL := hid hNL
  have NR := hid hNR
  rw [hNL] at hn1 hl hle HP HC HK ⊢
  rw [hNR] at hn2 hle HP' ⊢
  clear h h' hs hs' hm hn hNL hNR
  unfold maxLen at hc1 hc2
  go_enter Try.func30, Try.ntmps30
  go_wp2_with fail
  refine HC.out.mono ?_
  rintro e w1 ⟨v1, rfl, ho, hb⟩
  have B := hid hb
  clear hb HC
  rcases ho with ⟨h0, a1, c1, rfl, hc3⟩ | ⟨b0, c1, rs, rfl, hb0, hrow, hn3, hc3, hw⟩
  · have h00 : nl = 0 := by rw [← NL.out, h0]; rfl
    subst h00
    obtain rfl : nr = 0 := by omega
    have HT := hid (trim_pn (PN.nil w1 (a := a1) hc3))
    unfold maxLen at hc3
    go_wp2_with fail
    go_loopw [19] (fun i wr => i = .int .i64 0 ∧ ∃ j, wr = w1.drewN j) (fun i _ => 0)
    case atStart => exact ⟨rfl, 0, rfl⟩
    case round =>
      obtain ⟨rfl, j, rfl⟩ := hrel
      have HT := hid (trim_pn (PN.nil (w1.drewN j) (a := a1) (c := c1) (by unfold maxLen; omega)))
      have BJ := hid (below_drewN (Below.refl w1.heap.size w1) j)
      go_wp2_with fail
      refine HT.out.mono ?_
      rintro e w2 ⟨rfl, hb⟩
      go_wp2_with fail
      go_ret
      have e0 : addp l r = [] := by rw [HK.out]; rfl
      rw [e0]
      exact ⟨_, rfl, PN.nil w2 (by unfold maxLen; omega), (B.out.trans (BJ.out.mono B.out.size)).trans (hb.mono (B.out.trans (BJ.out.mono B.out.size)).size)⟩
  · rw [NL.out] at hrow hn3 hw ⊢
    have HB := hid hb0
    have ROW := hid hrow
    have HW : Hid (∀ j, j < nl → NF w1 (nag (rs j)) (co l j + if j < 0 then co r j else 0)) := hid (fun j hj => (hw j hj).cast (by rw [if_neg (by omega)]; grind))
    have HC3 := hid hc3
    clear hrow hw hb0
    unfold maxLen at hc3
    go_wp2_with fail
    go_loopw [19] (fun i wr => ∃ (k : Nat) (rs : Nat → Nr), k ≤ nr ∧ i = .int .i64 k ∧ Hid (NRw wr b0 nl rs) ∧ Hid (∀ j, j < nl → NF wr (nag (rs j)) (co l j + if j < k then co r j else 0)) ∧ Hid (Below w.heap.size w wr)) (fun i _ => nr - (intOf i).toNat)
    case atStart => exact ⟨0, rs, by omega, rfl, ROW, HW, B⟩
    case round =>
      clear ROW HW B
      obtain ⟨k, rs, hk, rfl, ROW, HW, B⟩ := hrel
      by_cases hlt : k < nr
      · have hkn : k < nl := by omega
        obtain ⟨b5, s5a, p5a, n5a, c5a, s5b, p5b, n5b, c5b, rfl, hb5, cd5, hq5⟩ := pn_at HP'.out B.out (i := k) (by rw [NR.out]; exact hlt)
        obtain ⟨s6a, p6a, n6a, c6a, s6b, p6b, n6b, c6b, hz6⟩ : ∃ s6a p6a n6a c6a s6b p6b n6b c6b, rs k = ((s6a, p6a, n6a, c6a), (s6b, p6b, n6b, c6b)) := ⟨_, _, _, _, _, _, _, _, rfl⟩
        have hq6 := HW.out k hkn
        rw [hz6, if_neg (by omega)] at hq6
        dsimp only [nag] at hq6
        have HQ := hid hq5
        have HS := hid (hq6.cast (show co l k + 0 = co l k by grind))
        have HN3 := hid hn3
        clear hq5 hq6
        have LB := hid ROW.out.lt
        obtain ⟨hb101, hx102, hs103⟩ := Nbx.made wr s5a s5b (.slice p5a n5a c5a) (.slice p5b n5b c5b)
        replace HQ := nf HQ hb101
        replace HS := nf HS hb101
        replace ROW := rwo ROW hb101
        replace HW := hid (fun q_ hq_ => (HW.out q_ hq_).on hb101)
        replace B := bb B hb101
        have X7 := hid hx102
        clear hb101 hx102
        have cc104 := X7.out.cells
        have cr := ROW.out.cells hkn
        rw [hz6] at cr
        go_wp2_with fail
        generalize hW : wr.alloc (.cells #[.bool s5a, .slice p5a n5a c5a, .bool s5b, .slice p5b n5b c5b] 52) = W105 at *
        clear hW
        clear cr
        have cc106 := X7.out.cells
        replace X7 := hid X7.out.dr
        replace HQ := hid HQ.out.drew
        replace HS := hid HS.out.drew
        replace HW := hid (fun q_ hq_ => (HW.out q_ hq_).drew)
        replace ROW := hid ROW.out.dr
        replace B := hid (Below.drew B.out)
        have cr := ROW.out.cells hkn
        rw [hz6] at cr
        have cc107 := X7.out.cells
        go_region_with (first
          | (go_at_call 33; refine (nadd_f HS.out HQ.out (SL.out.2 k) (SR.out.2 k) HM.out HM'.out).mono ?_; rintro e w109 ⟨v, rfl, hv, hb⟩; obtain ⟨s7a, p7a, n7a, c7a, s7b, p7b, n7b, c7b, rfl⟩ := hv.opened; replace X7 := nx X7 hb; replace HQ := nf HQ hb; replace HS := nf HS hb; replace ROW := rwo ROW hb; replace HW := hid (fun q_ hq_ => (HW.out q_ hq_).on hb); replace B := bb B hb; clear cc104 cc106 cc107; have HV := hid hv; clear hb hv cr; have cc110 := X7.out.cells; have cr := ROW.out.cells hkn; rw [hz6] at cr; have cc111 := ROW.out.stores hkn; replace X7 := hid (X7.out.kept (ROW.out.far k (by have := HB.out; have := LB.out; omega) s7a p7a n7a c7a s7b p7b n7b c7b)); replace HQ := hid (HQ.out.put ROW.out k s7a p7a n7a c7a s7b p7b n7b c7b); replace HS := hid (HS.out.put ROW.out k s7a p7a n7a c7a s7b p7b n7b c7b); replace HV := hid (HV.out.put ROW.out k s7a p7a n7a c7a s7b p7b n7b c7b); replace HW := hid (fun q_ hq_ => (HW.out q_ hq_).put ROW.out k s7a p7a n7a c7a s7b p7b n7b c7b); replace B := hid (ROW.out.below B.out k (by have := HB.out; have := LB.out; omega) s7a p7a n7a c7a s7b p7b n7b c7b); replace ROW := hid (ROW.out.put hkn s7a p7a n7a c7a s7b p7b n7b c7b); have mk108_0 := hid True.intro))
        all_goals
          go_wp2_with fail
          go_roundw
          case rel => exact ⟨k + 1, _, by omega, by go_num, ROW, hid (fun j hj => by
            by_cases hjk : j = k
            · subst hjk; rw [upd_self, if_pos (by omega)]; exact HV.out
            · rw [upd_ne _ _ hjk]; exact (HW.out j hj).cast (by split <;> split <;> first | rfl | omega)), B⟩
          case measure => simp [intOf]; omega
      · obtain rfl : k = nr := by omega
        have HP2 : Hid (PN wr (.slice (some ⟨b0, 0, none⟩) nl c1) (lof nl fun i => co l i + co r i)) := hid (ROW.out.pn (by simp [lof]) hn3 HC3.out (fun i hi => (HW.out i hi).cast (by rw [co_lof, if_pos hi]; split; rfl; rw [co_ge (l := r) (by rw [NR.out]; omega)])))
        go_wp2_with fail
        refine (trim_p HP2.out).mono ?_
        rintro e w2 ⟨v2, rfl, hp, hb⟩
        have HR := hid hp
        have B2 := hid (B.out.trans (hb.mono B.out.size))
        clear hp hb
        go_wp2_with fail
        go_ret
        exact ⟨_, rfl, by rw [HK.out]; exact HR.out, B2.out⟩

set_option maxHeartbeats 4000000 in
theorem padd_swap {w : World} {v u : Value} {l r : List Rat} {m n : Nat} (h : PN w v l) (h' : PN w u r) (hs : Sml l m) (hs' : Sml r n) (hm : m ≤ 68719476736) (hn : n ≤ 68719476736) (hl : l.length ≤ 1000000) (hle : r.length < l.length) :
    Calls Try.prog 30 #[u, v] w fun e w' => ∃ v', e = .returned v' ∧ PN w' v' (addp l r) ∧ Below w.heap.size w w' := by
  obtain ⟨a, c, rfl, hn1, hc1⟩ := h.opened
  obtain ⟨a', c', rfl, hn2, hc2⟩ := h'.opened
  have HP := hid h
  have HP' := hid h'
  have SL := hid hs
  have SR := hid hs'
  have HM := hid hm
  have HM' := hid hn
  have HC := hid (nclone h hl)
  have HK : Hid (addp l r = trimQ (lof l.length fun i => co l i + co r i)) := hid (by rw [addp, Nat.max_eq_left (by omega)])
  obtain ⟨nl, hNL⟩ : ∃ nl, l.length = nl := ⟨_, rfl⟩
  obtain ⟨nr, hNR⟩ : ∃ nr, r.length = nr := ⟨_, rfl⟩
  have NL := hid hNL
  have NR := hid hNR
  rw [hNL] at hn1 hl hle HP HC HK ⊢
  rw [hNR] at hn2 hle HP' ⊢
  clear h h' hs hs' hm hn hNL hNR
  unfold maxLen at hc1 hc2
  have hle2 : (nr : Int) < (nl : Int) := by omega
  go_enter Try.func30, Try.ntmps30
  go_wp2_with fail
  refine HC.out.mono ?_
  rintro e w1 ⟨v1, rfl, ho, hb⟩
  have B := hid hb
  clear hb HC
  rcases ho with ⟨h0, a1, c1, rfl, hc3⟩ | ⟨b0, c1, rs, rfl, hb0, hrow, hn3, hc3, hw⟩
  · have h00 : nl = 0 := by rw [← NL.out, h0]; rfl
    subst h00
    obtain rfl : nr = 0 := by omega
    have HT := hid (trim_pn (PN.nil w1 (a := a1) hc3))
    unfold maxLen at hc3
    go_wp2_with fail
    go_loopw [19] (fun i wr => i = .int .i64 0 ∧ ∃ j, wr = w1.drewN j) (fun i _ => 0)
    case atStart => exact ⟨rfl, 0, rfl⟩
    case round =>
      obtain ⟨rfl, j, rfl⟩ := hrel
      have HT := hid (trim_pn (PN.nil (w1.drewN j) (a := a1) (c := c1) (by unfold maxLen; omega)))
      have BJ := hid (below_drewN (Below.refl w1.heap.size w1) j)
      go_wp2_with fail
      refine HT.out.mono ?_
      rintro e w2 ⟨rfl, hb⟩
      go_wp2_with fail
      go_ret
      have e0 : addp l r = [] := by rw [HK.out]; rfl
      rw [e0]
      exact ⟨_, rfl, PN.nil w2 (by unfold maxLen; omega), (B.out.trans (BJ.out.mono B.out.size)).trans (hb.mono (B.out.trans (BJ.out.mono B.out.size)).size)⟩
  · rw [NL.out] at hrow hn3 hw ⊢
    have HB := hid hb0
    have ROW := hid hrow
    have HW : Hid (∀ j, j < nl → NF w1 (nag (rs j)) (co l j + if j < 0 then co r j else 0)) := hid (fun j hj => (hw j hj).cast (by rw [if_neg (by omega)]; grind))
    have HC3 := hid hc3
    clear hrow hw hb0
    unfold maxLen at hc3
    go_wp2_with fail
    go_loopw [19] (fun i wr => ∃ (k : Nat) (rs : Nat → Nr), k ≤ nr ∧ i = .int .i64 k ∧ Hid (NRw wr b0 nl rs) ∧ Hid (∀ j, j < nl → NF wr (nag (rs j)) (co l j + if j < k then co r j else 0)) ∧ Hid (Below w.heap.size w wr)) (fun i _ => nr - (intOf i).toNat)
    case atStart => exact ⟨0, rs, by omega, rfl, ROW, HW, B⟩
    case round =>
      clear ROW HW B
      obtain ⟨k, rs, hk, rfl, ROW, HW, B⟩ := hrel
      by_cases hlt : k < nr
      · have hkn : k < nl := by omega
        obtain ⟨b5, s5a, p5a, n5a, c5a, s5b, p5b, n5b, c5b, rfl, hb5, cd5, hq5⟩ := pn_at HP'.out B.out (i := k) (by rw [NR.out]; exact hlt)
        obtain ⟨s6a, p6a, n6a, c6a, s6b, p6b, n6b, c6b, hz6⟩ : ∃ s6a p6a n6a c6a s6b p6b n6b c6b, rs k = ((s6a, p6a, n6a, c6a), (s6b, p6b, n6b, c6b)) := ⟨_, _, _, _, _, _, _, _, rfl⟩
        have hq6 := HW.out k hkn
        rw [hz6, if_neg (by omega)] at hq6
        dsimp only [nag] at hq6
        have HQ := hid hq5
        have HS := hid (hq6.cast (show co l k + 0 = co l k by grind))
        have HN3 := hid hn3
        clear hq5 hq6
        have LB := hid ROW.out.lt
        obtain ⟨hb101, hx102, hs103⟩ := Nbx.made wr s5a s5b (.slice p5a n5a c5a) (.slice p5b n5b c5b)
        replace HQ := nf HQ hb101
        replace HS := nf HS hb101
        replace ROW := rwo ROW hb101
        replace HW := hid (fun q_ hq_ => (HW.out q_ hq_).on hb101)
        replace B := bb B hb101
        have X7 := hid hx102
        clear hb101 hx102
        have cc104 := X7.out.cells
        have cr := ROW.out.cells hkn
        rw [hz6] at cr
        go_wp2_with fail
        generalize hW : wr.alloc (.cells #[.bool s5a, .slice p5a n5a c5a, .bool s5b, .slice p5b n5b c5b] 52) = W105 at *
        clear hW
        clear cr
        have cc106 := X7.out.cells
        replace X7 := hid X7.out.dr
        replace HQ := hid HQ.out.drew
        replace HS := hid HS.out.drew
        replace HW := hid (fun q_ hq_ => (HW.out q_ hq_).drew)
        replace ROW := hid ROW.out.dr
        replace B := hid (Below.drew B.out)
        have cr := ROW.out.cells hkn
        rw [hz6] at cr
        have cc107 := X7.out.cells
        go_region_with (first
          | (go_at_call 33; refine (nadd_f HS.out HQ.out (SL.out.2 k) (SR.out.2 k) HM.out HM'.out).mono ?_; rintro e w109 ⟨v, rfl, hv, hb⟩; obtain ⟨s7a, p7a, n7a, c7a, s7b, p7b, n7b, c7b, rfl⟩ := hv.opened; replace X7 := nx X7 hb; replace HQ := nf HQ hb; replace HS := nf HS hb; replace ROW := rwo ROW hb; replace HW := hid (fun q_ hq_ => (HW.out q_ hq_).on hb); replace B := bb B hb; clear cc104 cc106 cc107; have HV := hid hv; clear hb hv cr; have cc110 := X7.out.cells; have cr := ROW.out.cells hkn; rw [hz6] at cr; have cc111 := ROW.out.stores hkn; replace X7 := hid (X7.out.kept (ROW.out.far k (by have := HB.out; have := LB.out; omega) s7a p7a n7a c7a s7b p7b n7b c7b)); replace HQ := hid (HQ.out.put ROW.out k s7a p7a n7a c7a s7b p7b n7b c7b); replace HS := hid (HS.out.put ROW.out k s7a p7a n7a c7a s7b p7b n7b c7b); replace HV := hid (HV.out.put ROW.out k s7a p7a n7a c7a s7b p7b n7b c7b); replace HW := hid (fun q_ hq_ => (HW.out q_ hq_).put ROW.out k s7a p7a n7a c7a s7b p7b n7b c7b); replace B := hid (ROW.out.below B.out k (by have := HB.out; have := LB.out; omega) s7a p7a n7a c7a s7b p7b n7b c7b); replace ROW := hid (ROW.out.put hkn s7a p7a n7a c7a s7b p7b n7b c7b); have mk108_0 := hid True.intro))
        all_goals
          go_wp2_with fail
          go_roundw
          case rel => exact ⟨k + 1, _, by omega, by go_num, ROW, hid (fun j hj => by
            by_cases hjk : j = k
            · subst hjk; rw [upd_self, if_pos (by omega)]; exact HV.out
            · rw [upd_ne _ _ hjk]; exact (HW.out j hj).cast (by split <;> split <;> first | rfl | omega)), B⟩
          case measure => simp [intOf]; omega
      · obtain rfl : k = nr := by omega
        have HP2 : Hid (PN wr (.slice (some ⟨b0, 0, none⟩) nl c1) (lof nl fun i => co l i + co r i)) := hid (ROW.out.pn (by simp [lof]) hn3 HC3.out (fun i hi => (HW.out i hi).cast (by rw [co_lof, if_pos hi]; split; rfl; rw [co_ge (l := r) (by rw [NR.out]; omega)])))
        go_wp2_with fail
        refine (trim_p HP2.out).mono ?_
        rintro e w2 ⟨v2, rfl, hp, hb⟩
        have HR := hid hp
        have B2 := hid (B.out.trans (hb.mono B.out.size))
        clear hp hb
        go_wp2_with fail
        go_ret
        exact ⟨_, rfl, by rw [HK.out]; exact HR.out, B2.out⟩

theorem addp_comm (l r : List Rat) : addp l r = addp r l := trm_ext (trm_addp _ _) (trm_addp _ _) fun i => by rw [co_addp, co_addp]; grind
/-- The sum. -/
theorem padd_p {w : World} {v u : Value} {l r : List Rat} {m n : Nat} (h : PN w v l) (h' : PN w u r) (hs : Sml l m) (hs' : Sml r n) (hm : m ≤ 68719476736) (hn : n ≤ 68719476736) (hl : l.length ≤ 1000000) (hr : r.length ≤ 1000000) :
    Calls Try.prog 30 #[v, u] w fun e w' => ∃ v', e = .returned v' ∧ PN w' v' (addp l r) ∧ Below w.heap.size w w' := by
  by_cases hle : r.length ≤ l.length
  · exact padd_one h h' hs hs' hm hn hl hle
  · rw [addp_comm]
    exact padd_swap h' h hs' hs hn hm hr (by omega)

end Go.Proofs.Ytmghcankdaomgaa

/-
  PACKAGE poly: Polynomial.Mul.
-/
namespace Go.Proofs.Ytmghcankdaomgaa
open Go.RowKit
open Num
set_option linter.unusedVariables false
set_option maxRecDepth 100000
set_option linter.unusedSimpArgs false

/-- Sums of products: so many rows of them, and so many of the next row. -/
def psum (l r : List Rat) (i t : Nat) : Rat := sumN (fun a => if a ≤ t then co l a * co r (t - a) else 0) i
def pprod (l r : List Rat) (i j t : Nat) : Rat := psum l r i t + if i ≤ t ∧ t < i + j then co l i * co r (t - i) else 0
theorem pprod_start (l r : List Rat) (i t : Nat) : pprod l r i 0 t = psum l r i t := by
  rw [pprod, if_neg (by omega)]; grind
theorem pprod_self (l r : List Rat) (i j : Nat) : pprod l r i j (i + j) = psum l r i (i + j) := by
  rw [pprod, if_neg (by omega)]; grind
theorem pprod_next (l r : List Rat) (i j : Nat) : pprod l r i (j + 1) (i + j) = psum l r i (i + j) + co l i * co r j := by
  rw [pprod, if_pos (by omega), Nat.add_sub_cancel_left]
theorem pprod_ne (l r : List Rat) {i j t : Nat} (h : t ≠ i + j) : pprod l r i (j + 1) t = pprod l r i j t := by
  rw [pprod, pprod]
  by_cases h1 : i ≤ t ∧ t < i + j
  · rw [if_pos h1, if_pos (by omega)]
  · rw [if_neg h1, if_neg (by omega)]
theorem pprod_end (l r : List Rat) {i j t : Nat} (h : r.length ≤ j) : pprod l r i j t = psum l r (i + 1) t := by
  show _ = psum l r i t + (if i ≤ t then co l i * co r (t - i) else 0)
  rw [pprod]
  congr 1
  by_cases h1 : i ≤ t
  · rw [if_pos h1]
    by_cases h2 : t < i + j
    · rw [if_pos ⟨h1, h2⟩]
    · rw [if_neg (by omega), co_ge (l := r) (by omega)]; grind
  · rw [if_neg (by omega), if_neg h1]
theorem part_all (l r : List Rat) (t : Nat) : psum l r l.length t = cnv l r t := by
  have h1 : cnv l r t = sumN (fun a => if a ≤ t then co l a * co r (t - a) else 0) (t + 1) := sumN_congr fun k hk => (if_pos (by omega)).symm
  rw [h1, psum]
  rcases Nat.le_total l.length (t + 1) with h | h
  · exact (sumN_more _ h fun k h2 h3 => by
      show (if k ≤ t then co l k * _ else 0) = 0
      rw [co_ge h2]; split <;> grind).symm
  · exact sumN_more _ h fun k h2 h3 => by
      show (if k ≤ t then co l k * _ else 0) = 0
      rw [if_neg (by omega)]
theorem Sml.rows {l r : List Rat} {m n : Nat} (h : Sml l m) (h' : Sml r n) (t : Nat) : ∀ i, Sm (psum l r i t) (i * (m + n + 1) + 1) := by
  intro i
  induction i with
  | zero => exact Sm.zero (by omega)
  | succ i ih =>
    show Sm (psum l r i t + if i ≤ t then co l i * co r (t - i) else 0) _
    refine (ih.add (n := m + n) ?_).mono (by rw [Nat.succ_mul]; omega)
    split
    · exact (h.2 i).mul (h'.2 (t - i))
    · exact Sm.zero (by have := h.1; omega)
theorem mulp_of (l r : List Rat) : trimQ (lof (l.length + r.length) fun t => psum l r l.length t) = mulp l r := by
  refine trim_ext fun i => ?_
  rw [co_lof, co_lof]
  by_cases h : i < l.length + r.length - 1
  · rw [if_pos h, if_pos (by omega), part_all]
  · rw [if_neg h]
    split
    · rw [part_all, cnv_big (by omega)]
    · rfl

set_option maxHeartbeats 8000000 in
theorem pmul_p {w : World} {v u : Value} {l r : List Rat} {m n : Nat} (h : PN w v l) (h' : PN w u r) (hs : Sml l m) (hs' : Sml r n) (hm : l.length * (m + n + 1) + m + n + 2 ≤ 68719476736) (hl : l.length ≤ 1000000) (hr : r.length ≤ 1000000) :
    Calls Try.prog 31 #[v, u] w fun e w' => ∃ v', e = .returned v' ∧ PN w' v' (mulp l r) ∧ Below w.heap.size w w' := by
  obtain ⟨a, c, rfl, hn1, hc1⟩ := h.opened
  obtain ⟨a', c', rfl, hn2, hc2⟩ := h'.opened
  have HP := hid h
  have HP' := hid h'
  have SL := hid hs
  have SR := hid hs'
  have HM := hid (show m + n + 2 ≤ 68719476736 by omega)
  have HI0 : Hid (∀ i, i ≤ l.length → i * (m + n + 1) + 1 ≤ 68719476736) := hid (fun i hi => by have := Nat.mul_le_mul_right (m + n + 1) hi; omega)
  have HK := hid (mulp_of l r)
  obtain ⟨nl, hNL⟩ : ∃ nl, l.length = nl := ⟨_, rfl⟩
  obtain ⟨nr, hNR⟩ : ∃ nr, r.length = nr := ⟨_, rfl⟩
  have NL := hid hNL
  have NR := hid hNR
  rw [hNL] at hn1 hl HP HK HI0 ⊢
  rw [hNR] at hn2 hr HP' HK ⊢
  clear h h' hs hs' hm hNL hNR
  unfold maxLen at hc1 hc2
  go_enter Try.func31, Try.ntmps31
  go_wp2_with (refine wpList_make_ns _ rfl _ _ _ rfl Try.underlying46 (nl + nr) (by show Value.int .i64 ((nl : Int) + nr) = _; push_cast; rfl) (by show Value.int .i64 ((nl : Int) + nr) = _; push_cast; rfl) (by omega) ?_)
  intro w0 hrow hb0 hs0
  have B := hid hb0
  have ROW := hid hrow
  have HB := hid (Nat.le_refl w.heap.size)
  have HW : Hid (∀ t, t < nl + nr → NF w0 (nag Nz) (psum l r 0 t)) := hid (fun t ht => NF.zero w0)
  clear hrow hb0 hs0
  go_wp2_with fail
  obtain ⟨b0, hb0⟩ : ∃ b0, b0 = w.heap.size := ⟨_, rfl⟩
  have HB := hid (show w.heap.size ≤ b0 by omega)
  rw [← hb0] at ROW ⊢
  clear hb0
  have W0 : ∃ rs : Nat → Nr, Hid (NRw w0 b0 (nl + nr) rs) ∧ Hid (∀ t, t < nl + nr → NF w0 (nag (rs t)) (psum l r 0 t)) := ⟨_, ROW, HW⟩
  clear ROW HW
  obtain ⟨rs0, ROW, HW⟩ := W0
  go_loopw [18] (fun x wr => ∃ (i : Nat) (rs : Nat → Nr), i ≤ nl ∧ x = .int .i64 i ∧ Hid (NRw wr b0 (nl + nr) rs) ∧ Hid (∀ t, t < nl + nr → NF wr (nag (rs t)) (psum l r i t)) ∧ Hid (Below w.heap.size w wr)) (fun x _ => nl - (intOf x).toNat)
  case atStart => exact ⟨0, rs0, by omega, rfl, ROW, HW, B⟩
  case round =>
    clear ROW HW B
    obtain ⟨i, rs, hi, rfl, ROW, HW, B⟩ := hrel
    by_cases hlt : i < nl
    · obtain ⟨b5, s5a, p5a, n5a, c5a, s5b, p5b, n5b, c5b, rfl, hb5, cd5, hq5⟩ := pn_at HP.out B.out (i := i) (by rw [NL.out]; exact hlt)
      have HQ := hid hq5
      have HI := hid (HI0.out i hi)
      clear hq5
      have LB := hid ROW.out.lt
      obtain ⟨hb301, hx302, hs303⟩ := Nbx.made wr s5a s5b (.slice p5a n5a c5a) (.slice p5b n5b c5b)
      replace HQ := nf HQ hb301
      replace ROW := rwo ROW hb301
      replace HW := hid (fun q_ hq_ => (HW.out q_ hq_).on hb301)
      replace B := bb B hb301
      have X7 := hid hx302
      clear hb301 hx302
      have cc304 := X7.out.cells
      go_wp2_with fail
      generalize hW : wr.alloc (.cells #[.bool s5a, .slice p5a n5a c5a, .bool s5b, .slice p5b n5b c5b] 52) = W305 at *
      clear hW
      obtain ⟨g7, hg7⟩ : ∃ g7, g7 = wr.heap.size := ⟨_, rfl⟩
      rw [← hg7] at X7 LB ⊢
      have LG := LB
      clear cc304 hg7 LB cd5
      go_loopw [25] (fun x wr => ∃ (j : Nat) (rs : Nat → Nr), j ≤ nr ∧ x = .int .i64 j ∧ Hid (NRw wr b0 (nl + nr) rs) ∧ Hid (∀ t, t < nl + nr → NF wr (nag (rs t)) (pprod l r i j t)) ∧ Hid (Nbx wr g7 s5a (.slice p5a n5a c5a) s5b (.slice p5b n5b c5b)) ∧ Hid (NF wr (.agg #[.bool s5a, .slice p5a n5a c5a, .bool s5b, .slice p5b n5b c5b]) (co l i)) ∧ Hid (Below w.heap.size w wr)) (fun x _ => nr - (intOf x).toNat)
      case atStart => exact ⟨0, rs, by omega, rfl, ROW, hid (fun t ht => (HW.out t ht).cast (pprod_start l r i t).symm), X7, HQ, B⟩
      case round =>
        clear ROW HW B X7 HQ
        obtain ⟨j, rs, hj, rfl, ROW, HW, X7, HQ, B⟩ := hrel
        by_cases hltj : j < nr
        · have hkn : i + j < nl + nr := by omega
          have hx1 : (0 : Int) ≤ (i : Int) + (j : Int) := by omega
          have hx2 : (i : Int) + (j : Int) < (nl : Int) + (nr : Int) := by omega
          have hx3 : ((i : Int) + (j : Int)).toNat = i + j := by omega
          have hx4 : IntKind.i64.wrap ((i : Int) + (j : Int)) = (i : Int) + (j : Int) := IntWalk.i64_in _ (by omega)
          obtain ⟨b6, s6a, p6a, n6a, c6a, s6b, p6b, n6b, c6b, rfl, hb6, cd6, hq6⟩ := pn_at HP'.out B.out (i := j) (by rw [NR.out]; exact hltj)
          obtain ⟨s7a, p7a, n7a, c7a, s7b, p7b, n7b, c7b, hz7⟩ : ∃ s7a p7a n7a c7a s7b p7b n7b c7b, rs (i + j) = ((s7a, p7a, n7a, c7a), (s7b, p7b, n7b, c7b)) := ⟨_, _, _, _, _, _, _, _, rfl⟩
          have hq7 := HW.out (i + j) hkn
          rw [hz7] at hq7
          dsimp only [nag] at hq7
          have HD := hid hq6
          have HS := hid (hq7.cast (pprod_self l r i j))
          clear hq6 hq7
          obtain ⟨hb101, hx102, hs103⟩ := Nbx.made wr s6a s6b (.slice p6a n6a c6a) (.slice p6b n6b c6b)
          have L2 := hid X7.out.lt
          replace X7 := nx X7 hb101
          replace HQ := nf HQ hb101
          replace HD := nf HD hb101
          replace HS := nf HS hb101
          replace ROW := rwo ROW hb101
          replace HW := hid (fun q_ hq_ => (HW.out q_ hq_).on hb101)
          replace B := bb B hb101
          have X9 := hid hx102
          clear hb101 hx102
          have cc104 := X7.out.cells
          have cc105 := X9.out.cells
          have cr := ROW.out.cells hkn
          rw [hz7] at cr
          go_wp2_with fail
          generalize hW : wr.alloc (.cells #[.bool s6a, .slice p6a n6a c6a, .bool s6b, .slice p6b n6b c6b] 52) = W106 at *
          clear hW
          clear cr cd6 cc104 cc105
          have cc107 := X7.out.cells
          have cc108 := X9.out.cells
          replace X7 := hid X7.out.dr
          replace X9 := hid X9.out.dr
          replace HQ := hid HQ.out.drew
          replace HD := hid HD.out.drew
          replace HS := hid HS.out.drew
          replace HW := hid (fun q_ hq_ => (HW.out q_ hq_).drew)
          replace ROW := hid ROW.out.dr
          replace B := hid (Below.drew B.out)
          have cr := ROW.out.cells hkn
          rw [hz7] at cr
          have cc109 := X7.out.cells
          have cc110 := X9.out.cells
          go_region_with (first
            | (have hm := mk111_0; clear hm; go_at_call 33; refine (nadd_f HS.out HV.out (SL.out.rows SR.out (i + j) i) ((SL.out.2 i).mul (SR.out.2 j)) HI.out (by have := HM.out; omega)).mono ?_; rintro e w115 ⟨v, rfl, hv, hb⟩; obtain ⟨s9a, p9a, n9a, c9a, s9b, p9b, n9b, c9b, rfl⟩ := hv.opened; replace X7 := nx X7 hb; replace X9 := nx X9 hb; replace HQ := nf HQ hb; replace HD := nf HD hb; replace HS := nf HS hb; replace HV := nf HV hb; replace ROW := rwo ROW hb; replace HW := hid (fun q_ hq_ => (HW.out q_ hq_).on hb); replace B := bb B hb; clear cc113 cc114; have HX := hid hv; clear hb hv cr; have cc116 := X7.out.cells; have cc117 := X9.out.cells; have cr := ROW.out.cells hkn; rw [hz7] at cr; have cc118 := ROW.out.stores hkn; replace X7 := hid (X7.out.kept (ROW.out.far (i + j) (by have := HB.out; have := LG.out; have := L2.out; omega) s9a p9a n9a c9a s9b p9b n9b c9b)); replace X9 := hid (X9.out.kept (ROW.out.far (i + j) (by have := HB.out; have := LG.out; have := L2.out; omega) s9a p9a n9a c9a s9b p9b n9b c9b)); replace HQ := hid (HQ.out.put ROW.out (i + j) s9a p9a n9a c9a s9b p9b n9b c9b); replace HD := hid (HD.out.put ROW.out (i + j) s9a p9a n9a c9a s9b p9b n9b c9b); replace HS := hid (HS.out.put ROW.out (i + j) s9a p9a n9a c9a s9b p9b n9b c9b); replace HV := hid (HV.out.put ROW.out (i + j) s9a p9a n9a c9a s9b p9b n9b c9b); replace HX := hid (HX.out.put ROW.out (i + j) s9a p9a n9a c9a s9b p9b n9b c9b); replace HW := hid (fun q_ hq_ => (HW.out q_ hq_).put ROW.out (i + j) s9a p9a n9a c9a s9b p9b n9b c9b); replace B := hid (ROW.out.below B.out (i + j) (by have := HB.out; have := LG.out; have := L2.out; omega) s9a p9a n9a c9a s9b p9b n9b c9b); replace ROW := hid (ROW.out.put hkn s9a p9a n9a c9a s9b p9b n9b c9b); have mk111_1 := hid True.intro)
            | (go_at_call 34; refine (nmul_f HQ.out HD.out (SL.out.2 i) (SR.out.2 j) (by have := HM.out; omega) (by have := HM.out; omega)).mono ?_; rintro e w112 ⟨v, rfl, hv, hb⟩; obtain ⟨s8a, p8a, n8a, c8a, s8b, p8b, n8b, c8b, rfl⟩ := hv.opened; replace X7 := nx X7 hb; replace X9 := nx X9 hb; replace HQ := nf HQ hb; replace HD := nf HD hb; replace HS := nf HS hb; replace ROW := rwo ROW hb; replace HW := hid (fun q_ hq_ => (HW.out q_ hq_).on hb); replace B := bb B hb; clear cc107 cc108 cc109 cc110; have HV := hid hv; clear hb hv cr; have cc113 := X7.out.cells; have cc114 := X9.out.cells; have cr := ROW.out.cells hkn; rw [hz7] at cr; have mk111_0 := hid True.intro))
          all_goals
            go_wp2_with fail
            go_roundw
            case rel => exact ⟨j + 1, _, by omega, by go_num, ROW, hid (fun t ht => by
              by_cases htj : t = i + j
              · subst htj; rw [upd_self, pprod_next]; exact HX.out
              · rw [upd_ne _ _ htj, pprod_ne _ _ htj]; exact HW.out t ht), X7, HQ, B⟩
            case measure => simp [intOf]; omega
        · obtain rfl : j = nr := by omega
          go_wp2_with fail
          go_roundw
          case rel => exact ⟨i + 1, rs, by omega, by go_num, ROW, hid (fun t ht => (HW.out t ht).cast (pprod_end l r (by rw [NR.out]; exact Nat.le_refl _))), B⟩
          case measure => simp [intOf]; omega
    · obtain rfl : i = nl := by omega
      have HP2 : Hid (PN wr (.slice (some ⟨b0, 0, none⟩) (i + nr) (i + nr)) (lof (i + nr) fun t => psum l r i t)) := hid (ROW.out.pn (by simp [lof]) (Nat.le_refl _) (by unfold maxLen; omega) (fun t ht => (HW.out t ht).cast (by rw [co_lof, if_pos ht])))
      go_wp2_with fail
      refine (trim_p HP2.out).mono ?_
      rintro e w2 ⟨v2, rfl, hp, hb⟩
      have HR := hid hp
      have B2 := hid (B.out.trans (hb.mono B.out.size))
      clear hp hb
      go_wp2_with fail
      go_ret
      exact ⟨_, rfl, by rw [← HK.out]; exact HR.out, B2.out⟩

end Go.Proofs.Ytmghcankdaomgaa

namespace Go.Proofs.Ytmghcankdaomgaa
open Go.RowKit
open Num
set_option linter.unusedVariables false

theorem dist_text {a b c s ac bc x y : ByteArray} (h1 : QTells (· + ·) a b s 0) (h2 : QTells (· * ·) a c ac 0) (h3 : QTells (· * ·) b c bc 0) (h4 : QTells (· * ·) s c x 0) (h5 : QTells (· + ·) ac bc y 0) : x = y := by
  have e1 := (h1.yes rfl).2.2
  have e2 := (h2.yes rfl).2.2
  have e3 := (h3.yes rfl).2.2
  have e4 := (h4.yes rfl).2.2
  have e5 := (h5.yes rfl).2.2

  rw [e4, e5, e1, e2, e3, qnum_qtxt, qnum_qtxt, qnum_qtxt, Rat.add_mul]
theorem cancel_text {a b q p : ByteArray} (h1 : QDivs a b q 0) (h2 : QTells (· * ·) q b p 0) : p = a := by
  obtain ⟨g1, g2, g3, e1⟩ := h1.yes rfl
  have e2 := (h2.yes rfl).2.2

  rw [e2, e1, qnum_qtxt, Rat.div_mul_cancel g3]
  exact qtxt_good g1
theorem zero_text {b : ByteArray} (h : GoodQ b) (h0 : qnum b = 0) : b = ⟨#[48]⟩ := by
  rw [← qtxt_good h, h0, qtxt_zero]
theorem addc_text {a b s t : ByteArray} (h1 : QTells (· + ·) a b s 0) (h2 : QTells (· + ·) b a t 0) : s = t := by
  have e1 := (h1.yes rfl).2.2
  have e2 := (h2.yes rfl).2.2

  rw [e1, e2, Rat.add_comm]
theorem mulc_text {a b s t : ByteArray} (h1 : QTells (· * ·) a b s 0) (h2 : QTells (· * ·) b a t 0) : s = t := by
  have e1 := (h1.yes rfl).2.2
  have e2 := (h2.yes rfl).2.2

  rw [e1, e2, Rat.mul_comm]
theorem toList_ne {a b : ByteArray} (h : a ≠ b) : (a.toList == b.toList) = false ∧ ¬ a.toList = b.toList := by
  have h1 : ¬ a.toList = b.toList := by
    intro e
    rw [ByteArray.toList_eq, ByteArray.toList_eq] at e
    exact h (ba_ext e)
  exact ⟨by simpa using h1, h1⟩
theorem less_true {a b : ByteArray} {t : Bool} (h : QLess a b t 0) (hl : qnum a < qnum b) : t = true := by
  rw [(h.yes rfl).2.2]; exact decide_eq_true hl
theorem less_false {a b : ByteArray} {t : Bool} (h : QLess a b t 0) (hl : ¬ qnum a < qnum b) : t = false := by
  rw [(h.yes rfl).2.2]; exact decide_eq_false hl
theorem rat_tri (p q : Rat) : p < q ∨ p = q ∨ q < p := by grind
theorem rat_asym {p q : Rat} (h : p < q) : ¬ q < p := by grind
theorem same_of_num {a b : ByteArray} (ha : GoodQ a) (hb : GoodQ b) (h : qnum a = qnum b) : a = b := by
  rw [← qtxt_good ha, h, qtxt_good hb]
theorem less_trans {a b c : ByteArray} {x z v : Bool} (h1 : QLess a b x 0) (h2 : QLess b c z 0) (h3 : QLess a c v 0) (hx : x = true) (hz : z = true) : v = true := by
  have e1 := (h1.yes rfl).2.2
  have e2 := (h2.yes rfl).2.2
  rw [hx] at e1; rw [hz] at e2
  have l1 := of_decide_eq_true e1.symm
  have l2 := of_decide_eq_true e2.symm
  exact less_true h3 (by grind)
theorem less_shift {a b c ac bc : ByteArray} {x u : Bool} (h1 : QLess a b x 0) (h2 : QTells (· + ·) a c ac 0) (h3 : QTells (· + ·) b c bc 0) (h4 : QLess ac bc u 0) : u = x := by
  rw [(h4.yes rfl).2.2, (h1.yes rfl).2.2, (h2.yes rfl).2.2, (h3.yes rfl).2.2, qnum_qtxt, qnum_qtxt]
  exact decide_eq_decide.2 Rat.add_lt_add_right

theorem good_one : GoodQ ⟨#[49]⟩ := ⟨by decide, by decide +kernel⟩
theorem qnum_one : qnum ⟨#[49]⟩ = 1 := by decide +kernel
theorem good_half : GoodQ ⟨#[49, 47, 50]⟩ := ⟨by decide, by decide +kernel⟩
theorem qnum_half : qnum ⟨#[49, 47, 50]⟩ = 1 / 2 := by decide +kernel
theorem good_neg : GoodQ ⟨#[45, 49]⟩ := ⟨by decide, by decide +kernel⟩
theorem qnum_neg : qnum ⟨#[45, 49]⟩ = -1 := by decide +kernel

/-- The text of an integer is no longer than that of a greater one of its sign. -/
theorem size_ztxt_mono {y z : Int} (h : y.natAbs ≤ z.natAbs) (hs : y < 0 → z < 0) : (ztxt y).size ≤ (ztxt z).size := by
  rw [size_ztxt, size_ztxt]
  have hl : (dtext y.natAbs).length ≤ (dtext z.natAbs).length := by
    have h1 := dval_lt (dtext_all z.natAbs)
    rw [dval_dtext] at h1
    refine length_dtext_le (Nat.lt_of_le_of_lt h h1) ?_
    exact List.length_pos_iff.2 (dtext_ne _)
  split <;> split <;> omega
theorem floor_good {a : ByteArray} (h : GoodQ a) : GoodQ (ztxt (qnum a).floor) ∧ GoodZ (ztxt (qnum a).floor) := by
  have hs : (ztxt (qnum a).floor).size ≤ 100 := by
    have e := qtxt_good h
    have h1 := h.1
    rw [← e] at h1
    by_cases hd : (qnum a).den = 1
    · rw [qtxt_one hd] at h1
      have e2 : (qnum a).floor = (qnum a).num := by rw [Rat.floor_def, hd]; simp
      rw [e2]; exact h1
    · have hd0 := (qnum a).den_pos
      have h2 : (ztxt (qnum a).num).size ≤ (qtxt (qnum a)).size := by
        have := congrArg List.length (qtxt_two hd)
        rw [List.length_append] at this
        have l1 : (qtxt (qnum a)).data.toList.length = (qtxt (qnum a)).size := rfl
        have l2 : (ztxt (qnum a).num).data.toList.length = (ztxt (qnum a).num).size := rfl
        omega
      refine Nat.le_trans (size_ztxt_mono ?_ ?_) (Nat.le_trans h2 h1)
      · rw [Rat.floor_def]; exact natAbs_ediv_le _ _
      · rw [Rat.floor_def]
        intro hn
        apply Int.lt_of_not_ge
        intro hge
        have := Int.ediv_nonneg hge (show (0 : Int) ≤ (qnum a).den by omega)
        omega
  refine ⟨⟨hs, ?_⟩, hs, isWhl_ztxt _⟩
  rw [← qtxt_int]
  exact isRat_qtxt _
theorem qnum_ztxt (z : Int) : qnum (ztxt z) = z := by rw [← qtxt_int, qnum_qtxt]
theorem floor_not {a : ByteArray} : ¬ qnum a < qnum (ztxt (qnum a).floor) := by
  rw [qnum_ztxt, Rat.not_lt]; exact Rat.floor_le _
theorem floor_next {a g : ByteArray} {y : Bool} (h1 : QTells (· + ·) (ztxt (qnum a).floor) ⟨#[49]⟩ g 0) (h2 : QLess a g y 0) : y = true := by
  refine less_true h2 ?_
  rw [(h1.yes rfl).2.2, qnum_qtxt, qnum_ztxt, qnum_one]
  have := Rat.lt_floor_add_one (qnum a)
  rwa [Rat.intCast_add] at this

/-- A text of an integer reads as that fraction. -/
theorem qnum_whole {s : ByteArray} (h : GoodZ s) : GoodQ s ∧ qnum s = (znum s : Rat) := by
  have e := ztxt_good h
  have h1 : qnum s = (znum s : Rat) := by rw [← qnum_ztxt, e]
  refine ⟨⟨h.1, ?_⟩, h1⟩
  rw [← e, ← qtxt_int]
  exact isRat_qtxt _
theorem make_times {n d a m : ByteArray} (h1 : QMakes n d a 0) (h2 : QTells (· * ·) a d m 0) : m = n := by
  obtain ⟨g1, g2, g3, e1⟩ := h1.yes rfl
  rw [(h2.yes rfl).2.2, e1, qnum_qtxt, (qnum_whole g2).2, Rat.divInt_eq_div, Rat.div_mul_cancel (by intro e; exact g3 (by exact_mod_cast e)), qtxt_int]
  exact ztxt_good g1
theorem make_scaled {n d k a x y b : ByteArray} (h1 : QMakes n d a 0) (h2 : ZTells (· * ·) n k x 0) (h3 : ZTells (· * ·) d k y 0) (h4 : QMakes x y b 0) : a = b := by
  obtain ⟨g1, g2, g3, e1⟩ := h1.yes rfl
  obtain ⟨f1, f2, f3, e4⟩ := h4.yes rfl
  have e2 := (h2.yes rfl).2.2
  have e3 := (h3.yes rfl).2.2
  rw [e3, znum_ztxt] at f3
  rw [e4, e1, e2, e3, znum_ztxt, znum_ztxt]
  have hk : znum k ≠ 0 := by intro e; apply f3; show znum d * znum k = 0; rw [e, Int.mul_zero]
  rw [Rat.divInt_mul_right hk]
theorem between {a b s m : ByteArray} {is x y : Bool} (h1 : QLess a b is 0) (h2 : QTells (· + ·) a b s 0) (h3 : QTells (· * ·) s ⟨#[49, 47, 50]⟩ m 0) (h4 : QLess a m x 0) (h5 : QLess m b y 0) (hi : is = true) : x = true ∧ y = true := by
  have e1 := (h1.yes rfl).2.2
  rw [hi] at e1
  have l := of_decide_eq_true e1.symm
  have em : qnum m = (qnum a + qnum b) * (1 / 2) := by
    rw [(h3.yes rfl).2.2, (h2.yes rfl).2.2, qnum_qtxt, qnum_qtxt, qnum_half]
  exact ⟨less_true h4 (by rw [em]; grind), less_true h5 (by rw [em]; grind)⟩
theorem less_itself {a t z : ByteArray} (h1 : QTells (· * ·) a ⟨#[45, 49]⟩ t 0) (h2 : QTells (· + ·) a t z 0) : z = ⟨#[48]⟩ := by
  rw [(h2.yes rfl).2.2, (h1.yes rfl).2.2, qnum_qtxt, qnum_neg]
  have : qnum a + qnum a * -1 = 0 := by grind
  rw [this, qtxt_zero]

end Go.Proofs.Ytmghcankdaomgaa

namespace Go.Proofs.Ytmghcankdaomgaa
open Go.RowKit
open Num
set_option linter.unusedVariables false
set_option maxRecDepth 100000
set_option linter.unusedSimpArgs false

theorem qhalves (w : World) :
    Calls Try.prog 14 #[.string ⟨#[49, 47, 50]⟩, .string ⟨#[49, 47, 50]⟩] w fun e w' => e = .returned (.tuple #[.string ⟨#[49, 47, 52]⟩, .nilIface]) ∧ Below w.heap.size w w' := by
  have h := qmul_good good_half good_half w
  have e1 := qtxt_qnum (s := ⟨#[49, 47, 52]⟩) (by decide +kernel)
  have e3 : qnum ⟨#[49, 47, 50]⟩ * qnum ⟨#[49, 47, 50]⟩ = qnum ⟨#[49, 47, 52]⟩ := by decide +kernel
  rw [e3, e1] at h
  exact h

set_option maxHeartbeats 400000 in
theorem half_true (w : World) :
    Calls Try.prog 24 #[] w fun e w' => e = .returned (.bool true) ∧ Below w.heap.size w w' := by
  have H := hid (qhalves w)
  go_enter Try.func24, Try.ntmps24
  go_wp2_with fail
  refine H.out.mono ?_
  rintro e w' ⟨rfl, hb⟩
  go_wp2_with fail
  go_ret
  exact ⟨rfl, hb⟩

end Go.Proofs.Ytmghcankdaomgaa
