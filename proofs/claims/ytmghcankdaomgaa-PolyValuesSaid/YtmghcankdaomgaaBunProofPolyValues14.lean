import Derived.Test.YtmghcankdaomgaaBunProofPolyValues13
import Derived.Test.YtmghcankdaomgaaBunProofPolyValues4
import Derived.WideShapes
/-
  PACKAGE poly: slices.Clone.
-/
namespace Go.Proofs.Ytmghcankdaomgaa
open Go.RowKit
open Num
set_option linter.unusedVariables false
set_option maxRecDepth 100000
set_option linter.unusedSimpArgs false

/-- The k-th cell of a Number. -/
def ncell (r : Nr) (k : Nat) : Value := if k = 0 then .bool r.1.1 else if k = 1 then .slice r.1.2.1 r.1.2.2.1 r.1.2.2.2 else if k = 2 then .bool r.2.1 else .slice r.2.2.1 r.2.2.2.1 r.2.2.2.2
theorem ncell_one (r : Nr) (k : Nat) : (ncell r k).oneCell' = true ∧ NI (ncell r k) := by
  unfold ncell
  split
  · exact ⟨rfl, NI.bool _⟩
  · split
    · exact ⟨rfl, NI.slc _ _ _⟩
    · split
      · exact ⟨rfl, NI.bool _⟩
      · exact ⟨rfl, NI.slc _ _ _⟩
theorem At4.cell {w : World} {b i : Nat} {r : Nr} (h : At4 w b (i * 4) r) {j : Nat} (h1 : i * 4 ≤ j) (h2 : j < i * 4 + 4) : w.cell? ⟨b, j, none⟩ = some (ncell r (j - i * 4)) := by
  obtain ⟨c0, c1, c2, c3⟩ := h
  rcases (show j = i * 4 ∨ j = i * 4 + 1 ∨ j = i * 4 + 2 ∨ j = i * 4 + 3 by omega) with h | h | h | h
  · rw [h, c0]; simp [ncell]
  · rw [h, c1]; simp [ncell]
  · rw [h, c2]; simp [ncell]
  · rw [h, c3]; simp [ncell]
def nrow (rs : Nat → Nr) (n : Nat) : List Value := (List.range (n * 4)).map fun j => ncell (rs (j / 4)) (j % 4)
theorem nrow_len (rs : Nat → Nr) (n : Nat) : (nrow rs n).length = n * 4 := by simp [nrow]
theorem nrow_get {rs : Nat → Nr} {n j : Nat} {u : Value} (h : (nrow rs n)[j]? = some u) : j < n * 4 ∧ u = ncell (rs (j / 4)) (j % 4) := by
  unfold nrow at h
  rw [List.getElem?_map] at h
  obtain ⟨k, hk, rfl⟩ := Option.map_eq_some_iff.1 h
  obtain ⟨h1, h2⟩ := List.getElem?_eq_some_iff.1 hk
  simp at h1 h2
  subst h2
  exact ⟨h1, rfl⟩
theorem nrow_at (rs : Nat → Nr) {n i k : Nat} (hi : i < n) (hk : k < 4) : (nrow rs n)[i * 4 + k]? = some (ncell (rs i) k) := by
  unfold nrow
  rw [List.getElem?_map, List.getElem?_range (by omega)]
  simp only [Option.map_some]
  rw [show (i * 4 + k) / 4 = i by omega, show (i * 4 + k) % 4 = k by omega]
theorem run_append_nop (w : World) (ty : TypeId) (b0 : Addr) (p : Option Addr) (c : Nat) :
    (Builtin.append_ #[46, 46] ty #[.slice (some b0) 0 0, .slice p 0 c]).run Try.prog w = .ok (.slice (some b0) 0 0) w := by
  obtain ⟨i, hi, _⟩ := info_parts infoN
  cases p <;> simp [Builtin.append_, run_underlying Try.underlying46, sizeOf, typeInfo, hi, Builtin.lenOf, Builtin.firstCells, loadCells, loadCellsFrom, storeCells]
/-- A list of the call's own, in blocks from K on. -/
def OwnN (w : World) (K : Nat) (v : Value) (l : List Rat) : Prop := (l = [] ∧ ∃ a c, v = .slice a 0 c ∧ c ≤ maxLen) ∨
  ∃ b c rs, v = .slice (some ⟨b, 0, none⟩) l.length c ∧ K ≤ b ∧ NRw w b l.length rs ∧ l.length ≤ c ∧ c ≤ maxLen ∧ ∀ i, i < l.length → NF w (nag (rs i)) (co l i)

set_option maxHeartbeats 1000000 in
theorem nclone_nil (w : World) (c : Nat) :
    Calls Try.prog 46 #[.slice none 0 c] w fun e w' => e = .returned (.slice none 0 0) ∧ Below w.heap.size w w' := by
  have hq := eql_slice_nil 46 _ Try.underlying46
  go_enter Try.func46, Try.ntmps46
  go_wp2
  go_ret
  exact ⟨rfl, Below.refl _ _⟩

set_option maxHeartbeats 1000000 in
theorem nclone_zero (w : World) (b : Addr) (c : Nat) :
    Calls Try.prog 46 #[.slice (some b) 0 c] w fun e w' => e = .returned (.slice (some ⟨w.heap.size, 0, none⟩) 0 0) ∧ Below w.heap.size w w' := by
  have hq := eql_slice_nil 46 _ Try.underlying46
  have hrun := run_append_nop (w.alloc (.cells #[] 52)) 46 ⟨w.heap.size, 0, none⟩ (some b) c
  have hb := (Below.refl w.heap.size w).alloc (Nat.le_refl _) (.cells #[] 52)
  have B := hid hb
  clear hb
  go_enter Try.func46, Try.ntmps46
  go_wp2_with (at_builtin; refine wpList_append_run rfl _ _ 46 rfl _ _ _ rfl rfl hrun ?_)
  go_wp2
  go_ret
  exact ⟨rfl, B.out⟩

set_option maxHeartbeats 1000000 in
theorem nclone_at {w : World} {b n c : Nat} {rs : Nat → Nr} {q : Nat → Rat} (hb : b < w.heap.size) (hA : ∀ i, i < n → At4 w b (i * 4) (rs i)) (hq : ∀ i, i < n → NF w (nag (rs i)) (q i)) (hn0 : 1 ≤ n) (hn : n ≤ 1000000) :
    Calls Try.prog 46 #[.slice (some ⟨b, 0, none⟩) n c] w fun e w' => ∃ b' c', e = .returned (.slice (some ⟨b', 0, none⟩) n c') ∧ w.heap.size ≤ b' ∧ NRw w' b' n rs ∧ n ≤ c' ∧ c' ≤ maxLen ∧ (∀ i, i < n → NF w' (nag (rs i)) (q i)) ∧ Below w.heap.size w w' := by
  obtain ⟨i0, hi, hz0, hz1, hz2⟩ := info_parts infoN
  have hb0 := (Below.refl w.heap.size w).alloc (Nat.le_refl _) (.cells #[] 52)
  have hnews : ∀ j u, (nrow rs n)[j]? = some u → (w.alloc (.cells #[] 52)).cell? (Addr.add ⟨b, 0, none⟩ j) = some u := by
    intro j u hj
    obtain ⟨h1, rfl⟩ := nrow_get hj
    rw [World.cell?_alloc_lt _ _ _ (by rw [Go.WideShapes.add_plain]; exact hb)]
    have h2 := (hA (j / 4) (by omega)).cell (j := j) (by omega) (by omega)
    rw [show j - j / 4 * 4 = j % 4 by omega] at h2
    rw [Go.WideShapes.add_plain, Nat.zero_add]
    exact h2
  have HNEWS := hid hnews
  have HNI : ∀ g, (Value.slice (some ⟨w.heap.size, 0, none⟩) 0 0).ownBlock = some g → NoInt (w.alloc (.cells #[] 52)) g := by
    intro g hg
    simp [Value.ownBlock] at hg
    subst hg
    exact NoInt.new w _ _ fun u hu => by simp at hu
  have HNI := hid HNI
  have hown := World.ownsRow_made (base := w.heap.size) (e := 52) (size := 4) w #[] 0 (Nat.le_refl _) (by unfold maxLen; omega) rfl
  have HO := hid hown
  have HQ := hid hq
  have HB := hid hb0
  clear hnews hown hA hq hb0
  have hq := eql_slice_nil 46 _ Try.underlying46
  go_enter Try.func46, Try.ntmps46
  go_wp2_with (at_builtin; refine wpList_append_ni rfl _ _ 46 rfl w.heap.size 52 i0 _ 4 64 Try.underlying46 hi hz0 hz1 hz2 rfl (by decide) _ _ _ rfl HO.out HNI.out ?c7 ⟨b, 0, none⟩ n c (nrow rs n) rfl ?c0 ?c1 ?c2 ?c8 ?c3 ?c4 ?c5 ?_)
  case c7 =>
    intro u hu
    simp [Value.cells] at hu
    rcases hu with rfl | rfl | rfl | rfl <;> first | exact NI.bool _ | exact NI.slc _ _ _
  case c0 => exact nrow_len rs n
  case c1 => exact HNEWS.out
  case c2 =>
    intro u hu
    obtain ⟨j, hj⟩ := List.getElem?_of_mem hu
    obtain ⟨_, rfl⟩ := nrow_get hj
    exact (ncell_one _ _).1
  case c8 =>
    intro u hu
    obtain ⟨j, hj⟩ := List.getElem?_of_mem hu
    obtain ⟨_, rfl⟩ := nrow_get hj
    exact (ncell_one _ _).2
  case c3 => unfold maxLen; omega
  case c4 => omega
  case c5 => simp
  intro v' w1 hown' hgrow hni
  have HO' := hid hown'
  have HN' := hid hni
  have hb2 : Below w.heap.size w w1 := HB.out.grown hgrow (by simp) (fun g hg => by simp [Value.ownBlock] at hg; omega)
  have HB2 := hid hb2
  clear hown' hgrow hni hb2
  go_wp2
  go_ret
  have ho := HO'.out
  have hbw := HB2.out
  rcases ho.2 with ⟨_, h0⟩ | ⟨g, cap, cur, rfl, hK, h1, h2, h3, h4, h5⟩
  · omega
  · refine ⟨g, cap, rfl, hK, ⟨cur, h1, by omega, fun i hi => ?_, HN'.out g rfl cur _ _ h1⟩, h2, h3, fun i hi => (HQ.out i hi).on hbw, hbw⟩
    have hc : ∀ k, k < 4 → cur[i * 4 + k]? = some (ncell (rs i) k) := by
      intro k hk
      have h6 := nrow_at rs hi hk
      rw [← h5, List.getElem?_take, if_pos (by omega), Array.getElem?_toList] at h6
      exact h6
    exact ⟨hc 0 (by decide), hc 1 (by decide), hc 2 (by decide), hc 3 (by decide)⟩
/-- A copy, in memory of its own. -/
theorem nclone {w : World} {v : Value} {l : List Rat} (h : PN w v l) (hl : l.length ≤ 1000000) :
    Calls Try.prog 46 #[v] w fun e w' => ∃ v', e = .returned v' ∧ OwnN w' w.heap.size v' l ∧ Below w.heap.size w w' := by
  obtain ⟨a, c, rs, rfl, hn, hc, hA⟩ := h
  by_cases h0 : l.length = 0
  · obtain rfl := List.length_eq_zero_iff.1 h0
    cases a with
    | none =>
      refine (nclone_nil w c).mono ?_
      rintro e w' ⟨rfl, hb⟩
      exact ⟨_, rfl, .inl ⟨rfl, _, _, rfl, Nat.zero_le _⟩, hb⟩
    | some b =>
      refine (nclone_zero w b c).mono ?_
      rintro e w' ⟨rfl, hb⟩
      exact ⟨_, rfl, .inl ⟨rfl, _, _, rfl, Nat.zero_le _⟩, hb⟩
  · obtain ⟨b, rfl, hb, _, _⟩ := hA 0 (by omega)
    refine (nclone_at (q := co l) (rs := rs) hb (fun i hi => ?_) (fun i hi => ?_) (by omega) hl).mono ?_
    · obtain ⟨b', e, _, h1, _⟩ := hA i hi; cases e; exact h1
    · obtain ⟨b', e, _, _, h1⟩ := hA i hi; exact h1
    · rintro e w' ⟨b', c', rfl, h1, h2, h3, h4, h5, h6⟩
      exact ⟨_, rfl, .inr ⟨b', c', rs, rfl, h1, h2, h3, h4, h5⟩, h6⟩

end Go.Proofs.Ytmghcankdaomgaa

/-
  PACKAGE poly: Polynomial.Add.
-/
namespace Go.Proofs.Ytmghcankdaomgaa
open Go.RowKit
open Num
set_option linter.unusedVariables false
set_option maxRecDepth 100000
set_option linter.unusedSimpArgs false

set_option maxHeartbeats 4000000 in
theorem padd_one {w : World} {v u : Value} {l r : List Rat} {m n : Nat} (h : PN w v l) (h' : PN w u r) (hs : Sml l m) (hs' : Sml r n) (hm : m ≤ 68719476736) (hn : n ≤ 68719476736) (hl : l.length ≤ 1000000) (hle : r.length ≤ l.length) :
    Calls Try.prog 30 #[v, u] w fun e w' => ∃ v', e = .returned v' ∧ PN w' v' (addp l r) ∧ Below w.heap.size w w' := by
  obtain ⟨a, c, rfl, hn1, hc1⟩ := h.opened
  obtain ⟨a', c', rfl, hn2, hc2⟩ := h'.opened
  have HP := hid h
  have HP' := hid h'
  have SL := hid hs
  have SR := hid hs'
  have HM := hid hm
  have HM' := hid hn
  have HC := hid (nclone h hl)
  have HK : Hid (addp l r = trimQ (lof l.length fun i => co l i + co r i)) := hid (by rw [addp, Nat.max_eq_left (by omega)])
  obtain ⟨nl, hNL⟩ : ∃ nl, l.length = nl := ⟨_, rfl⟩
  obtain ⟨nr, hNR⟩ : ∃ nr, r.length = nr := ⟨_, rfl⟩
  have NL := hid hNL
  have NR := hid hNR
  rw [hNL] at hn1 hl hle HP HC HK ⊢
  rw [hNR] at hn2 hle HP' ⊢
  clear h h' hs hs' hm hn hNL hNR
  unfold maxLen at hc1 hc2
  go_enter Try.func30, Try.ntmps30
  go_wp2_with fail
  refine HC.out.mono ?_
  rintro e w1 ⟨v1, rfl, ho, hb⟩
  have B := hid hb
  clear hb HC
  rcases ho with ⟨h0, a1, c1, rfl, hc3⟩ | ⟨b0, c1, rs, rfl, hb0, hrow, hn3, hc3, hw⟩
  · have h00 : nl = 0 := by rw [← NL.out, h0]; rfl
    subst h00
    obtain rfl : nr = 0 := by omega
    have HT := hid (trim_pn (PN.nil w1 (a := a1) hc3))
    unfold maxLen at hc3
    go_wp2_with fail
    go_loopw [19] (fun i wr => i = .int .i64 0 ∧ ∃ j, wr = w1.drewN j) (fun i _ => 0)
    case atStart => exact ⟨rfl, 0, rfl⟩
    case round =>
      obtain ⟨rfl, j, rfl⟩ := hrel
      have HT := hid (trim_pn (PN.nil (w1.drewN j) (a := a1) (c := c1) (by unfold maxLen; omega)))
      have BJ := hid (below_drewN (Below.refl w1.heap.size w1) j)
      go_wp2_with fail
      refine HT.out.mono ?_
      rintro e w2 ⟨rfl, hb⟩
      go_wp2_with fail
      go_ret
      have e0 : addp l r = [] := by rw [HK.out]; rfl
      rw [e0]
      exact ⟨_, rfl, PN.nil w2 (by unfold maxLen; omega), (B.out.trans (BJ.out.mono B.out.size)).trans (hb.mono (B.out.trans (BJ.out.mono B.out.size)).size)⟩
  · rw [NL.out] at hrow hn3 hw ⊢
    have HB := hid hb0
    have ROW := hid hrow
    have HW : Hid (∀ j, j < nl → NF w1 (nag (rs j)) (co l j + if j < 0 then co r j else 0)) := hid (fun j hj => (hw j hj).cast (by rw [if_neg (by omega)]; grind))
    have HC3 := hid hc3
    clear hrow hw hb0
    unfold maxLen at hc3
    go_wp2_with fail
    go_loopw [19] (fun i wr => ∃ (k : Nat) (rs : Nat → Nr), k ≤ nr ∧ i = .int .i64 k ∧ Hid (NRw wr b0 nl rs) ∧ Hid (∀ j, j < nl → NF wr (nag (rs j)) (co l j + if j < k then co r j else 0)) ∧ Hid (Below w.heap.size w wr)) (fun i _ => nr - (intOf i).toNat)
    case atStart => exact ⟨0, rs, by omega, rfl, ROW, HW, B⟩
    case round =>
      clear ROW HW B
      obtain ⟨k, rs, hk, rfl, ROW, HW, B⟩ := hrel
      by_cases hlt : k < nr
      · have hkn : k < nl := by omega
        obtain ⟨b5, s5a, p5a, n5a, c5a, s5b, p5b, n5b, c5b, rfl, hb5, cd5, hq5⟩ := pn_at HP'.out B.out (i := k) (by rw [NR.out]; exact hlt)
        obtain ⟨s6a, p6a, n6a, c6a, s6b, p6b, n6b, c6b, hz6⟩ : ∃ s6a p6a n6a c6a s6b p6b n6b c6b, rs k = ((s6a, p6a, n6a, c6a), (s6b, p6b, n6b, c6b)) := ⟨_, _, _, _, _, _, _, _, rfl⟩
        have hq6 := HW.out k hkn
        rw [hz6, if_neg (by omega)] at hq6
        dsimp only [nag] at hq6
        have HQ := hid hq5
        have HS := hid (hq6.cast (show co l k + 0 = co l k by grind))
        have HN3 := hid hn3
        clear hq5 hq6
        have LB := hid ROW.out.lt
        obtain ⟨hb101, hx102, hs103⟩ := Nbx.made wr s5a s5b (.slice p5a n5a c5a) (.slice p5b n5b c5b)
        replace HQ := nf HQ hb101
        replace HS := nf HS hb101
        replace ROW := rwo ROW hb101
        replace HW := hid (fun q_ hq_ => (HW.out q_ hq_).on hb101)
        replace B := bb B hb101
        have X7 := hid hx102
        clear hb101 hx102
        have cc104 := X7.out.cells
        have cr := ROW.out.cells hkn
        rw [hz6] at cr
        go_wp2_with fail
        generalize hW : wr.alloc (.cells #[.bool s5a, .slice p5a n5a c5a, .bool s5b, .slice p5b n5b c5b] 52) = W105 at *
        clear hW
        clear cr
        have cc106 := X7.out.cells
        replace X7 := hid X7.out.dr
        replace HQ := hid HQ.out.drew
        replace HS := hid HS.out.drew
        replace HW := hid (fun q_ hq_ => (HW.out q_ hq_).drew)
        replace ROW := hid ROW.out.dr
        replace B := hid (Below.drew B.out)
        have cr := ROW.out.cells hkn
        rw [hz6] at cr
        have cc107 := X7.out.cells
        go_region_with (first
          | (go_at_call 33; refine (nadd_f HS.out HQ.out (SL.out.2 k) (SR.out.2 k) HM.out HM'.out).mono ?_; rintro e w109 ⟨v, rfl, hv, hb⟩; obtain ⟨s7a, p7a, n7a, c7a, s7b, p7b, n7b, c7b, rfl⟩ := hv.opened; replace X7 := nx X7 hb; replace HQ := nf HQ hb; replace HS := nf HS hb; replace ROW := rwo ROW hb; replace HW := hid (fun q_ hq_ => (HW.out q_ hq_).on hb); replace B := bb B hb; clear cc104 cc106 cc107; have HV := hid hv; clear hb hv cr; have cc110 := X7.out.cells; have cr := ROW.out.cells hkn; rw [hz6] at cr; have cc111 := ROW.out.stores hkn; replace X7 := hid (X7.out.kept (ROW.out.far k (by have := HB.out; have := LB.out; omega) s7a p7a n7a c7a s7b p7b n7b c7b)); replace HQ := hid (HQ.out.put ROW.out k s7a p7a n7a c7a s7b p7b n7b c7b); replace HS := hid (HS.out.put ROW.out k s7a p7a n7a c7a s7b p7b n7b c7b); replace HV := hid (HV.out.put ROW.out k s7a p7a n7a c7a s7b p7b n7b c7b); replace HW := hid (fun q_ hq_ => (HW.out q_ hq_).put ROW.out k s7a p7a n7a c7a s7b p7b n7b c7b); replace B := hid (ROW.out.below B.out k (by have := HB.out; have := LB.out; omega) s7a p7a n7a c7a s7b p7b n7b c7b); replace ROW := hid (ROW.out.put hkn s7a p7a n7a c7a s7b p7b n7b c7b); have mk108_0 := hid True.intro))
        all_goals
          go_wp2_with fail
          go_roundw
          case rel => exact ⟨k + 1, _, by omega, by go_num, ROW, hid (fun j hj => by
            by_cases hjk : j = k
            · subst hjk; rw [upd_self, if_pos (by omega)]; exact HV.out
            · rw [upd_ne _ _ hjk]; exact (HW.out j hj).cast (by split <;> split <;> first | rfl | omega)), B⟩
          case measure => simp [intOf]; omega
      · obtain rfl : k = nr := by omega
        have HP2 : Hid (PN wr (.slice (some ⟨b0, 0, none⟩) nl c1) (lof nl fun i => co l i + co r i)) := hid (ROW.out.pn (by simp [lof]) hn3 HC3.out (fun i hi => (HW.out i hi).cast (by rw [co_lof, if_pos hi]; split; rfl; rw [co_ge (l := r) (by rw [NR.out]; omega)])))
        go_wp2_with fail
        refine (trim_p HP2.out).mono ?_
        rintro e w2 ⟨v2, rfl, hp, hb⟩
        have HR := hid hp
        have B2 := hid (B.out.trans (hb.mono B.out.size))
        clear hp hb
        go_wp2_with fail
        go_ret
        exact ⟨_, rfl, by rw [HK.out]; exact HR.out, B2.out⟩

set_option maxHeartbeats 4000000 in
theorem padd_swap {w : World} {v u : Value} {l r : List Rat} {m n : Nat} (h : PN w v l) (h' : PN w u r) (hs : Sml l m) (hs' : Sml r n) (hm : m ≤ 68719476736) (hn : n ≤ 68719476736) (hl : l.length ≤ 1000000) (hle : r.length < l.length) :
    Calls Try.prog 30 #[u, v] w fun e w' => ∃ v', e = .returned v' ∧ PN w' v' (addp l r) ∧ Below w.heap.size w w' := by
  obtain ⟨a, c, rfl, hn1, hc1⟩ := h.opened
  obtain ⟨a', c', rfl, hn2, hc2⟩ := h'.opened
  have HP := hid h
  have HP' := hid h'
  have SL := hid hs
  have SR := hid hs'
  have HM := hid hm
  have HM' := hid hn
  have HC := hid (nclone h hl)
  have HK : Hid (addp l r = trimQ (lof l.length fun i => co l i + co r i)) := hid (by rw [addp, Nat.max_eq_left (by omega)])
  obtain ⟨nl, hNL⟩ : ∃ nl, l.length = nl := ⟨_, rfl⟩
  obtain ⟨nr, hNR⟩ : ∃ nr, r.length = nr := ⟨_, rfl⟩
  have NL := hid hNL
  have NR := hid hNR
  rw [hNL] at hn1 hl hle HP HC HK ⊢
  rw [hNR] at hn2 hle HP' ⊢
  clear h h' hs hs' hm hn hNL hNR
  unfold maxLen at hc1 hc2
  have hle2 : (nr : Int) < (nl : Int) := by omega
  go_enter Try.func30, Try.ntmps30
  go_wp2_with fail
  refine HC.out.mono ?_
  rintro e w1 ⟨v1, rfl, ho, hb⟩
  have B := hid hb
  clear hb HC
  rcases ho with ⟨h0, a1, c1, rfl, hc3⟩ | ⟨b0, c1, rs, rfl, hb0, hrow, hn3, hc3, hw⟩
  · have h00 : nl = 0 := by rw [← NL.out, h0]; rfl
    subst h00
    obtain rfl : nr = 0 := by omega
    have HT := hid (trim_pn (PN.nil w1 (a := a1) hc3))
    unfold maxLen at hc3
    go_wp2_with fail
    go_loopw [19] (fun i wr => i = .int .i64 0 ∧ ∃ j, wr = w1.drewN j) (fun i _ => 0)
    case atStart => exact ⟨rfl, 0, rfl⟩
    case round =>
      obtain ⟨rfl, j, rfl⟩ := hrel
      have HT := hid (trim_pn (PN.nil (w1.drewN j) (a := a1) (c := c1) (by unfold maxLen; omega)))
      have BJ := hid (below_drewN (Below.refl w1.heap.size w1) j)
      go_wp2_with fail
      refine HT.out.mono ?_
      rintro e w2 ⟨rfl, hb⟩
      go_wp2_with fail
      go_ret
      have e0 : addp l r = [] := by rw [HK.out]; rfl
      rw [e0]
      exact ⟨_, rfl, PN.nil w2 (by unfold maxLen; omega), (B.out.trans (BJ.out.mono B.out.size)).trans (hb.mono (B.out.trans (BJ.out.mono B.out.size)).size)⟩
  · rw [NL.out] at hrow hn3 hw ⊢
    have HB := hid hb0
    have ROW := hid hrow
    have HW : Hid (∀ j, j < nl → NF w1 (nag (rs j)) (co l j + if j < 0 then co r j else 0)) := hid (fun j hj => (hw j hj).cast (by rw [if_neg (by omega)]; grind))
    have HC3 := hid hc3
    clear hrow hw hb0
    unfold maxLen at hc3
    go_wp2_with fail
    go_loopw [19] (fun i wr => ∃ (k : Nat) (rs : Nat → Nr), k ≤ nr ∧ i = .int .i64 k ∧ Hid (NRw wr b0 nl rs) ∧ Hid (∀ j, j < nl → NF wr (nag (rs j)) (co l j + if j < k then co r j else 0)) ∧ Hid (Below w.heap.size w wr)) (fun i _ => nr - (intOf i).toNat)
    case atStart => exact ⟨0, rs, by omega, rfl, ROW, HW, B⟩
    case round =>
      clear ROW HW B
      obtain ⟨k, rs, hk, rfl, ROW, HW, B⟩ := hrel
      by_cases hlt : k < nr
      · have hkn : k < nl := by omega
        obtain ⟨b5, s5a, p5a, n5a, c5a, s5b, p5b, n5b, c5b, rfl, hb5, cd5, hq5⟩ := pn_at HP'.out B.out (i := k) (by rw [NR.out]; exact hlt)
        obtain ⟨s6a, p6a, n6a, c6a, s6b, p6b, n6b, c6b, hz6⟩ : ∃ s6a p6a n6a c6a s6b p6b n6b c6b, rs k = ((s6a, p6a, n6a, c6a), (s6b, p6b, n6b, c6b)) := ⟨_, _, _, _, _, _, _, _, rfl⟩
        have hq6 := HW.out k hkn
        rw [hz6, if_neg (by omega)] at hq6
        dsimp only [nag] at hq6
        have HQ := hid hq5
        have HS := hid (hq6.cast (show co l k + 0 = co l k by grind))
        have HN3 := hid hn3
        clear hq5 hq6
        have LB := hid ROW.out.lt
        obtain ⟨hb101, hx102, hs103⟩ := Nbx.made wr s5a s5b (.slice p5a n5a c5a) (.slice p5b n5b c5b)
        replace HQ := nf HQ hb101
        replace HS := nf HS hb101
        replace ROW := rwo ROW hb101
        replace HW := hid (fun q_ hq_ => (HW.out q_ hq_).on hb101)
        replace B := bb B hb101
        have X7 := hid hx102
        clear hb101 hx102
        have cc104 := X7.out.cells
        have cr := ROW.out.cells hkn
        rw [hz6] at cr
        go_wp2_with fail
        generalize hW : wr.alloc (.cells #[.bool s5a, .slice p5a n5a c5a, .bool s5b, .slice p5b n5b c5b] 52) = W105 at *
        clear hW
        clear cr
        have cc106 := X7.out.cells
        replace X7 := hid X7.out.dr
        replace HQ := hid HQ.out.drew
        replace HS := hid HS.out.drew
        replace HW := hid (fun q_ hq_ => (HW.out q_ hq_).drew)
        replace ROW := hid ROW.out.dr
        replace B := hid (Below.drew B.out)
        have cr := ROW.out.cells hkn
        rw [hz6] at cr
        have cc107 := X7.out.cells
        go_region_with (first
          | (go_at_call 33; refine (nadd_f HS.out HQ.out (SL.out.2 k) (SR.out.2 k) HM.out HM'.out).mono ?_; rintro e w109 ⟨v, rfl, hv, hb⟩; obtain ⟨s7a, p7a, n7a, c7a, s7b, p7b, n7b, c7b, rfl⟩ := hv.opened; replace X7 := nx X7 hb; replace HQ := nf HQ hb; replace HS := nf HS hb; replace ROW := rwo ROW hb; replace HW := hid (fun q_ hq_ => (HW.out q_ hq_).on hb); replace B := bb B hb; clear cc104 cc106 cc107; have HV := hid hv; clear hb hv cr; have cc110 := X7.out.cells; have cr := ROW.out.cells hkn; rw [hz6] at cr; have cc111 := ROW.out.stores hkn; replace X7 := hid (X7.out.kept (ROW.out.far k (by have := HB.out; have := LB.out; omega) s7a p7a n7a c7a s7b p7b n7b c7b)); replace HQ := hid (HQ.out.put ROW.out k s7a p7a n7a c7a s7b p7b n7b c7b); replace HS := hid (HS.out.put ROW.out k s7a p7a n7a c7a s7b p7b n7b c7b); replace HV := hid (HV.out.put ROW.out k s7a p7a n7a c7a s7b p7b n7b c7b); replace HW := hid (fun q_ hq_ => (HW.out q_ hq_).put ROW.out k s7a p7a n7a c7a s7b p7b n7b c7b); replace B := hid (ROW.out.below B.out k (by have := HB.out; have := LB.out; omega) s7a p7a n7a c7a s7b p7b n7b c7b); replace ROW := hid (ROW.out.put hkn s7a p7a n7a c7a s7b p7b n7b c7b); have mk108_0 := hid True.intro))
        all_goals
          go_wp2_with fail
          go_roundw
          case rel => exact ⟨k + 1, _, by omega, by go_num, ROW, hid (fun j hj => by
            by_cases hjk : j = k
            · subst hjk; rw [upd_self, if_pos (by omega)]; exact HV.out
            · rw [upd_ne _ _ hjk]; exact (HW.out j hj).cast (by split <;> split <;> first | rfl | omega)), B⟩
          case measure => simp [intOf]; omega
      · obtain rfl : k = nr := by omega
        have HP2 : Hid (PN wr (.slice (some ⟨b0, 0, none⟩) nl c1) (lof nl fun i => co l i + co r i)) := hid (ROW.out.pn (by simp [lof]) hn3 HC3.out (fun i hi => (HW.out i hi).cast (by rw [co_lof, if_pos hi]; split; rfl; rw [co_ge (l := r) (by rw [NR.out]; omega)])))
        go_wp2_with fail
        refine (trim_p HP2.out).mono ?_
        rintro e w2 ⟨v2, rfl, hp, hb⟩
        have HR := hid hp
        have B2 := hid (B.out.trans (hb.mono B.out.size))
        clear hp hb
        go_wp2_with fail
        go_ret
        exact ⟨_, rfl, by rw [HK.out]; exact HR.out, B2.out⟩

theorem addp_comm (l r : List Rat) : addp l r = addp r l := trm_ext (trm_addp _ _) (trm_addp _ _) fun i => by rw [co_addp, co_addp]; grind
/-- The sum. -/
theorem padd_p {w : World} {v u : Value} {l r : List Rat} {m n : Nat} (h : PN w v l) (h' : PN w u r) (hs : Sml l m) (hs' : Sml r n) (hm : m ≤ 68719476736) (hn : n ≤ 68719476736) (hl : l.length ≤ 1000000) (hr : r.length ≤ 1000000) :
    Calls Try.prog 30 #[v, u] w fun e w' => ∃ v', e = .returned v' ∧ PN w' v' (addp l r) ∧ Below w.heap.size w w' := by
  by_cases hle : r.length ≤ l.length
  · exact padd_one h h' hs hs' hm hn hl hle
  · rw [addp_comm]
    exact padd_swap h' h hs' hs hn hm hr (by omega)

end Go.Proofs.Ytmghcankdaomgaa
