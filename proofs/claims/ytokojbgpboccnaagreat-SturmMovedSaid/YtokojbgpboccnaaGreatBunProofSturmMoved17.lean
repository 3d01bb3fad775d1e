import Derived.Test.YtokojbgpboccnaaGreatBunProofSturmMoved16
import Derived.Test.YtokojbgpboccnaaGreatBunProofSturmMoved5
import Derived.WideShapes
import Derived.Test.YtokojbgpboccnaaGreatBunProofSturmMoved1
import Derived.Test.YtokojbgpboccnaaGreatBunProofSturmMoved13
import Derived.Test.YtokojbgpboccnaaGreatBunProofSturmMoved2
/-
  PACKAGE poly: slices.Clone.
-/
namespace Go.Proofs.YtokojbgpboccnaaGreat
open Go.RowKit
open Num
set_option linter.unusedVariables false
set_option maxRecDepth 100000
set_option linter.unusedSimpArgs false

/-- The k-th cell of a Number. -/
def ncell (r : Nr) (k : Nat) : Value := if k = 0 then .bool r.1.1 else if k = 1 then .slice r.1.2.1 r.1.2.2.1 r.1.2.2.2 else if k = 2 then .bool r.2.1 else .slice r.2.2.1 r.2.2.2.1 r.2.2.2.2
theorem ncell_one (r : Nr) (k : Nat) : (ncell r k).oneCell' = true ∧ NI (ncell r k) := by
  unfold ncell
  split
  · exact ⟨rfl, NI.bool _⟩
  · split
    · exact ⟨rfl, NI.slc _ _ _⟩
    · split
      · exact ⟨rfl, NI.bool _⟩
      · exact ⟨rfl, NI.slc _ _ _⟩
theorem At4.cell {w : World} {b i : Nat} {r : Nr} (h : At4 w b (i * 4) r) {j : Nat} (h1 : i * 4 ≤ j) (h2 : j < i * 4 + 4) : w.cell? ⟨b, j, none⟩ = some (ncell r (j - i * 4)) := by
  obtain ⟨c0, c1, c2, c3⟩ := h
  rcases (show j = i * 4 ∨ j = i * 4 + 1 ∨ j = i * 4 + 2 ∨ j = i * 4 + 3 by omega) with h | h | h | h
  · rw [h, c0]; simp [ncell]
  · rw [h, c1]; simp [ncell]
  · rw [h, c2]; simp [ncell]
  · rw [h, c3]; simp [ncell]
def nrow (rs : Nat → Nr) (n : Nat) : List Value := (List.range (n * 4)).map fun j => ncell (rs (j / 4)) (j % 4)
theorem nrow_len (rs : Nat → Nr) (n : Nat) : (nrow rs n).length = n * 4 := by simp [nrow]
theorem nrow_get {rs : Nat → Nr} {n j : Nat} {u : Value} (h : (nrow rs n)[j]? = some u) : j < n * 4 ∧ u = ncell (rs (j / 4)) (j % 4) := by
  unfold nrow at h
  rw [List.getElem?_map] at h
  obtain ⟨k, hk, rfl⟩ := Option.map_eq_some_iff.1 h
  obtain ⟨h1, h2⟩ := List.getElem?_eq_some_iff.1 hk
  simp at h1 h2
  subst h2
  exact ⟨h1, rfl⟩
theorem nrow_at (rs : Nat → Nr) {n i k : Nat} (hi : i < n) (hk : k < 4) : (nrow rs n)[i * 4 + k]? = some (ncell (rs i) k) := by
  unfold nrow
  rw [List.getElem?_map, List.getElem?_range (by omega)]
  simp only [Option.map_some]
  rw [show (i * 4 + k) / 4 = i by omega, show (i * 4 + k) % 4 = k by omega]
theorem run_append_nop (w : World) (ty : TypeId) (b0 : Addr) (p : Option Addr) (c : Nat) :
    (Builtin.append_ #[35, 35] ty #[.slice (some b0) 0 0, .slice p 0 c]).run Tryz.prog w = .ok (.slice (some b0) 0 0) w := by
  obtain ⟨i, hi, _⟩ := info_parts infoN
  cases p <;> simp [Builtin.append_, run_underlying Tryz.underlying35, sizeOf, typeInfo, hi, Builtin.lenOf, Builtin.firstCells, loadCells, loadCellsFrom, storeCells]
/-- A list of the call's own, in blocks from K on. -/
def OwnN (w : World) (K : Nat) (v : Value) (l : List Rat) : Prop := (l = [] ∧ ∃ a c, v = .slice a 0 c ∧ c ≤ maxLen) ∨
  ∃ b c rs, v = .slice (some ⟨b, 0, none⟩) l.length c ∧ K ≤ b ∧ NRw w b l.length rs ∧ l.length ≤ c ∧ c ≤ maxLen ∧ ∀ i, i < l.length → NF w (nag (rs i)) (co l i)

set_option maxHeartbeats 1000000 in
theorem nclone_nil (w : World) (c : Nat) :
    Calls Tryz.prog 56 #[.slice none 0 c] w fun e w' => e = .returned (.slice none 0 0) ∧ Below w.heap.size w w' := by
  have hq := eql_slice_nil 35 _ Tryz.underlying35
  go_enter Tryz.func56, Tryz.ntmps56
  go_wp2
  go_ret
  exact ⟨rfl, Below.refl _ _⟩

set_option maxHeartbeats 1000000 in
theorem nclone_zero (w : World) (b : Addr) (c : Nat) :
    Calls Tryz.prog 56 #[.slice (some b) 0 c] w fun e w' => e = .returned (.slice (some ⟨w.heap.size, 0, none⟩) 0 0) ∧ Below w.heap.size w w' := by
  have hq := eql_slice_nil 35 _ Tryz.underlying35
  have hrun := run_append_nop (w.alloc (.cells #[] 43)) 35 ⟨w.heap.size, 0, none⟩ (some b) c
  have hb := (Below.refl w.heap.size w).alloc (Nat.le_refl _) (.cells #[] 43)
  have B := hid hb
  clear hb
  go_enter Tryz.func56, Tryz.ntmps56
  go_wp2_with (at_builtin; refine wpList_append_run rfl _ _ 35 rfl _ _ _ rfl rfl hrun ?_)
  go_wp2
  go_ret
  exact ⟨rfl, B.out⟩

set_option maxHeartbeats 1000000 in
theorem nclone_at {w : World} {b n c : Nat} {rs : Nat → Nr} {q : Nat → Rat} (hb : b < w.heap.size) (hA : ∀ i, i < n → At4 w b (i * 4) (rs i)) (hq : ∀ i, i < n → NF w (nag (rs i)) (q i)) (hn0 : 1 ≤ n) (hn : n ≤ 1000000) :
    Calls Tryz.prog 56 #[.slice (some ⟨b, 0, none⟩) n c] w fun e w' => ∃ b' c', e = .returned (.slice (some ⟨b', 0, none⟩) n c') ∧ w.heap.size ≤ b' ∧ NRw w' b' n rs ∧ n ≤ c' ∧ c' ≤ maxLen ∧ (∀ i, i < n → NF w' (nag (rs i)) (q i)) ∧ Below w.heap.size w w' := by
  obtain ⟨i0, hi, hz0, hz1, hz2⟩ := info_parts infoN
  have hb0 := (Below.refl w.heap.size w).alloc (Nat.le_refl _) (.cells #[] 43)
  have hnews : ∀ j u, (nrow rs n)[j]? = some u → (w.alloc (.cells #[] 43)).cell? (Addr.add ⟨b, 0, none⟩ j) = some u := by
    intro j u hj
    obtain ⟨h1, rfl⟩ := nrow_get hj
    rw [World.cell?_alloc_lt _ _ _ (by rw [Go.WideShapes.add_plain]; exact hb)]
    have h2 := (hA (j / 4) (by omega)).cell (j := j) (by omega) (by omega)
    rw [show j - j / 4 * 4 = j % 4 by omega] at h2
    rw [Go.WideShapes.add_plain, Nat.zero_add]
    exact h2
  have HNEWS := hid hnews
  have HNI : ∀ g, (Value.slice (some ⟨w.heap.size, 0, none⟩) 0 0).ownBlock = some g → NoInt (w.alloc (.cells #[] 43)) g := by
    intro g hg
    simp [Value.ownBlock] at hg
    subst hg
    exact NoInt.new w _ _ fun u hu => by simp at hu
  have HNI := hid HNI
  have hown := World.ownsRow_made (base := w.heap.size) (e := 43) (size := 4) w #[] 0 (Nat.le_refl _) (by unfold maxLen; omega) rfl
  have HO := hid hown
  have HQ := hid hq
  have HB := hid hb0
  clear hnews hown hA hq hb0
  have hq := eql_slice_nil 35 _ Tryz.underlying35
  go_enter Tryz.func56, Tryz.ntmps56
  go_wp2_with (at_builtin; refine wpList_append_ni rfl _ _ 35 rfl w.heap.size 43 i0 _ 4 64 Tryz.underlying35 hi hz0 hz1 hz2 rfl (by decide) _ _ _ rfl HO.out HNI.out ?c7 ⟨b, 0, none⟩ n c (nrow rs n) rfl ?c0 ?c1 ?c2 ?c8 ?c3 ?c4 ?c5 ?_)
  case c7 =>
    intro u hu
    simp [Value.cells] at hu
    rcases hu with rfl | rfl | rfl | rfl <;> first | exact NI.bool _ | exact NI.slc _ _ _
  case c0 => exact nrow_len rs n
  case c1 => exact HNEWS.out
  case c2 =>
    intro u hu
    obtain ⟨j, hj⟩ := List.getElem?_of_mem hu
    obtain ⟨_, rfl⟩ := nrow_get hj
    exact (ncell_one _ _).1
  case c8 =>
    intro u hu
    obtain ⟨j, hj⟩ := List.getElem?_of_mem hu
    obtain ⟨_, rfl⟩ := nrow_get hj
    exact (ncell_one _ _).2
  case c3 => unfold maxLen; omega
  case c4 => omega
  case c5 => simp
  intro v' w1 hown' hgrow hni
  have HO' := hid hown'
  have HN' := hid hni
  have hb2 : Below w.heap.size w w1 := HB.out.grown hgrow (by simp) (fun g hg => by simp [Value.ownBlock] at hg; omega)
  have HB2 := hid hb2
  clear hown' hgrow hni hb2
  go_wp2
  go_ret
  have ho := HO'.out
  have hbw := HB2.out
  rcases ho.2 with ⟨_, h0⟩ | ⟨g, cap, cur, rfl, hK, h1, h2, h3, h4, h5⟩
  · omega
  · refine ⟨g, cap, rfl, hK, ⟨cur, h1, by omega, fun i hi => ?_, HN'.out g rfl cur _ _ h1⟩, h2, h3, fun i hi => (HQ.out i hi).on hbw, hbw⟩
    have hc : ∀ k, k < 4 → cur[i * 4 + k]? = some (ncell (rs i) k) := by
      intro k hk
      have h6 := nrow_at rs hi hk
      rw [← h5, List.getElem?_take, if_pos (by omega), Array.getElem?_toList] at h6
      exact h6
    exact ⟨hc 0 (by decide), hc 1 (by decide), hc 2 (by decide), hc 3 (by decide)⟩
/-- A copy, in memory of its own. -/
theorem nclone {w : World} {v : Value} {l : List Rat} (h : PN w v l) (hl : l.length ≤ 1000000) :
    Calls Tryz.prog 56 #[v] w fun e w' => ∃ v', e = .returned v' ∧ OwnN w' w.heap.size v' l ∧ Below w.heap.size w w' := by
  obtain ⟨a, c, rs, rfl, hn, hc, hA⟩ := h
  by_cases h0 : l.length = 0
  · obtain rfl := List.length_eq_zero_iff.1 h0
    cases a with
    | none =>
      refine (nclone_nil w c).mono ?_
      rintro e w' ⟨rfl, hb⟩
      exact ⟨_, rfl, .inl ⟨rfl, _, _, rfl, Nat.zero_le _⟩, hb⟩
    | some b =>
      refine (nclone_zero w b c).mono ?_
      rintro e w' ⟨rfl, hb⟩
      exact ⟨_, rfl, .inl ⟨rfl, _, _, rfl, Nat.zero_le _⟩, hb⟩
  · obtain ⟨b, rfl, hb, _, _⟩ := hA 0 (by omega)
    refine (nclone_at (q := co l) (rs := rs) hb (fun i hi => ?_) (fun i hi => ?_) (by omega) hl).mono ?_
    · obtain ⟨b', e, _, h1, _⟩ := hA i hi; cases e; exact h1
    · obtain ⟨b', e, _, _, h1⟩ := hA i hi; exact h1
    · rintro e w' ⟨b', c', rfl, h1, h2, h3, h4, h5, h6⟩
      exact ⟨_, rfl, .inr ⟨b', c', rs, rfl, h1, h2, h3, h4, h5⟩, h6⟩

end Go.Proofs.YtokojbgpboccnaaGreat

/-
  POLYNOMIALS BY THEIR SIZE, over one denominator: what is left of a division grows by a sum. Nothing of a program.
-/
namespace Go.Proofs.YtokojbgpboccnaaGreat
open Go.RowKit
open Num4
open Num (dg isNat dval)
set_option linter.unusedVariables false
set_option maxRecDepth 100000
set_option linter.unusedSimpArgs false

/-- With one number times all are whole, and none has more limbs. -/
def Cml (l : List Rat) (n : Nat) : Prop := 1 ≤ n ∧ ∃ D : Int, D ≠ 0 ∧ D.natAbs < B ^ n ∧ ∀ i, ∃ z : Int, z.natAbs < B ^ n ∧ co l i * (D : Rat) = (z : Rat)
theorem bpow_le {m n : Nat} (h : m ≤ n) : B ^ m ≤ B ^ n := Nat.pow_le_pow_right (by decide) h
theorem Cml.mono {l : List Rat} {m n : Nat} (h : Cml l m) (hn : m ≤ n) : Cml l n := by
  obtain ⟨h1, D, h2, h3, h4⟩ := h
  refine ⟨by omega, D, h2, Nat.lt_of_lt_of_le h3 (bpow_le hn), fun i => ?_⟩
  obtain ⟨z, h5, h6⟩ := h4 i
  exact ⟨z, Nat.lt_of_lt_of_le h5 (bpow_le hn), h6⟩
theorem int_ne {D : Int} (h : D ≠ 0) : (D : Rat) ≠ 0 := fun e => h (by exact_mod_cast e)
theorem cml_divInt {c : Rat} {D z : Int} (hD : D ≠ 0) (e : c * (D : Rat) = (z : Rat)) : c = Rat.divInt z D := by
  have h1 : c = (z : Rat) / (D : Rat) := by
    have h2 := rat_inv (int_ne hD)
    rw [← e, Rat.div_def, Rat.mul_assoc, Rat.mul_inv_cancel _ (int_ne hD)]; grind
  rw [h1, Rat.divInt_eq_div]
theorem Cml.sml {l : List Rat} {n : Nat} (h : Cml l n) : Sml l n := by
  obtain ⟨h1, D, h2, h3, h4⟩ := h
  refine ⟨h1, fun i => ?_⟩
  obtain ⟨z, h5, h6⟩ := h4 i
  rw [cml_divInt h2 h6]
  obtain ⟨d1, d2⟩ := divInt_le z D
  refine ⟨Nat.lt_of_le_of_lt d1 h5, Nat.lt_of_le_of_lt d2 ?_⟩
  have : 1 < B ^ n := Nat.one_lt_pow (by omega) (by decide)
  omega
theorem Cml.nil {n : Nat} (hn : 1 ≤ n) : Cml [] n := ⟨hn, 1, by decide, Nat.one_lt_pow (by omega) (by decide), fun i => ⟨0, by have : 0 < B ^ n := Nat.pow_pos (by decide); simpa using this, by rw [co_nil]; show (0 : Rat) * _ = (0 : Rat); grind⟩⟩
theorem Sml.cml {m : Nat} : ∀ {l : List Rat}, Sml l m → Cml l (l.length * m + 1)
  | [], _ => Cml.nil (by omega)
  | a :: l, h => by
    have h0 : Sm a m := by have := h.2 0; rwa [co_zero] at this
    have hl : Sml l m := ⟨h.1, fun i => by have := h.2 (i + 1); rwa [co_succ] at this⟩
    obtain ⟨h1, D, h2, h3, h4⟩ := hl.cml
    have e : (a :: l).length * m + 1 = m + (l.length * m + 1) := by rw [List.length_cons, Nat.succ_mul]; omega
    rw [e]
    have hd : a * (a.den : Rat) = (a.num : Rat) := by
      have h5 := Rat.num_divInt_den a
      have h6 : (a.den : Int) ≠ 0 := by have := a.den_pos; omega
      have h7 : (((a.den : Int)) : Rat) ≠ 0 := int_ne h6
      rw [Rat.divInt_eq_div] at h5
      have h8 : ((a.den : Int) : Rat) = (a.den : Rat) := rfl
      rw [← h8]
      have h9 : (a.num : Rat) / ((a.den : Int) : Rat) * ((a.den : Int) : Rat) = (a.num : Rat) := Rat.div_mul_cancel h7
      rw [h5] at h9
      exact h9
    refine ⟨by omega, (a.den : Int) * D, ?_, ?_, fun i => ?_⟩
    · intro e
      rcases Int.mul_eq_zero.1 e with e | e
      · have := a.den_pos; omega
      · exact h2 e
    · rw [Int.natAbs_mul, Nat.pow_add]
      exact Nat.mul_lt_mul'' (by simpa using h0.2) h3
    · cases i with
      | zero =>
        refine ⟨a.num * D, ?_, ?_⟩
        · rw [Int.natAbs_mul, Nat.pow_add]
          exact Nat.mul_lt_mul'' h0.1 h3
        · rw [co_zero, Rat.intCast_mul, Rat.intCast_mul, ← hd]
          show a * ((a.den : Rat) * (D : Rat)) = _
          grind
      | succ i =>
        obtain ⟨z, h5, h6⟩ := h4 i
        refine ⟨(a.den : Int) * z, ?_, ?_⟩
        · rw [Int.natAbs_mul, Nat.pow_add]
          exact Nat.mul_lt_mul'' (by simpa using h0.2) h5
        · rw [co_succ, Rat.intCast_mul, Rat.intCast_mul, ← h6]; grind
theorem two_pow_lt {a b c d : Nat} {m n : Nat} (ha : a < B ^ m) (hb : b < B ^ n) (hc : c < B ^ m) (hd : d < B ^ n) : a * b + c * d < B ^ (m + n + 1) := by
  have h1 := Nat.mul_lt_mul'' ha hb
  have h2 := Nat.mul_lt_mul'' hc hd
  rw [← Nat.pow_add] at h1 h2
  have h3 : B ^ (m + n + 1) = B ^ (m + n) * 10000 := rfl
  rw [h3]
  omega
theorem Cml.step {p q : List Rat} {m n : Nat} (h : Cml p m) (h' : Cml q n) (hq : Trm q) (h0 : q ≠ []) : Cml (stepp p q) (m + n + 1) := by
  obtain ⟨h1, D, h2, h3, h4⟩ := h
  obtain ⟨k1, F, k2, k3, k4⟩ := h'
  obtain ⟨E, k5, k6⟩ := k4 (q.length - 1)
  obtain ⟨A, h5, h6⟩ := h4 (p.length - 1)
  have ht : top q ≠ 0 := top_ne hq h0
  have hE : E ≠ 0 := by
    rintro rfl
    rcases Rat.mul_eq_zero.1 k6 with e | e
    · exact ht e
    · exact int_ne k2 e
  have hDr := int_ne h2
  have hFr := int_ne k2
  refine ⟨by omega, D * E, ?_, ?_, fun i => ?_⟩
  · intro e
    rcases Int.mul_eq_zero.1 e with e | e
    · exact h2 e
    · exact hE e
  · rw [Int.natAbs_mul]
    refine Nat.lt_of_lt_of_le (Nat.mul_lt_mul'' h3 k5) ?_
    rw [← Nat.pow_add]
    exact bpow_le (by omega)
  · obtain ⟨z, h7, h8⟩ := h4 i
    rw [co_stepp]
    split
    · obtain ⟨y, k7, k8⟩ := k4 (i - (p.length - q.length))
      refine ⟨z * E - A * y, ?_, ?_⟩
      · have e1 : (z * E - A * y).natAbs ≤ z.natAbs * E.natAbs + A.natAbs * y.natAbs := by
          have e2 := Int.natAbs_add_le (z * E) (-(A * y))
          rw [Int.natAbs_neg, Int.natAbs_mul, Int.natAbs_mul] at e2
          exact e2
        exact Nat.lt_of_le_of_lt e1 (two_pow_lt h7 k5 h5 k7)
      · have e1 : co q (q.length - 1) = top q := rfl
        have e2 : co p (p.length - 1) = top p := rfl
        rw [e1] at k6
        rw [e2] at h6
        have e3 : top p / top q * top q = top p := Rat.div_mul_cancel ht
        rw [Rat.intCast_sub, Rat.intCast_mul, Rat.intCast_mul, Rat.intCast_mul, ← h8, ← h6, ← k8, ← k6]
        generalize top p / top q = t at *
        rw [← e3]
        grind
    · refine ⟨z * E, ?_, ?_⟩
      · rw [Int.natAbs_mul]
        refine Nat.lt_of_lt_of_le (Nat.mul_lt_mul'' h7 k5) ?_
        rw [← Nat.pow_add]
        exact bpow_le (by omega)
      · rw [Rat.intCast_mul, Rat.intCast_mul, ← h8]; grind
theorem Cml.mnc {p : List Rat} {m : Nat} (h : Cml p m) (hp : Trm p) (h0 : p ≠ []) : Cml (mnc p) m := by
  obtain ⟨h1, D, h2, h3, h4⟩ := h
  obtain ⟨A, h5, h6⟩ := h4 (p.length - 1)
  have ht := top_ne hp h0
  have e2 : co p (p.length - 1) = top p := rfl
  rw [e2] at h6
  refine ⟨h1, A, ?_, h5, fun i => ?_⟩
  · rintro rfl
    rcases Rat.mul_eq_zero.1 h6 with e | e
    · exact ht e
    · exact int_ne h2 e
  · obtain ⟨z, h7, h8⟩ := h4 i
    refine ⟨z, h7, ?_⟩
    have hi := rat_inv ht
    rw [co_mnc, ← h6, ← h8]
    generalize 1 / top p = t at *
    grind
theorem Cml.slope {p : List Rat} {m : Nat} (h : Cml p m) (hl : p.length ≤ 1000) : Cml (slope p) (m + 1) := by
  obtain ⟨h1, D, h2, h3, h4⟩ := h
  refine ⟨by omega, D, h2, Nat.lt_of_lt_of_le h3 (bpow_le (by omega)), fun i => ?_⟩
  rw [co_slope, co_pder]
  by_cases hi : i + 1 < p.length
  · obtain ⟨z, h5, h6⟩ := h4 (i + 1)
    refine ⟨z * ((i : Int) + 1), ?_, ?_⟩
    · rw [Int.natAbs_mul]
      have e1 : ((i : Int) + 1).natAbs = i + 1 := by omega
      rw [e1]
      have e2 : B ^ (m + 1) = B ^ m * 10000 := rfl
      rw [e2]
      exact Nat.mul_lt_mul'' h5 (by omega)
    · have e1 : ((i : Rat) + 1) = (((i : Int) + 1 : Int) : Rat) := by push_cast; rfl
      rw [Rat.intCast_mul, ← h6, e1]; grind
  · refine ⟨0, by have : 0 < B ^ (m + 1) := Nat.pow_pos (by decide); simpa using this, ?_⟩
    rw [co_ge (by omega)]
    show _ = (0 : Rat)
    grind

end Go.Proofs.YtokojbgpboccnaaGreat

/-
  STURM: a chain whose polynomials are taken times numbers; how long they are. Nothing of a program.
-/
namespace Go.Proofs.YtokojbgpboccnaaGreat
open Num4
open Num (dg isNat dval)
set_option linter.unusedVariables false

/-- The chain without rounds to spare: nothing of nothing. -/
noncomputable def chz : Nat → List Rat → List Rat → List (List Rat)
  | 0, _, _ => []
  | n + 1, f, g => if f = [] then [] else f :: chz n g (nrem f g)
theorem chz_nil (n : Nat) (g : List Rat) : chz n [] g = [] := by cases n <;> simp [chz]
theorem chz_cons {n : Nat} {f g : List Rat} (h : f ≠ []) : chz (n + 1) f g = f :: chz n g (nrem f g) := by simp [chz, h]
theorem chz_chnx : ∀ (n : Nat) (f g : List Rat), Trm f → Trm g → f ≠ [] → g.length ≤ n → chz (n + 1) f g = chnx n f g := by
  intro n
  induction n with
  | zero =>
    intro f g hf hg h0 hl
    obtain rfl : g = [] := List.length_eq_zero_iff.1 (by omega)
    rw [chz_cons h0]; rfl
  | succ n ih =>
    intro f g hf hg h0 hl
    rw [chz_cons h0]
    by_cases h : g = []
    · subst h; rw [chz_nil, chnx_nil]
    · rw [chnx_cons h]
      congr 1
      exact ih g (nrem f g) hg (trm_nrem f g) h (by have := nrem_len hf hg h; omega)
theorem slp_len (f : List Rat) : (slope f).length ≤ f.length - 1 := by
  have := trim_len (lof (f.length - 1) fun i => co f (i + 1) * ((i : Rat) + 1))
  unfold slope
  unfold lof at this ⊢
  rw [List.length_map, List.length_range] at this
  exact this
theorem chainp_chz {f : List Rat} (hf : Trm f) (h0 : f ≠ []) : chainp f = chz (f.length + 1) f (slope f) :=
  (chz_chnx f.length f (slope f) hf (trm_slope f) h0 (by have := slp_len f; omega)).symm

/-- The same, taken times a number of this kind. -/
def Rl (Sc : Rat → Prop) (f g : List Rat) : Prop := Trm f ∧ f.length = g.length ∧ ∃ k, Sc k ∧ ∀ i, co f i = co g i * k
/-- Kinds of numbers above nought. -/
structure Kd (Sc : Rat → Prop) : Prop where
  one : Sc 1
  pos : ∀ k, Sc k → 0 < k
  mul : ∀ k l, Sc k → Sc l → Sc (k * l)
theorem kd_pos : Kd (fun k => 0 < k) := ⟨by decide, fun k h => h, fun k l h h' => Rat.mul_pos h h'⟩
theorem Rl.refl {Sc : Rat → Prop} (hS : Kd Sc) {f : List Rat} (hf : Trm f) : Rl Sc f f := ⟨hf, rfl, 1, hS.one, fun i => by grind⟩
theorem Rl.trans {Sc : Rat → Prop} (hS : Kd Sc) {f g h : List Rat} (h1 : Rl Sc f g) (h2 : Rl Sc g h) : Rl Sc f h := by
  obtain ⟨a1, a2, k, a3, a4⟩ := h1
  obtain ⟨b1, b2, l, b3, b4⟩ := h2
  exact ⟨a1, a2.trans b2, l * k, hS.mul _ _ b3 a3, fun i => by rw [a4, b4]; grind⟩
theorem pv_times {f g : List Rat} {k : Rat} (h : ∀ i, co f i = co g i * k) (x : Rat) : pv f x = k * pv g x := by
  rw [← pv_psc]
  exact pv_congr (fun i => by rw [h, co_psc]; grind) x
theorem Rl.eq {f g : List Rat} (h : Rl (fun k => k = 1) f g) (hg : Trm g) : f = g := by
  obtain ⟨h1, _, k, rfl, h3⟩ := h
  exact trm_ext h1 hg fun i => by rw [h3]; grind
theorem Rl.nil {Sc : Rat → Prop} {f g : List Rat} (h : Rl Sc f g) : f = [] ↔ g = [] := by
  rw [← List.length_eq_zero_iff, ← List.length_eq_zero_iff, h.2.1]
theorem co_of_times {f g : List Rat} {k : Rat} (h : ∀ x, pv f x = k * pv g x) (i : Nat) : co f i = co g i * k := by
  have h1 : ∀ x, pv f x = pv (psc k g) x := fun x => by rw [h, pv_psc]
  rw [co_of_pv h1 i, co_psc]; grind
theorem len_of_times {f g : List Rat} {k : Rat} (hf : Trm f) (hg : Trm g) (hk : k ≠ 0) (h : ∀ i, co f i = co g i * k) : f.length = g.length := by
  have key : ∀ {f g : List Rat}, Trm f → (∀ i, co f i ≠ 0 → co g i ≠ 0) → f.length ≤ g.length := by
    intro f g hf h
    by_cases h0 : f = []
    · rw [h0]; exact Nat.zero_le _
    · have h1 := h _ (trm_last hf h0)
      have h2 : f.length - 1 < g.length := by
        apply Classical.byContradiction
        intro hh
        exact h1 (co_ge (by omega))
      omega
  refine Nat.le_antisymm (key hf fun i hi e => hi (by rw [h, e]; grind)) (key hg fun i hi e => ?_)
  rw [h] at e
  rcases Rat.mul_eq_zero.1 e with e | e
  · exact hi e
  · exact hk e
/-- What is left of two that are taken times numbers. -/
theorem nrem_times {f g f' g' : List Rat} {k l : Rat} (hf : Trm f) (hg : Trm g) (hf' : Trm f') (hg' : Trm g') (h0 : g ≠ []) (hk : k ≠ 0) (hl : l ≠ 0) (h : ∀ i, co f' i = co f i * k) (h' : ∀ i, co g' i = co g i * l) :
    (∀ i, co (nrem f' g') i = co (nrem f g) i * k) ∧ (nrem f' g').length = (nrem f g).length := by
  have hlg := len_of_times hg' hg hl h'
  have h0' : g' ≠ [] := fun e => by rw [e] at hlg; exact h0 (List.length_eq_zero_iff.1 hlg.symm)
  have hp : ∀ x, pv (trimQ (psc k (nrem f g))) x = k * pv (nrem f g) x := fun x => by rw [pv_trim, pv_psc]
  have e1 : nrem f' g' = trimQ (psc k (nrem f g)) := by
    refine ((nrem_of (y := trimQ (psc (k / l) (quop f g))) hf' hg' h0' (trm_trim _) (trm_trim _) ?_ fun x => ?_).2).symm
    · have h1 := nrem_len hf hg h0
      have h2 := trim_len (psc k (nrem f g))
      unfold psc at h2 ⊢
      rw [List.length_map] at h2
      omega
    · have h1 := pv_nrem f g x
      have hi := rat_inv hl
      rw [pv_trim, pv_psc, hp, pv_times h, pv_times h', h1, Rat.div_def]
      have hi2 : l⁻¹ * l = 1 := Rat.inv_mul_cancel _ hl
      grind
  have e2 : ∀ i, co (nrem f' g') i = co (nrem f g) i * k := co_of_times fun x => by rw [e1, hp]
  exact ⟨e2, len_of_times (trm_nrem _ _) (trm_nrem _ _) hk e2⟩
theorem Rl.nrem {Sc : Rat → Prop} (hS : Kd Sc) {f g f' g' : List Rat} (h : Rl Sc f' f) (h' : Rl Sc g' g) (hf : Trm f) (hg : Trm g) (h0 : g ≠ []) : Rl Sc (nrem f' g') (nrem f g) := by
  obtain ⟨a1, a2, k, a3, a4⟩ := h
  obtain ⟨b1, b2, l, b3, b4⟩ := h'
  have hk := hS.pos _ a3
  have hl := hS.pos _ b3
  obtain ⟨h1, h2⟩ := nrem_times hf hg a1 b1 h0 (fun e => by rw [e] at hk; exact absurd hk (by decide)) (fun e => by rw [e] at hl; exact absurd hl (by decide)) a4 b4
  exact ⟨trm_nrem _ _, h2, k, a3, h1⟩
/-- Polynomial by polynomial. -/
def Scl (Sc : Rat → Prop) : List (List Rat) → List (List Rat) → Prop
  | [], [] => True
  | f :: c, g :: d => Rl Sc f g ∧ Scl Sc c d
  | _, _ => False
theorem Scl.snoc {Sc : Rat → Prop} {f g : List Rat} (h : Rl Sc f g) : ∀ {c d : List (List Rat)}, Scl Sc c d → Scl Sc (c ++ [f]) (d ++ [g])
  | [], [], _ => ⟨h, trivial⟩
  | _ :: _, _ :: _, hc => ⟨hc.1, Scl.snoc h hc.2⟩
  | [], _ :: _, hc => hc.elim
  | _ :: _, [], hc => hc.elim
theorem Scl.eq : ∀ {c d : List (List Rat)}, Scl (fun k => k = 1) c d → (∀ f ∈ d, Trm f) → c = d
  | [], [], _, _ => rfl
  | f :: c, g :: d, h, hd => by rw [h.1.eq (hd g List.mem_cons_self), Scl.eq h.2 fun f hf => hd f (List.mem_cons_of_mem _ hf)]
  | [], _ :: _, hc, _ => hc.elim
  | _ :: _, [], hc, _ => hc.elim
theorem Scl.len {Sc : Rat → Prop} : ∀ {c d : List (List Rat)}, Scl Sc c d → c.length = d.length
  | [], [], _ => rfl
  | f :: c, g :: d, h => by rw [List.length_cons, List.length_cons, Scl.len h.2]
  | [], _ :: _, hc => hc.elim
  | _ :: _, [], hc => hc.elim
theorem chq_scl {Sc : Rat → Prop} (hS : Kd Sc) (x : Rat) : ∀ {c d : List (List Rat)}, Scl Sc c d → ∀ a b : Rat, (∃ k : Rat, 0 < k ∧ a = k * b) → chq a (c.map (pv · x)) = chq b (d.map (pv · x))
  | [], [], _, _, _, _ => rfl
  | f :: c, g :: d, h, a, b, hab => by
    obtain ⟨k, hk, rfl⟩ := hab
    obtain ⟨⟨_, _, l, hl, e⟩, h2⟩ := h
    have hlp := hS.pos _ hl
    have e1 := pv_times e x
    simp only [List.map_cons, e1]
    by_cases h0 : pv g x = 0
    · rw [h0, Rat.mul_zero, chq_nought, chq_nought]
      exact chq_scl hS x h2 _ _ ⟨k, hk, rfl⟩
    · have h1 : l * pv g x ≠ 0 := fun e => by
        rcases Rat.mul_eq_zero.1 e with e | e
        · rw [e] at hlp; exact absurd hlp (by decide)
        · exact h0 e
      rw [chq_cons h1, chq_cons h0, chq_scl hS x h2 (l * pv g x) (pv g x) ⟨l, hlp, rfl⟩]
      congr 1
      have h3 : k * b * (l * pv g x) = (k * l) * (b * pv g x) := by grind
      have h4 := Rat.mul_pos hk hlp
      rw [h3]
      generalize b * pv g x = z at *
      generalize k * l = y at *
      by_cases hz : z < 0
      · rw [if_pos hz, if_pos (mul_pn h4 hz)]
      · rw [if_neg hz, if_neg]
        intro h5
        have := Rat.mul_nonneg (Rat.le_of_lt h4) (Rat.not_lt.1 hz)
        grind
  | [], _ :: _, hc, _, _, _ => hc.elim
  | _ :: _, [], hc, _, _, _ => hc.elim
theorem vch_scl {Sc : Rat → Prop} (hS : Kd Sc) {c d : List (List Rat)} (h : Scl Sc c d) (x : Rat) : vch c x = vch d x := chq_scl hS x h 0 0 ⟨1, by decide, by grind⟩

/-! ### How long they are -/
theorem rem_cml {q : List Rat} {b : Nat} (hq : Trm q) (h0 : q ≠ []) (hb : Cml q b) : ∀ (n : Nat) (p : List Rat) (a : Nat), Trm p → Cml p a → p.length + 1 ≤ n + q.length → ∃ y r, Trm y ∧ Trm r ∧ r.length < q.length ∧ (∀ x, pv p x = pv y x * pv q x + pv r x) ∧ Cml r (a + n * (b + 1)) := by
  intro n
  induction n with
  | zero =>
    intro p a hp ha hl
    exact ⟨[], p, rfl, hp, by omega, fun x => by show _ = 0 * _ + _; grind, by rw [Nat.zero_mul]; exact ha⟩
  | succ n ih =>
    intro p a hp ha hl
    by_cases hlt : p.length < q.length
    · exact ⟨[], p, rfl, hp, hlt, fun x => by show _ = 0 * _ + _; grind, ha.mono (by omega)⟩
    · have h1 := ha.step hb hq h0
      have h2 := stepp_less hp hq h0 (by omega)
      obtain ⟨y, r, y1, r1, r2, e, r3⟩ := ih (stepp p q) (a + b + 1) (trm_stepp p q) h1 (by omega)
      refine ⟨trimQ (padd y (mon (p.length - q.length) (top p / top q))), r, trm_trim _, r1, r2, fun x => ?_, r3.mono ?_⟩
      · rw [pv_trim, pv_padd, pv_mon]
        have h3 := pv_stepp p q x
        rw [e] at h3
        grind
      · rw [Nat.succ_mul]; omega
theorem Cml.turn {f g : List Rat} {n : Nat} (h : Cml f n) (e : ∀ i, co g i = -co f i) : Cml g n := by
  obtain ⟨h1, D, h2, h3, h4⟩ := h
  refine ⟨h1, D, h2, h3, fun i => ?_⟩
  obtain ⟨z, h5, h6⟩ := h4 i
  exact ⟨-z, by rw [Int.natAbs_neg]; exact h5, by rw [e, Rat.intCast_neg, ← h6]; grind⟩
theorem cml_nrem {p q : List Rat} {a b : Nat} (hp : Trm p) (hq : Trm q) (h0 : q ≠ []) (ha : Cml p a) (hb : Cml q b) : Cml (nrem p q) (a + (p.length + 1 - q.length) * (b + 1)) := by
  obtain ⟨y, r, y1, r1, r2, e, r3⟩ := rem_cml hq h0 hb (p.length + 1 - q.length) p a hp ha (by omega)
  have hn : trimQ (psc (-1) r) = nrem p q := (nrem_of hp hq h0 y1 (trm_trim _) (by have := trim_len (psc (-1) r); unfold psc at this ⊢; rw [List.length_map] at this; omega) fun x => by rw [pv_trim, pv_psc, e]; grind).2
  exact r3.turn fun i => by rw [← hn, co_trim, co_psc]; grind
/-- Two that follow each other: how long they are. -/
def Szq (m : Nat) (p q : List Rat) : Prop := ∃ a b, Cml p a ∧ Cml q b ∧ ((q.length < p.length ∧ a + 1 ≤ psA (10 - p.length) * (m + 1) ∧ b + 1 ≤ psA (11 - p.length) * (m + 1)) ∨ (q.length ≤ p.length ∧ a ≤ m ∧ b ≤ m))
theorem Szq.next {m : Nat} {p q : List Rat} (h : Szq m p q) (hp : Trm p) (hq : Trm q) (h0 : q ≠ []) (hl : p.length ≤ 9) : Cml q (3363 * (m + 1)) ∧ ∃ c, Cml (nrem p q) c ∧ c ≤ 3363 * (m + 1) ∧ ∀ s, Cml s c → s.length < q.length → Szq m q s := by
  have hq1 := List.length_pos_iff.2 h0
  have e10 : psA 10 = 3363 := by decide
  obtain ⟨a, b, h1, h2, h3⟩ := h
  have hle : q.length ≤ p.length := by rcases h3 with h | h <;> omega
  have key : a + (p.length + 1 - q.length) * (b + 1) + 1 ≤ psA (11 - q.length) * (m + 1) ∧ b + 1 ≤ psA (10 - q.length) * (m + 1) := by
    rcases h3 with ⟨h3, h4, h5⟩ | ⟨h3, h4, h5⟩
    · have k1 := psA_step (10 - p.length) (p.length + 1 - q.length) (by omega) (by omega)
      rw [show 10 - p.length + (p.length + 1 - q.length) = 11 - q.length by omega, show 10 - p.length + 1 = 11 - p.length by omega] at k1
      have k2 := Nat.mul_le_mul_right (m + 1) k1
      have k3 := Nat.mul_le_mul_left (p.length + 1 - q.length) h5
      have k4 := psA_mono (i := 11 - p.length) (j := 10 - q.length) (by omega) (by omega)
      have k5 := Nat.mul_le_mul_right (m + 1) k4
      rw [Nat.add_mul, Nat.mul_assoc] at k2
      omega
    · have k1 := psA_self (n := 11 - q.length) (by omega) (by omega)
      have k2 := Nat.mul_le_mul_right (m + 1) (show p.length + 1 - q.length + 1 ≤ psA (11 - q.length) by omega)
      have k3 := Nat.mul_le_mul_left (p.length + 1 - q.length) (show b + 1 ≤ m + 1 by omega)
      have k4 := psA_self (n := 10 - q.length) (by omega) (by omega)
      have k5 := Nat.mul_le_mul_right (m + 1) (show 1 ≤ psA (10 - q.length) by omega)
      rw [Nat.add_mul] at k2
      omega
  have b1 := Nat.mul_le_mul_right (m + 1) (psA_mono (i := 11 - q.length) (j := 10) (by omega) (by omega))
  have b2 := Nat.mul_le_mul_right (m + 1) (psA_mono (i := 10 - q.length) (j := 10) (by omega) (by omega))
  rw [e10] at b1 b2
  exact ⟨h2.mono (by omega), _, cml_nrem hp hq h0 h1 h2, by omega, fun s hs hls => ⟨b, _, h2, hs, .inl ⟨hls, key.2, key.1⟩⟩⟩
theorem Szq.one {m : Nat} {p q : List Rat} (h : Szq m p q) (hl : p.length ≤ 9) : Cml p (3363 * (m + 1)) := by
  have e10 : psA 10 = 3363 := by decide
  obtain ⟨a, b, h1, h2, h3⟩ := h
  rcases h3 with ⟨h3, h4, h5⟩ | ⟨h3, h4, h5⟩
  · have b1 := Nat.mul_le_mul_right (m + 1) (psA_mono (i := 10 - p.length) (j := 10) (by omega) (by omega))
    rw [e10] at b1
    exact h1.mono (by omega)
  · exact h1.mono (by omega)

theorem nrem_neg {f g y r : List Rat} (hf : Trm f) (hg : Trm g) (h0 : g ≠ []) (hy : Trm y) (hr : Trm r) (hl : r.length < g.length) (e : ∀ x, pv f x = pv y x * pv g x + pv r x) : lof r.length (fun t => -co r t) = nrem f g := by
  have hn : trimQ (psc (-1) r) = nrem f g := (nrem_of hf hg h0 hy (trm_trim _) (by have := trim_len (psc (-1) r); unfold psc at this ⊢; rw [List.length_map] at this; omega) fun x => by rw [pv_trim, pv_psc, e]; grind).2
  rw [← hn]
  have hll : (lof r.length (fun t => -co r t)).length = r.length := by simp [lof]
  refine trm_ext (trm_of_last ?_) (trm_trim _) fun i => ?_
  · by_cases h : r = []
    · exact .inl (List.length_eq_zero_iff.1 (by rw [hll, h]; rfl))
    · refine .inr ?_
      have h1 := List.length_pos_iff.2 h
      rw [hll, co_lof, if_pos (by omega)]
      have h2 := trm_last hr h
      grind
  · rw [co_lof, co_trim, co_psc]
    by_cases h : i < r.length
    · rw [if_pos h]; grind
    · rw [if_neg h, co_ge (by omega)]; grind

/-! ### What a round keeps -/
/-- T: the chain; fs: what there is of it, times numbers; lk, nx: the next two, times numbers. -/
def Chs (Sc : Rat → Prop) (m : Nat) (T fs : List (List Rat)) (lk nx : List Rat) : Prop := ∃ (ds : List (List Rat)) (n : Nat) (g h : List Rat), T = ds ++ chz n g h ∧ Scl Sc fs ds ∧ Trm g ∧ Rl Sc lk g ∧
  (lk ≠ [] → lk.length ≤ n ∧ Trm h ∧ Rl Sc nx h ∧ Szq m lk nx ∧ nx.length < lk.length ∧ lk.length + fs.length ≤ 9) ∧ (∀ f ∈ fs, Cml f (3363 * (m + 1)) ∧ f.length ≤ 9) ∧ fs.length ≤ 9
theorem Chs.end {Sc : Rat → Prop} {m : Nat} {T fs : List (List Rat)} {nx : List Rat} (h : Chs Sc m T fs [] nx) : Scl Sc fs T ∧ (∀ f ∈ fs, Cml f (3363 * (m + 1)) ∧ f.length ≤ 9) ∧ fs.length ≤ 9 := by
  obtain ⟨ds, n, g, h, e, h1, h2, h3, _, h5, h6⟩ := h
  rw [h3.nil.1 rfl, chz_nil, List.append_nil] at e
  rw [e]
  exact ⟨h1, h5, h6⟩
theorem Chs.start {Sc : Rat → Prop} {m : Nat} {p lk nx : List Rat} (hp : Trm p) (h0 : p ≠ []) (h1 : Rl Sc lk p) (h2 : Rl Sc nx (slope p)) (hc1 : Cml lk m) (hc2 : Cml nx m) (hl : p.length ≤ 9) : Chs Sc m (chainp p) [] lk nx := by
  have h3 := slp_len p
  have h4 := List.length_pos_iff.2 h0
  have e1 := h1.2.1
  have e2 := h2.2.1
  exact ⟨[], p.length + 1, p, slope p, chainp_chz hp h0, trivial, hp, h1, fun _ => ⟨by omega, trm_slope p, h2, ⟨m, m, hc1, hc2, .inr ⟨by omega, Nat.le_refl _, Nat.le_refl _⟩⟩, by omega, by simp; omega⟩, fun f hf => by simp at hf, by simp⟩
/-- Before the last one. -/
theorem Chs.next {Sc : Rat → Prop} (hS : Kd Sc) {m : Nat} {T fs : List (List Rat)} {lk nx : List Rat} (H : Chs Sc m T fs lk nx) (hlk : lk ≠ []) (hnx : nx ≠ []) :
    Trm lk ∧ Trm nx ∧ lk.length ≤ 9 ∧ nx.length < lk.length ∧ Cml lk (3363 * (m + 1)) ∧ Cml nx (3363 * (m + 1)) ∧ ∃ c, Cml (nrem lk nx) c ∧ c ≤ 3363 * (m + 1) ∧ ∀ s, Rl Sc s (nrem lk nx) → Cml s c → Chs Sc m T (fs ++ [lk]) nx s := by
  obtain ⟨ds, n, g, h, e, h1, h2, h3, h4, h5, h6⟩ := H
  obtain ⟨a1, a2, a3, a4, a5, a6⟩ := h4 hlk
  have hg0 : g ≠ [] := fun e => hlk (h3.nil.2 e)
  have hh0 : h ≠ [] := fun e => hnx (a3.nil.2 e)
  have hl1 := List.length_pos_iff.2 hlk
  obtain ⟨c0, c, c1, c2, c3⟩ := a4.next h3.1 a3.1 hnx (by omega)
  obtain ⟨n, rfl⟩ : ∃ k, n = k + 1 := ⟨n - 1, by omega⟩
  rw [chz_cons hg0] at e
  have hr := Rl.nrem hS h3 a3 h2 a2 hh0
  have hrl := nrem_len h3.1 a3.1 hnx
  have c4 := a4.one (by omega)
  refine ⟨h3.1, a3.1, by omega, a5, c4, c0, c, c1, c2, fun s hs hsc => ⟨ds ++ [g], n, h, nrem g h, by rw [e, List.append_assoc]; rfl, h1.snoc h3, a2, a3, fun _ => ⟨by omega, trm_nrem _ _, hs.trans hS hr, c3 s hsc (by rw [hs.2.1]; exact hrl), by rw [hs.2.1]; exact hrl, by rw [List.length_append]; simp; omega⟩, fun f hf => ?_, by rw [List.length_append]; simp; omega⟩⟩
  rcases List.mem_append.1 hf with hf | hf
  · exact h5 f hf
  · simp at hf; subst hf; exact ⟨c4, by omega⟩
/-- The last one. -/
theorem Chs.last {Sc : Rat → Prop} {m : Nat} {T fs : List (List Rat)} {lk : List Rat} (H : Chs Sc m T fs lk []) (hlk : lk ≠ []) : Chs Sc m T (fs ++ [lk]) [] [] := by
  obtain ⟨ds, n, g, h, e, h1, h2, h3, h4, h5, h6⟩ := H
  obtain ⟨a1, a2, a3, a4, a5, a6⟩ := h4 hlk
  have hg0 : g ≠ [] := fun e => hlk (h3.nil.2 e)
  have hl1 := List.length_pos_iff.2 hlk
  have hh0 : h = [] := a3.nil.1 rfl
  subst hh0
  obtain ⟨n, rfl⟩ : ∃ k, n = k + 1 := ⟨n - 1, by omega⟩
  rw [chz_cons hg0, chz_nil] at e
  refine ⟨ds ++ [g], 0, [], [], by rw [e]; simp [chz], h1.snoc h3, rfl, ⟨rfl, rfl, a3.2.2⟩, fun h => absurd rfl h, fun f hf => ?_, by rw [List.length_append]; simp; omega⟩
  rcases List.mem_append.1 hf with hf | hf
  · exact h5 f hf
  · simp at hf; subst hf; exact ⟨a4.one (by omega), by omega⟩
end Go.Proofs.YtokojbgpboccnaaGreat

/-
  PACKAGE rat: Whole.
-/
namespace Go.Proofs.YtokojbgpboccnaaGreat
open Go.RowKit
open Num
set_option linter.unusedVariables false
set_option maxRecDepth 100000
set_option linter.unusedSimpArgs false

set_option maxHeartbeats 400000 in
theorem wholeq {w : World} {v : Value} {z : Int} {k : Nat} (h : Whl w v z k) :
    Calls Tryz.prog 33 #[v] w fun e w' => ∃ v, e = .returned v ∧ Rtl w' v (z : Rat) k ∧ Below w.heap.size w w' := by
  obtain ⟨s1, p1, n1, c1, rfl⟩ := h.opened
  have B := hid (Below.refl w.heap.size w)
  have HZ := hid h
  obtain ⟨hb1, hx2, hs3⟩ := Box.made w s1 p1 n1 c1
  replace HZ := wl HZ hb1
  replace B := bb B hb1
  have X1 := hid hx2
  clear hb1 hx2
  obtain ⟨hb4, hx5, hs6⟩ := Nbx.made (w.alloc (.cells #[.bool s1, .slice p1 n1 c1] 41)) s1 false (.slice p1 n1 c1) (.slice none 0 0)
  rw [hs3] at hx5 hs6
  replace X1 := bx X1 hb4
  replace HZ := wl HZ hb4
  replace B := bb B hb4
  have XQ := hid hx5
  clear hb4 hx5
  clear hs6 h
  go_enter Tryz.func33, Tryz.ntmps33
  have cc7 := X1.out.both
  have cc8 := XQ.out.cells
  go_wp2_with fail
  refine bodyPost_ret (res_num rfl rfl XQ.out) rfl ?_
  exact ⟨_, rfl, Rtl.mk2 (by rw [Rat.num_intCast]; exact HZ.out) (cells_whl_zero _ k) (.inr ⟨rfl, Rat.den_intCast z⟩), B.out⟩

end Go.Proofs.YtokojbgpboccnaaGreat

/-
  PACKAGE poly: Deriv.
-/
namespace Go.Proofs.YtokojbgpboccnaaGreat
open Go.RowKit
open Num
set_option linter.unusedVariables false
set_option maxRecDepth 100000
set_option linter.unusedSimpArgs false

/-- The derivative, so far. -/
def dco (l : List Rat) (k j : Nat) : Rat := if j + 1 < k then co l (j + 1) * ((j : Rat) + 1) else 0
theorem dco_all (l : List Rat) : trimQ (lof l.length (dco l l.length)) = slope l := by
  refine trim_ext fun i => ?_
  rw [co_lof, co_lof, dco]
  by_cases h : i < l.length - 1
  · rw [if_pos h, if_pos (by omega), if_pos (by omega)]
  · rw [if_neg h]
    by_cases h2 : i < l.length
    · rw [if_pos h2, if_neg (by omega)]
    · rw [if_neg h2]

set_option maxHeartbeats 4000000 in
theorem pderiv_p {w : World} {v : Value} {l : List Rat} {m : Nat} (h : PN w v l) (hs : Sml l m) (hm : m ≤ 68719476736) (hl : l.length ≤ 1000000) :
    Calls Tryz.prog 50 #[v] w fun e w' => ∃ v', e = .returned v' ∧ PN w' v' (slope l) ∧ Below w.heap.size w w' := by
  obtain ⟨a, c, rfl, hn1, hc1⟩ := h.opened
  have HP := hid h
  have SL := hid hs
  have HM := hid hm
  have HK := hid (dco_all l)
  obtain ⟨nl, hNL⟩ : ∃ nl, l.length = nl := ⟨_, rfl⟩
  have NL := hid hNL
  rw [hNL] at hn1 hl HP HK ⊢
  clear h hs hm hNL
  unfold maxLen at hc1
  go_enter Tryz.func50, Tryz.ntmps50
  go_wp2_with (refine wpList_make_ns _ rfl _ _ _ rfl Tryz.underlying35 nl rfl rfl (by omega) ?_)
  intro w0 hrow hb0 hs0
  have B := hid hb0
  have ROW := hid hrow
  have HW : Hid (∀ t, t < nl → NF w0 (nag Nz) (dco l 0 t)) := hid (fun t ht => (NF.zero w0).cast (by rw [dco, if_neg (by omega)]))
  clear hrow hb0 hs0
  go_wp2_with fail
  obtain ⟨b0, hb0⟩ : ∃ b0, b0 = w.heap.size := ⟨_, rfl⟩
  have HB := hid (show w.heap.size ≤ b0 by omega)
  rw [← hb0] at ROW ⊢
  clear hb0
  have W0 : ∃ rs : Nat → Nr, Hid (NRw w0 b0 nl rs) ∧ Hid (∀ t, t < nl → NF w0 (nag (rs t)) (dco l 0 t)) := ⟨_, ROW, HW⟩
  clear ROW HW
  obtain ⟨rs0, ROW, HW⟩ := W0
  go_loopw [11] (fun x wr => ∃ (i : Nat) (rs : Nat → Nr), i ≤ nl ∧ x = .int .i64 i ∧ Hid (NRw wr b0 nl rs) ∧ Hid (∀ t, t < nl → NF wr (nag (rs t)) (dco l i t)) ∧ Hid (Below w.heap.size w wr)) (fun x _ => nl - (intOf x).toNat)
  case atStart => exact ⟨0, rs0, by omega, rfl, ROW, HW, B⟩
  case round =>
    clear ROW HW B
    obtain ⟨i, rs, hi, rfl, ROW, HW, B⟩ := hrel
    by_cases hlt : i < nl
    · obtain ⟨b5, s5a, p5a, n5a, c5a, s5b, p5b, n5b, c5b, rfl, hb5, cd5, hq5⟩ := pn_at HP.out B.out (i := i) (by rw [NL.out]; exact hlt)
      have HQ := hid hq5
      clear hq5
      rcases i with _ | j
      · have LB := hid ROW.out.lt
        obtain ⟨hb101, hx102, hs103⟩ := Nbx.made wr s5a s5b (.slice p5a n5a c5a) (.slice p5b n5b c5b)
        replace HQ := nf HQ hb101
        replace ROW := rwo ROW hb101
        replace HW := hid (fun q_ hq_ => (HW.out q_ hq_).on hb101)
        replace B := bb B hb101
        have X5 := hid hx102
        clear hb101 hx102
        have cc104 := X5.out.cells
        go_wp2_with fail
        generalize hW : wr.alloc (.cells #[.bool s5a, .slice p5a n5a c5a, .bool s5b, .slice p5b n5b c5b] 43) = W105 at *
        clear hW
        clear cd5 cc104
        go_roundw
        case rel => exact ⟨1, rs, by omega, by go_num, ROW, hid (fun t ht => (HW.out t ht).cast (by rw [dco, dco, if_neg (by omega), if_neg (by omega)])), B⟩
        case measure => simp [intOf]; omega
      · have hjn : j < nl := by omega
        have hx1 : (0 : Int) ≤ (j : Int) := by omega
        have hx2 : (j : Int) < (nl : Int) := by omega
        have hx3 : IntKind.i64.wrap (j : Int) = (j : Int) := IntWalk.i64_in _ (by omega)
        have hx4 : IntKind.i64.wrap ((j : Int) + 1 - 1) = (j : Int) := by rw [Int.add_sub_cancel]; exact hx3
        have LB := hid ROW.out.lt
        obtain ⟨hb101, hx102, hs103⟩ := Nbx.made wr s5a s5b (.slice p5a n5a c5a) (.slice p5b n5b c5b)
        replace HQ := nf HQ hb101
        replace ROW := rwo ROW hb101
        replace HW := hid (fun q_ hq_ => (HW.out q_ hq_).on hb101)
        replace B := bb B hb101
        have X5 := hid hx102
        clear hb101 hx102
        have cc104 := X5.out.cells
        go_wp2_with fail
        generalize hW : wr.alloc (.cells #[.bool s5a, .slice p5a n5a c5a, .bool s5b, .slice p5b n5b c5b] 43) = W105 at *
        clear hW
        clear cd5 cc104
        have cc401 := X5.out.cells
        replace X5 := hid X5.out.dr
        replace HQ := hid HQ.out.drew
        replace HW := hid (fun q_ hq_ => (HW.out q_ hq_).drew)
        replace ROW := hid ROW.out.dr
        replace B := hid (Below.drew B.out)
        have cc402 := X5.out.cells
        go_region_held3 (fun w' => w'.cell? ⟨wr.heap.size, 0, none⟩ = some (.bool s5a) ∧ w'.cell? ⟨wr.heap.size, 1, none⟩ = some (.slice p5a n5a c5a) ∧ w'.cell? ⟨wr.heap.size, 2, none⟩ = some (.bool s5b) ∧ w'.cell? ⟨wr.heap.size, 3, none⟩ = some (.slice p5b n5b c5b)) (go_keep) (first
          | (have hm := mk403_1; clear hm; go_at_call 21; refine (nmul_f HQ.out HN.out (SL.out.2 (j + 1)) (Sm.int (m := 2) (by have : Num4.B ^ 2 = 100000000 := rfl; omega) (by decide)) HM.out (by decide)).mono ?_; rintro e w408 ⟨v, rfl, hv, hb⟩; obtain ⟨s8a, p8a, n8a, c8a, s8b, p8b, n8b, c8b, rfl⟩ := hv.opened; replace X5 := nx X5 hb; replace HQ := nf HQ hb; replace HN := nf HN hb; replace ROW := rwo ROW hb; replace HW := hid (fun q_ hq_ => (HW.out q_ hq_).on hb); replace B := bb B hb; clear cc407; have HX := hid hv; clear hb hv; have cc409 := X5.out.cells; have cc410 := ROW.out.stores hjn; replace X5 := hid (X5.out.kept (ROW.out.far j (by have := HB.out; have := LB.out; omega) s8a p8a n8a c8a s8b p8b n8b c8b)); replace HQ := hid (HQ.out.put ROW.out j s8a p8a n8a c8a s8b p8b n8b c8b); replace HN := hid (HN.out.put ROW.out j s8a p8a n8a c8a s8b p8b n8b c8b); replace HX := hid (HX.out.put ROW.out j s8a p8a n8a c8a s8b p8b n8b c8b); replace HW := hid (fun q_ hq_ => (HW.out q_ hq_).put ROW.out j s8a p8a n8a c8a s8b p8b n8b c8b); replace B := hid (ROW.out.below B.out j (by have := HB.out; have := LB.out; omega) s8a p8a n8a c8a s8b p8b n8b c8b); replace ROW := hid (ROW.out.put hjn s8a p8a n8a c8a s8b p8b n8b c8b); have cc411 := X5.out.cells; have mk403_2 := hid True.intro)
          | (have hm := mk403_0; clear hm; go_at_call 33; refine (wholeq HO.out).mono ?_; rintro e w406 ⟨v, rfl, hv, hb⟩; obtain ⟨s7a, p7a, n7a, c7a, s7b, p7b, n7b, c7b, rfl⟩ := hv.opened; replace X5 := nx X5 hb; replace HQ := nf HQ hb; replace ROW := rwo ROW hb; replace HW := hid (fun q_ hq_ => (HW.out q_ hq_).on hb); replace B := bb B hb; clear cc405; have HN := hid hv.nf; clear hb hv; have cc407 := X5.out.cells; have mk403_1 := hid True.intro)
          | (go_at_call 34; refine (of_small ((j : Int) + 1) (by omega) _).mono ?_; rintro e w404 ⟨v, rfl, hv, hb⟩; obtain ⟨s6, p6, n6, c6, rfl⟩ := hv.opened; replace X5 := nx X5 hb; replace HQ := nf HQ hb; replace ROW := rwo ROW hb; replace HW := hid (fun q_ hq_ => (HW.out q_ hq_).on hb); replace B := bb B hb; clear cc401 cc402; have HO := hid hv; clear hb hv; have cc405 := X5.out.cells; have mk403_0 := hid True.intro))
        go_wp2_with fail
        go_roundw
        case rel => exact ⟨j + 1 + 1, _, by omega, by go_num, ROW, hid (fun i hi => by
            by_cases hij : i = j
            · subst hij; rw [upd_self, dco, if_pos (by omega)]; exact HX.out.cast (by push_cast; rfl)
            · rw [upd_ne _ _ hij]; exact (HW.out i hi).cast (by rw [dco, dco]; by_cases h : i + 1 < j + 1; rw [if_pos h, if_pos (by omega)]; rw [if_neg h, if_neg (by omega)])), B⟩
        case measure => simp [intOf]; omega
    · obtain rfl : i = nl := by omega
      have HP2 : Hid (PN wr (.slice (some ⟨b0, 0, none⟩) i i) (lof i (dco l i))) := hid (ROW.out.pn (by simp [lof]) (Nat.le_refl _) (by unfold maxLen; omega) (fun t ht => (HW.out t ht).cast (by rw [co_lof, if_pos ht])))
      go_wp2_with fail
      refine (trim_p HP2.out).mono ?_
      rintro e w2 ⟨v2, rfl, hp, hb⟩
      have HR := hid hp
      have B2 := hid (B.out.trans (hb.mono B.out.size))
      clear hp hb
      go_wp2_with fail
      go_ret
      exact ⟨_, rfl, by rw [← HK.out]; exact HR.out, B2.out⟩

end Go.Proofs.YtokojbgpboccnaaGreat

/-
  LISTS OF POLYNOMIALS in memory of the call's own.
-/
namespace Go.Proofs.YtokojbgpboccnaaGreat
open Go.RowKit
open Num
set_option linter.unusedVariables false
set_option maxRecDepth 100000
set_option linter.unusedSimpArgs false

theorem infoP : (Tryz.prog.info? 35).map (fun i => (i.zero, i.size, i.bytes)) = some (some (.slice none 0 0), 1, 24) := by kernel_rfl
/-- The i-th of some values. -/
def vat (vs : List Value) (i : Nat) : Value := vs[i]?.getD (.slice none 0 0)
/-- A list of polynomials of the call's own. -/
def OwnF (w : World) (K : Nat) (v : Value) (fs : List (List Rat)) : Prop := ∃ vs : List Value, w.ownsRow K 35 1 v vs.length vs ∧ vs.length = fs.length ∧ (∀ u ∈ vs, ∃ p n c, u = .slice p n c) ∧ (∀ g, v.ownBlock = some g → NoInt w g ∧ ∀ s, w.cell? ⟨g, 0, none⟩ ≠ some (.bool s)) ∧ ∀ i, i < fs.length → PN w (vat vs i) (fs[i]?.getD [])
theorem OwnF.nil (w : World) (K : Nat) : OwnF w K (.slice none 0 0) [] := ⟨[], World.ownsRow_nil w _ _ _, rfl, fun u hu => by simp at hu, fun g hg => by simp [Value.ownBlock] at hg, fun i hi => by simp at hi⟩
theorem OwnF.lt {w : World} {K g : Nat} {v : Value} {fs : List (List Rat)} (h : OwnF w K v fs) (hg : v.ownBlock = some g) : K ≤ g ∧ g < w.heap.size := by
  obtain ⟨vs, h1, _⟩ := h
  exact World.ownsRow.lt h1 g hg
theorem OwnF.on {w w' : World} {K : Nat} {v : Value} {fs : List (List Rat)} (h : OwnF w K v fs) (hb : Below w.heap.size w w') : OwnF w' K v fs := by
  have hlt := fun g hg => (h.lt (g := g) hg).2
  obtain ⟨vs, ⟨h0, h1⟩, h2, h3, h4, h5⟩ := h
  refine ⟨vs, ⟨h0, ?_⟩, h2, h3, fun g hg => ⟨(h4 g hg).1.below hb (hlt g hg), fun s => by rw [hb.cell (p := ⟨g, 0, none⟩) (hlt g hg)]; exact (h4 g hg).2 s⟩, fun i hi => (h5 i hi).on hb⟩
  rcases h1 with h1 | ⟨g, cap, cur, rfl, hK, h1, h6⟩
  · exact .inl h1
  · exact .inr ⟨g, cap, cur, rfl, hK, (hb.block g (Array.getElem?_eq_some_iff.1 h1).1).trans h1, h6⟩
theorem PN.gb {w w' : World} {v : Value} {l : List Rat} {g : Nat} (h : PN w v l) (hg : w.grownBy w' (some g)) (hn : NoInt w g) (hb : ∀ s, w.cell? ⟨g, 0, none⟩ ≠ some (.bool s)) : PN w' v l := by
  obtain ⟨a, c, rs, h1, h2, h3, h4⟩ := h
  refine ⟨a, c, rs, h1, h2, h3, fun i hi => ?_⟩
  obtain ⟨b, e, hl, hA, hq⟩ := h4 i hi
  obtain ⟨b', e', _, hA', _⟩ := h4 0 (by omega)
  have hbb : b' = b := by rw [e] at e'; cases e'; rfl
  subst hbb
  have hne : b' ≠ g := by
    rintro rfl
    exact hb _ hA'.1
  exact ⟨b', e, Nat.lt_of_lt_of_le hl hg.size, hA.kept (hg.block b' hl (fun e => hne (Option.some.inj e))), hq.grown hn hg⟩
/-- 'append(factors, one)'. -/
theorem wpList_append_f {w : World} {ops : Array Oper} {rest : List Oper} {o : Oper} {a : Act} {Q : Exit → Act → World → Prop} (hgd : o.guard = none) (s x : Operand)
    (ho : o.op = .call { callee := .builtin .append, args := #[s, x], argTypes := #[48, 48] })
    (K : Nat) (v : Value) (fs : List (List Rat)) (hs : a.eval s = v) (hown : OwnF w K v fs) (hK : K ≤ w.heap.size) (hl : fs.length ≤ 1000)
    (ad : Nat) (c : Nat) (hx : a.eval x = .slice (some ⟨ad, 0, none⟩) 1 c) {p : Option Addr} {n c' : Nat} {l : List Rat} (q0 : w.cell? ⟨ad, 0, none⟩ = some (.slice p n c')) (hp : PN w (.slice p n c') l)
    {w0 : World} {K0 : Nat} (hK0 : K0 ≤ K) (hB : Below K0 w0 w)
    (h : ∀ v' w', OwnF w' K v' (fs ++ [l]) → (∀ u r, PN w u r → PN w' u r) → Below K0 w0 w' → wpList Tryz.prog ops Q rest (a.put o.dst v') w') : wpList Tryz.prog ops Q (o :: rest) a w := by
  obtain ⟨i, hi, hz0, hz1, hz2⟩ := info_parts infoP
  have hlt := fun g hg => hown.lt (g := g) hg
  obtain ⟨vs, h1, h2, h3, h4, h5⟩ := hown
  refine wpList_append_ni hgd s x 48 ho K 35 i (.slice none 0 0) 1 24 Tryz.underlying48 hi hz0 hz1 hz2 rfl (by decide) v vs.length vs hs h1 (fun g hg => (h4 g hg).1) ?_ ⟨ad, 0, none⟩ 1 c [.slice p n c'] hx rfl ?_ ?_ ?_ ?_ ?_ hK ?_
  · intro u hu
    simp [Value.cells] at hu
    subst hu
    exact NI.slc _ _ _
  · intro j u hj
    match j, hj with
    | 0, hj => simp at hj; subst hj; simpa [Addr.add] using q0
  · intro u hu; simp at hu; subst hu; rfl
  · intro u hu; simp at hu; subst hu; exact NI.slc _ _ _
  · unfold maxLen; omega
  · omega
  · intro v' w' g1 g2 g3
    have hB2 : Below K0 w0 w' := hB.grown g2 (by omega) fun g hg => Nat.le_trans hK0 (hlt g hg).1
    have hP : ∀ u r, PN w u r → PN w' u r := by
      intro u r hu
      cases ho : v.ownBlock with
      | none =>
        rw [ho] at g2
        exact hu.on ((Below.refl w.heap.size w).grown g2 (Nat.le_refl _) fun g hg => by cases hg)
      | some g =>
        rw [ho] at g2
        exact hu.gb g2 (h4 g ho).1 (h4 g ho).2
    refine h v' w' ⟨vs ++ [.slice p n c'], by rw [List.length_append]; exact g1, by rw [List.length_append, List.length_append, h2]; rfl, fun u hu => ?_, fun g hg => ⟨g3 g hg, fun s => ?_⟩, fun i hi => ?_⟩ hP hB2
    · rcases List.mem_append.1 hu with hu | hu
      · exact h3 u hu
      · simp at hu; exact ⟨_, _, _, hu⟩
    · rcases g1.2 with ⟨_, h0⟩ | ⟨g', cap, cur, rfl, hK', e1, e2, e3, e4, e5⟩
      · omega
      · simp [Value.ownBlock] at hg
        subst hg
        have hc : ∃ u, cur[0]? = some u ∧ ∃ p n c, u = .slice p n c := by
          have h6 : (vs ++ [.slice p n c'])[0]? ≠ none := by simp
          obtain ⟨u, hu⟩ := Option.ne_none_iff_exists'.1 h6
          have hu2 := hu
          rw [← e5, List.getElem?_take, if_pos (by omega), Array.getElem?_toList] at hu2
          refine ⟨u, hu2, ?_⟩
          have hm := List.mem_of_getElem? hu
          rcases List.mem_append.1 hm with hm | hm
          · exact h3 u hm
          · simp at hm; exact ⟨_, _, _, hm⟩
        obtain ⟨u, hu, p2, n2, c2, rfl⟩ := hc
        simp [World.cell?, e1, hu]
    · rw [List.length_append, List.length_singleton] at hi
      by_cases hlt2 : i < fs.length
      · have e1 : vat (vs ++ [.slice p n c']) i = vat vs i := by unfold vat; rw [List.getElem?_append_left (by omega)]
        rw [e1, List.getElem?_append_left hlt2]
        exact hP _ _ (h5 i hlt2)
      · obtain rfl : i = fs.length := by omega
        have e1 : vat (vs ++ [.slice p n c']) fs.length = .slice p n c' := by unfold vat; rw [← h2, List.getElem?_concat_length]; rfl
        rw [e1, List.getElem?_concat_length]
        exact hP _ _ hp

end Go.Proofs.YtokojbgpboccnaaGreat

/-
  POLYNOMIALS WITH WHOLE COEFFICIENTS, IN MEMORY: rows of Integers.
-/
namespace Go.Proofs.YtokojbgpboccnaaGreat
open Go.RowKit
open Num
set_option linter.unusedVariables false
set_option maxRecDepth 100000
set_option linter.unusedSimpArgs false

theorem infoI : (Tryz.prog.info? 41).map (fun i => (i.zero, i.size, i.bytes)) = some (some (.agg #[.bool false, .slice none 0 0]), 2, 32) := by kernel_rfl
/-- A value reads as an integer, its size apart. -/
def ZF (w : World) (v : Value) (z : Int) : Prop := ∃ k, Whl w v z k
theorem Whl.zf {w : World} {v : Value} {z : Int} {k : Nat} (h : Whl w v z k) : ZF w v z := ⟨k, h⟩
/-- So many limbs of the reference's are enough. -/
def Zm (z : Int) (m : Nat) : Prop := z.natAbs < Num4.B ^ m
theorem Zm.mono {z : Int} {m n : Nat} (h : Zm z m) (hn : m ≤ n) : Zm z n := Nat.lt_of_lt_of_le h (Nat.pow_le_pow_right (by decide) hn)
theorem Zm.mul {z y : Int} {m n : Nat} (h : Zm z m) (h' : Zm y n) : Zm (z * y) (m + n) := by
  unfold Zm
  rw [Int.natAbs_mul, Nat.pow_add]
  exact Nat.mul_lt_mul'' h h'
theorem Zm.one : Zm 1 1 := by unfold Zm; decide
theorem Zm.pow {z : Int} {m : Nat} (h : Zm z m) : ∀ n : Nat, Zm (z ^ n) (n * m + 1)
  | 0 => by rw [Int.pow_zero, Nat.zero_mul]; exact Zm.one
  | n + 1 => by rw [Int.pow_succ, show (n + 1) * m + 1 = (n * m + 1) + m by rw [Nat.succ_mul]; omega]; exact (Zm.pow h n).mul h
theorem Zm.sub {z y : Int} {m : Nat} (h : Zm z m) (h' : Zm y m) : Zm (z - y) (m + 1) := by
  unfold Zm at *
  have e : Num4.B ^ (m + 1) = Num4.B ^ m * 10000 := rfl
  rw [e]; omega
theorem Zm.le {z y : Int} {m : Nat} (h : Zm z m) (hy : y.natAbs ≤ z.natAbs) : Zm y m := Nat.lt_of_le_of_lt hy h
theorem ZF.whl {w : World} {v : Value} {z : Int} {m : Nat} (h : ZF w v z) (hs : Zm z m) : Whl w v z m := by
  obtain ⟨k, h⟩ := h
  exact h.fit m (Nat.lt_of_lt_of_le hs (pow_up m))
theorem ZF.on {w w' : World} {v : Value} {z : Int} (h : ZF w v z) (hb : Below w.heap.size w w') : ZF w' v z := by
  obtain ⟨k, h⟩ := h
  exact ⟨k, h.on hb⟩
theorem zf {w w' : World} {v : Value} {z : Int} (h : Hid (ZF w v z)) (hb : Below w.heap.size w w') : Hid (ZF w' v z) := hid (h.out.on hb)
theorem ZF.opened {w : World} {v : Value} {z : Int} (h : ZF w v z) : ∃ s p n c, v = .agg #[.bool s, .slice p n c] := by
  obtain ⟨k, h⟩ := h
  exact h.opened
theorem ZF.moved {w w' : World} {v : Value} {z : Int} (h : ZF w v z) (hm : ∀ v z k, Whl w v z k → Whl w' v z k) : ZF w' v z := by
  obtain ⟨k, h⟩ := h
  exact ⟨k, hm _ _ _ h⟩
theorem ZF.drew {w : World} {v : Value} {z : Int} (h : ZF w v z) : ZF w.drew v z := h.on (Below.drew (Below.refl _ _))
theorem ZF.cast {w : World} {v : Value} {z y : Int} (h : ZF w v z) (e : z = y) : ZF w v y := by rw [← e]; exact h
theorem ZF.zero (w : World) : ZF w (.agg #[.bool false, .slice none 0 0]) 0 := ⟨1, cells_whl_zero w 1⟩
theorem zmul_f {w : World} {v u : Value} {z y : Int} {m n : Nat} (h : ZF w v z) (h' : ZF w u y) (hz : Zm z m) (hy : Zm y n) (hm : m ≤ 68719476736) (hn : n ≤ 68719476736) :
    Calls Tryz.prog 39 #[v, u] w fun e w' => ∃ v, e = .returned v ∧ ZF w' v (z * y) ∧ Below w.heap.size w w' := by
  refine (mul_whl (h.whl hz) (h'.whl hy) (by omega) (by omega)).mono ?_
  rintro e w' ⟨v, rfl, hv, hb⟩
  exact ⟨v, rfl, hv.zf, hb⟩
theorem zsub_f {w : World} {v u : Value} {z y : Int} {m n : Nat} (h : ZF w v z) (h' : ZF w u y) (hz : Zm z m) (hy : Zm y n) (hm : m ≤ 68719476736) (hn : n ≤ 68719476736) :
    Calls Tryz.prog 48 #[v, u] w fun e w' => ∃ v, e = .returned v ∧ ZF w' v (z - y) ∧ Below w.heap.size w w' := by
  refine (sub_whl (h.whl hz) (h'.whl hy) (by omega) (by omega)).mono ?_
  rintro e w' ⟨v, rfl, hv, hb⟩
  exact ⟨v, rfl, hv.zf, hb⟩
theorem zdiv_f {w : World} {v u : Value} {z y : Int} {m n : Nat} (h : ZF w v z) (h' : ZF w u y) (h0 : y ≠ 0) (hz : Zm z m) (hy : Zm y n) (hm : m ≤ 68719476736) (hn : n ≤ 68719476736) :
    Calls Tryz.prog 62 #[v, u] w fun e w' => ∃ v u, e = .returned (.tuple #[v, u, .nilIface]) ∧ ZF w' v (z / y) ∧ ZF w' u (z % y) ∧ Below w.heap.size w w' := by
  refine (div_whl (h.whl hz) (h'.whl hy) h0 (by omega) (by omega)).mono ?_
  rintro e w' ⟨v, u, rfl, hv, hu, hb⟩
  exact ⟨v, u, rfl, hv.zf, hu.zf, hb⟩
theorem zgcd_f {w : World} {v u : Value} {z y : Int} {m : Nat} (h : ZF w v z) (h' : ZF w u y) (hz : Zm z m) (hy : Zm y m) (hm : m ≤ 68719476736) :
    Calls Tryz.prog 47 #[v, u] w fun e w' => ∃ v, e = .returned v ∧ ZF w' v (Int.gcd z y) ∧ Below w.heap.size w w' := by
  refine (zgcd_whl (h.whl hz) (h'.whl hy) (by omega)).mono ?_
  rintro e w' ⟨v, rfl, hv, hb⟩
  exact ⟨v, rfl, hv.zf, hb⟩
theorem zsgn_f {w : World} {v : Value} {z y : Int} (h : ZF w v z) (hy : z.sign = y) :
    Calls Tryz.prog 49 #[v] w fun e w' => e = .returned (.int .i64 y) ∧ Below w.heap.size w w' := by
  rw [← hy]
  obtain ⟨k, h⟩ := h
  exact sgn_whl h
/-! Rows. -/
def iag (r : Zr) : Value := .agg #[.bool r.1, .slice r.2.1 r.2.2.1 r.2.2.2]
def Iz : Zr := (false, none, 0, 0)
def C2 (cur : Array Value) (j : Nat) (r : Zr) : Prop := cur[j]? = some (.bool r.1) ∧ cur[j + 1]? = some (.slice r.2.1 r.2.2.1 r.2.2.2)
def At2 (w : World) (b j : Nat) (r : Zr) : Prop := w.cell? ⟨b, j, none⟩ = some (.bool r.1) ∧ w.cell? ⟨b, j + 1, none⟩ = some (.slice r.2.1 r.2.2.1 r.2.2.2)
theorem At2.of {w : World} {b j : Nat} {cur : Array Value} {T : TypeId} {f : Nat × Nat} {r : Zr} (h : w.heap[b]? = some (.cells cur T f)) (hc : C2 cur j r) : At2 w b j r := by
  obtain ⟨h0, h1⟩ := hc
  refine ⟨?_, ?_⟩ <;> simp [World.cell?, h, h0, h1]
theorem At2.kept {w w' : World} {b j : Nat} {r : Zr} (h : At2 w b j r) (e : w'.heap[b]? = w.heap[b]?) : At2 w' b j r := by
  obtain ⟨h0, h1⟩ := h
  exact ⟨(World.cell?_of_block e).trans h0, (World.cell?_of_block e).trans h1⟩
theorem C2.other {cur : Array Value} {j k : Nat} {r : Zr} (h : C2 cur j r) (hk : k < j ∨ j + 1 < k) (x : Value) : C2 (cur.setIfInBounds k x) j r := by
  obtain ⟨h0, h1⟩ := h
  refine ⟨?_, ?_⟩
  · rw [Array.getElem?_setIfInBounds_ne (by omega)]; exact h0
  · rw [Array.getElem?_setIfInBounds_ne (by omega)]; exact h1
def put2 (cur : Array Value) (j : Nat) (r : Zr) : Array Value := (cur.setIfInBounds j (.bool r.1)).setIfInBounds (j + 1) (.slice r.2.1 r.2.2.1 r.2.2.2)
theorem C2.self (cur : Array Value) {j : Nat} (h : j + 1 < cur.size) (r : Zr) : C2 (put2 cur j r) j r := by
  unfold put2
  refine ⟨?_, ?_⟩
  · rw [Array.getElem?_setIfInBounds_ne (by omega), Array.getElem?_setIfInBounds_self_of_lt (by omega)]
  · rw [Array.getElem?_setIfInBounds_self_of_lt (by simp; omega)]
theorem C2.far {cur : Array Value} {i j : Nat} {r s : Zr} (h : C2 cur (i * 2) r) (hne : i ≠ j) : C2 (put2 cur (j * 2) s) (i * 2) r := (h.other (by omega) _).other (by omega) _
theorem size_put2 (cur : Array Value) (j : Nat) (r : Zr) : (put2 cur j r).size = cur.size := by simp [put2]
theorem ni_put2 {cur : Array Value} (h : ∀ u ∈ cur.toList, NI u) (j : Nat) (r : Zr) : ∀ u ∈ (put2 cur j r).toList, NI u := by
  intro u hu
  unfold put2 at hu
  rcases mem_set hu with hu | rfl
  · rcases mem_set hu with hu | rfl
    · exact h u hu
    · exact NI.bool _
  · exact NI.slc _ _ _
/-- Another one at a place. -/
def upi (rs : Nat → Zr) (i : Nat) (r : Zr) : Nat → Zr := fun k => if k = i then r else rs k
theorem upi_self (rs : Nat → Zr) (i : Nat) (r : Zr) : upi rs i r i = r := if_pos rfl
theorem upi_ne (rs : Nat → Zr) {i k : Nat} (r : Zr) (h : k ≠ i) : upi rs i r k = rs k := if_neg h
/-- Block b begins with n Integers, may be written, and holds no numbers of its own. -/
def IRw (w : World) (b n : Nat) (rs : Nat → Zr) : Prop := ∃ cur, w.heap[b]? = some (.cells cur 41 (0, 0)) ∧ n * 2 ≤ cur.size ∧ (∀ i, i < n → C2 cur (i * 2) (rs i)) ∧ ∀ u ∈ cur.toList, NI u
theorem IRw.lt {w : World} {b n : Nat} {rs : Nat → Zr} (h : IRw w b n rs) : b < w.heap.size := by
  obtain ⟨cur, h, _⟩ := h
  exact (Array.getElem?_eq_some_iff.1 h).1
theorem IRw.kept {w w' : World} {b n : Nat} {rs : Nat → Zr} (h : IRw w b n rs) (e : w'.heap[b]? = w.heap[b]?) : IRw w' b n rs := by
  obtain ⟨cur, h, h2⟩ := h
  exact ⟨cur, e.trans h, h2⟩
theorem IRw.on {w w' : World} {b n : Nat} {rs : Nat → Zr} (h : IRw w b n rs) (hb : Below w.heap.size w w') : IRw w' b n rs := h.kept (hb.block b h.lt)
theorem IRw.at {w : World} {b n : Nat} {rs : Nat → Zr} (h : IRw w b n rs) {i : Nat} (hi : i < n) : At2 w b (i * 2) (rs i) := by
  obtain ⟨cur, h, _, h2, _⟩ := h
  exact At2.of h (h2 i hi)
theorem IRw.cells {w : World} {b n : Nat} {rs : Nat → Zr} (h : IRw w b n rs) {i : Nat} (hi : i < n) : w.cell? ⟨b, i * 2, none⟩ = some (.bool (rs i).1) ∧ w.cell? ⟨b, i * 2 + 1, none⟩ = some (.slice (rs i).2.1 (rs i).2.2.1 (rs i).2.2.2) := h.at hi
theorem IRw.noint {w : World} {b n : Nat} {rs : Nat → Zr} (h : IRw w b n rs) : NoInt w b := by
  obtain ⟨cur, h, _, _, h2⟩ := h
  intro cur' T f e u hu
  rw [h] at e
  cases e
  exact h2 u hu
theorem IRw.less {w : World} {b n m : Nat} {rs : Nat → Zr} (h : IRw w b n rs) (hm : m ≤ n) : IRw w b m rs := by
  obtain ⟨cur, h, h1, h2, h3⟩ := h
  exact ⟨cur, h, by omega, fun i hi => h2 i (by omega), h3⟩
/-- What a walk needs to write the i-th one. -/
theorem IRw.stores {w : World} {b n : Nat} {rs : Nat → Zr} (h : IRw w b n rs) {i : Nat} (hi : i < n) :
    (w.cell? ⟨b, i * 2, none⟩ = some (.bool (rs i).1) ∧ w.frozen? ⟨b, i * 2, none⟩ = false) ∧
    ((∀ x, (w.setCell ⟨b, i * 2, none⟩ x).cell? ⟨b, i * 2 + 1, none⟩ = some (.slice (rs i).2.1 (rs i).2.2.1 (rs i).2.2.2)) ∧ (∀ x, (w.setCell ⟨b, i * 2, none⟩ x).frozen? ⟨b, i * 2 + 1, none⟩ = false)) := by
  obtain ⟨cur, h, hs, h2, _⟩ := h
  obtain ⟨c0, c1⟩ := h2 i hi
  have fr : ∀ {w : World} {cur : Array Value} {k : Nat}, w.heap[b]? = some (.cells cur 41 (0, 0)) → w.frozen? ⟨b, k, none⟩ = false := by
    intro w cur k h
    simp [World.frozen?, h]
  refine ⟨⟨by simp [World.cell?, h, c0], fr h⟩, fun x => ?_, fun x => fr (heap_set h x)⟩
  simp only [World.cell?, heap_set h x]
  rw [Array.getElem?_setIfInBounds_ne (by omega)]; exact c1
theorem set2_grown (w : World) (b i : Nat) (s : Bool) (p : Option Addr) (n c : Nat) : w.grownBy ((w.setCell ⟨b, i * 2, none⟩ (.bool s)).setCell ⟨b, i * 2 + 1, none⟩ (.slice p n c)) (some b) :=
  ⟨rfl, rfl, rfl, by simp [World.setCell], fun k _ hk => by
    rw [Below.heap_setCell _ _ _ _ (by intro e; exact hk (congrArg some e)), Below.heap_setCell _ _ _ _ (by intro e; exact hk (congrArg some e))]⟩
theorem IRw.put {w : World} {b m : Nat} {rs : Nat → Zr} (h : IRw w b m rs) {i : Nat} (hi : i < m) (s : Bool) (p : Option Addr) (n c : Nat) :
    IRw ((w.setCell ⟨b, i * 2, none⟩ (.bool s)).setCell ⟨b, i * 2 + 1, none⟩ (.slice p n c)) b m (upi rs i (s, p, n, c)) := by
  obtain ⟨cur, h, hs, h2, h3⟩ := h
  refine ⟨put2 cur (i * 2) (s, p, n, c), ?_, by rw [size_put2]; exact hs, fun k hk => ?_, ni_put2 h3 _ _⟩
  · exact heap_set (heap_set h _) _
  · by_cases hki : k = i
    · subst hki
      rw [upi_self]
      exact C2.self cur (by omega) _
    · rw [upi_ne _ _ hki]
      exact (h2 k hk).far hki
theorem IRw.far {w : World} {b m g : Nat} {rs : Nat → Zr} (h : IRw w b m rs) (i : Nat) (hne : g ≠ b) (s : Bool) (p : Option Addr) (n c : Nat) : ((w.setCell ⟨b, i * 2, none⟩ (.bool s)).setCell ⟨b, i * 2 + 1, none⟩ (.slice p n c)).heap[g]? = w.heap[g]? := by
  rw [Below.heap_setCell _ _ _ _ (by exact hne), Below.heap_setCell _ _ _ _ (by exact hne)]
theorem IRw.below {w0 w : World} {K b m : Nat} {rs : Nat → Zr} (h : IRw w b m rs) (hb : Below K w0 w) (i : Nat) (hK : K ≤ b) (s : Bool) (p : Option Addr) (n c : Nat) : Below K w0 ((w.setCell ⟨b, i * 2, none⟩ (.bool s)).setCell ⟨b, i * 2 + 1, none⟩ (.slice p n c)) :=
  (hb.setCell (p := ⟨b, i * 2, none⟩) hK _).setCell (p := ⟨b, i * 2 + 1, none⟩) hK _
theorem IRw.dr {w : World} {b n : Nat} {rs : Nat → Zr} (h : IRw w b n rs) : IRw w.drew b n rs := h
theorem rwi {w w' : World} {b n : Nat} {rs : Nat → Zr} (h : Hid (IRw w b n rs)) (hb : Below w.heap.size w w') : Hid (IRw w' b n rs) := hid (h.out.on hb)
theorem ZF.grown {w w' : World} {v : Value} {z : Int} {g : Nat} (h : ZF w v z) (hn : NoInt w g) (hg : w.grownBy w' (some g)) : ZF w' v z := h.moved fun _ _ _ hv => by
  obtain ⟨s, sv, xs, h1, h2, h3⟩ := hv
  exact ⟨s, sv, xs, h1, h2.grown hn hg, h3⟩
theorem ZF.iput {w : World} {v : Value} {z : Int} {b m : Nat} {rs : Nat → Zr} (h : ZF w v z) (hr : IRw w b m rs) (i : Nat) (s : Bool) (p : Option Addr) (n c : Nat) : ZF ((w.setCell ⟨b, i * 2, none⟩ (.bool s)).setCell ⟨b, i * 2 + 1, none⟩ (.slice p n c)) v z := h.grown hr.noint (set2_grown w b i s p n c)
theorem NF.iput {w : World} {v : Value} {z : Rat} {b m : Nat} {rs : Nat → Zr} (h : NF w v z) (hr : IRw w b m rs) (i : Nat) (s : Bool) (p : Option Addr) (n c : Nat) : NF ((w.setCell ⟨b, i * 2, none⟩ (.bool s)).setCell ⟨b, i * 2 + 1, none⟩ (.slice p n c)) v z := h.grown hr.noint (set2_grown w b i s p n c)
theorem ZF.put {w : World} {v : Value} {z : Int} {b n : Nat} {rs : Nat → Nr} (h : ZF w v z) (hr : NRw w b n rs) (i : Nat) (s1 : Bool) (p1 : Option Addr) (n1 c1 : Nat) (s2 : Bool) (p2 : Option Addr) (n2 c2 : Nat) : ZF ((((w.setCell ⟨b, i * 4, none⟩ (.bool s1)).setCell ⟨b, i * 4 + 1, none⟩ (.slice p1 n1 c1)).setCell ⟨b, i * 4 + 2, none⟩ (.bool s2)).setCell ⟨b, i * 4 + 3, none⟩ (.slice p2 n2 c2)) v z := h.grown hr.noint (set4_grown w b i s1 p1 n1 c1 s2 p2 n2 c2)
/-! The same, where the walk writes the place otherwise. -/
theorem IRw.cellsO {w : World} {b n : Nat} {rs : Nat → Zr} (h : IRw w b n rs) {i : Nat} (hi : i < n) {o : Nat} (ho : o = i * 2) : w.cell? ⟨b, o, none⟩ = some (.bool (rs i).1) ∧ w.cell? ⟨b, o + 1, none⟩ = some (.slice (rs i).2.1 (rs i).2.2.1 (rs i).2.2.2) := by subst ho; exact h.cells hi
theorem IRw.storesO {w : World} {b n : Nat} {rs : Nat → Zr} (h : IRw w b n rs) {i : Nat} (hi : i < n) {o : Nat} (ho : o = i * 2) :
    (w.cell? ⟨b, o, none⟩ = some (.bool (rs i).1) ∧ w.frozen? ⟨b, o, none⟩ = false) ∧
    ((∀ x, (w.setCell ⟨b, o, none⟩ x).cell? ⟨b, o + 1, none⟩ = some (.slice (rs i).2.1 (rs i).2.2.1 (rs i).2.2.2)) ∧ (∀ x, (w.setCell ⟨b, o, none⟩ x).frozen? ⟨b, o + 1, none⟩ = false)) := by subst ho; exact h.stores hi
theorem IRw.putO {w : World} {b m : Nat} {rs : Nat → Zr} (h : IRw w b m rs) {i : Nat} (hi : i < m) {o : Nat} (ho : o = i * 2) (s : Bool) (p : Option Addr) (n c : Nat) :
    IRw ((w.setCell ⟨b, o, none⟩ (.bool s)).setCell ⟨b, o + 1, none⟩ (.slice p n c)) b m (upi rs i (s, p, n, c)) := by subst ho; exact h.put hi s p n c
theorem IRw.farO {w : World} {b m g : Nat} {rs : Nat → Zr} (h : IRw w b m rs) (i : Nat) (hne : g ≠ b) {o : Nat} (ho : o = i * 2) (s : Bool) (p : Option Addr) (n c : Nat) : ((w.setCell ⟨b, o, none⟩ (.bool s)).setCell ⟨b, o + 1, none⟩ (.slice p n c)).heap[g]? = w.heap[g]? := by subst ho; exact h.far i hne s p n c
theorem IRw.belowO {w0 w : World} {K b m : Nat} {rs : Nat → Zr} (h : IRw w b m rs) (hb : Below K w0 w) (i : Nat) (hK : K ≤ b) {o : Nat} (ho : o = i * 2) (s : Bool) (p : Option Addr) (n c : Nat) : Below K w0 ((w.setCell ⟨b, o, none⟩ (.bool s)).setCell ⟨b, o + 1, none⟩ (.slice p n c)) := by subst ho; exact h.below hb i hK s p n c
/-- A slice value reads as these integers. -/
def IN (w : World) (v : Value) (l : List Int) : Prop := ∃ (a : Option Addr) (c : Nat) (rs : Nat → Zr), v = .slice a l.length c ∧ l.length ≤ c ∧ c ≤ maxLen ∧ ∀ i, i < l.length → ∃ b, a = some ⟨b, 0, none⟩ ∧ b < w.heap.size ∧ At2 w b (i * 2) (rs i) ∧ ZF w (iag (rs i)) (zc l i)
theorem IN.on {w w' : World} {v : Value} {l : List Int} (h : IN w v l) (hb : Below w.heap.size w w') : IN w' v l := by
  obtain ⟨a, c, rs, h1, h2, h3, h4⟩ := h
  refine ⟨a, c, rs, h1, h2, h3, fun i hi => ?_⟩
  obtain ⟨b, e, hl, ha, hq⟩ := h4 i hi
  exact ⟨b, e, Nat.lt_of_lt_of_le hl hb.size, ha.kept (hb.block b hl), hq.on hb⟩
theorem IN.opened {w : World} {v : Value} {l : List Int} (h : IN w v l) : ∃ a c, v = .slice a l.length c ∧ l.length ≤ c ∧ c ≤ maxLen := by
  obtain ⟨a, c, rs, h1, h2, h3, _⟩ := h
  exact ⟨a, c, h1, h2, h3⟩
theorem IN.nil (w : World) {a : Option Addr} {c : Nat} (hc : c ≤ maxLen) : IN w (.slice a 0 c) [] := ⟨a, c, fun _ => Iz, rfl, Nat.zero_le _, hc, fun i hi => absurd hi (Nat.not_lt_zero _)⟩
theorem zc_take {l : List Int} {i n : Nat} (h : i < n) : zc (l.take n) i = zc l i := by simp [zc, List.getElem?_take, h]
theorem IN.take {w : World} {l : List Int} {a : Option Addr} {n c m : Nat} (h : IN w (.slice a n c) l) (hm : m ≤ l.length) : IN w (.slice a m c) (l.take m) := by
  obtain ⟨a', c', rs, h1, h2, h3, h4⟩ := h
  obtain ⟨rfl, rfl, rfl⟩ := Value.slice.inj h1
  have hl : (l.take m).length = m := by rw [List.length_take]; omega
  refine ⟨a, c, rs, by rw [hl], by omega, h3, fun i hi => ?_⟩
  rw [hl] at hi
  rw [zc_take hi]
  exact h4 i (by omega)
theorem IRw.inn {w : World} {b n c : Nat} {rs : Nat → Zr} {l : List Int} (h : IRw w b n rs) (hl : l.length = n) (hn : n ≤ c) (hc : c ≤ maxLen) (hq : ∀ i, i < n → ZF w (iag (rs i)) (zc l i)) : IN w (.slice (some ⟨b, 0, none⟩) n c) l :=
  ⟨_, c, rs, by rw [hl], by omega, hc, fun i hi => ⟨b, rfl, h.lt, h.at (by omega), hq i (by omega)⟩⟩
theorem made2 {z : Array Value} (hz : z.size = 2) {n i k : Nat} (hi : i < n) (hk : k < 2) : (madeCells z (n * 2))[i * 2 + k]? = z[k]? := by
  have h : i * 2 + k < n * 2 := by omega
  have hm : (i * 2 + k) % 2 = k := by omega
  simp [madeCells, h, hz, hm, hk]
/-- 'make(integral, n)'. -/
theorem wpList_make_is (w : World) {ops : Array Oper} {rest : List Oper} {o : Oper} {a : Act} {Q : Exit → Act → World → Prop}
    (hg : o.guard = none) (l c : Operand) (t : TypeId) (hop : o.op = Op.makeSlice t l c) (h1 : Tryz.prog.underlying t = some (.slice 41))
    (n : Nat) (hl : a.eval l = .int .i64 n) (hc : a.eval c = .int .i64 n) (hb : n ≤ 1000000000000)
    (hK : ∀ w', IRw w' w.heap.size n (fun _ => Iz) → Below w.heap.size w w' → w'.heap.size = w.heap.size + 1 → wpList Tryz.prog ops Q rest (a.put o.dst (.slice (some ⟨w.heap.size, 0, none⟩) n n)) w') :
    wpList Tryz.prog ops Q (o :: rest) a w := by
  obtain ⟨i, hi, hz0, hz1, hz2⟩ := info_parts infoI
  refine wpList_plain hg fun K hK' => ?_
  have hr := run_make (P := Tryz.prog) w t _ i _ h1 hi hz0 .i64 .i64 (n : Int) (n : Int) (by omega) (by omega) (by rw [hz2]; omega) (by omega)
  simp only [Int.toNat_natCast] at hr
  unfold Oper.wp
  simp [execOp, hop, hl, hc, hr, Result.andThen]
  rw [hz1]
  have hcs : (Value.agg #[.bool false, .slice none 0 0]).cells = #[.bool false, .slice none 0 0] := by simp [Value.cells]
  rw [hcs]
  refine hK' _ _ (hK _ ⟨_, by show (w.heap.push _)[w.heap.size]? = _; simp; rfl, by simp [madeCells], fun j hj => ?_, fun u hu => ?_⟩ ((Below.refl _ _).alloc (Nat.le_refl _) _) (by simp))
  · exact ⟨made2 (k := 0) rfl hj (by decide), made2 (k := 1) rfl hj (by decide)⟩
  · simp only [madeCells, List.mem_map, Array.toList_map, Array.toList_range] at hu
    simp at hu
    obtain ⟨j, hj, rfl⟩ := hu
    have hm := Nat.mod_lt j (show 0 < 2 by omega)
    rcases (show j % 2 = 0 ∨ j % 2 = 1 by omega) with h | h <;> rw [h]
    · exact NI.bool _
    · exact NI.slc _ _ _
/-- One of them, at a later world. -/
theorem in_at {w w' : World} {l : List Int} {a : Option Addr} {n c : Nat} (h : IN w (.slice a n c) l) (hb : Below w.heap.size w w') {i : Nat} (hi : i < l.length) :
    ∃ b s p n c, a = some ⟨b, 0, none⟩ ∧ b < w.heap.size ∧ (w'.cell? ⟨b, i * 2, none⟩ = some (.bool s) ∧ w'.cell? ⟨b, i * 2 + 1, none⟩ = some (.slice p n c)) ∧ ZF w' (.agg #[.bool s, .slice p n c]) (zc l i) := by
  obtain ⟨a', c', rs, h1, h2, h3, h4⟩ := h
  obtain ⟨rfl, rfl, rfl⟩ := Value.slice.inj h1
  obtain ⟨b, e, hl, hA, hq⟩ := h4 i hi
  exact ⟨b, _, _, _, _, e, hl, hA.kept (hb.block b hl), hq.on hb⟩

end Go.Proofs.YtokojbgpboccnaaGreat

/-
  PACKAGE pgcd: slices.Clone.
-/
namespace Go.Proofs.YtokojbgpboccnaaGreat
open Go.RowKit
open Num
set_option linter.unusedVariables false
set_option maxRecDepth 100000
set_option linter.unusedSimpArgs false

/-- The k-th cell of an Integer. -/
def icell (r : Zr) (k : Nat) : Value := if k = 0 then .bool r.1 else .slice r.2.1 r.2.2.1 r.2.2.2
theorem icell_one (r : Zr) (k : Nat) : (icell r k).oneCell' = true ∧ NI (icell r k) := by
  unfold icell
  split
  · exact ⟨rfl, NI.bool _⟩
  · exact ⟨rfl, NI.slc _ _ _⟩
theorem At2.cell {w : World} {b i : Nat} {r : Zr} (h : At2 w b (i * 2) r) {j : Nat} (h1 : i * 2 ≤ j) (h2 : j < i * 2 + 2) : w.cell? ⟨b, j, none⟩ = some (icell r (j - i * 2)) := by
  obtain ⟨c0, c1⟩ := h
  rcases (show j = i * 2 ∨ j = i * 2 + 1 by omega) with h | h
  · rw [h, c0]; simp [icell]
  · rw [h, c1]; simp [icell]
def irow (rs : Nat → Zr) (n : Nat) : List Value := (List.range (n * 2)).map fun j => icell (rs (j / 2)) (j % 2)
theorem irow_len (rs : Nat → Zr) (n : Nat) : (irow rs n).length = n * 2 := by simp [irow]
theorem irow_get {rs : Nat → Zr} {n j : Nat} {u : Value} (h : (irow rs n)[j]? = some u) : j < n * 2 ∧ u = icell (rs (j / 2)) (j % 2) := by
  unfold irow at h
  rw [List.getElem?_map] at h
  obtain ⟨k, hk, rfl⟩ := Option.map_eq_some_iff.1 h
  obtain ⟨h1, h2⟩ := List.getElem?_eq_some_iff.1 hk
  simp at h1 h2
  subst h2
  exact ⟨h1, rfl⟩
theorem irow_at (rs : Nat → Zr) {n i k : Nat} (hi : i < n) (hk : k < 2) : (irow rs n)[i * 2 + k]? = some (icell (rs i) k) := by
  unfold irow
  rw [List.getElem?_map, List.getElem?_range (by omega)]
  simp only [Option.map_some]
  rw [show (i * 2 + k) / 2 = i by omega, show (i * 2 + k) % 2 = k by omega]

set_option maxHeartbeats 1000000 in
theorem zclone_at {w : World} {b n c : Nat} {rs : Nat → Zr} {q : Nat → Int} (hb : b < w.heap.size) (hA : ∀ i, i < n → At2 w b (i * 2) (rs i)) (hq : ∀ i, i < n → ZF w (iag (rs i)) (q i)) (hn0 : 1 ≤ n) (hn : n ≤ 1000000) :
    Calls Tryz.prog 109 #[.slice (some ⟨b, 0, none⟩) n c] w fun e w' => ∃ b' c', e = .returned (.slice (some ⟨b', 0, none⟩) n c') ∧ w.heap.size ≤ b' ∧ IRw w' b' n rs ∧ n ≤ c' ∧ c' ≤ maxLen ∧ (∀ i, i < n → ZF w' (iag (rs i)) (q i)) ∧ Below w.heap.size w w' := by
  obtain ⟨i0, hi, hz0, hz1, hz2⟩ := info_parts infoI
  have hb0 := (Below.refl w.heap.size w).alloc (Nat.le_refl _) (.cells #[] 41)
  have hnews : ∀ j u, (irow rs n)[j]? = some u → (w.alloc (.cells #[] 41)).cell? (Addr.add ⟨b, 0, none⟩ j) = some u := by
    intro j u hj
    obtain ⟨h1, rfl⟩ := irow_get hj
    rw [World.cell?_alloc_lt _ _ _ (by rw [Go.WideShapes.add_plain]; exact hb)]
    have h2 := (hA (j / 2) (by omega)).cell (j := j) (by omega) (by omega)
    rw [show j - j / 2 * 2 = j % 2 by omega] at h2
    rw [Go.WideShapes.add_plain, Nat.zero_add]
    exact h2
  have HNEWS := hid hnews
  have HNI : ∀ g, (Value.slice (some ⟨w.heap.size, 0, none⟩) 0 0).ownBlock = some g → NoInt (w.alloc (.cells #[] 41)) g := by
    intro g hg
    simp [Value.ownBlock] at hg
    subst hg
    exact NoInt.new w _ _ fun u hu => by simp at hu
  have HNI := hid HNI
  have hown := World.ownsRow_made (base := w.heap.size) (e := 41) (size := 2) w #[] 0 (Nat.le_refl _) (by unfold maxLen; omega) rfl
  have HO := hid hown
  have HQ := hid hq
  have HB := hid hb0
  clear hnews hown hA hq hb0
  have hq := eql_slice_nil 103 _ Tryz.underlying103
  go_enter Tryz.func109, Tryz.ntmps109
  go_wp2_with (at_builtin; refine wpList_append_ni rfl _ _ 103 rfl w.heap.size 41 i0 _ 2 32 Tryz.underlying103 hi hz0 hz1 hz2 rfl (by decide) _ _ _ rfl HO.out HNI.out ?c7 ⟨b, 0, none⟩ n c (irow rs n) rfl ?c0 ?c1 ?c2 ?c8 ?c3 ?c4 ?c5 ?_)
  case c7 =>
    intro u hu
    simp [Value.cells] at hu
    rcases hu with rfl | rfl <;> first | exact NI.bool _ | exact NI.slc _ _ _
  case c0 => exact irow_len rs n
  case c1 => exact HNEWS.out
  case c2 =>
    intro u hu
    obtain ⟨j, hj⟩ := List.getElem?_of_mem hu
    obtain ⟨_, rfl⟩ := irow_get hj
    exact (icell_one _ _).1
  case c8 =>
    intro u hu
    obtain ⟨j, hj⟩ := List.getElem?_of_mem hu
    obtain ⟨_, rfl⟩ := irow_get hj
    exact (icell_one _ _).2
  case c3 => unfold maxLen; omega
  case c4 => omega
  case c5 => simp
  intro v' w1 hown' hgrow hni
  have HO' := hid hown'
  have HN' := hid hni
  have hb2 : Below w.heap.size w w1 := HB.out.grown hgrow (by simp) (fun g hg => by simp [Value.ownBlock] at hg; omega)
  have HB2 := hid hb2
  clear hown' hgrow hni hb2
  go_wp2
  go_ret
  have ho := HO'.out
  have hbw := HB2.out
  rcases ho.2 with ⟨_, h0⟩ | ⟨g, cap, cur, rfl, hK, h1, h2, h3, h4, h5⟩
  · omega
  · refine ⟨g, cap, rfl, hK, ⟨cur, h1, by omega, fun i hi => ?_, HN'.out g rfl cur _ _ h1⟩, h2, h3, fun i hi => (HQ.out i hi).on hbw, hbw⟩
    have hc : ∀ k, k < 2 → cur[i * 2 + k]? = some (icell (rs i) k) := by
      intro k hk
      have h6 := irow_at rs hi hk
      rw [← h5, List.getElem?_take, if_pos (by omega), Array.getElem?_toList] at h6
      exact h6
    exact ⟨hc 0 (by decide), hc 1 (by decide)⟩
/-- A copy, in memory of its own. -/
theorem zclone {w : World} {v : Value} {l : List Int} (h : IN w v l) (h0 : l ≠ []) (hl : l.length ≤ 1000000) :
    Calls Tryz.prog 109 #[v] w fun e w' => ∃ b c rs, e = .returned (.slice (some ⟨b, 0, none⟩) l.length c) ∧ w.heap.size ≤ b ∧ IRw w' b l.length rs ∧ l.length ≤ c ∧ c ≤ maxLen ∧ (∀ i, i < l.length → ZF w' (iag (rs i)) (zc l i)) ∧ Below w.heap.size w w' := by
  obtain ⟨a, c, rs, rfl, hn, hc, hA⟩ := h
  have hp := List.length_pos_iff.2 h0
  obtain ⟨b, rfl, hb, _, _⟩ := hA 0 (by omega)
  refine (zclone_at (q := zc l) (rs := rs) hb (fun i hi => ?_) (fun i hi => ?_) (by omega) hl).mono ?_
  · obtain ⟨b', e, _, h1, _⟩ := hA i hi; cases e; exact h1
  · obtain ⟨b', e, _, _, h1⟩ := hA i hi; exact h1
  · rintro e w' ⟨b', c', rfl, h1, h2, h3, h4, h5, h6⟩
    exact ⟨b', c', rs, rfl, h1, h2, h3, h4, h5, h6⟩

end Go.Proofs.YtokojbgpboccnaaGreat

/-
  PACKAGE pgcd: trim.
-/
namespace Go.Proofs.YtokojbgpboccnaaGreat
open Go.RowKit
open Num
set_option linter.unusedVariables false
set_option maxRecDepth 100000
set_option linter.unusedSimpArgs false

/-- None is longer. -/
def Zl (l : List Int) (m : Nat) : Prop := ∀ i, Zm (zc l i) m
set_option maxHeartbeats 1000000 in
/-- Without noughts at the end. -/
theorem ztrim_in {w : World} {a : Option Addr} {n c : Nat} {l : List Int} (h : IN w (.slice a n c) l) :
    Calls Tryz.prog 110 #[.slice a n c] w fun e w' => ∃ k : Nat, e = .returned (.slice a k c) ∧ k ≤ n ∧ (∀ j, k ≤ j → zc l j = 0) ∧ (k = 0 ∨ zc l (k - 1) ≠ 0) ∧ Below w.heap.size w w' := by
  have HP := hid h
  obtain ⟨a', c', h1, hn, hc⟩ := h.opened
  obtain ⟨rfl, rfl, rfl⟩ := Value.slice.inj h1
  obtain ⟨n, hN⟩ : ∃ n, l.length = n := ⟨_, rfl⟩
  rw [hN] at hn HP ⊢
  have HN := hid hN
  unfold maxLen at hc
  clear hN h1 h
  go_enter Tryz.func110, Tryz.ntmps110
  go_wp2_with fail
  go_loopw [3] (fun i wr => ∃ k : Nat, k ≤ n ∧ i = .int .i64 k ∧ Hid (∀ j, k ≤ j → zc l j = 0) ∧ Hid (Below w.heap.size w wr)) (fun i _ => (intOf i).toNat)
  case atStart => exact ⟨n, Nat.le_refl _, rfl, hid (fun j hj => by have := HN.out; simp [zc, show l.length ≤ j by omega]), hid (Below.refl _ _)⟩
  case round =>
    obtain ⟨k, hk, rfl, HZ, B⟩ := hrel
    rcases k with _ | j
    · go_wp2_with fail
      go_ret
      exact ⟨0, rfl, Nat.zero_le _, HZ.out, .inl rfl, B.out⟩
    · obtain ⟨b, s1, p1, n1, c1, rfl, hb, cc, hq⟩ := in_at HP.out B.out (i := j) (by rw [HN.out]; omega)
      have HQ := hid hq
      clear hq hb
      by_cases h0 : zc l j = 0
      · have HZ2 : Hid (∀ i, j ≤ i → zc l i = 0) := hid (fun i hi => if h : i = j then h ▸ h0 else HZ.out i (by omega))
        have hs : (zc l j).sign = 0 := by rw [h0]; rfl
        clear h0
        go_wp2_with fail
        refine (zsgn_f HQ.out hs).mono ?_
        rintro e w1 ⟨rfl, hb1⟩
        replace B := bb B hb1
        clear hb1 hs
        go_wp2_with fail
        go_roundw
        case rel => exact ⟨j, by omega, by go_num, HZ2, B⟩
        case measure => simp [intOf]
      · have HE := hid h0
        obtain ⟨z, hz⟩ : ∃ z, (zc l j).sign = z := ⟨_, rfl⟩
        have hne : (z == 0) = false := by rw [beq_eq_false_iff_ne]; rintro rfl; exact h0 (Int.sign_eq_zero_iff_zero.1 hz)
        have HS := hid hz
        clear h0 hz
        go_wp2_with fail
        refine (zsgn_f HQ.out HS.out).mono ?_
        rintro e w1 ⟨rfl, hb1⟩
        replace B := bb B hb1
        clear hb1
        go_wp2_with fail
        go_ret
        exact ⟨j + 1, rfl, hk, HZ.out, .inr (by simpa using HE.out), B.out⟩

end Go.Proofs.YtokojbgpboccnaaGreat

/-
  PACKAGE pgcd: remainder.
-/
namespace Go.Proofs.YtokojbgpboccnaaGreat
open Go.RowKit
open Num
set_option linter.unusedVariables false
set_option maxRecDepth 100000
set_option linter.unusedSimpArgs false

theorem Zm.neg {z : Int} {m : Nat} (h : Zm z m) : Zm (-z) m := by unfold Zm; rw [Int.natAbs_neg]; exact h
theorem Zm.zero {m : Nat} : Zm 0 m := by unfold Zm; exact Nat.pow_pos (by decide)
/-- So far: times a number. -/
def tmi (R : Nat → Int) (l : Int) (i t : Nat) : Int := if t < i then R t * l else R t
theorem tmi_self (R : Nat → Int) (l : Int) (i : Nat) : tmi R l i i = R i := if_neg (by omega)
theorem tmi_next (R : Nat → Int) (l : Int) (i : Nat) : tmi R l (i + 1) i = R i * l := if_pos (by omega)
theorem tmi_ne (R : Nat → Int) (l : Int) {i t : Nat} (h : t ≠ i) : tmi R l (i + 1) t = tmi R l i t := by
  unfold tmi
  by_cases h1 : t < i
  · rw [if_pos h1, if_pos (by omega)]
  · rw [if_neg h1, if_neg (by omega)]
/-- So far: and so much of the other one taken off. -/
def ofi (R : Nat → Int) (l f : Int) (q : Nat → Int) (s i t : Nat) : Int := if s ≤ t ∧ t < s + i then R t * l - f * q (t - s) else R t * l
theorem ofi_start (R : Nat → Int) (l f : Int) (q : Nat → Int) (s t : Nat) : ofi R l f q s 0 t = R t * l := if_neg (by omega)
theorem ofi_self (R : Nat → Int) (l f : Int) (q : Nat → Int) (s i : Nat) : ofi R l f q s i (s + i) = R (s + i) * l := if_neg (by omega)
theorem ofi_next (R : Nat → Int) (l f : Int) (q : Nat → Int) (s i : Nat) : ofi R l f q s (i + 1) (s + i) = R (s + i) * l - f * q i := by
  unfold ofi
  rw [if_pos (by omega), Nat.add_sub_cancel_left]
theorem ofi_ne (R : Nat → Int) (l f : Int) (q : Nat → Int) {s i t : Nat} (h : t ≠ s + i) : ofi R l f q s (i + 1) t = ofi R l f q s i t := by
  unfold ofi
  by_cases h1 : s ≤ t ∧ t < s + i
  · rw [if_pos h1, if_pos (by omega)]
  · rw [if_neg h1, if_neg (by omega)]
/-- A step, done. -/
theorem ofi_all (R : Nat → Int) (l f : Int) (q : Nat → Int) {s n : Nat} (hq : ∀ i, n ≤ i → q i = 0) (t : Nat) : ofi R l f q s n t = scmb l R (-f) (ssh s q) t := by
  unfold ofi
  simp only [scmb, ssh]
  by_cases h : s ≤ t ∧ t < s + n
  · rw [if_pos h, if_neg (by omega)]; grind
  · rw [if_neg h]
    by_cases h2 : t < s
    · rw [if_pos h2]; grind
    · rw [if_neg h2, hq (t - s) (by omega)]; grind

set_option maxHeartbeats 8000000 in
/-- What is left, without fractions. -/
theorem zrem_p {w : World} {v u : Value} {lp lq : List Int} {m n d : Nat} (h : IN w v lp) (h' : IN w u lq) (hs : Zl lp m) (hs' : Zl lq n) (hdl : lq.length = d + 1) (hle : lq.length ≤ lp.length) (hl : lp.length ≤ 1000000) (hlim : m + (lp.length - lq.length + 1) * (n + 1) + n + 2 ≤ 68719476736) :
    Calls Tryz.prog 94 #[v, u] w fun e w' => ∃ v' r, e = .returned v' ∧ IN w' v' r ∧ Ztr r ∧ r.length ≤ d ∧ SRed (zc lq) (zc lq d) (lp.length - lq.length) (lp.length - lq.length + 1) (zc lp) (zc r) ∧ Zl r (m + (lp.length - lq.length + 1) * (n + 1)) ∧ Below w.heap.size w w' := by
  have HC := hid (zclone h (by rintro rfl; rw [hdl] at hle; simp at hle) hl)
  obtain ⟨ap, cp, rfl, hn1, hc1⟩ := h.opened
  obtain ⟨aq, cq, rfl, hnq, hcq⟩ := h'.opened
  have HQ := hid h'
  have SLP := hid hs
  have SLQ := hid hs'
  have HDL := hid hdl
  obtain ⟨np, hNP⟩ : ∃ np, lp.length = np := ⟨_, rfl⟩
  have NP := hid hNP
  rw [hNP, hdl] at hle
  rw [hNP, hdl] at hlim
  rw [hNP] at HC hl hn1
  rw [hdl] at hnq HQ
  rw [hNP, hdl]
  have HLIM := hid hlim
  unfold maxLen at hc1 hcq
  have hd0 : (0 : Int) ≤ (d : Int) := by omega
  have hd1 : (d : Int) < (d : Int) + 1 := by omega
  clear h h' hs hs' hlim hdl hNP
  go_enter Tryz.func94, Tryz.ntmps94
  go_wp2_with fail
  refine HC.out.mono ?_
  rintro e w1 ⟨b0, c1, rs, rfl, hb0, hrow, hcn, hcm, hw, hb⟩
  have B := hid hb
  have HB := hid hb0
  have ROW := hid hrow
  have HW := hid hw
  unfold maxLen at hcm
  obtain ⟨bq, s6, p6, n6, c6, rfl, hbq, cdq, hqd⟩ := in_at HQ.out B.out (i := d) (by rw [HDL.out]; omega)
  have HLD := hid hqd
  clear hb hb0 hrow hw hqd hbq HC
  have LB := hid ROW.out.lt
  obtain ⟨hb21, hx22, hs23⟩ := Box.made w1 s6 p6 n6 c6
  replace HLD := zf HLD hb21
  replace ROW := rwi ROW hb21
  replace HW := hid (fun q_ hq_ => (HW.out q_ hq_).on hb21)
  replace B := bb B hb21
  have X6 := hid hx22
  clear hb21 hx22
  have cc24 := X6.out.both
  go_wp2_with fail
  generalize hW : w1.alloc (.cells #[.bool s6, .slice p6 n6 c6] 41) = W25 at *
  clear hW
  obtain ⟨g6, hg6⟩ : ∃ g6, g6 = w1.heap.size := ⟨_, rfl⟩
  rw [← hg6] at X6 LB ⊢
  have L06 := LB
  clear hg6 LB cdq cc24
  go_loopw [5] (fun x wr => ∃ (k e : Nat) (rs : Nat → Zr) (R : SVec), d ≤ k ∧ e + k = np ∧ x = .slice (some ⟨b0, 0, none⟩) k c1 ∧ Hid (SRed (zc lq) (zc lq d) (np - (d + 1)) e (zc lp) R) ∧ Hid (∀ t, k ≤ t → R t = 0) ∧ Hid (∀ t, Zm (R t) (m + e * (n + 1))) ∧ Hid (IRw wr b0 np rs) ∧ Hid (∀ t, t < k → ZF wr (iag (rs t)) (R t)) ∧ Hid (Box wr g6 s6 (.slice p6 n6 c6)) ∧ Hid (ZF wr (.agg #[.bool s6, .slice p6 n6 c6]) (zc lq d)) ∧ Hid (Below w.heap.size w wr)) (fun x _ => sln x)
  case atStart => exact ⟨np, 0, rs, zc lp, by omega, by omega, rfl, hid (.nil _), hid (fun t ht => zc_ge (by rw [NP.out]; exact ht)), hid (fun t => by rw [Nat.zero_mul]; exact SLP.out t), ROW, HW, X6, HLD, B⟩
  case round =>
    clear ROW HW X6 HLD B
    obtain ⟨k, e, rs, R, hdk, hek, rfl, HR, HR0, HS, ROW, HW, X6, HLD, B⟩ := hrel
    by_cases hlt : d < k
    · obtain ⟨sf, rfl⟩ : ∃ sf, k = sf + d + 1 := ⟨k - d - 1, by omega⟩
      have hee : e * (n + 1) ≤ (np - (d + 1)) * (n + 1) := Nat.mul_le_mul_right _ (by omega)
      have hew : (np - (d + 1) + 1) * (n + 1) = (np - (d + 1)) * (n + 1) + (n + 1) := Nat.succ_mul _ _
      have HLE := hid (show m + e * (n + 1) + (n + 1) + n + 2 ≤ 68719476736 by have := HLIM.out; omega)
      have hge : (d : Int) ≤ (sf : Int) + (d : Int) := by omega
      obtain ⟨s7, p7, n7, c7, hz7⟩ : ∃ s7 p7 n7 c7, rs (sf + d) = (s7, p7, n7, c7) := ⟨_, _, _, _, rfl⟩
      have hq7 := HW.out (sf + d) (by omega)
      rw [hz7] at hq7
      dsimp only [iag] at hq7
      have HT := hid hq7
      clear hq7 hee hew
      have L66 := hid X6.out.lt
      have cr := ROW.out.cells (show sf + d < np by omega)
      rw [hz7] at cr
      obtain ⟨hb101, hx102, hs103⟩ := Box.made wr s7 p7 n7 c7
      have L3 := hid X6.out.lt
      replace X6 := bx X6 hb101
      replace HLD := zf HLD hb101
      replace HT := zf HT hb101
      replace ROW := rwi ROW hb101
      replace HW := hid (fun q_ hq_ => (HW.out q_ hq_).on hb101)
      replace B := bb B hb101
      have X7 := hid hx102
      clear hb101 hx102
      have cc104 := X6.out.both
      have cc105 := X7.out.both
      go_wp2_with fail
      generalize hW : wr.alloc (.cells #[.bool s7, .slice p7 n7 c7] 41) = W106 at *
      clear hW
      obtain ⟨g7, hg7⟩ : ∃ g7, g7 = wr.heap.size := ⟨_, rfl⟩
      rw [← hg7] at X7 L66 ⊢
      have L67 := L66
      clear hg7 L66 cr cc104 cc105
      go_loopw [34] (fun x wr => ∃ (i : Nat) (rs : Nat → Zr), i ≤ sf + d + 1 ∧ x = .int .i64 i ∧ Hid (IRw wr b0 np rs) ∧ Hid (∀ t, t < sf + d + 1 → ZF wr (iag (rs t)) (tmi R (zc lq d) i t)) ∧ Hid (Box wr g6 s6 (.slice p6 n6 c6)) ∧ Hid (ZF wr (.agg #[.bool s6, .slice p6 n6 c6]) (zc lq d)) ∧ Hid (Box wr g7 s7 (.slice p7 n7 c7)) ∧ Hid (ZF wr (.agg #[.bool s7, .slice p7 n7 c7]) (R (sf + d))) ∧ Hid (Below w.heap.size w wr)) (fun x _ => sf + d + 1 - (intOf x).toNat)
      case atStart => exact ⟨0, rs, by omega, rfl, ROW, hid (fun t ht => (HW.out t ht).cast (if_neg (by omega)).symm), X6, HLD, X7, HT, B⟩
      case round =>
        clear ROW HW X6 HLD X7 HT B
        obtain ⟨i, rs, hi, rfl, ROW, HW, X6, HLD, X7, HT, B⟩ := hrel
        by_cases hlti : i < sf + d + 1
        · obtain ⟨s8, p8, n8, c8, hz8⟩ : ∃ s8 p8 n8 c8, rs i = (s8, p8, n8, c8) := ⟨_, _, _, _, rfl⟩
          have hq8 := HW.out i hlti
          rw [hz8, tmi_self] at hq8
          dsimp only [iag] at hq8
          have HC := hid hq8
          clear hq8
          have L77 := hid X7.out.lt
          have cr := ROW.out.cells (show i < np by omega)
          rw [hz8] at cr
          obtain ⟨hb201, hx202, hs203⟩ := Box.made wr s8 p8 n8 c8
          have L4 := hid X7.out.lt
          replace X6 := bx X6 hb201
          replace X7 := bx X7 hb201
          replace HLD := zf HLD hb201
          replace HT := zf HT hb201
          replace HC := zf HC hb201
          replace ROW := rwi ROW hb201
          replace HW := hid (fun q_ hq_ => (HW.out q_ hq_).on hb201)
          replace B := bb B hb201
          have X9 := hid hx202
          clear hb201 hx202
          have cc204 := X6.out.both
          have cc205 := X7.out.both
          have cc206 := X9.out.both
          go_wp2_with fail
          refine (zmul_f HC.out HLD.out (HS.out i) (SLQ.out d) (by have := HLE.out; omega) (by have := HLE.out; omega)).mono ?_
          rintro e w207 ⟨v, rfl, hv, hb⟩
          obtain ⟨s9, p9, n9, c9, rfl⟩ := hv.opened
          replace X6 := bx X6 hb
          replace X7 := bx X7 hb
          replace X9 := bx X9 hb
          replace HLD := zf HLD hb
          replace HT := zf HT hb
          replace HC := zf HC hb
          replace ROW := rwi ROW hb
          replace HW := hid (fun q_ hq_ => (HW.out q_ hq_).on hb)
          replace B := bb B hb
          clear cc204 cc205 cc206
          have HX := hid hv
          clear hb hv cr
          have cc208 := ROW.out.stores (show i < np by omega)
          replace X6 := hid (X6.out.kept (ROW.out.far i (by have := HB.out; have := L06.out; have := L67.out; have := L77.out; have := L4.out; omega) s9 p9 n9 c9))
          replace X7 := hid (X7.out.kept (ROW.out.far i (by have := HB.out; have := L06.out; have := L67.out; have := L77.out; have := L4.out; omega) s9 p9 n9 c9))
          replace X9 := hid (X9.out.kept (ROW.out.far i (by have := HB.out; have := L06.out; have := L67.out; have := L77.out; have := L4.out; omega) s9 p9 n9 c9))
          replace HLD := hid (HLD.out.iput ROW.out i s9 p9 n9 c9)
          replace HT := hid (HT.out.iput ROW.out i s9 p9 n9 c9)
          replace HC := hid (HC.out.iput ROW.out i s9 p9 n9 c9)
          replace HX := hid (HX.out.iput ROW.out i s9 p9 n9 c9)
          replace HW := hid (fun q_ hq_ => (HW.out q_ hq_).iput ROW.out i s9 p9 n9 c9)
          replace B := hid (ROW.out.below B.out i (by have := HB.out; have := L06.out; have := L67.out; have := L77.out; have := L4.out; omega) s9 p9 n9 c9)
          replace ROW := hid (ROW.out.put (show i < np by omega) s9 p9 n9 c9)
          go_wp2_with fail
          go_roundw
          case rel => exact ⟨i + 1, _, by omega, by go_num, ROW, hid (fun t ht => by
              by_cases e : t = i
              · subst e; rw [upi_self, tmi_next]; exact HX.out
              · rw [upi_ne _ _ e, tmi_ne _ _ e]; exact HW.out t ht), X6, HLD, X7, HT, B⟩
          case measure => simp [intOf]; omega
        · have hie : i = sf + d + 1 := by omega
          replace HW : Hid (∀ t, t < sf + d + 1 → ZF wr (iag (rs t)) (ofi R (zc lq d) (R (sf + d)) (zc lq) sf 0 t)) := hid (fun t ht => (HW.out t ht).cast (by rw [ofi_start, tmi, if_pos (by omega)]))
          have W0 : ∃ rs : Nat → Zr, Hid (IRw wr b0 np rs) ∧ Hid (∀ t, t < sf + d + 1 → ZF wr (iag (rs t)) (ofi R (zc lq d) (R (sf + d)) (zc lq) sf 0 t)) := ⟨_, ROW, HW⟩
          clear ROW HW hie
          obtain ⟨rs1, ROW, HW⟩ := W0
          have hsf : IntKind.i64.wrap ((sf : Int) + d + 1 - ((d : Int) + 1)) = (sf : Int) := by rw [show (sf : Int) + d + 1 - ((d : Int) + 1) = sf by omega]; exact IntWalk.i64_in _ (by omega)
          go_wp2_with fail
          go_loopw [53] (fun x wr => ∃ (i : Nat) (rs : Nat → Zr), i ≤ d + 1 ∧ x = .int .i64 i ∧ Hid (IRw wr b0 np rs) ∧ Hid (∀ t, t < sf + d + 1 → ZF wr (iag (rs t)) (ofi R (zc lq d) (R (sf + d)) (zc lq) sf i t)) ∧ Hid (Box wr g6 s6 (.slice p6 n6 c6)) ∧ Hid (ZF wr (.agg #[.bool s6, .slice p6 n6 c6]) (zc lq d)) ∧ Hid (Box wr g7 s7 (.slice p7 n7 c7)) ∧ Hid (ZF wr (.agg #[.bool s7, .slice p7 n7 c7]) (R (sf + d))) ∧ Hid (Below w.heap.size w wr)) (fun x _ => d + 1 - (intOf x).toNat)
          case atStart => exact ⟨0, rs1, by omega, rfl, ROW, HW, X6, HLD, X7, HT, B⟩
          case round =>
            clear ROW HW X6 HLD X7 HT B
            obtain ⟨i, rs, hi2, rfl, ROW, HW, X6, HLD, X7, HT, B⟩ := hrel
            by_cases hltj : i < d + 1
            · have hkn : sf + i < np := by omega
              have hx1 : (0 : Int) ≤ (sf : Int) + (i : Int) := by omega
              have hx2 : (sf : Int) + (i : Int) < (sf : Int) + d + 1 := by omega
              have hx3 : ((sf : Int) + (i : Int)).toNat = sf + i := by omega
              have hx4 : IntKind.i64.wrap ((sf : Int) + (i : Int)) = (sf : Int) + (i : Int) := IntWalk.i64_in _ (by omega)
              obtain ⟨b5, s5, p5, n5, c5, e5, hb5, cd5, hq5⟩ := in_at HQ.out B.out (i := i) (by rw [HDL.out]; exact hltj)
              cases e5
              obtain ⟨s8, p8, n8, c8, hz8⟩ : ∃ s8 p8 n8 c8, rs (sf + i) = (s8, p8, n8, c8) := ⟨_, _, _, _, rfl⟩
              have hq8 := HW.out (sf + i) (by omega)
              rw [hz8, ofi_self] at hq8
              dsimp only [iag] at hq8
              have HC := hid hq5
              have HS2 := hid hq8
              clear hq5 hq8
              have L77 := hid X7.out.lt
              obtain ⟨hb401, hx402, hs403⟩ := Box.made wr s5 p5 n5 c5
              have L4 := hid X7.out.lt
              replace X6 := bx X6 hb401
              replace X7 := bx X7 hb401
              replace HLD := zf HLD hb401
              replace HT := zf HT hb401
              replace HC := zf HC hb401
              replace HS2 := zf HS2 hb401
              replace ROW := rwi ROW hb401
              replace HW := hid (fun q_ hq_ => (HW.out q_ hq_).on hb401)
              replace B := bb B hb401
              have X12 := hid hx402
              clear hb401 hx402
              have cc404 := X6.out.both
              have cc405 := X7.out.both
              have cc406 := X12.out.both
              have cr := ROW.out.cells hkn
              rw [hz8] at cr
              go_wp2_with fail
              generalize hW : wr.alloc (.cells #[.bool s5, .slice p5 n5 c5] 41) = W407 at *
              clear hW
              clear cr cd5 cc404 cc405 cc406
              refine region_ops (by kernel_rfl) (by kernel_rfl) (fun a f a' w' => ∃ u58 u59 u60 u61 u62 u63 u64 u65 u66 u67 u68 u69 u70 u71 u72 : Value, a' = { tmps := (((((((((((((((a.tmps.setIfInBounds 58 u58).setIfInBounds 59 u59).setIfInBounds 60 u60).setIfInBounds 61 u61).setIfInBounds 62 u62).setIfInBounds 63 u63).setIfInBounds 64 u64).setIfInBounds 65 u65).setIfInBounds 66 u66).setIfInBounds 67 u67).setIfInBounds 68 u68).setIfInBounds 69 u69).setIfInBounds 70 u70).setIfInBounds 71 u71).setIfInBounds 72 u72), defers := a.defers } ∧ Hid (Below W407.heap.size W407 w' ∨ f 15 = true) ∧ Hid (f 0 = true → u58 = .slice (some ⟨b0, 0, none⟩) (sf + d + 1) c1) ∧ Hid (f 1 = true → u59 = .int .i64 (sf : Int)) ∧ Hid (f 2 = true → u60 = .int .i64 (i : Int)) ∧ Hid (f 3 = true → u61 = .int .i64 ((sf : Int) + (i : Int))) ∧ Hid (f 4 = true → u62 = .slice (some ⟨b0, 0, none⟩) (sf + d + 1) c1) ∧ Hid (f 5 = true → u63 = .int .i64 (sf : Int)) ∧ Hid (f 6 = true → u64 = .int .i64 (i : Int)) ∧ Hid (f 7 = true → u65 = .int .i64 ((sf : Int) + (i : Int))) ∧ Hid (f 8 = true → u66 = .pointer (some ⟨b0, (sf + i) * 2, none⟩)) ∧ Hid (f 9 = true → u67 = (.agg #[.bool s8, .slice p8 n8 c8])) ∧ Hid (f 10 = true → u68 = (.agg #[.bool s7, .slice p7 n7 c7])) ∧ Hid (f 11 = true → u69 = (.agg #[.bool s5, .slice p5 n5 c5])) ∧ Hid (f 12 = true → (ZF w' u70 (R (sf + d) * zc lq i) ∨ f 15 = true)) ∧ Hid (f 13 = true → (ZF w' u71 (R (sf + i) * zc lq d - R (sf + d) * zc lq i) ∨ f 15 = true)) ∧ Hid (f 14 = true → u72 = .pointer (some ⟨b0, (sf + i) * 2, none⟩)) ∧ Hid (f 15 = true → ∃ w2 s4 p4 n4 c4, Below W407.heap.size W407 w2 ∧ ZF w2 (.agg #[.bool s4, .slice p4 n4 c4]) (R (sf + i) * zc lq d - R (sf + d) * zc lq i) ∧ w' = (w2.setCell ⟨b0, (sf + i) * 2, none⟩ (.bool s4)).setCell ⟨b0, (sf + i) * 2 + 1, none⟩ (.slice p4 n4 c4)) ∧ (f 15 = true → f 0 = true) ∧ (f 15 = true → f 1 = true) ∧ (f 15 = true → f 2 = true) ∧ (f 15 = true → f 3 = true) ∧ (f 15 = true → f 4 = true) ∧ (f 15 = true → f 5 = true) ∧ (f 15 = true → f 6 = true) ∧ (f 15 = true → f 7 = true) ∧ (f 15 = true → f 8 = true) ∧ (f 15 = true → f 9 = true) ∧ (f 15 = true → f 10 = true) ∧ (f 15 = true → f 11 = true) ∧ (f 15 = true → f 12 = true) ∧ (f 15 = true → f 13 = true) ∧ (f 15 = true → f 14 = true)) ?h0 ⟨?s0, ?s1, ?s2, ?s3, ?s4, ?s5, ?s6, ?s7, ?s8, ?s9, ?s10, ?s11, ?s12, ?s13, ?s14, ?s15, trivial⟩ ?hend
              case h0 =>
                simp only [List.setIfInBounds_toArray, List.set_cons_zero, List.set_cons_succ]
                exact ⟨_, _, _, _, _, _, _, _, _, _, _, _, _, _, _, rfl, hid (.inl (Below.drew (Below.refl _ _))), hid (fun h => by cases h), hid (fun h => by cases h), hid (fun h => by cases h), hid (fun h => by cases h), hid (fun h => by cases h), hid (fun h => by cases h), hid (fun h => by cases h), hid (fun h => by cases h), hid (fun h => by cases h), hid (fun h => by cases h), hid (fun h => by cases h), hid (fun h => by cases h), hid (fun h => by cases h), hid (fun h => by cases h), hid (fun h => by cases h), hid (fun h => by cases h), fun h => h, fun h => h, fun h => h, fun h => h, fun h => h, fun h => h, fun h => h, fun h => h, fun h => h, fun h => h, fun h => h, fun h => h, fun h => h, fun h => h, fun h => h⟩
              case s0 =>
                rintro f a1 w1 ⟨u58, u59, u60, u61, u62, u63, u64, u65, u66, u67, u68, u69, u70, u71, u72, rfl, HBW, h0, h1, h2, h3, h4, h5, h6, h7, h8, h9, h10, h11, h12, h13, h14, h15, o15_0, o15_1, o15_2, o15_3, o15_4, o15_5, o15_6, o15_7, o15_8, o15_9, o15_10, o15_11, o15_12, o15_13, o15_14⟩ hf hd K hK
                replace HBW := hid (HBW.out.resolve_right (fun e => absurd (o15_0 e) (by rw [hf]; decide)))
                simp only [List.setIfInBounds_toArray, List.set_cons_zero, List.set_cons_succ] at hK ⊢
                replace hK := hid hK
                go_simp
                exact hK.out _ _ ⟨_, _, _, _, _, _, _, _, _, _, _, _, _, _, _, rfl, hid (.inl (HBW).out), hid (fun h => rfl), hid (fun h => h1.out h), hid (fun h => h2.out h), hid (fun h => h3.out h), hid (fun h => h4.out h), hid (fun h => h5.out h), hid (fun h => h6.out h), hid (fun h => h7.out h), hid (fun h => h8.out h), hid (fun h => h9.out h), hid (fun h => h10.out h), hid (fun h => h11.out h), hid (fun h => h12.out h), hid (fun h => h13.out h), hid (fun h => h14.out h), hid (fun h => absurd (o15_0 h) (by rw [hf]; decide)), fun _ => rfl, fun h => o15_1 h, fun h => o15_2 h, fun h => o15_3 h, fun h => o15_4 h, fun h => o15_5 h, fun h => o15_6 h, fun h => o15_7 h, fun h => o15_8 h, fun h => o15_9 h, fun h => o15_10 h, fun h => o15_11 h, fun h => o15_12 h, fun h => o15_13 h, fun h => o15_14 h⟩
              case s1 =>
                rintro f a1 w1 ⟨u58, u59, u60, u61, u62, u63, u64, u65, u66, u67, u68, u69, u70, u71, u72, rfl, HBW, h0, h1, h2, h3, h4, h5, h6, h7, h8, h9, h10, h11, h12, h13, h14, h15, o15_0, o15_1, o15_2, o15_3, o15_4, o15_5, o15_6, o15_7, o15_8, o15_9, o15_10, o15_11, o15_12, o15_13, o15_14⟩ hf hd K hK
                replace HBW := hid (HBW.out.resolve_right (fun e => absurd (o15_1 e) (by rw [hf]; decide)))
                simp only [List.setIfInBounds_toArray, List.set_cons_zero, List.set_cons_succ] at hK ⊢
                replace hK := hid hK
                go_simp
                exact hK.out _ _ ⟨_, _, _, _, _, _, _, _, _, _, _, _, _, _, _, rfl, hid (.inl (HBW).out), hid (fun h => h0.out h), hid (fun h => rfl), hid (fun h => h2.out h), hid (fun h => h3.out h), hid (fun h => h4.out h), hid (fun h => h5.out h), hid (fun h => h6.out h), hid (fun h => h7.out h), hid (fun h => h8.out h), hid (fun h => h9.out h), hid (fun h => h10.out h), hid (fun h => h11.out h), hid (fun h => h12.out h), hid (fun h => h13.out h), hid (fun h => h14.out h), hid (fun h => absurd (o15_1 h) (by rw [hf]; decide)), fun h => o15_0 h, fun _ => rfl, fun h => o15_2 h, fun h => o15_3 h, fun h => o15_4 h, fun h => o15_5 h, fun h => o15_6 h, fun h => o15_7 h, fun h => o15_8 h, fun h => o15_9 h, fun h => o15_10 h, fun h => o15_11 h, fun h => o15_12 h, fun h => o15_13 h, fun h => o15_14 h⟩
              case s2 =>
                rintro f a1 w1 ⟨u58, u59, u60, u61, u62, u63, u64, u65, u66, u67, u68, u69, u70, u71, u72, rfl, HBW, h0, h1, h2, h3, h4, h5, h6, h7, h8, h9, h10, h11, h12, h13, h14, h15, o15_0, o15_1, o15_2, o15_3, o15_4, o15_5, o15_6, o15_7, o15_8, o15_9, o15_10, o15_11, o15_12, o15_13, o15_14⟩ hf hd K hK
                replace HBW := hid (HBW.out.resolve_right (fun e => absurd (o15_2 e) (by rw [hf]; decide)))
                simp only [List.setIfInBounds_toArray, List.set_cons_zero, List.set_cons_succ] at hK ⊢
                replace hK := hid hK
                go_simp
                exact hK.out _ _ ⟨_, _, _, _, _, _, _, _, _, _, _, _, _, _, _, rfl, hid (.inl (HBW).out), hid (fun h => h0.out h), hid (fun h => h1.out h), hid (fun h => rfl), hid (fun h => h3.out h), hid (fun h => h4.out h), hid (fun h => h5.out h), hid (fun h => h6.out h), hid (fun h => h7.out h), hid (fun h => h8.out h), hid (fun h => h9.out h), hid (fun h => h10.out h), hid (fun h => h11.out h), hid (fun h => h12.out h), hid (fun h => h13.out h), hid (fun h => h14.out h), hid (fun h => absurd (o15_2 h) (by rw [hf]; decide)), fun h => o15_0 h, fun h => o15_1 h, fun _ => rfl, fun h => o15_3 h, fun h => o15_4 h, fun h => o15_5 h, fun h => o15_6 h, fun h => o15_7 h, fun h => o15_8 h, fun h => o15_9 h, fun h => o15_10 h, fun h => o15_11 h, fun h => o15_12 h, fun h => o15_13 h, fun h => o15_14 h⟩
              case s3 =>
                rintro f a1 w1 ⟨u58, u59, u60, u61, u62, u63, u64, u65, u66, u67, u68, u69, u70, u71, u72, rfl, HBW, h0, h1, h2, h3, h4, h5, h6, h7, h8, h9, h10, h11, h12, h13, h14, h15, o15_0, o15_1, o15_2, o15_3, o15_4, o15_5, o15_6, o15_7, o15_8, o15_9, o15_10, o15_11, o15_12, o15_13, o15_14⟩ hf hd K hK
                replace HBW := hid (HBW.out.resolve_right (fun e => absurd (o15_3 e) (by rw [hf]; decide)))
                simp only [List.setIfInBounds_toArray, List.set_cons_zero, List.set_cons_succ] at hK ⊢
                replace hK := hid hK
                simp [Region.binds] at hd
                obtain rfl := h1.out (by simp only [hd])
                obtain rfl := h2.out (by simp only [hd])
                go_simp
                exact hK.out _ _ ⟨_, _, _, _, _, _, _, _, _, _, _, _, _, _, _, rfl, hid (.inl (HBW).out), hid (fun h => h0.out h), hid (fun h => rfl), hid (fun h => rfl), hid (fun h => rfl), hid (fun h => h4.out h), hid (fun h => h5.out h), hid (fun h => h6.out h), hid (fun h => h7.out h), hid (fun h => h8.out h), hid (fun h => h9.out h), hid (fun h => h10.out h), hid (fun h => h11.out h), hid (fun h => h12.out h), hid (fun h => h13.out h), hid (fun h => h14.out h), hid (fun h => absurd (o15_3 h) (by rw [hf]; decide)), fun h => o15_0 h, fun h => o15_1 h, fun h => o15_2 h, fun _ => rfl, fun h => o15_4 h, fun h => o15_5 h, fun h => o15_6 h, fun h => o15_7 h, fun h => o15_8 h, fun h => o15_9 h, fun h => o15_10 h, fun h => o15_11 h, fun h => o15_12 h, fun h => o15_13 h, fun h => o15_14 h⟩
              case s4 =>
                rintro f a1 w1 ⟨u58, u59, u60, u61, u62, u63, u64, u65, u66, u67, u68, u69, u70, u71, u72, rfl, HBW, h0, h1, h2, h3, h4, h5, h6, h7, h8, h9, h10, h11, h12, h13, h14, h15, o15_0, o15_1, o15_2, o15_3, o15_4, o15_5, o15_6, o15_7, o15_8, o15_9, o15_10, o15_11, o15_12, o15_13, o15_14⟩ hf hd K hK
                replace HBW := hid (HBW.out.resolve_right (fun e => absurd (o15_4 e) (by rw [hf]; decide)))
                simp only [List.setIfInBounds_toArray, List.set_cons_zero, List.set_cons_succ] at hK ⊢
                replace hK := hid hK
                go_simp
                exact hK.out _ _ ⟨_, _, _, _, _, _, _, _, _, _, _, _, _, _, _, rfl, hid (.inl (HBW).out), hid (fun h => h0.out h), hid (fun h => h1.out h), hid (fun h => h2.out h), hid (fun h => h3.out h), hid (fun h => rfl), hid (fun h => h5.out h), hid (fun h => h6.out h), hid (fun h => h7.out h), hid (fun h => h8.out h), hid (fun h => h9.out h), hid (fun h => h10.out h), hid (fun h => h11.out h), hid (fun h => h12.out h), hid (fun h => h13.out h), hid (fun h => h14.out h), hid (fun h => absurd (o15_4 h) (by rw [hf]; decide)), fun h => o15_0 h, fun h => o15_1 h, fun h => o15_2 h, fun h => o15_3 h, fun _ => rfl, fun h => o15_5 h, fun h => o15_6 h, fun h => o15_7 h, fun h => o15_8 h, fun h => o15_9 h, fun h => o15_10 h, fun h => o15_11 h, fun h => o15_12 h, fun h => o15_13 h, fun h => o15_14 h⟩
              case s5 =>
                rintro f a1 w1 ⟨u58, u59, u60, u61, u62, u63, u64, u65, u66, u67, u68, u69, u70, u71, u72, rfl, HBW, h0, h1, h2, h3, h4, h5, h6, h7, h8, h9, h10, h11, h12, h13, h14, h15, o15_0, o15_1, o15_2, o15_3, o15_4, o15_5, o15_6, o15_7, o15_8, o15_9, o15_10, o15_11, o15_12, o15_13, o15_14⟩ hf hd K hK
                replace HBW := hid (HBW.out.resolve_right (fun e => absurd (o15_5 e) (by rw [hf]; decide)))
                simp only [List.setIfInBounds_toArray, List.set_cons_zero, List.set_cons_succ] at hK ⊢
                replace hK := hid hK
                go_simp
                exact hK.out _ _ ⟨_, _, _, _, _, _, _, _, _, _, _, _, _, _, _, rfl, hid (.inl (HBW).out), hid (fun h => h0.out h), hid (fun h => h1.out h), hid (fun h => h2.out h), hid (fun h => h3.out h), hid (fun h => h4.out h), hid (fun h => rfl), hid (fun h => h6.out h), hid (fun h => h7.out h), hid (fun h => h8.out h), hid (fun h => h9.out h), hid (fun h => h10.out h), hid (fun h => h11.out h), hid (fun h => h12.out h), hid (fun h => h13.out h), hid (fun h => h14.out h), hid (fun h => absurd (o15_5 h) (by rw [hf]; decide)), fun h => o15_0 h, fun h => o15_1 h, fun h => o15_2 h, fun h => o15_3 h, fun h => o15_4 h, fun _ => rfl, fun h => o15_6 h, fun h => o15_7 h, fun h => o15_8 h, fun h => o15_9 h, fun h => o15_10 h, fun h => o15_11 h, fun h => o15_12 h, fun h => o15_13 h, fun h => o15_14 h⟩
              case s6 =>
                rintro f a1 w1 ⟨u58, u59, u60, u61, u62, u63, u64, u65, u66, u67, u68, u69, u70, u71, u72, rfl, HBW, h0, h1, h2, h3, h4, h5, h6, h7, h8, h9, h10, h11, h12, h13, h14, h15, o15_0, o15_1, o15_2, o15_3, o15_4, o15_5, o15_6, o15_7, o15_8, o15_9, o15_10, o15_11, o15_12, o15_13, o15_14⟩ hf hd K hK
                replace HBW := hid (HBW.out.resolve_right (fun e => absurd (o15_6 e) (by rw [hf]; decide)))
                simp only [List.setIfInBounds_toArray, List.set_cons_zero, List.set_cons_succ] at hK ⊢
                replace hK := hid hK
                go_simp
                exact hK.out _ _ ⟨_, _, _, _, _, _, _, _, _, _, _, _, _, _, _, rfl, hid (.inl (HBW).out), hid (fun h => h0.out h), hid (fun h => h1.out h), hid (fun h => h2.out h), hid (fun h => h3.out h), hid (fun h => h4.out h), hid (fun h => h5.out h), hid (fun h => rfl), hid (fun h => h7.out h), hid (fun h => h8.out h), hid (fun h => h9.out h), hid (fun h => h10.out h), hid (fun h => h11.out h), hid (fun h => h12.out h), hid (fun h => h13.out h), hid (fun h => h14.out h), hid (fun h => absurd (o15_6 h) (by rw [hf]; decide)), fun h => o15_0 h, fun h => o15_1 h, fun h => o15_2 h, fun h => o15_3 h, fun h => o15_4 h, fun h => o15_5 h, fun _ => rfl, fun h => o15_7 h, fun h => o15_8 h, fun h => o15_9 h, fun h => o15_10 h, fun h => o15_11 h, fun h => o15_12 h, fun h => o15_13 h, fun h => o15_14 h⟩
              case s7 =>
                rintro f a1 w1 ⟨u58, u59, u60, u61, u62, u63, u64, u65, u66, u67, u68, u69, u70, u71, u72, rfl, HBW, h0, h1, h2, h3, h4, h5, h6, h7, h8, h9, h10, h11, h12, h13, h14, h15, o15_0, o15_1, o15_2, o15_3, o15_4, o15_5, o15_6, o15_7, o15_8, o15_9, o15_10, o15_11, o15_12, o15_13, o15_14⟩ hf hd K hK
                replace HBW := hid (HBW.out.resolve_right (fun e => absurd (o15_7 e) (by rw [hf]; decide)))
                simp only [List.setIfInBounds_toArray, List.set_cons_zero, List.set_cons_succ] at hK ⊢
                replace hK := hid hK
                simp [Region.binds] at hd
                obtain rfl := h5.out (by simp only [hd])
                obtain rfl := h6.out (by simp only [hd])
                go_simp
                exact hK.out _ _ ⟨_, _, _, _, _, _, _, _, _, _, _, _, _, _, _, rfl, hid (.inl (HBW).out), hid (fun h => h0.out h), hid (fun h => h1.out h), hid (fun h => h2.out h), hid (fun h => h3.out h), hid (fun h => h4.out h), hid (fun h => rfl), hid (fun h => rfl), hid (fun h => rfl), hid (fun h => h8.out h), hid (fun h => h9.out h), hid (fun h => h10.out h), hid (fun h => h11.out h), hid (fun h => h12.out h), hid (fun h => h13.out h), hid (fun h => h14.out h), hid (fun h => absurd (o15_7 h) (by rw [hf]; decide)), fun h => o15_0 h, fun h => o15_1 h, fun h => o15_2 h, fun h => o15_3 h, fun h => o15_4 h, fun h => o15_5 h, fun h => o15_6 h, fun _ => rfl, fun h => o15_8 h, fun h => o15_9 h, fun h => o15_10 h, fun h => o15_11 h, fun h => o15_12 h, fun h => o15_13 h, fun h => o15_14 h⟩
              case s8 =>
                rintro f a1 w1 ⟨u58, u59, u60, u61, u62, u63, u64, u65, u66, u67, u68, u69, u70, u71, u72, rfl, HBW, h0, h1, h2, h3, h4, h5, h6, h7, h8, h9, h10, h11, h12, h13, h14, h15, o15_0, o15_1, o15_2, o15_3, o15_4, o15_5, o15_6, o15_7, o15_8, o15_9, o15_10, o15_11, o15_12, o15_13, o15_14⟩ hf hd K hK
                replace HBW := hid (HBW.out.resolve_right (fun e => absurd (o15_8 e) (by rw [hf]; decide)))
                simp only [List.setIfInBounds_toArray, List.set_cons_zero, List.set_cons_succ] at hK ⊢
                replace hK := hid hK
                simp [Region.binds] at hd
                obtain rfl := h4.out (by simp only [hd])
                obtain rfl := h7.out (by simp only [hd])
                go_simp
                exact hK.out _ _ ⟨_, _, _, _, _, _, _, _, _, _, _, _, _, _, _, rfl, hid (.inl (HBW).out), hid (fun h => h0.out h), hid (fun h => h1.out h), hid (fun h => h2.out h), hid (fun h => h3.out h), hid (fun h => rfl), hid (fun h => h5.out h), hid (fun h => h6.out h), hid (fun h => rfl), hid (fun h => rfl), hid (fun h => h9.out h), hid (fun h => h10.out h), hid (fun h => h11.out h), hid (fun h => h12.out h), hid (fun h => h13.out h), hid (fun h => h14.out h), hid (fun h => absurd (o15_8 h) (by rw [hf]; decide)), fun h => o15_0 h, fun h => o15_1 h, fun h => o15_2 h, fun h => o15_3 h, fun h => o15_4 h, fun h => o15_5 h, fun h => o15_6 h, fun h => o15_7 h, fun _ => rfl, fun h => o15_9 h, fun h => o15_10 h, fun h => o15_11 h, fun h => o15_12 h, fun h => o15_13 h, fun h => o15_14 h⟩
              case s9 =>
                rintro f a1 w1 ⟨u58, u59, u60, u61, u62, u63, u64, u65, u66, u67, u68, u69, u70, u71, u72, rfl, HBW, h0, h1, h2, h3, h4, h5, h6, h7, h8, h9, h10, h11, h12, h13, h14, h15, o15_0, o15_1, o15_2, o15_3, o15_4, o15_5, o15_6, o15_7, o15_8, o15_9, o15_10, o15_11, o15_12, o15_13, o15_14⟩ hf hd K hK
                replace HBW := hid (HBW.out.resolve_right (fun e => absurd (o15_9 e) (by rw [hf]; decide)))
                simp only [List.setIfInBounds_toArray, List.set_cons_zero, List.set_cons_succ] at hK ⊢
                replace hK := hid hK
                simp [Region.binds] at hd
                obtain rfl := h8.out (by simp only [hd])
                obtain ⟨y1, y2⟩ := (ROW.out.on HBW.out).cells hkn
                rw [hz8] at y1 y2
                go_simp
                exact hK.out _ _ ⟨_, _, _, _, _, _, _, _, _, _, _, _, _, _, _, rfl, hid (.inl (HBW).out), hid (fun h => h0.out h), hid (fun h => h1.out h), hid (fun h => h2.out h), hid (fun h => h3.out h), hid (fun h => h4.out h), hid (fun h => h5.out h), hid (fun h => h6.out h), hid (fun h => h7.out h), hid (fun h => rfl), hid (fun h => rfl), hid (fun h => h10.out h), hid (fun h => h11.out h), hid (fun h => h12.out h), hid (fun h => h13.out h), hid (fun h => h14.out h), hid (fun h => absurd (o15_9 h) (by rw [hf]; decide)), fun h => o15_0 h, fun h => o15_1 h, fun h => o15_2 h, fun h => o15_3 h, fun h => o15_4 h, fun h => o15_5 h, fun h => o15_6 h, fun h => o15_7 h, fun h => o15_8 h, fun _ => rfl, fun h => o15_10 h, fun h => o15_11 h, fun h => o15_12 h, fun h => o15_13 h, fun h => o15_14 h⟩
              case s10 =>
                rintro f a1 w1 ⟨u58, u59, u60, u61, u62, u63, u64, u65, u66, u67, u68, u69, u70, u71, u72, rfl, HBW, h0, h1, h2, h3, h4, h5, h6, h7, h8, h9, h10, h11, h12, h13, h14, h15, o15_0, o15_1, o15_2, o15_3, o15_4, o15_5, o15_6, o15_7, o15_8, o15_9, o15_10, o15_11, o15_12, o15_13, o15_14⟩ hf hd K hK
                replace HBW := hid (HBW.out.resolve_right (fun e => absurd (o15_10 e) (by rw [hf]; decide)))
                simp only [List.setIfInBounds_toArray, List.set_cons_zero, List.set_cons_succ] at hK ⊢
                replace hK := hid hK
                obtain ⟨y1, y2⟩ := (X7.out.below HBW.out X7.out.lt).both
                go_simp
                exact hK.out _ _ ⟨_, _, _, _, _, _, _, _, _, _, _, _, _, _, _, rfl, hid (.inl (HBW).out), hid (fun h => h0.out h), hid (fun h => h1.out h), hid (fun h => h2.out h), hid (fun h => h3.out h), hid (fun h => h4.out h), hid (fun h => h5.out h), hid (fun h => h6.out h), hid (fun h => h7.out h), hid (fun h => h8.out h), hid (fun h => h9.out h), hid (fun h => rfl), hid (fun h => h11.out h), hid (fun h => h12.out h), hid (fun h => h13.out h), hid (fun h => h14.out h), hid (fun h => absurd (o15_10 h) (by rw [hf]; decide)), fun h => o15_0 h, fun h => o15_1 h, fun h => o15_2 h, fun h => o15_3 h, fun h => o15_4 h, fun h => o15_5 h, fun h => o15_6 h, fun h => o15_7 h, fun h => o15_8 h, fun h => o15_9 h, fun _ => rfl, fun h => o15_11 h, fun h => o15_12 h, fun h => o15_13 h, fun h => o15_14 h⟩
              case s11 =>
                rintro f a1 w1 ⟨u58, u59, u60, u61, u62, u63, u64, u65, u66, u67, u68, u69, u70, u71, u72, rfl, HBW, h0, h1, h2, h3, h4, h5, h6, h7, h8, h9, h10, h11, h12, h13, h14, h15, o15_0, o15_1, o15_2, o15_3, o15_4, o15_5, o15_6, o15_7, o15_8, o15_9, o15_10, o15_11, o15_12, o15_13, o15_14⟩ hf hd K hK
                replace HBW := hid (HBW.out.resolve_right (fun e => absurd (o15_11 e) (by rw [hf]; decide)))
                simp only [List.setIfInBounds_toArray, List.set_cons_zero, List.set_cons_succ] at hK ⊢
                replace hK := hid hK
                obtain ⟨y1, y2⟩ := (X12.out.below HBW.out X12.out.lt).both
                go_simp
                exact hK.out _ _ ⟨_, _, _, _, _, _, _, _, _, _, _, _, _, _, _, rfl, hid (.inl (HBW).out), hid (fun h => h0.out h), hid (fun h => h1.out h), hid (fun h => h2.out h), hid (fun h => h3.out h), hid (fun h => h4.out h), hid (fun h => h5.out h), hid (fun h => h6.out h), hid (fun h => h7.out h), hid (fun h => h8.out h), hid (fun h => h9.out h), hid (fun h => h10.out h), hid (fun h => rfl), hid (fun h => h12.out h), hid (fun h => h13.out h), hid (fun h => h14.out h), hid (fun h => absurd (o15_11 h) (by rw [hf]; decide)), fun h => o15_0 h, fun h => o15_1 h, fun h => o15_2 h, fun h => o15_3 h, fun h => o15_4 h, fun h => o15_5 h, fun h => o15_6 h, fun h => o15_7 h, fun h => o15_8 h, fun h => o15_9 h, fun h => o15_10 h, fun _ => rfl, fun h => o15_12 h, fun h => o15_13 h, fun h => o15_14 h⟩
              case s12 =>
                rintro f a1 w1 ⟨u58, u59, u60, u61, u62, u63, u64, u65, u66, u67, u68, u69, u70, u71, u72, rfl, HBW, h0, h1, h2, h3, h4, h5, h6, h7, h8, h9, h10, h11, h12, h13, h14, h15, o15_0, o15_1, o15_2, o15_3, o15_4, o15_5, o15_6, o15_7, o15_8, o15_9, o15_10, o15_11, o15_12, o15_13, o15_14⟩ hf hd K hK
                replace HBW := hid (HBW.out.resolve_right (fun e => absurd (o15_12 e) (by rw [hf]; decide)))
                simp only [List.setIfInBounds_toArray, List.set_cons_zero, List.set_cons_succ] at hK ⊢
                replace hK := hid hK
                simp [Region.binds] at hd
                obtain rfl := h10.out (by simp only [hd])
                obtain rfl := h11.out (by simp only [hd])
                go_simp
                refine (zmul_f (HT.out.on HBW.out) (HC.out.on HBW.out) (HS.out (sf + d)) (SLQ.out i) (by have := HLE.out; omega) (by have := HLE.out; omega)).mono ?_
                rintro e w2 ⟨v, rfl, hv, hb⟩
                go_wp2_with fail
                exact hK.out _ _ ⟨_, _, _, _, _, _, _, _, _, _, _, _, _, _, _, rfl, hid (.inl (hid (below_next HBW.out hb)).out), hid (fun h => h0.out h), hid (fun h => h1.out h), hid (fun h => h2.out h), hid (fun h => h3.out h), hid (fun h => h4.out h), hid (fun h => h5.out h), hid (fun h => h6.out h), hid (fun h => h7.out h), hid (fun h => h8.out h), hid (fun h => h9.out h), hid (fun h => rfl), hid (fun h => rfl), hid (fun h => .inl hv), hid (fun h => (h13.out h).imp (fun h => h.on hb) id), hid (fun h => h14.out h), hid (fun h => absurd (o15_12 h) (by rw [hf]; decide)), fun h => o15_0 h, fun h => o15_1 h, fun h => o15_2 h, fun h => o15_3 h, fun h => o15_4 h, fun h => o15_5 h, fun h => o15_6 h, fun h => o15_7 h, fun h => o15_8 h, fun h => o15_9 h, fun h => o15_10 h, fun h => o15_11 h, fun _ => rfl, fun h => o15_13 h, fun h => o15_14 h⟩
              case s13 =>
                rintro f a1 w1 ⟨u58, u59, u60, u61, u62, u63, u64, u65, u66, u67, u68, u69, u70, u71, u72, rfl, HBW, h0, h1, h2, h3, h4, h5, h6, h7, h8, h9, h10, h11, h12, h13, h14, h15, o15_0, o15_1, o15_2, o15_3, o15_4, o15_5, o15_6, o15_7, o15_8, o15_9, o15_10, o15_11, o15_12, o15_13, o15_14⟩ hf hd K hK
                replace HBW := hid (HBW.out.resolve_right (fun e => absurd (o15_13 e) (by rw [hf]; decide)))
                simp only [List.setIfInBounds_toArray, List.set_cons_zero, List.set_cons_succ] at hK ⊢
                replace hK := hid hK
                simp [Region.binds] at hd
                obtain rfl := h9.out (by simp only [hd])
                have NF : f 15 = false := by cases e : f 15 with | false => rfl | true => exact absurd (o15_13 e) (by rw [hf]; decide)
                have h12a := (h12.out (by simp only [hd])).resolve_right (fun e => by rw [NF] at e; cases e)
                go_simp
                refine (zsub_f (HS2.out.on HBW.out) h12a ((HS.out (sf + i)).mul (SLQ.out d)) ((HS.out (sf + d)).mul (SLQ.out i)) (by have := HLE.out; omega) (by have := HLE.out; omega)).mono ?_
                rintro e w2 ⟨v, rfl, hv, hb⟩
                go_wp2_with fail
                exact hK.out _ _ ⟨_, _, _, _, _, _, _, _, _, _, _, _, _, _, _, rfl, hid (.inl (hid (below_next HBW.out hb)).out), hid (fun h => h0.out h), hid (fun h => h1.out h), hid (fun h => h2.out h), hid (fun h => h3.out h), hid (fun h => h4.out h), hid (fun h => h5.out h), hid (fun h => h6.out h), hid (fun h => h7.out h), hid (fun h => h8.out h), hid (fun h => rfl), hid (fun h => h10.out h), hid (fun h => h11.out h), hid (fun h => (h12.out h).imp (fun h => h.on hb) id), hid (fun h => .inl hv), hid (fun h => h14.out h), hid (fun h => absurd (o15_13 h) (by rw [hf]; decide)), fun h => o15_0 h, fun h => o15_1 h, fun h => o15_2 h, fun h => o15_3 h, fun h => o15_4 h, fun h => o15_5 h, fun h => o15_6 h, fun h => o15_7 h, fun h => o15_8 h, fun h => o15_9 h, fun h => o15_10 h, fun h => o15_11 h, fun h => o15_12 h, fun _ => rfl, fun h => o15_14 h⟩
              case s14 =>
                rintro f a1 w1 ⟨u58, u59, u60, u61, u62, u63, u64, u65, u66, u67, u68, u69, u70, u71, u72, rfl, HBW, h0, h1, h2, h3, h4, h5, h6, h7, h8, h9, h10, h11, h12, h13, h14, h15, o15_0, o15_1, o15_2, o15_3, o15_4, o15_5, o15_6, o15_7, o15_8, o15_9, o15_10, o15_11, o15_12, o15_13, o15_14⟩ hf hd K hK
                replace HBW := hid (HBW.out.resolve_right (fun e => absurd (o15_14 e) (by rw [hf]; decide)))
                simp only [List.setIfInBounds_toArray, List.set_cons_zero, List.set_cons_succ] at hK ⊢
                replace hK := hid hK
                simp [Region.binds] at hd
                obtain rfl := h0.out (by simp only [hd])
                obtain rfl := h3.out (by simp only [hd])
                go_simp
                exact hK.out _ _ ⟨_, _, _, _, _, _, _, _, _, _, _, _, _, _, _, rfl, hid (.inl (HBW).out), hid (fun h => rfl), hid (fun h => h1.out h), hid (fun h => h2.out h), hid (fun h => rfl), hid (fun h => h4.out h), hid (fun h => h5.out h), hid (fun h => h6.out h), hid (fun h => h7.out h), hid (fun h => h8.out h), hid (fun h => h9.out h), hid (fun h => h10.out h), hid (fun h => h11.out h), hid (fun h => h12.out h), hid (fun h => h13.out h), hid (fun h => rfl), hid (fun h => absurd (o15_14 h) (by rw [hf]; decide)), fun h => o15_0 h, fun h => o15_1 h, fun h => o15_2 h, fun h => o15_3 h, fun h => o15_4 h, fun h => o15_5 h, fun h => o15_6 h, fun h => o15_7 h, fun h => o15_8 h, fun h => o15_9 h, fun h => o15_10 h, fun h => o15_11 h, fun h => o15_12 h, fun h => o15_13 h, fun _ => rfl⟩
              case s15 =>
                rintro f a1 w1 ⟨u58, u59, u60, u61, u62, u63, u64, u65, u66, u67, u68, u69, u70, u71, u72, rfl, HBW, h0, h1, h2, h3, h4, h5, h6, h7, h8, h9, h10, h11, h12, h13, h14, h15, o15_0, o15_1, o15_2, o15_3, o15_4, o15_5, o15_6, o15_7, o15_8, o15_9, o15_10, o15_11, o15_12, o15_13, o15_14⟩ hf hd K hK
                replace HBW := hid (HBW.out.resolve_right (fun e => by rw [hf] at e; cases e))
                simp only [List.setIfInBounds_toArray, List.set_cons_zero, List.set_cons_succ] at hK ⊢
                replace hK := hid hK
                simp [Region.binds] at hd
                have h13a := (h13.out (by simp only [hd])).resolve_right (fun e => by rw [hf] at e; cases e)
                obtain rfl := h14.out (by simp only [hd])
                obtain ⟨s4, p4, n4, c4, rfl⟩ := h13a.opened
                obtain ⟨⟨y1, y2⟩, y3, y4⟩ := (ROW.out.on HBW.out).stores hkn
                go_simp
                exact hK.out _ _ ⟨_, _, _, _, _, _, _, _, _, _, _, _, _, _, _, rfl, hid (.inr rfl), hid (fun h => h0.out h), hid (fun h => h1.out h), hid (fun h => h2.out h), hid (fun h => h3.out h), hid (fun h => h4.out h), hid (fun h => h5.out h), hid (fun h => h6.out h), hid (fun h => h7.out h), hid (fun h => h8.out h), hid (fun h => h9.out h), hid (fun h => h10.out h), hid (fun h => h11.out h), hid (fun h => .inr rfl), hid (fun h => .inr rfl), hid (fun h => rfl), hid (fun h => ⟨_, _, _, _, _, HBW.out, h13a, rfl⟩), fun _ => (show f 0 = true from by simp only [hd]), fun _ => (show f 1 = true from by simp only [hd]), fun _ => (show f 2 = true from by simp only [hd]), fun _ => (show f 3 = true from by simp only [hd]), fun _ => (show f 4 = true from by simp only [hd]), fun _ => (show f 5 = true from by simp only [hd]), fun _ => (show f 6 = true from by simp only [hd]), fun _ => (show f 7 = true from by simp only [hd]), fun _ => (show f 8 = true from by simp only [hd]), fun _ => (show f 9 = true from by simp only [hd]), fun _ => (show f 10 = true from by simp only [hd]), fun _ => (show f 11 = true from by simp only [hd]), fun _ => (show f 12 = true from by simp only [hd]), fun _ => (show f 13 = true from by simp only [hd]), fun _ => (show f 14 = true from by simp only [hd])⟩
              case hend =>
                rintro f a1 w' ⟨u58, u59, u60, u61, u62, u63, u64, u65, u66, u67, u68, u69, u70, u71, u72, rfl, HBW, h0, h1, h2, h3, h4, h5, h6, h7, h8, h9, h10, h11, h12, h13, h14, h15, _⟩ hall
                simp only [List.setIfInBounds_toArray, List.set_cons_zero, List.set_cons_succ]
                obtain ⟨w2, s4, p4, n4, c4, hb, hv, rfl⟩ := h15.out (hall 15 (by decide))
                clear HBW hall h0 h1 h2 h3 h4 h5 h6 h7 h8 h9 h10 h11 h12 h13 h14 h15
                replace X6 := bx X6 hb
                replace X7 := bx X7 hb
                replace HLD := zf HLD hb
                replace HT := zf HT hb
                replace ROW := rwi ROW hb
                replace HW := hid (fun q_ hq_ => (HW.out q_ hq_).on hb)
                replace B := bb B hb
                have HX := hid hv
                clear hb hv
                have cc501 := ROW.out.stores hkn
                replace X6 := hid (X6.out.kept (ROW.out.far (sf + i) (by have := HB.out; have := L06.out; have := L67.out; omega) s4 p4 n4 c4))
                replace X7 := hid (X7.out.kept (ROW.out.far (sf + i) (by have := HB.out; have := L06.out; have := L67.out; omega) s4 p4 n4 c4))
                replace HLD := hid (HLD.out.iput ROW.out (sf + i) s4 p4 n4 c4)
                replace HT := hid (HT.out.iput ROW.out (sf + i) s4 p4 n4 c4)
                replace HX := hid (HX.out.iput ROW.out (sf + i) s4 p4 n4 c4)
                replace HW := hid (fun q_ hq_ => (HW.out q_ hq_).iput ROW.out (sf + i) s4 p4 n4 c4)
                replace B := hid (ROW.out.below B.out (sf + i) (by have := HB.out; have := L06.out; have := L67.out; omega) s4 p4 n4 c4)
                replace ROW := hid (ROW.out.put hkn s4 p4 n4 c4)
                go_wp2_with fail
                go_roundw
                case rel => exact ⟨i + 1, _, by omega, by go_num, ROW, hid (fun t ht => by
                    by_cases e : t = sf + i
                    · subst e; rw [upi_self, ofi_next]; exact HX.out
                    · rw [upi_ne _ _ e, ofi_ne _ _ _ _ e]; exact HW.out t ht), X6, HLD, X7, HT, B⟩
                case measure => simp [intOf]; omega
            · obtain rfl : i = d + 1 := by omega
              have HZ0 : ∀ i, d + 1 ≤ i → zc lq i = 0 := fun i hi => zc_ge (by rw [HDL.out]; exact hi)
              go_wp2_with fail
              go_roundw
              case rel => exact ⟨sf + d, e + 1, rs, scmb (zc lq d) R (-(R (sf + d))) (ssh sf (zc lq)), by omega, by omega, by first | rfl | (congr 1; omega), hid (HR.out.snoc _ sf (by omega)), hid (fun t ht => by
                  rw [← ofi_all R (zc lq d) (R (sf + d)) (zc lq) HZ0 t]
                  unfold ofi
                  by_cases h : t = sf + d
                  · subst h
                    rw [if_pos (by omega), Nat.add_sub_cancel_left]; grind
                  · rw [if_neg (by omega), HR0.out t (by omega)]; omega), hid (fun t => by
                  rw [← ofi_all R (zc lq d) (R (sf + d)) (zc lq) HZ0 t]
                  have e1 : m + (e + 1) * (n + 1) = m + e * (n + 1) + n + 1 := by rw [Nat.succ_mul]; omega
                  rw [e1]
                  unfold ofi
                  split
                  · exact ((HS.out t).mul (SLQ.out d)).sub ((HS.out (sf + d)).mul (SLQ.out _))
                  · exact ((HS.out t).mul (SLQ.out d)).mono (by omega)), ROW, hid (fun t ht => (HW.out t (by omega)).cast (ofi_all _ _ _ _ HZ0 t)), X6, HLD, B⟩
              case measure => simp [sln] <;> omega
    · obtain rfl : k = d := by omega
      have HP2 : Hid (IN wr (.slice (some ⟨b0, 0, none⟩) k c1) (zlf k R)) := hid ((ROW.out.less (show k ≤ np by omega)).inn (zlf_len _ _) (by omega) (by unfold maxLen; omega) (fun t ht => (HW.out t ht).cast (zc_zlf HR0.out t).symm))
      have HT := hid (ztrim_in HP2.out)
      go_wp2_with fail
      refine HT.out.mono ?_
      rintro e1 w2 ⟨k2, rfl, hk2, hz2, ht2, hb⟩
      have HK := hid hz2
      have HK2 := hid ht2
      have HI := hid ((HP2.out.take (show k2 ≤ _ by rw [zlf_len]; exact hk2)).on hb)
      replace B := bb B hb
      clear hz2 ht2 hb HT
      go_wp2_with fail
      go_ret
      have hzr : ∀ t, zc ((zlf k R).take k2) t = R t := fun t => by
        by_cases h : t < k2
        · rw [zc_take h, zc_zlf HR0.out]
        · rw [zc_ge (by rw [List.length_take, zlf_len]; omega), ← HK.out t (by omega), zc_zlf HR0.out]
      have hzf : zc ((zlf k R).take k2) = R := funext hzr
      have hlen : ((zlf k R).take k2).length = k2 := by rw [List.length_take, zlf_len]; omega
      have hee : e = np - (k + 1) + 1 := by omega
      refine ⟨_, _, rfl, HI.out, ?_, by rw [hlen]; exact hk2, by rw [hzf, ← hee]; exact HR.out, fun t => by rw [hzr, ← hee]; exact HS.out t, B.out⟩
      rcases HK2.out with h | h
      · exact .inl (List.length_eq_zero_iff.1 (by rw [hlen]; exact h))
      · refine .inr ?_
        rw [hlen, hzr, ← zc_zlf HR0.out]; exact h

end Go.Proofs.YtokojbgpboccnaaGreat

/-
  PACKAGE pgcd: divided.
-/
namespace Go.Proofs.YtokojbgpboccnaaGreat
open Go.RowKit
open Num
set_option linter.unusedVariables false
set_option maxRecDepth 100000
set_option linter.unusedSimpArgs false

set_option maxHeartbeats 1000000 in
/-- How often one goes into another one. -/
theorem zdivd_f {w : World} {v u : Value} {z y : Int} {m n : Nat} (h : ZF w v z) (h' : ZF w u y) (h0 : y ≠ 0) (hz : Zm z m) (hy : Zm y n) (hm : m ≤ 68719476736) (hn : n ≤ 68719476736) :
    Calls Tryz.prog 97 #[v, u] w fun e w' => ∃ v, e = .returned v ∧ ZF w' v (z / y) ∧ Below w.heap.size w w' := by
  obtain ⟨s1, p1, n1, c1, rfl⟩ := h.opened
  obtain ⟨s2, p2, n2, c2, rfl⟩ := h'.opened
  have H0 := hid h0
  have HZ := hid hz
  have HY := hid hy
  have HM := hid hm
  have HN := hid hn
  have HA := hid h
  have HB := hid h'
  have B := hid (Below.refl w.heap.size w)
  obtain ⟨hb1, hx2, hs3⟩ := Box.made w s1 p1 n1 c1
  replace HA := zf HA hb1
  replace HB := zf HB hb1
  replace B := bb B hb1
  have X1 := hid hx2
  clear hb1 hx2
  obtain ⟨hb4, hx5, hs6⟩ := Box.made (w.alloc (.cells #[.bool s1, .slice p1 n1 c1] 41)) s2 p2 n2 c2
  rw [hs3] at hx5 hs6
  replace X1 := bx X1 hb4
  replace HA := zf HA hb4
  replace HB := zf HB hb4
  replace B := bb B hb4
  have X2 := hid hx5
  clear hb4 hx5
  obtain ⟨hb7, hx8, hs9⟩ := Box.made ((w.alloc (.cells #[.bool s1, .slice p1 n1 c1] 41)).alloc (.cells #[.bool s2, .slice p2 n2 c2] 41)) false none 0 0
  rw [hs6] at hx8 hs9
  replace X1 := bx X1 hb7
  replace X2 := bx X2 hb7
  replace HA := zf HA hb7
  replace HB := zf HB hb7
  replace B := bb B hb7
  have XQ := hid hx8
  clear hb7 hx8
  clear hs9 h h' h0 hz hy hm hn
  go_enter Tryz.func97, Tryz.ntmps97
  have cc10 := X1.out.both
  have cc11 := X2.out.both
  have cc12 := XQ.out.both
  go_wp2_with fail
  generalize hW : ((w.alloc (.cells #[.bool s1, .slice p1 n1 c1] 41)).alloc (.cells #[.bool s2, .slice p2 n2 c2] 41)).alloc (.cells #[.bool false, .slice none 0 0] 41) = W13 at *
  clear hW
  refine (zdiv_f HA.out HB.out H0.out HZ.out HY.out HM.out HN.out).mono ?_
  rintro e w14 ⟨v, u, rfl, hv, hu, hb⟩
  obtain ⟨s3, p3, n3, c3, rfl⟩ := hv.opened
  obtain ⟨s4, p4, n4, c4, rfl⟩ := hu.opened
  replace X1 := bx X1 hb
  replace X2 := bx X2 hb
  replace XQ := bx XQ hb
  replace HA := zf HA hb
  replace HB := zf HB hb
  replace B := bb B hb
  clear cc10 cc11 cc12
  have HV := hid hv
  clear hb hv hu
  obtain ⟨hb15, hx16, hs17⟩ := Box.made w14 s3 p3 n3 c3
  have L0 := hid XQ.out.lt
  replace X1 := bx X1 hb15
  replace X2 := bx X2 hb15
  replace XQ := bx XQ hb15
  replace HA := zf HA hb15
  replace HB := zf HB hb15
  replace HV := zf HV hb15
  replace B := bb B hb15
  have X5 := hid hx16
  clear hb15 hx16
  obtain ⟨hb18, hx19, hs20⟩ := Box.made (w14.alloc (.cells #[.bool s3, .slice p3 n3 c3] 41)) s4 p4 n4 c4
  rw [hs17] at hx19 hs20
  replace X1 := bx X1 hb18
  replace X2 := bx X2 hb18
  replace XQ := bx XQ hb18
  replace X5 := bx X5 hb18
  replace HA := zf HA hb18
  replace HB := zf HB hb18
  replace HV := zf HV hb18
  replace B := bb B hb18
  have X6 := hid hx19
  clear hb18 hx19
  have cc21 := X1.out.both
  have cc22 := X2.out.both
  have cc23 := XQ.out.both
  have cc24 := X5.out.both
  have cc25 := X6.out.both
  have cc26 := XQ.out.stores
  obtain ⟨r27a, r27b, r27c⟩ := XQ.out.last B.out (by have := L0.out; omega) s3 p3 n3 c3
  replace X1 := hid (X1.out.kept (heap2 (g := w.heap.size + 1 + 1) (by have := L0.out; omega) (.bool s3) (.slice p3 n3 c3)))
  replace X2 := hid (X2.out.kept (heap2 (g := w.heap.size + 1 + 1) (by have := L0.out; omega) (.bool s3) (.slice p3 n3 c3)))
  replace X5 := hid (X5.out.kept (heap2 (g := w.heap.size + 1 + 1) (by have := L0.out; omega) (.bool s3) (.slice p3 n3 c3)))
  replace X6 := hid (X6.out.kept (heap2 (g := w.heap.size + 1 + 1) (by have := L0.out; omega) (.bool s3) (.slice p3 n3 c3)))
  replace HA := hid (HA.out.moved fun _ _ _ hv => r27c hv)
  replace HB := hid (HB.out.moved fun _ _ _ hv => r27c hv)
  replace HV := hid (HV.out.moved fun _ _ _ hv => r27c hv)
  replace XQ := hid r27a
  replace B := hid r27b
  clear r27a r27b r27c
  go_wp2_with fail
  refine bodyPost_ret (res_one rfl rfl XQ.out) rfl ?_
  exact ⟨_, rfl, HV.out, B.out⟩

end Go.Proofs.YtokojbgpboccnaaGreat

/-
  PACKAGE pgcd: over, polynomial.
-/
namespace Go.Proofs.YtokojbgpboccnaaGreat
open Go.RowKit
open Num
set_option linter.unusedVariables false
set_option maxRecDepth 100000
set_option linter.unusedSimpArgs false

theorem zc_map (f : Int → Int) (h : f 0 = 0) (l : List Int) (i : Nat) : zc (l.map f) i = f (zc l i) := by
  unfold zc
  rw [List.getElem?_map]
  cases l[i]? <;> simp [h]
theorem zwhole_f {w : World} {v : Value} {z : Int} (h : ZF w v z) :
    Calls Tryz.prog 33 #[v] w fun e w' => ∃ v, e = .returned v ∧ NF w' v (z : Rat) ∧ Below w.heap.size w w' := by
  obtain ⟨k, h⟩ := h
  refine (wholeq h).mono ?_
  rintro e w' ⟨v, rfl, hv, hb⟩
  exact ⟨v, rfl, hv.nf, hb⟩

set_option maxHeartbeats 2000000 in
/-- Each of them divided. -/
theorem zover_p {w : World} {v u : Value} {l : List Int} {d : Int} {m n : Nat} (h : IN w v l) (hd : ZF w u d) (h0 : d ≠ 0) (hs : Zl l m) (hd' : Zm d n) (hm : m ≤ 68719476736) (hn : n ≤ 68719476736) (hl : l.length ≤ 1000000) :
    Calls Tryz.prog 95 #[v, u] w fun e w' => ∃ v', e = .returned v' ∧ IN w' v' (l.map (· / d)) ∧ (∀ g, v'.ownBlock = some g → w.heap.size ≤ g) ∧ Below w.heap.size w w' := by
  obtain ⟨a, c, rfl, hn1, hc1⟩ := h.opened
  obtain ⟨s1, p1, n1, c1, rfl⟩ := hd.opened
  have HP := hid h
  have HD := hid hd
  have H0 := hid h0
  have SL := hid hs
  have SD := hid hd'
  have HM := hid hm
  have HN := hid hn
  obtain ⟨nl, hNL⟩ : ∃ nl, l.length = nl := ⟨_, rfl⟩
  have NL := hid hNL
  rw [hNL] at hn1 hl HP ⊢
  unfold maxLen at hc1
  have B := hid (Below.refl w.heap.size w)
  obtain ⟨hb1, hx2, hs3⟩ := Box.made w s1 p1 n1 c1
  replace HD := zf HD hb1
  replace B := bb B hb1
  have X3 := hid hx2
  clear hb1 hx2
  have HSZ := hid hs3
  clear hs3 h hd h0 hs hd' hm hn hNL
  go_enter Tryz.func95, Tryz.ntmps95
  have cc4 := X3.out.both
  have HB := hid B.out.size
  have LX := hid X3.out.lt
  go_wp2_with (refine wpList_make_is _ rfl _ _ _ rfl Tryz.underlying103 nl rfl rfl (by omega) ?_)
  intro w0 hrow hb0 hs0
  generalize hW : w.alloc (.cells #[.bool s1, .slice p1 n1 c1] 41) = W5 at *
  clear hW
  rw [← HSZ.out] at hrow hb0 hs0 ⊢
  clear HSZ
  replace X3 := bx X3 hb0
  replace HD := zf HD hb0
  replace B := bb B hb0
  have ROW := hid hrow
  clear hrow hb0 hs0 cc4
  generalize W5.heap.size = b0 at *
  have cc := X3.out.both
  go_wp2_with fail
  clear cc
  have W0 : ∃ rs : Nat → Zr, Hid (IRw w0 b0 nl rs) := ⟨_, ROW⟩
  clear ROW
  obtain ⟨rs0, ROW⟩ := W0
  go_loopw [13] (fun x wr => ∃ (i : Nat) (rs : Nat → Zr), i ≤ nl ∧ x = .int .i64 i ∧ Hid (IRw wr b0 nl rs) ∧ Hid (∀ t, t < i → ZF wr (iag (rs t)) (zc l t / d)) ∧ Hid (Box wr w.heap.size s1 (.slice p1 n1 c1)) ∧ Hid (ZF wr (.agg #[.bool s1, .slice p1 n1 c1]) d) ∧ Hid (Below w.heap.size w wr)) (fun x _ => nl - (intOf x).toNat)
  case atStart => exact ⟨0, rs0, by omega, rfl, ROW, hid (fun t ht => by omega), X3, HD, B⟩
  case round =>
    clear ROW X3 HD B
    obtain ⟨i, rs, hi, rfl, ROW, HW, X3, HD, B⟩ := hrel
    by_cases hlt : i < nl
    · obtain ⟨b5, s5, p5, n5, c5, rfl, hb5, cd5, hq5⟩ := in_at HP.out B.out (i := i) (by rw [NL.out]; exact hlt)
      have HQ := hid hq5
      clear hq5
      have LB := hid ROW.out.lt
      obtain ⟨hb201, hx202, hs203⟩ := Box.made wr s5 p5 n5 c5
      have L3 := hid X3.out.lt
      replace X3 := bx X3 hb201
      replace HQ := zf HQ hb201
      replace HD := zf HD hb201
      replace ROW := rwi ROW hb201
      replace HW := hid (fun q_ hq_ => (HW.out q_ hq_).on hb201)
      replace B := bb B hb201
      have X7 := hid hx202
      clear hb201 hx202
      have cc204 := X3.out.both
      have cc205 := X7.out.both
      go_wp2_with fail
      refine (zdivd_f HQ.out HD.out H0.out (SL.out i) SD.out HM.out HN.out).mono ?_
      rintro e w206 ⟨v, rfl, hv, hb⟩
      obtain ⟨s8, p8, n8, c8, rfl⟩ := hv.opened
      replace X3 := bx X3 hb
      replace X7 := bx X7 hb
      replace HQ := zf HQ hb
      replace HD := zf HD hb
      replace ROW := rwi ROW hb
      replace HW := hid (fun q_ hq_ => (HW.out q_ hq_).on hb)
      replace B := bb B hb
      clear cc204 cc205
      have HX := hid hv
      clear hb hv cd5
      have cc207 := ROW.out.stores hlt
      replace X3 := hid (X3.out.kept (ROW.out.far i (by have := HB.out; have := LX.out; have := LB.out; have := L3.out; omega) s8 p8 n8 c8))
      replace X7 := hid (X7.out.kept (ROW.out.far i (by have := HB.out; have := LX.out; have := LB.out; have := L3.out; omega) s8 p8 n8 c8))
      replace HQ := hid (HQ.out.iput ROW.out i s8 p8 n8 c8)
      replace HD := hid (HD.out.iput ROW.out i s8 p8 n8 c8)
      replace HX := hid (HX.out.iput ROW.out i s8 p8 n8 c8)
      replace HW := hid (fun q_ hq_ => (HW.out q_ hq_).iput ROW.out i s8 p8 n8 c8)
      replace B := hid (ROW.out.below B.out i (by have := HB.out; have := LX.out; have := LB.out; have := L3.out; omega) s8 p8 n8 c8)
      replace ROW := hid (ROW.out.put hlt s8 p8 n8 c8)
      go_wp2_with fail
      go_roundw
      case rel => exact ⟨i + 1, _, by omega, by go_num, ROW, hid (fun t ht => by
          by_cases e : t = i
          · subst e; rw [upi_self]; exact HX.out
          · rw [upi_ne _ _ e]; exact HW.out t (by omega)), X3, HD, B⟩
      case measure => simp [intOf]; omega
    · obtain rfl : i = nl := by omega
      have HP2 : Hid (IN wr (.slice (some ⟨b0, 0, none⟩) i i) (l.map (· / d))) := hid (ROW.out.inn (by rw [List.length_map]; exact NL.out) (Nat.le_refl _) (by unfold maxLen; omega) (fun t ht => (HW.out t ht).cast (zc_map (· / d) (Int.zero_ediv d) l t).symm))
      go_wp2_with fail
      go_ret
      exact ⟨_, rfl, HP2.out, fun g hg => by simp [Value.ownBlock] at hg; have := HB.out; omega, B.out⟩

set_option maxHeartbeats 2000000 in
/-- With fractions. -/
theorem zpoly_p {w : World} {v : Value} {l : List Int} (h : IN w v l) (hl : l.length ≤ 1000000) :
    Calls Tryz.prog 79 #[v] w fun e w' => ∃ v', e = .returned v' ∧ PN w' v' (zq l) ∧ Below w.heap.size w w' := by
  obtain ⟨a, c, rfl, hn1, hc1⟩ := h.opened
  have HP := hid h
  obtain ⟨nl, hNL⟩ : ∃ nl, l.length = nl := ⟨_, rfl⟩
  have NL := hid hNL
  rw [hNL] at hn1 hl HP ⊢
  unfold maxLen at hc1
  clear h hNL
  go_enter Tryz.func79, Tryz.ntmps79
  go_wp2_with (refine wpList_make_ns _ rfl _ _ _ rfl Tryz.underlying35 nl rfl rfl (by omega) ?_)
  intro w0 hrow hb0 hs0
  have B := hid hb0
  have ROW := hid hrow
  clear hrow hb0 hs0
  go_wp2_with fail
  obtain ⟨b0, hb0⟩ : ∃ b0, b0 = w.heap.size := ⟨_, rfl⟩
  have HB := hid (show w.heap.size ≤ b0 by omega)
  rw [← hb0] at ROW ⊢
  clear hb0
  have W0 : ∃ rs : Nat → Nr, Hid (NRw w0 b0 nl rs) := ⟨_, ROW⟩
  clear ROW
  obtain ⟨rs0, ROW⟩ := W0
  go_loopw [11] (fun x wr => ∃ (i : Nat) (rs : Nat → Nr), i ≤ nl ∧ x = .int .i64 i ∧ Hid (NRw wr b0 nl rs) ∧ Hid (∀ t, t < i → NF wr (nag (rs t)) ((zc l t : Int) : Rat)) ∧ Hid (Below w.heap.size w wr)) (fun x _ => nl - (intOf x).toNat)
  case atStart => exact ⟨0, rs0, by omega, rfl, ROW, hid (fun t ht => by omega), B⟩
  case round =>
    clear ROW B
    obtain ⟨i, rs, hi, rfl, ROW, HW, B⟩ := hrel
    by_cases hlt : i < nl
    · obtain ⟨b5, s5, p5, n5, c5, rfl, hb5, cd5, hq5⟩ := in_at HP.out B.out (i := i) (by rw [NL.out]; exact hlt)
      have HQ := hid hq5
      clear hq5
      have LB := hid ROW.out.lt
      obtain ⟨hb201, hx202, hs203⟩ := Box.made wr s5 p5 n5 c5
      replace HQ := zf HQ hb201
      replace ROW := rwo ROW hb201
      replace HW := hid (fun q_ hq_ => (HW.out q_ hq_).on hb201)
      replace B := bb B hb201
      have X7 := hid hx202
      clear hb201 hx202
      have cc204 := X7.out.both
      go_wp2_with fail
      refine (zwhole_f HQ.out).mono ?_
      rintro e w205 ⟨v, rfl, hv, hb⟩
      obtain ⟨s8a, p8a, n8a, c8a, s8b, p8b, n8b, c8b, rfl⟩ := hv.opened
      replace X7 := bx X7 hb
      replace HQ := zf HQ hb
      replace ROW := rwo ROW hb
      replace HW := hid (fun q_ hq_ => (HW.out q_ hq_).on hb)
      replace B := bb B hb
      clear cc204
      have HX := hid hv
      clear hb hv cd5
      have cc206 := ROW.out.stores hlt
      replace X7 := hid (X7.out.kept (ROW.out.far i (by have := HB.out; have := LB.out; omega) s8a p8a n8a c8a s8b p8b n8b c8b))
      replace HX := hid (HX.out.put ROW.out i s8a p8a n8a c8a s8b p8b n8b c8b)
      replace HQ := hid (HQ.out.put ROW.out i s8a p8a n8a c8a s8b p8b n8b c8b)
      replace HW := hid (fun q_ hq_ => (HW.out q_ hq_).put ROW.out i s8a p8a n8a c8a s8b p8b n8b c8b)
      replace B := hid (ROW.out.below B.out i (by have := HB.out; have := LB.out; omega) s8a p8a n8a c8a s8b p8b n8b c8b)
      replace ROW := hid (ROW.out.put hlt s8a p8a n8a c8a s8b p8b n8b c8b)
      go_wp2_with fail
      go_roundw
      case rel => exact ⟨i + 1, _, by omega, by go_num, ROW, hid (fun t ht => by
          by_cases e : t = i
          · subst e; rw [upd_self]; exact HX.out
          · rw [upd_ne _ _ e]; exact HW.out t (by omega)), B⟩
      case measure => simp [intOf]; omega
    · obtain rfl : i = nl := by omega
      have HP2 : Hid (PN wr (.slice (some ⟨b0, 0, none⟩) i i) (zq l)) := hid (ROW.out.pn (by rw [zq_len]; exact NL.out) (Nat.le_refl _) (by unfold maxLen; omega) (fun t ht => (HW.out t ht).cast (co_zq l t).symm))
      go_wp2_with fail
      go_ret
      exact ⟨_, rfl, HP2.out, B.out⟩

end Go.Proofs.YtokojbgpboccnaaGreat

/-
  PACKAGE pgcd: power.
-/
namespace Go.Proofs.YtokojbgpboccnaaGreat
open Go.RowKit
open Num
set_option linter.unusedVariables false
set_option maxRecDepth 100000
set_option linter.unusedSimpArgs false

set_option maxHeartbeats 1000000 in
/-- So often, times. -/
theorem zpow_f {w : World} {v : Value} {z : Int} {m n : Nat} (h : ZF w v z) (hz : Zm z m) (hm : n * m + 1 + m ≤ 68719476736) (hn : n ≤ 1000000) :
    Calls Tryz.prog 96 #[v, .int .i64 n] w fun e w' => ∃ v, e = .returned v ∧ ZF w' v (z ^ n) ∧ Below w.heap.size w w' := by
  obtain ⟨s1, p1, n1, c1, rfl⟩ := h.opened
  have HZ := hid hz
  have HM := hid hm
  have HA := hid h
  have B := hid (Below.refl w.heap.size w)
  obtain ⟨hb1, hx2, hs3⟩ := Box.made w s1 p1 n1 c1
  replace HA := zf HA hb1
  replace B := bb B hb1
  have X2 := hid hx2
  clear hb1 hx2
  obtain ⟨hb4, hx5, hs6⟩ := Box.made (w.alloc (.cells #[.bool s1, .slice p1 n1 c1] 41)) false none 0 0
  rw [hs3] at hx5 hs6
  replace X2 := bx X2 hb4
  replace HA := zf HA hb4
  replace B := bb B hb4
  have X4 := hid hx5
  clear hb4 hx5
  clear hs6 h hz hm
  go_enter Tryz.func96, Tryz.ntmps96
  have cc7 := X2.out.both
  have cc8 := X4.out.both
  go_wp2_with fail
  generalize hW : (w.alloc (.cells #[.bool s1, .slice p1 n1 c1] 41)).alloc (.cells #[.bool false, .slice none 0 0] 41) = W9 at *
  clear hW
  refine (of_small 1 (by decide) _).mono ?_
  rintro e w10 ⟨v, rfl, hv, hb⟩
  obtain ⟨s3, p3, n3, c3, rfl⟩ := hv.opened
  replace X2 := bx X2 hb
  replace X4 := bx X4 hb
  replace HA := zf HA hb
  replace B := bb B hb
  clear cc7 cc8
  have HV := hid hv.zf
  clear hb hv
  obtain ⟨hb11, hx12, hs13⟩ := Box.made w10 s3 p3 n3 c3
  have L0 := hid X4.out.lt
  replace X2 := bx X2 hb11
  replace X4 := bx X4 hb11
  replace HA := zf HA hb11
  replace HV := zf HV hb11
  replace B := bb B hb11
  have X5 := hid hx12
  clear hb11 hx12
  have cc14 := X2.out.both
  have cc15 := X4.out.both
  have cc16 := X5.out.both
  go_wp2_with fail
  generalize hW : w10.alloc (.cells #[.bool s3, .slice p3 n3 c3] 41) = W17 at *
  clear hW
  obtain ⟨g5, hg5⟩ : ∃ g5, g5 = w10.heap.size := ⟨_, rfl⟩
  rw [← hg5] at X5 L0 ⊢
  clear hg5 cc14 cc15 cc16
  replace HV : Hid (ZF W17 (.agg #[.bool s3, .slice p3 n3 c3]) (z ^ 0)) := hid (HV.out.cast (by rw [Int.pow_zero]))
  go_loopw [8] (fun x wr => ∃ (k : Nat) (s5 : Bool) (p5 : Option Addr) (n5 c5 : Nat), k ≤ n ∧ x = .int .i64 k ∧ Hid (Box wr w.heap.size s1 (.slice p1 n1 c1)) ∧ Hid (Box wr (w.heap.size + 1) false (.slice none 0 0)) ∧ Hid (Box wr g5 s5 (.slice p5 n5 c5)) ∧ Hid (ZF wr (.agg #[.bool s1, .slice p1 n1 c1]) z) ∧ Hid (ZF wr (.agg #[.bool s5, .slice p5 n5 c5]) (z ^ k)) ∧ Hid (Below w.heap.size w wr)) (fun x _ => n - (intOf x).toNat)
  case atStart => exact ⟨0, _, _, _, _, by omega, rfl, X2, X4, X5, HA, HV, B⟩
  case round =>
    clear X2 X4 X5 HA HV B
    obtain ⟨k, s5, p5, n5, c5, hk, rfl, X2, X4, X5, HA, HV, B⟩ := hrel
    have hmm := HM.out
    by_cases hlt : k < n
    · have hp := HZ.out.pow k
      have HP := hid hp
      have hk2 : k * m ≤ n * m := Nat.mul_le_mul_right m hk
      clear hp
      have cc201 := X2.out.both
      have cc202 := X4.out.both
      have cc203 := X5.out.both
      go_wp2_with fail
      refine (zmul_f HV.out HA.out HP.out HZ.out (by omega) (by omega)).mono ?_
      rintro e w204 ⟨v, rfl, hv, hb⟩
      obtain ⟨s6, p6, n6, c6, rfl⟩ := hv.opened
      replace X2 := bx X2 hb
      replace X4 := bx X4 hb
      replace X5 := bx X5 hb
      replace HA := zf HA hb
      replace HV := zf HV hb
      replace B := bb B hb
      clear cc201 cc202 cc203
      have HX := hid hv
      clear hb hv
      have cc205 := X2.out.both
      have cc206 := X4.out.both
      have cc207 := X5.out.both
      have cc208 := X5.out.stores
      obtain ⟨r209a, r209b, r209c⟩ := X5.out.last B.out (by have := L0.out; omega) s6 p6 n6 c6
      replace X2 := hid (X2.out.kept (heap2 (g := g5) (by have := L0.out; omega) (.bool s6) (.slice p6 n6 c6)))
      replace X4 := hid (X4.out.kept (heap2 (g := g5) (by have := L0.out; omega) (.bool s6) (.slice p6 n6 c6)))
      replace HA := hid (HA.out.moved fun _ _ _ hv => r209c hv)
      replace HV := hid (HV.out.moved fun _ _ _ hv => r209c hv)
      replace HX := hid (HX.out.moved fun _ _ _ hv => r209c hv)
      replace X5 := hid r209a
      replace B := hid r209b
      clear r209a r209b r209c
      go_wp2_with fail
      go_roundw
      case rel => exact ⟨k + 1, _, _, _, _, by omega, by go_num, X2, X4, X5, HA, hid (HX.out.cast (Int.pow_succ z k).symm), B⟩
      case measure => simp [intOf]; omega
    · obtain rfl : k = n := by omega
      have cc401 := X2.out.both
      have cc402 := X4.out.both
      have cc403 := X5.out.both
      have cc404 := X4.out.stores
      obtain ⟨r405a, r405b, r405c⟩ := X4.out.last B.out (by have := L0.out; omega) s5 p5 n5 c5
      replace X2 := hid (X2.out.kept (heap2 (g := w.heap.size + 1) (by have := L0.out; omega) (.bool s5) (.slice p5 n5 c5)))
      replace X5 := hid (X5.out.kept (heap2 (g := w.heap.size + 1) (by have := L0.out; omega) (.bool s5) (.slice p5 n5 c5)))
      replace HA := hid (HA.out.moved fun _ _ _ hv => r405c hv)
      replace HV := hid (HV.out.moved fun _ _ _ hv => r405c hv)
      replace X4 := hid r405a
      replace B := hid r405b
      clear r405a r405b r405c
      go_wp2_with fail
      refine bodyPost_ret (res_one rfl rfl X4.out) rfl ?_
      exact ⟨_, rfl, HV.out, B.out⟩

end Go.Proofs.YtokojbgpboccnaaGreat

/-
  POLYNOMIALS BY THEIR SIZE: those that go into one. Nothing of a program.
-/
namespace Go.Proofs.YtokojbgpboccnaaGreat
open Go.RowKit
open Num4
set_option linter.unusedVariables false
/-- What is monic and goes into one of nine coefficients has seven limbs more. -/
theorem Cml.dv {d p : List Rat} {m : Nat} (h : Cml p m) (hd : Mnc d) (hp : Trm p) (h0 : p ≠ []) (hdv : Dv d p) (hl : p.length ≤ 9) : Cml d (m + 7) := by
  obtain ⟨h1, D, h2, h3, h4⟩ := h
  obtain ⟨E, k1, k2, k3⟩ := dv_bound (M := B ^ m) hd hp h0 hdv hl h2 fun i => by
    obtain ⟨z, z1, z2⟩ := h4 i
    exact ⟨z, Nat.le_of_lt z1, z2⟩
  have e : 36 ^ 9 * (17 ^ 9 * B ^ m) < B ^ (m + 7) := by
    have e1 : B ^ (m + 7) = B ^ 7 * B ^ m := by rw [Nat.pow_add, Nat.mul_comm]
    have e2 : 36 ^ 9 * (17 ^ 9 * B ^ m) = (36 ^ 9 * 17 ^ 9) * B ^ m := by rw [Nat.mul_assoc]
    have e3 : 0 < B ^ m := Nat.pow_pos (by decide)
    have e4 : 36 ^ 9 * 17 ^ 9 < B ^ 7 := by decide +kernel
    rw [e1, e2]
    exact Nat.mul_lt_mul_of_pos_right e4 e3
  refine ⟨by omega, E, k1, Nat.lt_of_le_of_lt k2 e, fun i => ?_⟩
  obtain ⟨z, z1, z2⟩ := k3 i
  exact ⟨z, Nat.lt_of_le_of_lt z1 e, z2⟩
end Go.Proofs.YtokojbgpboccnaaGreat
