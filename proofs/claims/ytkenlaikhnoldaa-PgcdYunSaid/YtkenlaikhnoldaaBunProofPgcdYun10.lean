import Derived.Test.YtkenlaikhnoldaaBunProofPgcdYun5
import Derived.Test.YtkenlaikhnoldaaBunProofPgcdYun8
import Derived.Deep.RegionWith
import Derived.Deep.RegionHeld3
import Derived.IntWalk
import Derived.Test.YtkenlaikhnoldaaBunProofPgcdYun4
import Derived.Test.YtkenlaikhnoldaaBunProofPgcdYun1
/-
  PACKAGE whole: AN Integer IN MEMORY, ITS METHODS.
-/
namespace Go.Proofs.Ytkenlaikhnoldaa
open Go.RowKit
open Num
set_option linter.unusedVariables false
set_option maxRecDepth 100000
set_option linter.unusedSimpArgs false

/-- A sign and a size. -/
def zof (s : Bool) (n : Nat) : Int := if s then -(n : Int) else n
theorem natAbs_zof (s : Bool) (n : Nat) : (zof s n).natAbs = n := by cases s <;> simp [zof]

/-- A value reads as an integer of k limbs or fewer. -/
def Whl (w : World) (v : Value) (z : Int) (k : Nat) : Prop := ∃ s sv xs, v = .agg #[.bool s, sv] ∧ Lim w sv xs ∧ Trim xs ∧ xs.length ≤ k ∧ (s = true → val xs ≠ 0) ∧ zof s (val xs) = z
theorem Whl.below {w w' : World} {v : Value} {z : Int} {k K : Nat} (h : Whl w v z k) (hb : Below K w w') (hK : w.heap.size ≤ K) : Whl w' v z k := by
  obtain ⟨s, sv, xs, h1, h2, h3⟩ := h
  exact ⟨s, sv, xs, h1, h2.below hb hK, h3⟩
theorem Whl.on {w w' : World} {v : Value} {z : Int} {k : Nat} (h : Whl w v z k) (hb : Below w.heap.size w w') : Whl w' v z k := h.below hb (Nat.le_refl _)
theorem Whl.mono {w : World} {v : Value} {z : Int} {k m : Nat} (h : Whl w v z k) (hk : k ≤ m) : Whl w v z m := by
  obtain ⟨s, sv, xs, h1, h2, h3, h4, h5⟩ := h
  exact ⟨s, sv, xs, h1, h2, h3, by omega, h5⟩
theorem Whl.fit {w : World} {v : Value} {z : Int} {k : Nat} (m : Nat) (h : Whl w v z k) (hm : z.natAbs < B ^ m) : Whl w v z m := by
  obtain ⟨s, sv, xs, h1, h2, h3, h4, h5, h6⟩ := h
  exact ⟨s, sv, xs, h1, h2, h3, length_le_of_val h3 m (by rw [← h6, natAbs_zof] at hm; exact hm), h5, h6⟩
theorem Whl.drewN {w : World} {v : Value} {z : Int} {k : Nat} (h : Whl w v z k) (n : Nat) : Whl (w.drewN n) v z k := h.on (below_drewN (Below.refl _ _) n)

/-- A block of two cells: an Integer's. -/
def Box (w : World) (g : Nat) (s : Bool) (sv : Value) : Prop := w.heap[g]? = some (.cells #[.bool s, sv] 50 (0, 0)) ∧ ∃ p n c, sv = .slice p n c
theorem Box.lt {w : World} {g : Nat} {s : Bool} {sv : Value} (h : Box w g s sv) : g < w.heap.size := lt_of_block h.1
theorem Box.cell0 {w : World} {g : Nat} {s : Bool} {sv : Value} (h : Box w g s sv) : w.cell? ⟨g, 0, none⟩ = some (.bool s) := by
  simp [World.cell?, h.1]
theorem Box.cell1 {w : World} {g : Nat} {s : Bool} {sv : Value} (h : Box w g s sv) : w.cell? ⟨g, 1, none⟩ = some sv := by
  simp [World.cell?, h.1]
theorem Box.free {w : World} {g : Nat} {s : Bool} {sv : Value} (h : Box w g s sv) (i : Nat) : w.frozen? ⟨g, i, none⟩ = false := by
  simp [World.frozen?, h.1]
theorem Box.below {w w' : World} {g K : Nat} {s : Bool} {sv : Value} (h : Box w g s sv) (hb : Below K w w') (hK : g < K) : Box w' g s sv := ⟨(hb.block g hK).trans h.1, h.2⟩
theorem Box.new (w : World) (s : Bool) (p : Option Addr) (n c : Nat) : Box (w.alloc (.cells #[.bool s, .slice p n c] 50)) w.heap.size s (.slice p n c) := by
  refine ⟨?_, p, n, c, rfl⟩
  show (w.heap.push _)[w.heap.size]? = _
  simp
theorem Box.made (w : World) (s : Bool) (p : Option Addr) (n c : Nat) : Below w.heap.size w (w.alloc (.cells #[.bool s, .slice p n c] 50)) ∧ Box (w.alloc (.cells #[.bool s, .slice p n c] 50)) w.heap.size s (.slice p n c) ∧ (w.alloc (.cells #[.bool s, .slice p n c] 50)).heap.size = w.heap.size + 1 := ⟨(Below.refl _ _).alloc (Nat.le_refl _) _, Box.new w s p n c, by simp⟩
theorem Box.kept {w w' : World} {g : Nat} {s : Bool} {sv : Value} (h : Box w g s sv) (e : w'.heap[g]? = w.heap[g]?) : Box w' g s sv := ⟨e.trans h.1, h.2⟩
theorem Box.set0 {w : World} {g : Nat} {s : Bool} {sv : Value} (h : Box w g s sv) (s' : Bool) : Box (w.setCell ⟨g, 0, none⟩ (.bool s')) g s' sv := by
  refine ⟨?_, h.2⟩
  show (w.setCell ⟨g, 0, none⟩ (.bool s')).heap[g]? = _
  simp only [World.setCell, Array.getElem?_modify, h.1]
  simp
theorem Box.set1 {w : World} {g : Nat} {s : Bool} {sv sv' : Value} (h : Box w g s sv) (h' : ∃ p n c, sv' = .slice p n c) : Box (w.setCell ⟨g, 1, none⟩ sv') g s sv' := by
  refine ⟨?_, h'⟩
  show (w.setCell ⟨g, 1, none⟩ sv').heap[g]? = _
  simp only [World.setCell, Array.getElem?_modify, h.1]
  simp
theorem Box.other {w : World} {g g2 : Nat} {s : Bool} {sv : Value} (h : Box w g s sv) (hne : g ≠ g2) (i : Nat) (v : Value) : Box (w.setCell ⟨g2, i, none⟩ v) g s sv := by
  refine ⟨?_, h.2⟩
  rw [Below.heap_setCell _ _ _ _ (by exact hne)]; exact h.1
theorem Box.stores {w : World} {g : Nat} {s : Bool} {sv : Value} (h : Box w g s sv) : w.cell? ⟨g, 0, none⟩ = some (.bool s) ∧ w.frozen? ⟨g, 0, none⟩ = false ∧ (∀ x, (w.setCell ⟨g, 0, none⟩ (.bool x)).cell? ⟨g, 1, none⟩ = some sv) ∧ (∀ x, (w.setCell ⟨g, 0, none⟩ (.bool x)).frozen? ⟨g, 1, none⟩ = false) :=
  ⟨h.cell0, h.free 0, fun x => (h.set0 x).cell1, fun x => (h.set0 x).free 1⟩
/-- A store into a box changes no number in memory. -/
theorem Lim.box {w : World} {v : Value} {xs : List Nat} {g : Nat} {s : Bool} {sv : Value} (h : Lim w v xs) (hx : Box w g s sv) (i : Nat) (u : Value) : Lim (w.setCell ⟨g, i, none⟩ u) v xs := by
  obtain ⟨h1, p, c, h2, h3, h4, h5⟩ := h
  refine ⟨h1, p, c, h2, h3, h4, ?_⟩
  rcases h5 with h5 | ⟨b, off, h6, h7, h8⟩
  · exact .inl h5
  · refine .inr ⟨b, off, h6, by simpa [World.setCell] using h7, fun i hi => ?_⟩
    have h9 := h8 i hi
    by_cases hb : b = g
    · subst hb
      obtain ⟨hx1, p', n', c', hx2⟩ := hx
      subst hx2
      simp only [World.cell?, hx1] at h9
      have hh : ∀ k : Nat, (#[Value.bool s, Value.slice p' n' c'] : Array Value)[k]? ≠ some (.int .u32 (dg xs i)) := by
        intro k
        rcases k with _ | _ | k <;> simp
      exact absurd h9 (hh _)
    · rw [← h9]
      exact World.cell?_of_block (Below.heap_setCell _ _ _ _ (by exact hb))
theorem Whl.box {w : World} {v : Value} {z : Int} {k g : Nat} {s : Bool} {sv : Value} (h : Whl w v z k) (hx : Box w g s sv) (i : Nat) (u : Value) : Whl (w.setCell ⟨g, i, none⟩ u) v z k := by
  obtain ⟨s', sv', xs, h1, h2, h3⟩ := h
  exact ⟨s', sv', xs, h1, h2.box hx i u, h3⟩
theorem Lim.slice {w : World} {v : Value} {xs : List Nat} (h : Lim w v xs) : ∃ p n c, v = .slice p n c := by
  obtain ⟨p, c, h2, _⟩ := lim_parts h
  exact ⟨p, _, c, h2⟩

theorem zof_if (s : Bool) (n : Nat) : zof (s && decide (0 < n)) n = zof s n := by
  cases s
  · rfl
  · by_cases h : 0 < n
    · simp [zof, h]
    · have : n = 0 := by omega
      subst this
      simp [zof]
theorem Whl.of {w : World} {s : Bool} {sv : Value} {xs : List Nat} {k : Nat} (h1 : Lim w sv xs) (h2 : Trim xs) (hk : xs.length ≤ k) : Whl w (.agg #[.bool (s && decide (0 < xs.length)), sv]) (zof s (val xs)) k := by
  refine ⟨_, sv, xs, rfl, h1, h2, hk, ?_, ?_⟩
  · intro hs h0
    have := h2.zero_iff.1 h0
    simp [this] at hs
  · have : decide (0 < xs.length) = decide (0 < val xs) := by
      have := h2.zero_iff
      apply decide_eq_decide.2
      constructor
      · intro h
        have : val xs ≠ 0 := fun e => by simp [h2.zero_iff.1 e] at h
        omega
      · intro h
        cases xs with
        | nil => simp [val] at h
        | cons => simp
    rw [this, zof_if]
theorem Whl.neg {w : World} {v : Value} {z : Int} {k : Nat} (h : Whl w v z k) : ∃ s sv xs, v = .agg #[.bool s, sv] ∧ Lim w sv xs ∧ Trim xs ∧ xs.length ≤ k ∧ s = decide (z < 0) ∧ val xs = z.natAbs := by
  obtain ⟨s, sv, xs, h1, h2, h3, h4, h5, h6⟩ := h
  refine ⟨s, sv, xs, h1, h2, h3, h4, ?_, by rw [← h6, natAbs_zof]⟩
  rw [← h6]
  cases s
  · simp [zof]
  · have := h5 rfl
    simp only [zof, if_true]
    exact (decide_eq_true (by omega)).symm

/-- Boxes made at the head of a method. -/
theorem boxes1 (w : World) (a : Bool) (b : Value) (hb : ∃ p n c, b = .slice p n c) : Box (w.alloc (.cells #[.bool a, b] 50)) w.heap.size a b ∧ Below w.heap.size w (w.alloc (.cells #[.bool a, b] 50)) ∧ (w.alloc (.cells #[.bool a, b] 50)).heap.size = w.heap.size + 1 := by
  obtain ⟨p, n, c, rfl⟩ := hb
  exact ⟨Box.new _ _ _ _ _, (Below.refl _ _).alloc (Nat.le_refl _) _, by simp⟩
theorem boxes2 (w : World) (a c : Bool) (b d : Value) (hb : ∃ p n c, b = .slice p n c) (hd : ∃ p n c, d = .slice p n c) : Box ((w.alloc (.cells #[.bool a, b] 50)).alloc (.cells #[.bool c, d] 50)) w.heap.size a b ∧ Box ((w.alloc (.cells #[.bool a, b] 50)).alloc (.cells #[.bool c, d] 50)) (w.heap.size + 1) c d ∧ Below w.heap.size w ((w.alloc (.cells #[.bool a, b] 50)).alloc (.cells #[.bool c, d] 50)) ∧ ((w.alloc (.cells #[.bool a, b] 50)).alloc (.cells #[.bool c, d] 50)).heap.size = w.heap.size + 1 + 1 := by
  obtain ⟨h1, h2, h3⟩ := boxes1 w a b hb
  obtain ⟨k1, k2, k3⟩ := boxes1 (w.alloc (.cells #[.bool a, b] 50)) c d hd
  rw [h3] at k1 k2 k3
  exact ⟨h1.below k2 (by omega), k1, h2.trans (k2.mono (by omega)), k3⟩
theorem boxes3 (w : World) (a c e : Bool) (b d f : Value) (hb : ∃ p n c, b = .slice p n c) (hd : ∃ p n c, d = .slice p n c) (hf : ∃ p n c, f = .slice p n c) : Box (((w.alloc (.cells #[.bool a, b] 50)).alloc (.cells #[.bool c, d] 50)).alloc (.cells #[.bool e, f] 50)) w.heap.size a b ∧ Box (((w.alloc (.cells #[.bool a, b] 50)).alloc (.cells #[.bool c, d] 50)).alloc (.cells #[.bool e, f] 50)) (w.heap.size + 1) c d ∧ Box (((w.alloc (.cells #[.bool a, b] 50)).alloc (.cells #[.bool c, d] 50)).alloc (.cells #[.bool e, f] 50)) (w.heap.size + 1 + 1) e f ∧ Below w.heap.size w (((w.alloc (.cells #[.bool a, b] 50)).alloc (.cells #[.bool c, d] 50)).alloc (.cells #[.bool e, f] 50)) ∧ (((w.alloc (.cells #[.bool a, b] 50)).alloc (.cells #[.bool c, d] 50)).alloc (.cells #[.bool e, f] 50)).heap.size = w.heap.size + 1 + 1 + 1 := by
  obtain ⟨h1, h2, h3, h4⟩ := boxes2 w a c b d hb hd
  obtain ⟨k1, k2, k3⟩ := boxes1 ((w.alloc (.cells #[.bool a, b] 50)).alloc (.cells #[.bool c, d] 50)) e f hf
  rw [h4] at k1 k2 k3
  exact ⟨h1.below k2 (by omega), h2.below k2 (by omega), k1, h3.trans (k2.mono (by omega)), k3⟩

theorem Lim.store {w : World} {v : Value} {xs : List Nat} (h : Lim w v xs) (a : Addr) (m : Mode) (w' : World) : (Go.store a v m).run Try.prog w' = stored Try.prog w' a v m := by
  obtain ⟨p, c, rfl, h⟩ := lim_parts h
  exact run_store Try.prog w' a _ m rfl

theorem below_undrewN {w w' : World} {n : Nat} (h : Below (w.drewN n).heap.size (w.drewN n) w') : Below w.heap.size w w' := (below_drewN (Below.refl _ _) n).trans h
theorem below_undrew' {w w' : World} (h : Below w.drew.heap.size w.drew w') : Below w.heap.size w w' := ⟨h.os, h.tape, h.output, h.size, h.block⟩

theorem at_addr {tmps : Array Value} {t : Tmp} {a : Addr} {P : Program} {w : World} (ht : tmps.getD t undef = .pointer (some a)) : (asAddr (tmps.getD t undef)).run P w = .ok a w := by
  rw [ht]; rfl
theorem load_whl {w : World} {g : Nat} {s : Bool} {sv : Value} (h2 : Box w g s sv) : (loadVar 50 ⟨g, 0, none⟩).run Try.prog w = .ok (.agg #[.bool s, sv]) w := by
  simp [go_sem, h2.cell0, h2.cell1]
theorem res_one {fn : Func} {t : Tmp} {tmps : Array Value} {w : World} {g : Nat} {s : Bool} {sv : Value} (hf : fn.results = #[.cell t 50]) (ht : tmps.getD t undef = .pointer (some ⟨g, 0, none⟩)) (h2 : Box w g s sv) :
    (results fn tmps).run Try.prog w = .ok (.agg #[.bool s, sv]) w := by
  have h1 := at_addr (P := Try.prog) (w := w) ht
  have h3 := load_whl h2
  simp only [Array.getD_eq_getD_getElem?] at h1
  simp [results, hf, Sem.run_bind, h1, h3]

set_option maxHeartbeats 400000 in
theorem signed_lim {w : World} {sv : Value} {xs : List Nat} {k : Nat} (s : Bool) (h : Lim w sv xs) (t : Trim xs) (hk : xs.length ≤ k) :
    Calls Try.prog 60 #[.bool s, sv] w fun e w' => ∃ v, e = .returned v ∧ Whl w' v (zof s (val xs)) k ∧ Below w.heap.size w w' := by
  obtain ⟨p, c, rfl, hx, hcn, hc, ha⟩ := lim_parts h
  have HW := hid (Whl.of (s := s) h t hk)
  clear h t ha hx hk
  generalize hn : xs.length = n at *
  cases s <;>
  ( go_enter Try.func60, Try.ntmps60
    go_wp2_with fail
    refine bodyPost_ret (res_one rfl rfl (Box.new _ _ _ _ _)) rfl ?_
    exact ⟨_, rfl, HW.out.below ((Below.refl _ _).alloc (Nat.le_refl _) _) (Nat.le_refl _), (Below.refl _ _).alloc (Nat.le_refl _) _⟩ )

theorem zof_not (s : Bool) (n : Nat) : zof (!s) n = -zof s n := by cases s <;> simp [zof]

set_option maxHeartbeats 400000 in
theorem neg_whl {w : World} {v : Value} {z : Int} {k : Nat} (h : Whl w v z k) :
    Calls Try.prog 62 #[v] w fun e w' => ∃ v, e = .returned v ∧ Whl w' v (-z) k ∧ Below w.heap.size w w' := by
  obtain ⟨s, sv, xs, rfl, hl, ht, hk, hs, rfl⟩ := h
  obtain ⟨x0, x1, bw, sz⟩ := boxes2 w s false sv (.slice none 0 0) hl.slice ⟨_, _, _, rfl⟩
  have HS := hid (signed_lim (!s) (hl.below bw (Nat.le_refl _)) ht hk)
  rw [zof_not] at HS
  have X1 := hid x1
  have BW := hid bw
  have SZ := hid sz
  clear hl ht hs hk x0 x1 bw sz
  go_enter Try.func62, Try.ntmps62
  go_wp2_with fail
  refine HS.out.mono ?_
  rintro e w1 ⟨v, rfl, hv, hb⟩
  obtain ⟨s1, sv1, xs1, rfl, hl1, hv2⟩ := id hv
  have hst := hl1.store
  have y1 := X1.out.below hb (by rw [SZ.out]; omega)
  obtain ⟨c0, f0, c1, f1⟩ := y1.stores
  have Y1 := hid y1
  have HV := hid hv
  have HB := hid (BW.out.trans (hb.mono (by rw [SZ.out]; omega)))
  have HL := hid hl1.slice
  clear hv hv2 hb y1 hl1
  go_wp2_with fail
  refine bodyPost_ret (res_one rfl rfl ((Y1.out.set0 _).set1 HL.out)) rfl ?_
  exact ⟨_, rfl, (HV.out.box Y1.out _ _).box (Y1.out.set0 _) _ _, (HB.out.setCell (p := ⟨w.heap.size + 1, 0, none⟩) (Nat.le_succ _) _).setCell (p := ⟨w.heap.size + 1, 1, none⟩) (Nat.le_succ _) _⟩

/-- The text of an integer. -/
def ztxt (z : Int) : ByteArray := if z < 0 then ⟨#[45]⟩ ++ txt z.natAbs else txt z.natAbs

set_option maxHeartbeats 400000 in
theorem string_whl {w : World} {v : Value} {z : Int} {k : Nat} (h : Whl w v z k) (hk : k ≤ 68719476736) :
    Calls Try.prog 39 #[v] w fun e w' => e = .returned (.string (ztxt z)) ∧ Below w.heap.size w w' := by
  obtain ⟨s, sv, xs, rfl, hl, ht, hkk, hs, hz⟩ := h.neg
  obtain ⟨x0, bw, sz⟩ := boxes1 w s sv hl.slice
  have HS := hid (string_lim (hl.below bw (Nat.le_refl _)) (by omega))
  rw [hz] at HS
  have BW := hid bw
  have SZ := hid sz
  have HZ := hid hs
  have hsz : (txt z.natAbs).size ≤ 687194767370 := by
    have h1 := val_lt hl.1
    rw [hz] at h1
    have h2 : z.natAbs < 10 ^ (10 * xs.length + 1) := by
      refine Nat.lt_of_lt_of_le h1 (Nat.le_trans (Nat.pow_le_pow_left (show B ≤ 10 ^ 10 by decide) _) ?_)
      rw [← Nat.pow_mul]
      exact Nat.pow_le_pow_right (by omega) (by omega)
    have h3 := size_txt_le h2 (by omega)
    omega
  clear hl ht hs hkk x0 bw sz h
  cases s <;>
  ( go_enter Try.func39, Try.ntmps39
    go_wp2_with fail
    refine HS.out.mono ?_
    rintro e w1 ⟨rfl, hb⟩
    have HB := hid (BW.out.trans (hb.mono (by rw [SZ.out]; omega)))
    clear hb
    go_wp2_with fail
    go_ret
    refine ⟨?_, HB.out⟩
    have hz := HZ.out.symm
    first
    | (rw [ztxt, if_pos (by simpa using hz)]; rfl)
    | (rw [ztxt, if_neg (by simpa using hz)]; rfl) )

theorem zof_add (s : Bool) (a b : Nat) : zof s (a + b) = zof s a + zof s b := by cases s <;> simp [zof] <;> omega
theorem zof_sub (s : Bool) (a b : Nat) (h : b ≤ a) : zof s (a - b) = zof s a + zof (!s) b := by cases s <;> simp [zof] <;> omega
theorem zof_mul (s t : Bool) (a b : Nat) : zof (s != t) (a * b) = zof s a * zof t b := by cases s <;> cases t <;> simp [zof, Int.mul_neg, Int.neg_mul]

set_option maxHeartbeats 1000000 in
theorem add_same {w : World} {s : Bool} {sv sv' : Value} {xs xs' : List Nat} {k l : Nat} (hl : Lim w sv xs) (hk : xs.length ≤ k) (hl' : Lim w sv' xs') (hk' : xs'.length ≤ l) (hs : s = true → val xs ≠ 0) (hkb : k ≤ 549755813888) (hlb : l ≤ 549755813888) :
    Calls Try.prog 45 #[.agg #[.bool s, sv], .agg #[.bool s, sv']] w fun e w' => ∃ v, e = .returned v ∧ Whl w' v (zof s (val xs) + zof s (val xs')) (max k l + 1) ∧ Below w.heap.size w w' := by
  obtain ⟨x0, x1, x2, bw, sz⟩ := boxes3 w s s false sv sv' (.slice none 0 0) hl.slice hl'.slice ⟨_, _, _, rfl⟩
  have HS := add_lim ((hl.below bw (Nat.le_refl _)).below (Below.drew (Below.refl _ _)) (Nat.le_refl _)) ((hl'.below bw (Nat.le_refl _)).below (Below.drew (Below.refl _ _)) (Nat.le_refl _)) (by omega) (by omega)
  have hres : ∀ (w5 : World) (v5 : Value) (zs : List Nat), Lim w5 v5 zs → Trim zs → val zs = val xs + val xs' → Whl w5 (.agg #[.bool s, v5]) (zof s (val xs) + zof s (val xs')) (max k l + 1) := by
    intro w5 v5 zs h1 h2 h3
    refine ⟨s, v5, zs, rfl, h1, h2, ?_, fun e => by have := hs e; omega, by rw [h3, zof_add]⟩
    refine length_le_of_val h2 _ ?_
    rw [h3]
    have b1 := few_limbs hl.1 (Nat.le_trans hk (Nat.le_max_left k l))
    have b2 := few_limbs hl'.1 (Nat.le_trans hk' (Nat.le_max_right k l))
    rw [Nat.pow_succ, B_eq] at *
    omega
  have HR := hid hres
  have X0 := hid x0
  have X1 := hid x1
  have X2 := hid x2
  have BW := hid bw
  have SZ := hid sz
  have HC := hid HS
  clear hl hk hl' hk' x0 x1 x2 bw sz hs hres HS
  go_enter Try.func45, Try.ntmps45
  have hss : (s == s) = true := by simp
  go_wp2_with fail
  go_region_held3 (fun w' => w'.cell? ⟨w.heap.size, 0, none⟩ = some (.bool s) ∧ w'.cell? ⟨w.heap.size, 1, none⟩ = some sv ∧ w'.cell? ⟨w.heap.size + 1, 1, none⟩ = some sv') (go_keep) (first
      | (go_at_call 64; refine HC.out.mono ?_; rintro e w4 ⟨v, zs, rfl, hv, tv, vv, hb⟩; obtain ⟨p, n, c, rfl⟩ := hv.slice; have hb' := below_undrew' hb; have x0' := X0.out.below hb' X0.out.lt; have c00 := x0'.cell0; have c01 := x0'.cell1; have z00 := fun a b => ((x0'.other (g2 := w.heap.size + 1 + 1) (by omega) 0 a).other (g2 := w.heap.size + 1 + 1) (by omega) 1 b).cell0; have z01 := fun a b => ((x0'.other (g2 := w.heap.size + 1 + 1) (by omega) 0 a).other (g2 := w.heap.size + 1 + 1) (by omega) 1 b).cell1; have c11 := (X1.out.below hb' X1.out.lt).cell1; have x2' := X2.out.below hb' X2.out.lt; obtain ⟨d0, g0, d1, g1⟩ := x2'.stores; have X2' := hid x2'; have HV := hid hv; have TV := hid tv; have VV := hid vv; have HB := hid hb'; clear hb; clear hb'; clear vv; clear tv; clear hv; clear x2'; clear x0'))
  go_wp2_with fail
  refine bodyPost_ret (res_one rfl rfl ((X2'.out.set0 _).set1 HV.out.slice)) rfl ?_
  exact ⟨_, rfl, ((HR.out _ _ _ HV.out TV.out VV.out).box X2'.out _ _).box (X2'.out.set0 _) _ _, ((BW.out.trans (HB.out.mono (by rw [SZ.out]; omega))).setCell (p := ⟨w.heap.size + 1 + 1, 0, none⟩) (show w.heap.size ≤ w.heap.size + 1 + 1 by omega) _).setCell (p := ⟨w.heap.size + 1 + 1, 1, none⟩) (show w.heap.size ≤ w.heap.size + 1 + 1 by omega) _⟩

theorem sub_bits {xs xs' : List Nat} {k l : Nat} (hf : Fits xs) (hk : xs.length ≤ k) (h : val xs' ≤ val xs) : val xs - val xs' < B ^ (max k l) := by
  have b1 := few_limbs hf (Nat.le_trans hk (Nat.le_max_left k l))
  omega

set_option maxHeartbeats 1000000 in
/-- Unlike signs, the first size is not the smaller one. -/
theorem add_ge {w : World} {s : Bool} {sv sv' : Value} {xs xs' : List Nat} {k l : Nat} (hl : Lim w sv xs) (hk : xs.length ≤ k) (hl' : Lim w sv' xs') (hk' : xs'.length ≤ l) (hge : val xs' ≤ val xs) (hkb : k ≤ 549755813888) (hlb : l ≤ 549755813888) :
    Calls Try.prog 45 #[.agg #[.bool s, sv], .agg #[.bool (!s), sv']] w fun e w' => ∃ v, e = .returned v ∧ Whl w' v (zof s (val xs) + zof (!s) (val xs')) (max k l + 1) ∧ Below w.heap.size w w' := by
  obtain ⟨x0, x1, x2, bw, sz⟩ := boxes3 w s (!s) false sv sv' (.slice none 0 0) hl.slice hl'.slice ⟨_, _, _, rfl⟩
  have hL := less_lim (hl.below bw (Nat.le_refl _)) (hl'.below bw (Nat.le_refl _))
  rw [decide_eq_false (by omega)] at hL
  have hS := fun n : Nat => sub_lim ((hl.below bw (Nat.le_refl _)).below (below_drewN (Below.refl _ _) n) (Nat.le_refl _)) ((hl'.below bw (Nat.le_refl _)).below (below_drewN (Below.refl _ _) n) (Nat.le_refl _)) (by omega) hge
  have HL := hid hL
  have HS := hid hS
  have HK := hid (sub_bits (l := l) hl.1 hk hge)
  have X0 := hid x0
  have X2 := hid x2
  have BW := hid bw
  have SZ := hid sz
  have HG := hid (zof_sub s _ _ hge)
  clear hl hk hl' hk' x0 x1 x2 bw sz hge hL hS
  have hss : (s == !s) = false := by cases s <;> rfl
  go_enter Try.func45, Try.ntmps45
  go_wp2_with fail
  refine HL.out.mono ?_
  rintro e w4 ⟨rfl, nd, rfl⟩
  go_wp2_with fail
  refine (HS.out nd).mono ?_
  rintro e w5 ⟨v, zs, rfl, hv, tv, vv, hb⟩
  have hb' : Below _ _ _ := below_undrewN hb
  have c0 := (X0.out.below hb' X0.out.lt).cell0
  have x2' := X2.out.below hb' X2.out.lt
  have X2' := hid x2'
  have hF := signed_lim s hv tv (k := max k l + 1) (length_le_of_val tv _ (by rw [vv]; exact Nat.lt_of_lt_of_le HK.out (Nat.pow_le_pow_right B_pos (Nat.le_succ _))))
  rw [vv, HG.out] at hF
  have HF := hid hF
  have HB := hid hb'
  clear hv tv vv hb hb' x2' hF
  go_wp2_with fail
  refine HF.out.mono ?_
  rintro e w6 ⟨v6, rfl, hv, hb⟩
  obtain ⟨s1, sv1, xs1, rfl, hl1, hv2⟩ := id hv
  obtain ⟨p1, n1, c1, rfl⟩ := hl1.slice
  have x2' := X2'.out.below hb X2'.out.lt
  obtain ⟨d0, g0, d1, g1⟩ := x2'.stores
  have X2'' := hid x2'
  have HV := hid hv
  have HL1 := hid hl1
  have HB2 := hid (HB.out.trans (hb.mono HB.out.size))
  clear hv hv2 hl1 hb x2'
  go_wp2_with fail
  refine bodyPost_ret (res_one rfl rfl ((X2''.out.set0 _).set1 ⟨_, _, _, rfl⟩)) rfl ?_
  exact ⟨_, rfl, (HV.out.box X2''.out _ _).box (X2''.out.set0 _) _ _, ((BW.out.trans (HB2.out.mono (by rw [SZ.out]; omega))).setCell (p := ⟨w.heap.size + 1 + 1, 0, none⟩) (show w.heap.size ≤ w.heap.size + 1 + 1 by omega) _).setCell (p := ⟨w.heap.size + 1 + 1, 1, none⟩) (show w.heap.size ≤ w.heap.size + 1 + 1 by omega) _⟩

theorem less_below {w : World} {v u : Value} {xs ys : List Nat} (h1 : Lim w v xs) (h2 : Lim w u ys) :
    Calls Try.prog 65 #[v, u] w fun e w' => e = .returned (.bool (decide (val xs < val ys))) ∧ Below w.heap.size w w' := by
  refine (less_lim h1 h2).mono ?_
  rintro e w' ⟨rfl, n, rfl⟩
  exact ⟨rfl, below_drewN (Below.refl _ _) n⟩

/-- Two boxes are changed for each other. -/
theorem Box.swap {w : World} {g : Nat} {a c : Bool} {b d : Value} (h0 : Box w g a b) (h1 : Box w (g + 1) c d) :
    Box ((((w.setCell ⟨g, 0, none⟩ (.bool c)).setCell ⟨g, 1, none⟩ d).setCell ⟨g + 1, 0, none⟩ (.bool a)).setCell ⟨g + 1, 1, none⟩ b) g c d ∧
    Box ((((w.setCell ⟨g, 0, none⟩ (.bool c)).setCell ⟨g, 1, none⟩ d).setCell ⟨g + 1, 0, none⟩ (.bool a)).setCell ⟨g + 1, 1, none⟩ b) (g + 1) a b ∧
    Box ((w.setCell ⟨g, 0, none⟩ (.bool c)).setCell ⟨g, 1, none⟩ d) (g + 1) c d ∧
    (∀ {v : Value} {xs : List Nat}, Lim w v xs → Lim ((((w.setCell ⟨g, 0, none⟩ (.bool c)).setCell ⟨g, 1, none⟩ d).setCell ⟨g + 1, 0, none⟩ (.bool a)).setCell ⟨g + 1, 1, none⟩ b) v xs) ∧
    (∀ {K : Nat} {w0 : World}, Below K w0 w → K ≤ g → Below K w0 ((((w.setCell ⟨g, 0, none⟩ (.bool c)).setCell ⟨g, 1, none⟩ d).setCell ⟨g + 1, 0, none⟩ (.bool a)).setCell ⟨g + 1, 1, none⟩ b)) ∧
    (∀ {g2 : Nat} {e : Bool} {f : Value}, Box w g2 e f → g2 ≠ g → g2 ≠ g + 1 → Box ((((w.setCell ⟨g, 0, none⟩ (.bool c)).setCell ⟨g, 1, none⟩ d).setCell ⟨g + 1, 0, none⟩ (.bool a)).setCell ⟨g + 1, 1, none⟩ b) g2 e f) := by
  have k0 := (h0.set0 c).set1 h1.2
  have k1 := (h1.other (g2 := g) (by omega) 0 (.bool c)).other (g2 := g) (by omega) 1 d
  refine ⟨(k0.other (by omega) _ _).other (by omega) _ _, (k1.set0 _).set1 h0.2, k1, fun h => ?_, fun h hK => ?_, fun h n0 n1 => ?_⟩
  · exact (((h.box h0 0 _).box (h0.set0 c) 1 _).box k1 0 _).box (k1.set0 _) 1 _
  · exact (((h.setCell (p := ⟨g, 0, none⟩) hK _).setCell (p := ⟨g, 1, none⟩) hK _).setCell (p := ⟨g + 1, 0, none⟩) (Nat.le_succ_of_le hK) _).setCell (p := ⟨g + 1, 1, none⟩) (Nat.le_succ_of_le hK) _
  · exact (((h.other n0 _ _).other n0 _ _).other n1 _ _).other n1 _ _

set_option maxHeartbeats 2000000 in
/-- Unlike signs, the first size is the smaller one. -/
theorem add_lt {w : World} {s : Bool} {sv sv' : Value} {xs xs' : List Nat} {k l : Nat} (hl : Lim w sv xs) (hk : xs.length ≤ k) (hl' : Lim w sv' xs') (hk' : xs'.length ≤ l) (hlt : val xs < val xs') (hkb : k ≤ 549755813888) (hlb : l ≤ 549755813888) :
    Calls Try.prog 45 #[.agg #[.bool s, sv], .agg #[.bool (!s), sv']] w fun e w' => ∃ v, e = .returned v ∧ Whl w' v (zof s (val xs) + zof (!s) (val xs')) (max k l + 1) ∧ Below w.heap.size w w' := by
  obtain ⟨x0, x1, x2, bw, sz⟩ := boxes3 w s (!s) false sv sv' (.slice none 0 0) hl.slice hl'.slice ⟨_, _, _, rfl⟩
  have hL := less_below (hl.below bw (Nat.le_refl _)) (hl'.below bw (Nat.le_refl _))
  rw [decide_eq_true hlt] at hL
  have hst := hl.store
  have hst' := hl'.store
  have L1 := hid (hl.below bw (Nat.le_refl _))
  have L2 := hid (hl'.below bw (Nat.le_refl _))
  have HL := hid hL
  have HK := hid (sub_bits (l := k) hl'.1 hk' (Nat.le_of_lt hlt))
  have X0 := hid x0
  have X1 := hid x1
  have X2 := hid x2
  have BW := hid bw
  have SZ := hid sz
  have HG := hid (show zof (!s) (val xs' - val xs) = zof s (val xs) + zof (!s) (val xs') by rw [zof_sub (!s) _ _ (Nat.le_of_lt hlt), Bool.not_not, Int.add_comm])
  have LK := hid (show xs.length ≤ 1099511627776 by omega)
  have LK' := hid (show xs'.length ≤ 1099511627776 by omega)
  have HLT := hid hlt
  clear hl hk hl' hk' x0 x1 x2 bw sz hlt hL
  have hss : (s == !s) = false := by cases s <;> rfl
  go_enter Try.func45, Try.ntmps45
  go_wp2_with fail
  refine HL.out.mono ?_
  rintro e w4 ⟨rfl, hb4⟩
  have x0' := X0.out.below hb4 X0.out.lt
  have x1' := X1.out.below hb4 X1.out.lt
  have x2' := X2.out.below hb4 X2.out.lt
  have l1 := L1.out.below hb4 (Nat.le_refl _)
  have l2 := L2.out.below hb4 (Nat.le_refl _)
  obtain ⟨b0, b1, b10, bl, bb, bo⟩ := x0'.swap x1'
  have b2 := bo x2' (by omega) (by omega)
  obtain ⟨c0, f0, c1, f1⟩ := x0'.stores
  obtain ⟨e0, h0, e1, h1⟩ := b10.stores
  have c00 := b0.cell0
  have c01 := b0.cell1
  have c11 := b1.cell1
  have q0 := x0'.cell1
  have q1 := x1'.cell0
  have q2 := x1'.cell1
  have hS := sub_lim (bl l2) (bl l1) LK'.out (Nat.le_of_lt HLT.out)
  have HS := hid hS
  have B0 := hid b0
  have B2 := hid b2
  have BA := hid (bb (BW.out.trans (hb4.mono (by rw [SZ.out]; omega))) (Nat.le_refl _))
  clear x0' x1' x2' l1 l2 b0 b1 b10 bl bb bo b2 hb4 hS HL
  go_wp2_with fail
  refine HS.out.mono ?_
  rintro e w5 ⟨v, zs, rfl, hv, tv, vv, hb⟩
  have d00 := (B0.out.below hb B0.out.lt).cell0
  have x2' := B2.out.below hb B2.out.lt
  have X2' := hid x2'
  have hF := signed_lim (!s) hv tv (k := max k l + 1) (length_le_of_val tv _ (by rw [vv, Nat.max_comm]; exact Nat.lt_of_lt_of_le HK.out (Nat.pow_le_pow_right B_pos (Nat.le_succ _))))
  rw [vv, HG.out] at hF
  have HF := hid hF
  have HB := hid (BA.out.trans (hb.mono BA.out.size))
  clear hv tv vv hb x2' hF HS
  go_wp2_with fail
  refine HF.out.mono ?_
  rintro e w6 ⟨v6, rfl, hv, hb⟩
  obtain ⟨s1, sv1, xs1, rfl, hl1, hv2⟩ := id hv
  obtain ⟨p1, n1, c1, rfl⟩ := hl1.slice
  have x2' := X2'.out.below hb X2'.out.lt
  obtain ⟨d0, g0, d1, g1⟩ := x2'.stores
  have X2'' := hid x2'
  have HV := hid hv
  have HB2 := hid (HB.out.trans (hb.mono HB.out.size))
  clear hv hv2 hl1 hb x2'
  go_wp2_with fail
  refine bodyPost_ret (res_one rfl rfl ((X2''.out.set0 _).set1 ⟨_, _, _, rfl⟩)) rfl ?_
  exact ⟨_, rfl, (HV.out.box X2''.out _ _).box (X2''.out.set0 _) _ _, ((HB2.out).setCell (p := ⟨w.heap.size + 1 + 1, 0, none⟩) (show w.heap.size ≤ w.heap.size + 1 + 1 by omega) _).setCell (p := ⟨w.heap.size + 1 + 1, 1, none⟩) (show w.heap.size ≤ w.heap.size + 1 + 1 by omega) _⟩

theorem add_whl {w : World} {v u : Value} {z y : Int} {k l : Nat} (h : Whl w v z k) (h' : Whl w u y l) (hk : k ≤ 549755813888) (hl : l ≤ 549755813888) :
    Calls Try.prog 45 #[v, u] w fun e w' => ∃ v, e = .returned v ∧ Whl w' v (z + y) (max k l + 1) ∧ Below w.heap.size w w' := by
  obtain ⟨s, sv, xs, rfl, hl1, ht, hk1, hs, rfl⟩ := h
  obtain ⟨s', sv', xs', rfl, hl1', ht', hk1', hs', rfl⟩ := h'
  by_cases e : s = s'
  · subst e
    exact add_same hl1 hk1 hl1' hk1' hs hk hl
  · have e' : s' = !s := by cases s <;> cases s' <;> simp at e ⊢
    subst e'
    by_cases hge : val xs' ≤ val xs
    · exact add_ge hl1 hk1 hl1' hk1' hge hk hl
    · exact add_lt hl1 hk1 hl1' hk1' (by omega) hk hl

end Go.Proofs.Ytkenlaikhnoldaa

/-
  PACKAGE whole: THE METHODS Sub, Mul, Div, abs.
-/
namespace Go.Proofs.Ytkenlaikhnoldaa
open Go.RowKit
open Num
set_option linter.unusedVariables false
set_option maxRecDepth 100000
set_option linter.unusedSimpArgs false

theorem Whl.opened {w : World} {v : Value} {z : Int} {k : Nat} (h : Whl w v z k) : ∃ s p n c, v = .agg #[.bool s, .slice p n c] := by
  obtain ⟨s, sv, xs, rfl, hl, _⟩ := h
  obtain ⟨p, n, c, rfl⟩ := hl.slice
  exact ⟨s, p, n, c, rfl⟩
/-- What is known of a box behind a call, and behind a store of two cells into another one. -/
theorem Box.keep {w w' : World} {g : Nat} {s : Bool} {sv : Value} (h : Box w g s sv) (hb : Below w.heap.size w w') : w'.cell? ⟨g, 0, none⟩ = some (.bool s) ∧ w'.cell? ⟨g, 1, none⟩ = some sv :=
  have h' := h.below hb h.lt
  ⟨h'.cell0, h'.cell1⟩
theorem Box.keep2 {w w' : World} {g : Nat} {s : Bool} {sv : Value} (h : Box w g s sv) (hb : Below w.heap.size w w') (g2 : Nat) (hne : g ≠ g2) :
    (∀ a b, ((w'.setCell ⟨g2, 0, none⟩ a).setCell ⟨g2, 1, none⟩ b).cell? ⟨g, 0, none⟩ = some (.bool s)) ∧ (∀ a b, ((w'.setCell ⟨g2, 0, none⟩ a).setCell ⟨g2, 1, none⟩ b).cell? ⟨g, 1, none⟩ = some sv) :=
  have h' := h.below hb h.lt
  ⟨fun a b => ((h'.other hne 0 a).other hne 1 b).cell0, fun a b => ((h'.other hne 0 a).other hne 1 b).cell1⟩
theorem natAbs_ediv_le (a b : Int) : (a / b).natAbs ≤ a.natAbs := Int.natAbs_ediv_le_natAbs a b
/-- The last store of a method. -/
theorem Box.last {w0 w : World} {g K : Nat} {s : Bool} {sv : Value} (h : Box w g s sv) (hb : Below K w0 w) (hg : K ≤ g) (s' : Bool) (p : Option Addr) (n c : Nat) :
    Box ((w.setCell ⟨g, 0, none⟩ (.bool s')).setCell ⟨g, 1, none⟩ (.slice p n c)) g s' (.slice p n c) ∧ Below K w0 ((w.setCell ⟨g, 0, none⟩ (.bool s')).setCell ⟨g, 1, none⟩ (.slice p n c)) ∧
    (∀ {v z k}, Whl w v z k → Whl ((w.setCell ⟨g, 0, none⟩ (.bool s')).setCell ⟨g, 1, none⟩ (.slice p n c)) v z k) :=
  ⟨(h.set0 _).set1 ⟨_, _, _, rfl⟩, (hb.setCell (p := ⟨g, 0, none⟩) hg _).setCell (p := ⟨g, 1, none⟩) hg _, fun hv => (hv.box h _ _).box (h.set0 _) _ _⟩

set_option maxHeartbeats 1000000 in
theorem sub_whl {w : World} {v u : Value} {z y : Int} {k l : Nat} (h : Whl w v z k) (h' : Whl w u y l) (hk : k ≤ 549755813888) (hl : l ≤ 549755813888) :
    Calls Try.prog 70 #[v, u] w fun e w' => ∃ v, e = .returned v ∧ Whl w' v (z - y) (max k l + 1) ∧ Below w.heap.size w w' := by
  obtain ⟨s, p, n, c, rfl⟩ := h.opened
  obtain ⟨s', p', n', c', rfl⟩ := h'.opened
  obtain ⟨x0, x1, x2, bw, sz⟩ := boxes3 w s s' false (.slice p n c) (.slice p' n' c') (.slice none 0 0) ⟨_, _, _, rfl⟩ ⟨_, _, _, rfl⟩ ⟨_, _, _, rfl⟩
  have i1 := h.on bw
  have HN := hid (neg_whl ((h'.on bw).on (Below.drew (Below.refl _ _))))
  have HA := hid (fun w' u' hb (h2 : Whl w' u' (-y) l) => add_whl (i1.below (w' := w') hb (Nat.le_refl _)) h2 hk hl)
  have X0 := hid x0
  have X1 := hid x1
  have X2 := hid x2
  have BW := hid bw
  have SZ := hid sz
  clear h h' hk hl x0 x1 x2 bw sz i1
  go_enter Try.func70, Try.ntmps70
  go_wp2_with fail
  go_region_held3 (fun w' => w'.cell? ⟨w.heap.size, 0, none⟩ = some (.bool s) ∧ w'.cell? ⟨w.heap.size, 1, none⟩ = some (.slice p n c) ∧ w'.cell? ⟨w.heap.size + 1, 0, none⟩ = some (.bool s') ∧ w'.cell? ⟨w.heap.size + 1, 1, none⟩ = some (.slice p' n' c')) (go_keep) (first
    | (go_at_call 62; refine HN.out.mono ?_; rintro e w4 ⟨v4, rfl, hv4, hb4⟩; replace hb4 := below_undrew' hb4; obtain ⟨c00, c01⟩ := X0.out.keep hb4; obtain ⟨c10, c11⟩ := X1.out.keep hb4; have HV4 := hid hv4; have HB4 := hid hb4; clear hv4; clear hb4)
    | (go_at_call 45; refine (HA.out w4 _ HB4.out HV4.out).mono ?_; rintro e w5 ⟨v5, rfl, hv5, hb5⟩; obtain ⟨s5, p5, n5, c5, rfl⟩ := hv5.opened; replace hb5 := HB4.out.trans (hb5.mono HB4.out.size); obtain ⟨d00, d01⟩ := X0.out.keep hb5; obtain ⟨d10, d11⟩ := X1.out.keep hb5; obtain ⟨z00, z01⟩ := X0.out.keep2 hb5 (w.heap.size + 1 + 1) (by omega); obtain ⟨z10, z11⟩ := X1.out.keep2 hb5 (w.heap.size + 1 + 1) (by omega); have x2' := X2.out.below hb5 X2.out.lt; obtain ⟨q0, g0, q1, g1⟩ := x2'.stores; have X2' := hid x2'; have HV5 := hid hv5; have HB5 := hid hb5; clear hv5; clear hb5; clear x2'))
  go_wp2_with fail
  obtain ⟨r1, r2, r3⟩ := X2'.out.last (BW.out.trans (HB5.out.mono (by rw [SZ.out]; omega))) (show w.heap.size ≤ w.heap.size + 1 + 1 by omega) s5 p5 n5 c5
  refine bodyPost_ret (res_one rfl rfl r1) rfl ?_
  exact ⟨_, rfl, r3 (by rw [Int.sub_eq_add_neg]; exact HV5.out), r2⟩

set_option maxHeartbeats 1000000 in
theorem mul_whl {w : World} {v u : Value} {z y : Int} {k l : Nat} (h : Whl w v z k) (h' : Whl w u y l) (hk : k ≤ 549755813888) (hl : l ≤ 549755813888) :
    Calls Try.prog 43 #[v, u] w fun e w' => ∃ v, e = .returned v ∧ Whl w' v (z * y) (k + l) ∧ Below w.heap.size w w' := by
  obtain ⟨s, sv, xs, rfl, hl1, ht, hk1, hs, rfl⟩ := h
  obtain ⟨s', sv', xs', rfl, hl1', ht', hk1', hs', rfl⟩ := h'
  obtain ⟨x0, x1, x2, bw, sz⟩ := boxes3 w s s' false sv sv' (.slice none 0 0) hl1.slice hl1'.slice ⟨_, _, _, rfl⟩
  have hM := mul_lim ((hl1.below bw (Nat.le_refl _)).below (Below.drew (Below.refl _ _)) (Nat.le_refl _)) ((hl1'.below bw (Nat.le_refl _)).below (Below.drew (Below.refl _ _)) (Nat.le_refl _)) (by omega) (by omega)
  have hlen : ∀ zs, Trim zs → val zs = val xs * val xs' → zs.length ≤ k + l := by
    intro zs tz vz
    refine length_le_of_val tz _ ?_
    rw [vz, Nat.pow_add]
    exact Nat.mul_lt_mul'' (few_limbs hl1.1 hk1) (few_limbs hl1'.1 hk1')
  have HM := hid hM
  have HLEN := hid hlen
  have X0 := hid x0
  have X1 := hid x1
  have X2 := hid x2
  have BW := hid bw
  have SZ := hid sz
  obtain ⟨p, n, c, rfl⟩ := hl1.slice
  obtain ⟨p', n', c', rfl⟩ := hl1'.slice
  clear hl1 hl1' hk1 hk1' ht ht' hs hs' x0 x1 x2 bw sz hM hlen
  have HZ := hid (zof_mul s s' (val xs) (val xs'))
  go_enter Try.func43, Try.ntmps43
  go_wp2_with fail
  go_region_held3 (fun w' => w'.cell? ⟨w.heap.size, 0, none⟩ = some (.bool s) ∧ w'.cell? ⟨w.heap.size, 1, none⟩ = some (.slice p n c) ∧ w'.cell? ⟨w.heap.size + 1, 0, none⟩ = some (.bool s') ∧ w'.cell? ⟨w.heap.size + 1, 1, none⟩ = some (.slice p' n' c')) (go_keep) (first
    | (go_at_call 61; refine HM.out.mono ?_; rintro e w4 ⟨v4, zs, rfl, hv4, tz, vz, hb4⟩; replace hb4 := below_undrew' hb4; obtain ⟨c00, c01⟩ := X0.out.keep hb4; obtain ⟨c10, c11⟩ := X1.out.keep hb4; have HS := hid (signed_lim (k := k + l) (s != s') hv4 tz (HLEN.out _ tz vz)); have VZ := hid vz; have HB4 := hid hb4; clear hv4; clear hb4; clear tz; clear vz)
    | (go_at_call 60; refine HS.out.mono ?_; rintro e w5 ⟨v5, rfl, hv5, hb5⟩; obtain ⟨s5, p5, n5, c5, rfl⟩ := hv5.opened; replace hb5 := HB4.out.trans (hb5.mono HB4.out.size); obtain ⟨d00, d01⟩ := X0.out.keep hb5; obtain ⟨d10, d11⟩ := X1.out.keep hb5; obtain ⟨z00, z01⟩ := X0.out.keep2 hb5 (w.heap.size + 1 + 1) (by omega); obtain ⟨z10, z11⟩ := X1.out.keep2 hb5 (w.heap.size + 1 + 1) (by omega); have x2' := X2.out.below hb5 X2.out.lt; obtain ⟨q0, g0, q1, g1⟩ := x2'.stores; have X2' := hid x2'; have HV5 := hid hv5; have HB5 := hid hb5; clear hv5; clear hb5; clear x2'))
  go_wp2_with fail
  obtain ⟨r1, r2, r3⟩ := X2'.out.last (BW.out.trans (HB5.out.mono (by rw [SZ.out]; omega))) (show w.heap.size ≤ w.heap.size + 1 + 1 by omega) s5 p5 n5 c5
  refine bodyPost_ret (res_one rfl rfl r1) rfl ?_
  have h5 := HV5.out
  rw [VZ.out, HZ.out] at h5
  exact ⟨_, rfl, r3 h5, r2⟩

theorem boxes4 (w : World) (a c e a4 : Bool) (b d f b4 : Value) (hb : ∃ p n c, b = .slice p n c) (hd : ∃ p n c, d = .slice p n c) (hf : ∃ p n c, f = .slice p n c) (hb4 : ∃ p n c, b4 = .slice p n c) :
    Box ((((w.alloc (.cells #[.bool a, b] 50)).alloc (.cells #[.bool c, d] 50)).alloc (.cells #[.bool e, f] 50)).alloc (.cells #[.bool a4, b4] 50)) w.heap.size a b ∧ Box ((((w.alloc (.cells #[.bool a, b] 50)).alloc (.cells #[.bool c, d] 50)).alloc (.cells #[.bool e, f] 50)).alloc (.cells #[.bool a4, b4] 50)) (w.heap.size + 1) c d ∧ Box ((((w.alloc (.cells #[.bool a, b] 50)).alloc (.cells #[.bool c, d] 50)).alloc (.cells #[.bool e, f] 50)).alloc (.cells #[.bool a4, b4] 50)) (w.heap.size + 1 + 1) e f ∧ Box ((((w.alloc (.cells #[.bool a, b] 50)).alloc (.cells #[.bool c, d] 50)).alloc (.cells #[.bool e, f] 50)).alloc (.cells #[.bool a4, b4] 50)) (w.heap.size + 1 + 1 + 1) a4 b4 ∧ Below w.heap.size w ((((w.alloc (.cells #[.bool a, b] 50)).alloc (.cells #[.bool c, d] 50)).alloc (.cells #[.bool e, f] 50)).alloc (.cells #[.bool a4, b4] 50)) ∧ ((((w.alloc (.cells #[.bool a, b] 50)).alloc (.cells #[.bool c, d] 50)).alloc (.cells #[.bool e, f] 50)).alloc (.cells #[.bool a4, b4] 50)).heap.size = w.heap.size + 1 + 1 + 1 + 1 := by
  obtain ⟨h1, h2, h3, h4, h5⟩ := boxes3 w a c e b d f hb hd hf
  obtain ⟨k1, k2, k3⟩ := boxes1 (((w.alloc (.cells #[.bool a, b] 50)).alloc (.cells #[.bool c, d] 50)).alloc (.cells #[.bool e, f] 50)) a4 b4 hb4
  rw [h5] at k1 k2 k3
  exact ⟨h1.below k2 (by omega), h2.below k2 (by omega), h3.below k2 (by omega), k1, h4.trans (k2.mono (by omega)), k3⟩

theorem lim_one {w w' : World} (hw : w' = w.alloc (.cells #[.int .u32 1] 96)) : Lim w' (.slice (some ⟨w.heap.size, 0, none⟩) 1 1) [1] := by
  have h := Blk.new w [1]
  have h2 := h.lim (Fits.single (by omega)) 0 1 1 (by simp) (Nat.le_refl _) (by unfold maxLen; omega)
  rw [hw]
  exact h2

/-- The quotient and what is left of two wholes, by signs and sizes. -/
theorem div_signs (s t : Bool) (a b : Nat) (hb : 0 < b) (hs : s = true → a ≠ 0) :
    (s = false ∨ a % b = 0 → zof s a / zof t b = zof (s != t) (a / b) ∧ zof s a % zof t b = ((a % b : Nat) : Int)) ∧
    (s = true → a % b ≠ 0 → zof s a / zof t b = zof (s != t) (a / b + 1) ∧ zof s a % zof t b = ((b - a % b : Nat) : Int)) := by
  have h1 := Nat.div_add_mod a b
  have h2 := Nat.mod_lt a hb
  generalize a / b = q at *
  generalize a % b = r at *
  have key : ∀ (x y Q : Int) (R : Nat), y ≠ 0 → x = y * Q + R → R < y.natAbs → x / y = Q ∧ x % y = R := by
    intro x y Q R hy hx hR
    have hr0 : (R : Int) / y = 0 := by
      rcases Int.natAbs_eq y with e | e
      · rw [e]; exact Int.ediv_eq_zero_of_lt (by omega) (by omega)
      · rw [e, Int.ediv_neg, Int.ediv_eq_zero_of_lt (by omega) (by omega)]; rfl
    have hrm : (R : Int) % y = R := by
      have := Int.mul_ediv_add_emod (R : Int) y
      rw [hr0, Int.mul_zero] at this; omega
    rw [hx]
    refine ⟨?_, ?_⟩
    · rw [Int.mul_add_ediv_left _ _ hy, hr0, Int.add_zero]
    · rw [Int.mul_add_emod_self_left, hrm]
  constructor
  · intro h
    refine key _ _ _ _ ?_ ?_ ?_
    · cases t <;> simp [zof] <;> omega
    · rw [← h1]
      cases s <;> cases t <;> simp [zof, Int.mul_neg, Int.neg_mul] at h ⊢ <;> omega
    · rw [natAbs_zof]; omega
  · rintro rfl hr
    refine key _ _ _ _ ?_ ?_ ?_
    · cases t <;> simp [zof] <;> omega
    · rw [← h1]
      cases t <;> simp [zof, Int.mul_neg, Int.neg_mul, Int.mul_add] <;> omega
    · rw [natAbs_zof]; omega

theorem res_two {fn : Func} {t t' t'' : Tmp} {tmps : Array Value} {w : World} {g g' : Nat} {s s' : Bool} {sv sv' u : Value} (hf : fn.results = #[.cell t 50, .cell t' 50, .tmp t'']) (ht : tmps.getD t undef = .pointer (some ⟨g, 0, none⟩)) (ht' : tmps.getD t' undef = .pointer (some ⟨g', 0, none⟩)) (hu : tmps.getD t'' undef = u) (h2 : Box w g s sv) (h2' : Box w g' s' sv') :
    (results fn tmps).run Try.prog w = .ok (.tuple #[.agg #[.bool s, sv], .agg #[.bool s', sv'], u]) w := by
  have h1 := at_addr (P := Try.prog) (w := w) ht
  have h1' := at_addr (P := Try.prog) (w := w) ht'
  have h3 := load_whl h2
  have h3' := load_whl h2'
  simp only [Array.getD_eq_getD_getElem?] at h1 h1' hu
  simp [results, hf, Sem.run_bind, h1, h3, h1', h3', hu]

/-- Two boxes side by side, both written. -/
theorem Box.last2 {w0 w : World} {g K : Nat} {s s' : Bool} {sv sv' : Value} (h : Box w g s sv) (h' : Box w (g + 1) s' sv') (hb : Below K w0 w) (hg : K ≤ g) (a a' : Bool) (p p' : Option Addr) (n n' c c' : Nat) :
    Box ((((w.setCell ⟨g, 0, none⟩ (.bool a)).setCell ⟨g, 1, none⟩ (.slice p n c)).setCell ⟨g + 1, 0, none⟩ (.bool a')).setCell ⟨g + 1, 1, none⟩ (.slice p' n' c')) g a (.slice p n c) ∧ Box ((((w.setCell ⟨g, 0, none⟩ (.bool a)).setCell ⟨g, 1, none⟩ (.slice p n c)).setCell ⟨g + 1, 0, none⟩ (.bool a')).setCell ⟨g + 1, 1, none⟩ (.slice p' n' c')) (g + 1) a' (.slice p' n' c') ∧ Below K w0 ((((w.setCell ⟨g, 0, none⟩ (.bool a)).setCell ⟨g, 1, none⟩ (.slice p n c)).setCell ⟨g + 1, 0, none⟩ (.bool a')).setCell ⟨g + 1, 1, none⟩ (.slice p' n' c')) ∧ (∀ {v z k}, Whl w v z k → Whl ((((w.setCell ⟨g, 0, none⟩ (.bool a)).setCell ⟨g, 1, none⟩ (.slice p n c)).setCell ⟨g + 1, 0, none⟩ (.bool a')).setCell ⟨g + 1, 1, none⟩ (.slice p' n' c')) v z k) := by
  obtain ⟨r1, r2, r3⟩ := h.last hb hg a p n c
  have k1 := (h'.other (g2 := g) (by omega) 0 (.bool a)).other (g2 := g) (by omega) 1 (.slice p n c)
  obtain ⟨q1, q2, q3⟩ := k1.last r2 (Nat.le_succ_of_le hg) a' p' n' c'
  exact ⟨(r1.other (by omega) _ _).other (by omega) _ _, q1, q2, fun hv => q3 (r3 hv)⟩
/-- What a walk needs to write two boxes side by side. -/
theorem Box.stores2 {w : World} {g : Nat} {s s' : Bool} {sv sv' : Value} (h : Box w g s sv) (h' : Box w (g + 1) s' sv') :
    (w.cell? ⟨g, 0, none⟩ = some (.bool s) ∧ w.frozen? ⟨g, 0, none⟩ = false ∧ (∀ x, (w.setCell ⟨g, 0, none⟩ (.bool x)).cell? ⟨g, 1, none⟩ = some sv) ∧ (∀ x, (w.setCell ⟨g, 0, none⟩ (.bool x)).frozen? ⟨g, 1, none⟩ = false)) ∧
    (∀ a b, ((w.setCell ⟨g, 0, none⟩ a).setCell ⟨g, 1, none⟩ b).cell? ⟨g + 1, 0, none⟩ = some (.bool s')) ∧ (∀ a b, ((w.setCell ⟨g, 0, none⟩ a).setCell ⟨g, 1, none⟩ b).frozen? ⟨g + 1, 0, none⟩ = false) ∧
    (∀ a b x, (((w.setCell ⟨g, 0, none⟩ a).setCell ⟨g, 1, none⟩ b).setCell ⟨g + 1, 0, none⟩ (.bool x)).cell? ⟨g + 1, 1, none⟩ = some sv') ∧ (∀ a b x, (((w.setCell ⟨g, 0, none⟩ a).setCell ⟨g, 1, none⟩ b).setCell ⟨g + 1, 0, none⟩ (.bool x)).frozen? ⟨g + 1, 1, none⟩ = false) := by
  have k1 := fun a b => (h'.other (g2 := g) (by omega) 0 a).other (g2 := g) (by omega) 1 b
  exact ⟨h.stores, fun a b => (k1 a b).cell0, fun a b => (k1 a b).free 0, fun a b x => ((k1 a b).set0 x).cell1, fun a b x => ((k1 a b).set0 x).free 1⟩

set_option maxHeartbeats 2000000 in
theorem div_even {w : World} {s s' : Bool} {sv sv' : Value} {xs xs' : List Nat} {k l : Nat} (hl : Lim w sv xs) (hk : xs.length ≤ k) (hl' : Lim w sv' xs') (hk' : xs'.length ≤ l) (h0 : 0 < val xs') (he : s = false ∨ val xs % val xs' = 0) (hs : s = true → val xs ≠ 0) (hkb : k ≤ 549755813888) (hlb : l ≤ 549755813888) :
    Calls Try.prog 63 #[.agg #[.bool s, sv], .agg #[.bool s', sv']] w fun e w' => ∃ v u, e = .returned (.tuple #[v, u, .nilIface]) ∧ Whl w' v (zof s (val xs) / zof s' (val xs')) (k + 1) ∧ Whl w' u (zof s (val xs) % zof s' (val xs')) l ∧ Below w.heap.size w w' := by
  obtain ⟨x0, x1, x2, x3, bw, sz⟩ := boxes4 w s s' false false sv sv' (.slice none 0 0) (.slice none 0 0) hl.slice hl'.slice ⟨_, _, _, rfl⟩ ⟨_, _, _, rfl⟩
  have HD := hid (div_lim (hl.below bw (Nat.le_refl _)) (hl'.below bw (Nat.le_refl _)) (by omega) (by omega) h0)
  obtain ⟨e1, e2⟩ := (div_signs s s' (val xs) (val xs') h0 hs).1 he
  rw [e1, e2]
  have hq : val xs / val xs' < B ^ (k + 1) := Nat.lt_of_le_of_lt (Nat.div_le_self _ _) (Nat.lt_of_lt_of_le (few_limbs hl.1 hk) (Nat.pow_le_pow_right B_pos (Nat.le_succ _)))
  have hr : val xs % val xs' < B ^ l := Nat.lt_trans (Nat.mod_lt _ h0) (few_limbs hl'.1 hk')
  have hz : s = true → ¬ (0 : Int) < ((val xs % val xs' : Nat) : Int) := by
    rcases he with rfl | e
    · intro e; cases e
    · rw [e]; simp
  have HQ := hid hq
  have HR := hid hr
  have HZ := hid hz
  have X0 := hid x0
  have X1 := hid x1
  have X2 := hid x2
  have X3 := hid x3
  have BW := hid bw
  have SZ := hid sz
  clear hl hk hl' hk' h0 hs x0 x1 x2 x3 bw sz e1 e2 hq hr hz he
  have hrs : ∀ rs : List Nat, Trim rs → val rs = val xs % val xs' → s = true → rs = [] := by
    intro rs tr vr e
    have := HZ.out e
    exact tr.zero_iff.1 (by omega)
  have HRS := hid hrs
  clear hrs
  cases s
  · rw [show (false != s') = s' by cases s' <;> rfl]
    go_enter Try.func63, Try.ntmps63
    go_wp2_with fail
    refine HD.out.mono ?_
    rintro e w4 ⟨q, r, qs, rs, rfl, hq, hr, tq, tr, vq, vr, hb⟩
    obtain ⟨c00, c01⟩ := X0.out.keep hb
    obtain ⟨c10, c11⟩ := X1.out.keep hb
    obtain ⟨p, n, c, rfl⟩ := hr.slice
    have hS := signed_lim (k := k + 1) s' hq tq (length_le_of_val tq _ (by rw [vq]; exact HQ.out))
    rw [vq] at hS
    have HS := hid hS
    have HWR := hid (show Whl w4 (.agg #[.bool false, .slice p n c]) ((val xs % val xs' : Nat) : Int) l from ⟨false, _, rs, rfl, hr, tr, length_le_of_val tr _ (by rw [vr]; exact HR.out), fun e => by simp at e, by rw [vr]; rfl⟩)
    have HB := hid hb
    clear hS hq hr tq tr vq vr hb
    go_wp2_with fail
    refine HS.out.mono ?_
    rintro e w5 ⟨v5, rfl, hv5, hb5⟩
    obtain ⟨s5, p5, n5, c5, rfl⟩ := hv5.opened
    have HWR5 := hid (HWR.out.on hb5)
    replace hb5 := HB.out.trans (hb5.mono HB.out.size)
    have x2' := X2.out.below hb5 X2.out.lt
    have x3' := X3.out.below hb5 X3.out.lt
    obtain ⟨⟨q0, g0, q1, g1⟩, q2, g2, q3, g3⟩ := x2'.stores2 x3'
    have HL := hid (x2'.last2 x3' (BW.out.trans (hb5.mono (by rw [SZ.out]; omega))) (by omega) s5 false p5 p n5 n c5 c)
    have HV5 := hid hv5
    clear hv5 hb5 x2' x3'
    go_wp2_with fail
    obtain ⟨r1, r2, r3, r4⟩ := HL.out
    refine bodyPost_ret (res_two rfl rfl rfl rfl r1 r2) rfl ?_
    exact ⟨_, _, rfl, r4 HV5.out, r4 HWR5.out, r3⟩
  · rw [show (true != s') = !s' by cases s' <;> rfl]
    go_enter Try.func63, Try.ntmps63
    go_wp2_with fail
    refine HD.out.mono ?_
    rintro e w4 ⟨q, r, qs, rs, rfl, hq, hr, tq, tr, vq, vr, hb⟩
    obtain rfl := HRS.out rs tr vr (by simp)
    obtain ⟨c00, c01⟩ := X0.out.keep hb
    obtain ⟨c10, c11⟩ := X1.out.keep hb
    obtain ⟨p, c, rfl, _⟩ := lim_parts hr
    have hS := signed_lim (k := k + 1) (!s') hq tq (length_le_of_val tq _ (by rw [vq]; exact HQ.out))
    rw [vq] at hS
    have HS := hid hS
    have HWR := hid (show Whl w4 (.agg #[.bool false, .slice p 0 c]) ((val xs % val xs' : Nat) : Int) l from ⟨false, _, [], rfl, hr, tr, Nat.zero_le _, fun e => by simp at e, by rw [vr]; rfl⟩)
    have HB := hid hb
    clear hS hq hr tq tr vq vr hb
    go_wp2_with fail
    refine HS.out.mono ?_
    rintro e w5 ⟨v5, rfl, hv5, hb5⟩
    obtain ⟨s5, p5, n5, c5, rfl⟩ := hv5.opened
    have HWR5 := hid (HWR.out.on hb5)
    replace hb5 := HB.out.trans (hb5.mono HB.out.size)
    have x2' := X2.out.below hb5 X2.out.lt
    have x3' := X3.out.below hb5 X3.out.lt
    obtain ⟨⟨q0, g0, q1, g1⟩, q2, g2, q3, g3⟩ := x2'.stores2 x3'
    have HL := hid (x2'.last2 x3' (BW.out.trans (hb5.mono (by rw [SZ.out]; omega))) (by omega) s5 false p5 p n5 0 c5 c)
    have HV5 := hid hv5
    clear hv5 hb5 x2' x3'
    go_wp2_with fail
    obtain ⟨r1, r2, r3, r4⟩ := HL.out
    refine bodyPost_ret (res_two rfl rfl rfl rfl r1 r2) rfl ?_
    exact ⟨_, _, rfl, r4 HV5.out, r4 HWR5.out, r3⟩

set_option maxHeartbeats 2000000 in
theorem div_odd {w : World} {s' : Bool} {sv sv' : Value} {xs xs' : List Nat} {k l : Nat} (hl : Lim w sv xs) (hk : xs.length ≤ k) (hl' : Lim w sv' xs') (hk' : xs'.length ≤ l) (h0 : 0 < val xs') (he : val xs % val xs' ≠ 0) (hs : val xs ≠ 0) (hkb : k ≤ 549755813888) (hlb : l ≤ 549755813888) :
    Calls Try.prog 63 #[.agg #[.bool true, sv], .agg #[.bool s', sv']] w fun e w' => ∃ v u, e = .returned (.tuple #[v, u, .nilIface]) ∧ Whl w' v (zof true (val xs) / zof s' (val xs')) (k + 1) ∧ Whl w' u (zof true (val xs) % zof s' (val xs')) l ∧ Below w.heap.size w w' := by
  obtain ⟨x0, x1, x2, x3, bw, sz⟩ := boxes4 w true s' false false sv sv' (.slice none 0 0) (.slice none 0 0) hl.slice hl'.slice ⟨_, _, _, rfl⟩ ⟨_, _, _, rfl⟩
  have HD := hid (div_lim (hl.below bw (Nat.le_refl _)) (hl'.below bw (Nat.le_refl _)) (by omega) (by omega) h0)
  obtain ⟨e1, e2⟩ := (div_signs true s' (val xs) (val xs') h0 (fun _ => hs)).2 rfl he
  rw [e1, e2, show (true != s') = !s' by cases s' <;> rfl]
  have hq0 : val xs / val xs' < B ^ k := Nat.lt_of_le_of_lt (Nat.div_le_self _ _) (few_limbs hl.1 hk)
  have hq : val xs / val xs' + 1 < B ^ (k + 1) := by
    have : 0 < B ^ k := Nat.pow_pos B_pos
    rw [Nat.pow_succ, B_eq] at *
    omega
  have hr : val xs' - val xs % val xs' < B ^ l := Nat.lt_of_le_of_lt (Nat.sub_le _ _) (few_limbs hl'.1 hk')
  have hm := Nat.mod_lt (val xs) h0
  have HQ0 := hid hq0
  have HQ := hid hq
  have HR := hid hr
  have HM := hid hm
  have HE := hid he
  have L2 := hid (hl'.below bw (Nat.le_refl _))
  have LB := hid (show xs'.length ≤ 1099511627776 by omega)
  have X0 := hid x0
  have X1 := hid x1
  have X2 := hid x2
  have X3 := hid x3
  have BW := hid bw
  have SZ := hid sz
  clear hl hk hl' hk' h0 hs x0 x1 x2 x3 bw sz e1 e2 hq hr he hm hq0
  go_enter Try.func63, Try.ntmps63
  go_wp2_with fail
  refine HD.out.mono ?_
  rintro e w4 ⟨q, r, qs, rs, rfl, hq, hr, tq, tr, vq, vr, hb⟩
  obtain ⟨c00, c01⟩ := X0.out.keep hb
  obtain ⟨c10, c11⟩ := X1.out.keep hb
  have hn0 : ∃ n, rs.length = n ∧ (0 : Int) < (n : Int) := by
    refine ⟨_, rfl, ?_⟩
    have h1 := HE.out
    rw [← vr] at h1
    cases rs with
    | nil => simp [val] at h1
    | cons => simp
  obtain ⟨n, hn, hn0⟩ := hn0
  obtain ⟨p, c, rfl, _⟩ := lim_parts hr
  rw [hn] at *
  have hAq := (Below.refl w4.heap.size w4).alloc (Nat.le_refl _) (.cells #[.int .u32 1] 96)
  have hlq := length_le_of_val tq k (by rw [vq]; exact HQ0.out)
  have HA := hid (add_lim (hq.below hAq (Nat.le_refl _)) (lim_one rfl) (by omega) (by simp))
  have hS := fun w' (hb' : Below w4.heap.size w4 w') => sub_lim (L2.out.below (hb.trans (hb'.mono hb.size)) (Nat.le_refl _)) (hr.below hb' (Nat.le_refl _)) LB.out (by rw [vr]; exact Nat.le_of_lt HM.out)
  have HS := hid hS
  have HB := hid hb
  have HBA := hid hAq
  have VQ := hid vq
  have VR := hid vr
  clear hq hr tq tr vq vr hb hn hAq hS hlq
  go_wp2_with fail
  refine HA.out.mono ?_
  rintro e w5 ⟨q2, qs2, rfl, hq2, tq2, vq2, hb5⟩
  have B5 := hid (HBA.out.trans (hb5.mono (by simp)))
  obtain ⟨c50, c51⟩ := X1.out.keep (HB.out.trans (B5.out.mono HB.out.size))
  obtain ⟨c60, c61⟩ := X0.out.keep (HB.out.trans (B5.out.mono HB.out.size))
  have HC := hid (HS.out w5 B5.out)
  have L5 := hid hq2
  have TQ2 := hid tq2
  have VQ2 := hid vq2
  clear hq2 tq2 vq2 hb5 HA HS
  go_wp2_with fail
  refine HC.out.mono ?_
  rintro e w6 ⟨r2, rs2, rfl, hr2, tr2, vr2, hb6⟩
  have B6 := hid ((HB.out.trans (B5.out.mono HB.out.size)).trans (hb6.mono (Nat.le_trans HB.out.size B5.out.size)))
  obtain ⟨c70, c71⟩ := X1.out.keep B6.out
  obtain ⟨c80, c81⟩ := X0.out.keep B6.out
  obtain ⟨p2, n2, c2, rfl⟩ := hr2.slice
  have hv2 : val qs2 = val xs / val xs' + 1 := by rw [VQ2.out, VQ.out]; rfl
  have hF := signed_lim (k := k + 1) (!s') (L5.out.below hb6 (Nat.le_refl _)) TQ2.out (length_le_of_val TQ2.out _ (by rw [hv2]; exact HQ.out))
  rw [hv2] at hF
  have HF := hid hF
  rw [VR.out] at vr2
  have HWR := hid (show Whl w6 (.agg #[.bool false, .slice p2 n2 c2]) ((val xs' - val xs % val xs' : Nat) : Int) l from ⟨false, _, rs2, rfl, hr2, tr2, length_le_of_val tr2 _ (by rw [vr2]; exact HR.out), fun e => by simp at e, by rw [vr2]; rfl⟩)
  clear hr2 tr2 vr2 hb6 hF hv2 HC
  go_wp2_with fail
  refine HF.out.mono ?_
  rintro e w7 ⟨v5, rfl, hv5, hb5⟩
  obtain ⟨s5, p5, n5, c5, rfl⟩ := hv5.opened
  have HWR5 := hid (HWR.out.on hb5)
  replace hb5 := B6.out.trans (hb5.mono B6.out.size)
  have x2' := X2.out.below hb5 X2.out.lt
  have x3' := X3.out.below hb5 X3.out.lt
  obtain ⟨⟨q0, g0, q1, g1⟩, q2, g2, q3, g3⟩ := x2'.stores2 x3'
  have HL := hid (x2'.last2 x3' (BW.out.trans (hb5.mono (by rw [SZ.out]; omega))) (by omega) s5 false p5 p2 n5 n2 c5 c2)
  have HV5 := hid hv5
  clear hv5 hb5 x2' x3'
  go_wp2_with fail
  obtain ⟨r1, r2, r3, r4⟩ := HL.out
  refine bodyPost_ret (res_two rfl rfl rfl rfl r1 r2) rfl ?_
  exact ⟨_, _, rfl, r4 HV5.out, r4 HWR5.out, r3⟩

theorem div_whl {w : World} {v u : Value} {z y : Int} {k l : Nat} (h : Whl w v z k) (h' : Whl w u y l) (hy : y ≠ 0) (hk : k ≤ 549755813888) (hl : l ≤ 549755813888) :
    Calls Try.prog 63 #[v, u] w fun e w' => ∃ v u, e = .returned (.tuple #[v, u, .nilIface]) ∧ Whl w' v (z / y) (k + 1) ∧ Whl w' u (z % y) l ∧ Below w.heap.size w w' := by
  obtain ⟨s, sv, xs, rfl, hl1, ht, hk1, hs, rfl⟩ := h
  obtain ⟨s', sv', xs', rfl, hl1', ht', hk1', hs', rfl⟩ := h'
  have h0 : 0 < val xs' := by
    apply Nat.pos_of_ne_zero
    intro e
    rw [e] at hy
    cases s' <;> simp [zof] at hy
  by_cases he : s = false ∨ val xs % val xs' = 0
  · exact div_even hl1 hk1 hl1' hk1' h0 he hs hk hl
  · have hst : s = true := by
      cases s
      · exact absurd (.inl rfl) he
      · rfl
    subst hst
    exact div_odd hl1 hk1 hl1' hk1' h0 (fun e => he (.inr e)) (hs rfl) hk hl

end Go.Proofs.Ytkenlaikhnoldaa

/-
  PACKAGE whole: Of, Sign, Less, Gcd.
-/
namespace Go.Proofs.Ytkenlaikhnoldaa
open Go.RowKit
open Num
set_option linter.unusedVariables false
set_option maxRecDepth 100000
set_option linter.unusedSimpArgs false

theorem Whl.lt {w : World} {v : Value} {z : Int} {k : Nat} (h : Whl w v z k) : z.natAbs < B ^ k := by
  obtain ⟨s, sv, xs, h1, h2, h3, h4, h5, h6⟩ := h
  rw [← h6, natAbs_zof]
  exact few_limbs h2.1 h4
theorem Whl.drew {w : World} {v : Value} {z : Int} {k : Nat} (h : Whl w v z k) : Whl w.drew v z k := h.on (Below.drew (Below.refl _ _))
theorem Whl.nil (w : World) (k : Nat) : Whl w (.agg #[.bool false, .slice none 0 0]) 0 k := ⟨false, _, [], rfl, Lim.nil w, .inl rfl, Nat.zero_le _, fun e => by simp at e, rfl⟩

set_option maxHeartbeats 400000 in
theorem of_plus (n : Nat) (hn : n < 9223372036854775808) (w : World) :
    Calls Try.prog 31 #[.int .i64 n] w fun e w' => ∃ v, e = .returned v ∧ Whl w' v n 2 ∧ Below w.heap.size w w' := by
  obtain ⟨x0, bw, sz⟩ := boxes1 w false (.slice none 0 0) ⟨_, _, _, rfl⟩
  have HN := hid (fun w => natof_lim n (by omega) w)
  have X0 := hid x0
  have BW := hid bw
  have h1 : IntKind.u64.wrap (n : Int) = n := IntWalk.u64_in _ (by omega)
  have h2 : (0 : Int) ≤ (n : Int) := by omega
  clear x0 bw sz hn
  go_enter Try.func31, Try.ntmps31
  go_wp2_with fail
  refine (HN.out _).mono ?_
  rintro e w1 ⟨v, zs, rfl, hL, tr, hl, hv, hb⟩
  obtain ⟨p, m, c, rfl⟩ := hL.slice
  have x0' := X0.out.below hb X0.out.lt
  obtain ⟨c0, f0, c1, f1⟩ := x0'.stores
  have X1 := hid x0'
  have B1 := hid (BW.out.trans (hb.mono BW.out.size))
  have HV := hid (show Whl w1 (.agg #[.bool false, .slice p m c]) n 2 from ⟨false, _, zs, rfl, hL, tr, hl, fun e => by simp at e, by rw [hv]; rfl⟩)
  clear hL tr hl hv hb x0' HN
  go_wp2_with fail
  obtain ⟨r1, r2, r3⟩ := X1.out.last B1.out (Nat.le_refl _) false p m c
  refine bodyPost_ret (res_one rfl rfl r1) rfl ?_
  exact ⟨_, rfl, r3 HV.out, r2⟩

set_option maxHeartbeats 400000 in
theorem of_minus (n : Nat) (h0 : 0 < n) (hn : n ≤ 9223372036854775808) (w : World) :
    Calls Try.prog 31 #[.int .i64 (-(n : Int))] w fun e w' => ∃ v, e = .returned v ∧ Whl w' v (-(n : Int)) 2 ∧ Below w.heap.size w w' := by
  obtain ⟨x0, bw, sz⟩ := boxes1 w false (.slice none 0 0) ⟨_, _, _, rfl⟩
  have HN := hid (fun w => natof_lim n (by omega) w)
  have X0 := hid x0
  have BW := hid bw
  have h1 : IntKind.u64.wrap (-(n : Int)) = 18446744073709551616 - n := by rw [IntKind.wrap_u64]; omega
  have h3 : IntKind.u64.wrap (-(18446744073709551616 - (n : Int))) = n := by rw [IntKind.wrap_u64]; omega
  have h2 : (0 : Int) < (n : Int) := by omega
  have H0 := hid h0
  clear x0 bw sz hn h0
  go_enter Try.func31, Try.ntmps31
  go_wp2_with fail
  refine (HN.out _).mono ?_
  rintro e w1 ⟨v, zs, rfl, hL, tr, hl, hv, hb⟩
  obtain ⟨p, m, c, rfl⟩ := hL.slice
  have x0' := X0.out.below hb X0.out.lt
  obtain ⟨c0, f0, c1, f1⟩ := x0'.stores
  have X1 := hid x0'
  have B1 := hid (BW.out.trans (hb.mono BW.out.size))
  have HV := hid (show Whl w1 (.agg #[.bool true, .slice p m c]) (-(n : Int)) 2 from ⟨true, _, zs, rfl, hL, tr, hl, fun e => by rw [hv]; exact Nat.ne_of_gt H0.out, by rw [hv]; rfl⟩)
  clear hL tr hl hv hb x0' HN
  go_wp2_with fail
  obtain ⟨r1, r2, r3⟩ := X1.out.last B1.out (Nat.le_refl _) true p m c
  refine bodyPost_ret (res_one rfl rfl r1) rfl ?_
  exact ⟨_, rfl, r3 HV.out, r2⟩

theorem of_whl (z : Int) (h1 : -9223372036854775808 ≤ z) (h2 : z < 9223372036854775808) (w : World) :
    Calls Try.prog 31 #[.int .i64 z] w fun e w' => ∃ v, e = .returned v ∧ Whl w' v z 2 ∧ Below w.heap.size w w' := by
  by_cases h : z < 0
  · have e : z = -((z.natAbs : Nat) : Int) := by omega
    rw [e]
    exact of_minus _ (by omega) (by omega) w
  · have e : z = ((z.natAbs : Nat) : Int) := by omega
    rw [e]
    exact of_plus _ (by omega) w
/-- One limb is enough for one digit. -/
theorem of_small (z : Int) (h : z.natAbs < 4294967296) (w : World) :
    Calls Try.prog 31 #[.int .i64 z] w fun e w' => ∃ v, e = .returned v ∧ Whl w' v z 1 ∧ Below w.heap.size w w' := by
  refine (of_whl z (by omega) (by omega) w).mono ?_
  rintro e w' ⟨v, rfl, hv, hb⟩
  exact ⟨v, rfl, hv.fit 1 (by rw [Nat.pow_one, B_eq]; exact h), hb⟩

set_option maxHeartbeats 400000 in
theorem sgn_whl {w : World} {v : Value} {z : Int} {k : Nat} (h : Whl w v z k) :
    Calls Try.prog 55 #[v] w fun e w' => e = .returned (.int .i64 z.sign) ∧ Below w.heap.size w w' := by
  obtain ⟨s, sv, xs, rfl, hl, ht, hk, hs, hz⟩ := h
  obtain ⟨p, c, rfl, _⟩ := lim_parts hl
  obtain ⟨x0, bw, sz⟩ := boxes1 w s (.slice p xs.length c) ⟨_, _, _, rfl⟩
  cases s
  · by_cases h0 : val xs = 0
    · have e : xs = [] := ht.zero_iff.1 h0
      have hz0 : z.sign = 0 := by rw [← hz, h0]; rfl
      subst e
      have BW := hid bw
      rw [hz0]
      clear hl ht hk hs hz h0 hz0 x0 bw sz
      go_enter Try.func55, Try.ntmps55
      go_wp2_with fail
      go_ret
      exact ⟨rfl, BW.out⟩
    · have hz0 : z.sign = 1 := by
        rw [← hz]
        exact Int.sign_eq_one_of_pos (by simp [zof]; omega)
      have hn0 : (0 : Int) < (xs.length : Int) := by
        cases xs with
        | nil => exact absurd rfl h0
        | cons => simp
      rw [hz0]
      generalize xs.length = n at *
      have BW := hid bw
      clear hl ht hk hs hz h0 hz0 x0 bw sz
      go_enter Try.func55, Try.ntmps55
      go_wp2_with fail
      go_ret
      exact ⟨rfl, BW.out⟩
  · have hz0 : z.sign = -1 := by
      rw [← hz]
      have := hs rfl
      exact Int.sign_eq_neg_one_of_neg (by simp [zof]; omega)
    rw [hz0]
    generalize xs.length = n at *
    have BW := hid bw
    clear hl ht hk hs hz hz0 x0 bw sz
    go_enter Try.func55, Try.ntmps55
    go_wp2_with fail
    go_ret
    exact ⟨rfl, BW.out⟩

theorem neg_field (s : Bool) (p : Option Addr) (n c : Nat) (w : World) : (Instr.field 50 (.agg #[.bool s, .slice p n c]) 0).run Try.prog w = .ok (.bool s) w := by kernel_rfl

set_option maxHeartbeats 400000 in
theorem zless_whl {w : World} {v u : Value} {z y : Int} {k l : Nat} (h : Whl w v z k) (h' : Whl w u y l) (hk : k ≤ 549755813888) (hl : l ≤ 549755813888) :
    Calls Try.prog 58 #[v, u] w fun e w' => e = .returned (.bool (decide (z < y))) ∧ Below w.heap.size w w' := by
  obtain ⟨s, p, n, c, rfl⟩ := h.opened
  obtain ⟨s', p', n', c', rfl⟩ := h'.opened
  obtain ⟨x0, x1, bw, sz⟩ := boxes2 w s s' (.slice p n c) (.slice p' n' c') ⟨_, _, _, rfl⟩ ⟨_, _, _, rfl⟩
  have HS := hid (sub_whl (h.on bw) (h'.on bw) hk hl)
  have BW := hid bw
  have SZ := hid sz
  clear h h' hk hl x0 x1 bw sz
  go_enter Try.func58, Try.ntmps58
  go_wp2_with fail
  refine HS.out.mono ?_
  rintro e w1 ⟨v, rfl, hv, hb⟩
  obtain ⟨s1, sv1, xs1, rfl, hl, ht, hk, hs, hz⟩ := hv.neg
  obtain ⟨p1, n1, c1, rfl⟩ := hl.slice
  have HB := hid (BW.out.trans (hb.mono BW.out.size))
  have HZ := hid (show s1 = decide (z < y) by rw [hs]; apply decide_eq_decide.2; omega)
  clear hl ht hk hs hz hv hb HS
  have hfd := neg_field s1 p1 n1 c1
  go_wp2_with fail
  go_ret
  exact ⟨ret_bool HZ.out, HB.out⟩

set_option maxHeartbeats 400000 in
theorem zgcd_whl {w : World} {v u : Value} {z y : Int} {k : Nat} (h : Whl w v z k) (h' : Whl w u y k) (hk : k ≤ 549755813888) :
    Calls Try.prog 48 #[v, u] w fun e w' => ∃ v, e = .returned v ∧ Whl w' v (Int.gcd z y) k ∧ Below w.heap.size w w' := by
  obtain ⟨s, sv, xs, rfl, hl, ht, hk1, hs, hz⟩ := h
  obtain ⟨s', sv', xs', rfl, hl', ht', hk1', hs', hz'⟩ := h'
  have e1 : z.natAbs = val xs := by rw [← hz, natAbs_zof]
  have e2 : y.natAbs = val xs' := by rw [← hz', natAbs_zof]
  obtain ⟨x0, x1, x2, bw, sz⟩ := boxes3 w s s' false sv sv' (.slice none 0 0) hl.slice hl'.slice ⟨_, _, _, rfl⟩
  have HG := hid (gcd_lim (hl.below bw (Nat.le_refl _)) (hl'.below bw (Nat.le_refl _)) hk1 hk1' (by omega))
  have HE := hid (show Nat.gcd (val xs) (val xs') = Int.gcd z y by rw [Int.gcd, e1, e2])
  have X2 := hid x2
  have BW := hid bw
  have SZ := hid sz
  obtain ⟨p, n, c, rfl⟩ := hl.slice
  obtain ⟨p', n', c', rfl⟩ := hl'.slice
  clear hl hl' ht ht' hk1 hk1' hs hs' hz hz' x0 x1 x2 bw sz e1 e2
  go_enter Try.func48, Try.ntmps48
  go_wp2_with fail
  refine HG.out.mono ?_
  rintro e w1 ⟨v, zs, rfl, hL, tr, hl, hv, hb⟩
  obtain ⟨p1, m1, c1, rfl⟩ := hL.slice
  have x2' := X2.out.below hb X2.out.lt
  obtain ⟨c0, f0, c1', f1⟩ := x2'.stores
  have X3 := hid x2'
  have B1 := hid (BW.out.trans (hb.mono BW.out.size))
  have HV := hid (show Whl w1 (.agg #[.bool false, .slice p1 m1 c1]) (Int.gcd z y) k from ⟨false, _, zs, rfl, hL, tr, hl, fun e => by simp at e, by rw [hv, HE.out]; rfl⟩)
  clear hL tr hl hv hb x2' HG
  go_wp2_with fail
  obtain ⟨r1, r2, r3⟩ := X3.out.last B1.out (show w.heap.size ≤ w.heap.size + 1 + 1 by omega) false p1 m1 c1
  refine bodyPost_ret (res_one rfl rfl r1) rfl ?_
  exact ⟨_, rfl, r3 HV.out, r2⟩

end Go.Proofs.Ytkenlaikhnoldaa

/-
  PACKAGE whole: TEXTS: Parse, read.
-/
namespace Go.Proofs.Ytkenlaikhnoldaa
open Go.RowKit
open Num
set_option linter.unusedVariables false
set_option maxRecDepth 100000
set_option linter.unusedSimpArgs false

theorem extract_one (s : ByteArray) : (s.extract 0 1).toList = s.data.toList.take 1 := by
  rw [ByteArray.toList_eq, ByteArray.data_extract, Array.toList_extract, List.extract]
  simp

set_option maxHeartbeats 400000 in
theorem hasPrefix_one (s : ByteArray) (c : UInt8) (w : World) :
    Calls Try.prog 90 #[.string s, .string ⟨#[c]⟩] w fun e w' => e = .returned (.bool (s.data.toList.head? == some c)) ∧ w = w' := by
  have h1 : (⟨#[c]⟩ : ByteArray).size = 1 := rfl
  have hl : s.data.toList.length = s.size := rfl
  by_cases h0 : (1 : Int) ≤ (s.size : Int)
  · have hx : ((s.extract 0 1).toList == [c]) = (s.data.toList.head? == some c) := by
      rw [extract_one]
      cases hd : s.data.toList with
      | nil => rw [hd] at hl; simp at hl; omega
      | cons a l => simp
    have HX := hid hx
    clear hx hl
    go_enter Try.func90, Try.ntmps90
    go_wp2_with fail
    go_ret
    exact ⟨ret_bool HX.out, rfl⟩
  · have h0' : (s.size : Int) < 1 := by omega
    have hx : (s.data.toList.head? == some c) = false := by
      cases hd : s.data.toList with
      | nil => rfl
      | cons a l => rw [hd] at hl; simp at hl; omega
    have HX := hid hx
    clear hx hl h0
    go_enter Try.func90, Try.ntmps90
    go_wp2_with fail
    go_ret
    exact ⟨ret_bool HX.out.symm, rfl⟩

/-- What is left of a text behind a sign, if it has one. -/
def cutZ (c : UInt8) (s : ByteArray) : ByteArray := if s.data.toList.head? == some c then s.extract 1 s.size else s

set_option maxHeartbeats 400000 in
theorem cut_lite (s : ByteArray) (c : UInt8) (w : World) (hs : s.size ≤ maxLen) :
    Calls Try.prog 81 #[.string s, .string ⟨#[c]⟩] w fun e w' => e = .returned (.tuple #[.string (cutZ c s), .bool (s.data.toList.head? == some c)]) ∧ w = w' := by
  have h1 : (⟨#[c]⟩ : ByteArray).size = 1 := rfl
  have hl : s.data.toList.length = s.size := rfl
  unfold maxLen at hs
  have HP := hid (hasPrefix_one s c w)
  cases hb : (s.data.toList.head? == some c)
  · have HC := hid (show cutZ c s = s by rw [cutZ, hb]; rfl)
    rw [hb] at HP
    clear hb hl
    go_enter Try.func81, Try.ntmps81
    go_wp2_with fail
    refine HP.out.mono ?_
    rintro e w' ⟨rfl, rfl⟩
    go_wp2_with fail
    go_ret2
    rw [HC.out]
    exact ⟨rfl, rfl⟩
  · have HC := hid (show cutZ c s = s.extract 1 s.size by rw [cutZ, hb]; rfl)
    have h2 : (1 : Int) ≤ (s.size : Int) := by
      cases hd : s.data.toList with
      | nil => rw [hd] at hb; simp at hb
      | cons a l => rw [hd] at hl; simp at hl; omega
    rw [hb] at HP
    clear hb hl
    go_enter Try.func81, Try.ntmps81
    go_wp2_with fail
    refine HP.out.mono ?_
    rintro e w' ⟨rfl, rfl⟩
    go_wp2_with fail
    go_ret2
    rw [HC.out]
    exact ⟨rfl, rfl⟩

set_option maxHeartbeats 400000 in
theorem cut_prefix (s : ByteArray) (c : UInt8) (w : World) (hs : s.size ≤ maxLen) :
    Calls Try.prog 72 #[.string s, .string ⟨#[c]⟩] w fun e w' => e = .returned (.tuple #[.string (cutZ c s), .bool (s.data.toList.head? == some c)]) ∧ w = w' := by
  have HP := hid (cut_lite s c w hs)
  clear hs
  go_enter Try.func72, Try.ntmps72
  go_wp2_with fail
  refine HP.out.mono ?_
  rintro e w' ⟨rfl, rfl⟩
  go_wp2_with fail
  go_ret2
  exact ⟨rfl, rfl⟩

/-- Is a text one of an integer? -/
def isWhl (l : List UInt8) : Bool := if l.head? == some 45 then isNat l.tail && (dval l.tail != 0) else isNat l
/-- The integer of a text. -/
def whlOf (l : List UInt8) : Int := if l.head? == some 45 then -(dval l.tail : Int) else dval l

theorem tail_cut {s : ByteArray} (h : (s.data.toList.head? == some 45) = true) : (cutZ 45 s).data.toList = s.data.toList.tail ∧ (cutZ 45 s).size + 1 = s.size := by
  rw [cutZ, h]
  refine ⟨by rw [if_pos rfl, extract_end, List.drop_one], ?_⟩
  rw [if_pos rfl, size_extract_end]
  have hl : s.data.toList.length = s.size := rfl
  cases hd : s.data.toList with
  | nil => rw [hd] at h; simp at h
  | cons a l => rw [hd] at hl; simp at hl; omega
theorem same_cut {s : ByteArray} (h : (s.data.toList.head? == some 45) = false) : cutZ 45 s = s := by
  rw [cutZ, h]; rfl

theorem res_cell_tmp {fn : Func} {t t' : Tmp} {tmps : Array Value} {w : World} {g : Nat} {s : Bool} {sv u : Value} (hf : fn.results = #[.cell t 50, .tmp t']) (ht : tmps.getD t undef = .pointer (some ⟨g, 0, none⟩)) (hu : tmps.getD t' undef = u) (h2 : Box w g s sv) :
    (results fn tmps).run Try.prog w = .ok (.tuple #[.agg #[.bool s, sv], u]) w := by
  have h1 := at_addr (P := Try.prog) (w := w) ht
  have h3 := load_whl h2
  simp only [Array.getD_eq_getD_getElem?] at h1 hu
  simp [results, hf, Sem.run_bind, h1, h3, hu]

set_option maxHeartbeats 1000000 in
theorem zparse_no (s : ByteArray) (w : World) (hs : s.size ≤ 1099511627776) (hn : isWhl s.data.toList = false) :
    Calls Try.prog 54 #[.string s] w fun e w' => e = .returned (.tuple #[.agg #[.bool false, .slice none 0 0], errno 1]) ∧ Below w.heap.size w w' := by
  obtain ⟨x0, bw, sz⟩ := boxes1 w false (.slice none 0 0) ⟨_, _, _, rfl⟩
  have HC := hid (fun w => cut_prefix s 45 w (by unfold maxLen; omega))
  have X0 := hid x0
  have BW := hid bw
  cases hb : (s.data.toList.head? == some 45)
  · have hc := same_cut hb
    have h2 : isNat s.data.toList = false := by
      rw [isWhl, hb] at hn; simpa using hn
    have HP := hid (fun w => parse_no s w (by unfold maxLen; omega) h2)
    rw [hc, hb] at HC
    clear hb hc h2 hn x0 bw sz
    go_enter Try.func54, Try.ntmps54
    go_wp2_with fail
    refine (HC.out _).mono ?_
    rintro e w1 ⟨rfl, rfl⟩
    go_wp2_with fail
    refine (HP.out _).mono ?_
    rintro e w1 ⟨rfl, rfl⟩
    go_wp2_with fail
    refine bodyPost_ret (res_cell_tmp rfl rfl rfl X0.out) rfl ?_
    exact ⟨rfl, BW.out⟩
  · obtain ⟨hc1, hc2⟩ := tail_cut hb
    rw [hb] at HC
    by_cases h2 : isNat s.data.toList.tail = true
    · have h3 : dval s.data.toList.tail = 0 := by
        rw [isWhl, hb] at hn
        simpa [h2] using hn
      have HP := hid (fun w => parse_trim (cutZ 45 s) w (by omega) (by rw [hc1]; exact h2))
      have H3 := hid (show dval (cutZ 45 s).data.toList = 0 by rw [hc1]; exact h3)
      clear hb hc1 hc2 h2 hn h3 x0 bw sz
      go_enter Try.func54, Try.ntmps54
      go_wp2_with fail
      refine (HC.out _).mono ?_
      rintro e w1 ⟨rfl, rfl⟩
      go_wp2_with fail
      refine (HP.out _).mono ?_
      rintro e w1 ⟨v, xs, rfl, hO, hv, hl, ht, hb⟩
      have h4 : xs = [] := ht.zero_iff.1 (by rw [hv, H3.out])
      subst h4
      obtain ⟨p, c, rfl, _⟩ := lim_parts hO.lim
      have x0' := X0.out.below hb X0.out.lt
      obtain ⟨c0, f0, c1, f1⟩ := x0'.stores
      have X1 := hid x0'
      have B1 := hid (BW.out.trans (hb.mono BW.out.size))
      clear hO hv hl ht hb x0' HP
      go_wp2_with fail
      refine bodyPost_ret (res_cell_tmp rfl rfl rfl ((X1.out.set0 _).set1 ⟨_, _, _, rfl⟩)) rfl ?_
      exact ⟨rfl, (X1.out.last B1.out (Nat.le_refl _) false none 0 0).2.1⟩
    · have h2' : isNat (cutZ 45 s).data.toList = false := by rw [hc1]; simpa using h2
      have HP := hid (fun w => parse_no (cutZ 45 s) w (by unfold maxLen; omega) h2')
      clear hb hc1 hc2 h2 hn h2' x0 bw sz
      go_enter Try.func54, Try.ntmps54
      go_wp2_with fail
      refine (HC.out _).mono ?_
      rintro e w1 ⟨rfl, rfl⟩
      go_wp2_with fail
      refine (HP.out _).mono ?_
      rintro e w1 ⟨rfl, rfl⟩
      go_wp2_with fail
      refine bodyPost_ret (res_cell_tmp rfl rfl rfl X0.out) rfl ?_
      exact ⟨rfl, BW.out⟩

set_option maxHeartbeats 1000000 in
theorem zparse_yes (s : ByteArray) (w : World) (hs : s.size ≤ 1099511627776) (hn : isWhl s.data.toList = true) :
    Calls Try.prog 54 #[.string s] w fun e w' => ∃ v, e = .returned (.tuple #[v, .nilIface]) ∧ Whl w' v (whlOf s.data.toList) s.size ∧ Below w.heap.size w w' := by
  obtain ⟨x0, bw, sz⟩ := boxes1 w false (.slice none 0 0) ⟨_, _, _, rfl⟩
  have HC := hid (fun w => cut_prefix s 45 w (by unfold maxLen; omega))
  have X0 := hid x0
  have BW := hid bw
  cases hb : (s.data.toList.head? == some 45)
  · have hc := same_cut hb
    have h2 : isNat s.data.toList = true := by
      rw [isWhl, hb] at hn; simpa using hn
    have HP := hid (fun w => parse_trim s w hs h2)
    have HW := hid (show whlOf s.data.toList = (dval s.data.toList : Int) by rw [whlOf, hb]; rfl)
    rw [hc, hb] at HC
    clear hb hc h2 hn x0 bw sz
    go_enter Try.func54, Try.ntmps54
    go_wp2_with fail
    refine (HC.out _).mono ?_
    rintro e w1 ⟨rfl, rfl⟩
    go_wp2_with fail
    refine (HP.out _).mono ?_
    rintro e w1 ⟨v, xs, rfl, hO, hv, hl, ht, hb⟩
    obtain ⟨p, n, c, rfl⟩ := hO.lim.slice
    have x0' := X0.out.below hb X0.out.lt
    obtain ⟨c0, f0, c1, f1⟩ := x0'.stores
    have X1 := hid x0'
    have B1 := hid (BW.out.trans (hb.mono BW.out.size))
    have HV := hid (show Whl w1 (.agg #[.bool false, .slice p n c]) (whlOf s.data.toList) s.size from ⟨false, _, xs, rfl, hO.lim, ht, hl, fun e => by simp at e, by rw [HW.out, hv]; rfl⟩)
    clear hO hv hl ht hb x0' HP
    go_wp2_with fail
    obtain ⟨r1, r2, r3⟩ := X1.out.last B1.out (Nat.le_refl _) false p n c
    refine bodyPost_ret (res_cell_tmp rfl rfl rfl r1) rfl ?_
    exact ⟨_, rfl, r3 HV.out, r2⟩
  · obtain ⟨hc1, hc2⟩ := tail_cut hb
    rw [hb] at HC
    have h2 : isNat s.data.toList.tail = true ∧ dval s.data.toList.tail ≠ 0 := by
      rw [isWhl, hb] at hn
      simpa using hn
    have HP := hid (fun w => parse_trim (cutZ 45 s) w (by omega) (by rw [hc1]; exact h2.1))
    have H3 := hid (show dval (cutZ 45 s).data.toList ≠ 0 by rw [hc1]; exact h2.2)
    have HW := hid (show whlOf s.data.toList = -(dval (cutZ 45 s).data.toList : Int) by rw [hc1, whlOf, hb]; rfl)
    have H4 := hid hc2
    clear hb hc1 hc2 h2 hn x0 bw sz
    go_enter Try.func54, Try.ntmps54
    go_wp2_with fail
    refine (HC.out _).mono ?_
    rintro e w1 ⟨rfl, rfl⟩
    go_wp2_with fail
    refine (HP.out _).mono ?_
    rintro e w1 ⟨v, xs, rfl, hO, hv, hl, ht, hb⟩
    have hn0 : ∃ n, xs.length = n ∧ (n : Int) ≠ 0 := by
      refine ⟨_, rfl, ?_⟩
      have h1 := H3.out
      rw [← hv] at h1
      cases xs with
      | nil => simp [val] at h1
      | cons => simp; omega
    obtain ⟨n, hn, hn0⟩ := hn0
    obtain ⟨p, c, rfl, _⟩ := lim_parts hO.lim
    rw [hn] at *
    have x0' := X0.out.below hb X0.out.lt
    obtain ⟨c0, f0, c1, f1⟩ := x0'.stores
    have X1 := hid x0'
    have B1 := hid (BW.out.trans (hb.mono BW.out.size))
    have HV := hid (show Whl w1 (.agg #[.bool true, .slice p n c]) (whlOf s.data.toList) s.size from ⟨true, _, xs, rfl, hO.lim, ht, by have := H4.out; omega, fun e => by rw [hv]; exact H3.out, by rw [HW.out, hv]; rfl⟩)
    clear hO hv hl ht hb x0' HP hn
    go_wp2_with fail
    obtain ⟨r1, r2, r3⟩ := X1.out.last B1.out (Nat.le_refl _) true p n c
    refine bodyPost_ret (res_cell_tmp rfl rfl rfl r1) rfl ?_
    exact ⟨_, rfl, r3 HV.out, r2⟩

end Go.Proofs.Ytkenlaikhnoldaa

/-
  PACKAGE rat: A Number IN MEMORY.
-/
namespace Go.Proofs.Ytkenlaikhnoldaa
open Go.RowKit
open Num
set_option linter.unusedVariables false
set_option maxRecDepth 100000
set_option linter.unusedSimpArgs false

/-- A block of four cells: a Number. -/
def Nbx (w : World) (g : Nat) (s : Bool) (sv : Value) (s' : Bool) (sv' : Value) : Prop := w.heap[g]? = some (.cells #[.bool s, sv, .bool s', sv'] 52 (0, 0))
theorem Nbx.lt {w : World} {g : Nat} {s s' : Bool} {sv sv' : Value} (h : Nbx w g s sv s' sv') : g < w.heap.size := lt_of_block h
theorem Nbx.cells {w : World} {g : Nat} {s s' : Bool} {sv sv' : Value} (h : Nbx w g s sv s' sv') : w.cell? ⟨g, 0, none⟩ = some (.bool s) ∧ w.cell? ⟨g, 1, none⟩ = some sv ∧ w.cell? ⟨g, 2, none⟩ = some (.bool s') ∧ w.cell? ⟨g, 3, none⟩ = some sv' := by
  have : w.heap[g]? = some (.cells #[.bool s, sv, .bool s', sv'] 52 (0, 0)) := h
  refine ⟨?_, ?_, ?_, ?_⟩ <;> simp [World.cell?, this]
theorem Nbx.free {w : World} {g : Nat} {s s' : Bool} {sv sv' : Value} (h : Nbx w g s sv s' sv') (i : Nat) : w.frozen? ⟨g, i, none⟩ = false := by
  have : w.heap[g]? = some (.cells #[.bool s, sv, .bool s', sv'] 52 (0, 0)) := h
  simp [World.frozen?, this]
theorem Nbx.below {w w' : World} {g K : Nat} {s s' : Bool} {sv sv' : Value} (h : Nbx w g s sv s' sv') (hb : Below K w w') (hK : g < K) : Nbx w' g s sv s' sv' := (hb.block g hK).trans h
theorem Nbx.new (w : World) (s s' : Bool) (sv sv' : Value) : Nbx (w.alloc (.cells #[.bool s, sv, .bool s', sv'] 52)) w.heap.size s sv s' sv' := by
  show (w.heap.push _)[w.heap.size]? = _
  simp
theorem Nbx.made (w : World) (s s' : Bool) (sv sv' : Value) : Below w.heap.size w (w.alloc (.cells #[.bool s, sv, .bool s', sv'] 52)) ∧ Nbx (w.alloc (.cells #[.bool s, sv, .bool s', sv'] 52)) w.heap.size s sv s' sv' ∧ (w.alloc (.cells #[.bool s, sv, .bool s', sv'] 52)).heap.size = w.heap.size + 1 := ⟨(Below.refl _ _).alloc (Nat.le_refl _) _, Nbx.new w s s' sv sv', by simp⟩
theorem Nbx.kept {w w' : World} {g : Nat} {s : Bool} {sv : Value} {s' : Bool} {sv' : Value} (h : Nbx w g s sv s' sv') (e : w'.heap[g]? = w.heap[g]?) : Nbx w' g s sv s' sv' := e.trans h
theorem Nbx.other {w : World} {g g2 : Nat} {s s' : Bool} {sv sv' : Value} (h : Nbx w g s sv s' sv') (hne : g ≠ g2) (i : Nat) (v : Value) : Nbx (w.setCell ⟨g2, i, none⟩ v) g s sv s' sv' := by
  show (w.setCell ⟨g2, i, none⟩ v).heap[g]? = _
  rw [Below.heap_setCell _ _ _ _ (by exact hne)]; exact h

theorem Nbx.set0 {w : World} {g : Nat} {s s' : Bool} {sv sv' : Value} (h : Nbx w g s sv s' sv') (x : Bool) : Nbx (w.setCell ⟨g, 0, none⟩ (.bool x)) g x sv s' sv' := by
  have : w.heap[g]? = some (.cells #[.bool s, sv, .bool s', sv'] 52 (0, 0)) := h
  show (w.setCell ⟨g, 0, none⟩ (.bool x)).heap[g]? = _
  simp only [World.setCell, Array.getElem?_modify, this]
  simp
theorem Nbx.set1 {w : World} {g : Nat} {s s' : Bool} {sv sv' : Value} (h : Nbx w g s sv s' sv') (x : Value) : Nbx (w.setCell ⟨g, 1, none⟩ x) g s x s' sv' := by
  have : w.heap[g]? = some (.cells #[.bool s, sv, .bool s', sv'] 52 (0, 0)) := h
  show (w.setCell ⟨g, 1, none⟩ x).heap[g]? = _
  simp only [World.setCell, Array.getElem?_modify, this]
  simp
theorem Nbx.set2 {w : World} {g : Nat} {s s' : Bool} {sv sv' : Value} (h : Nbx w g s sv s' sv') (x : Bool) : Nbx (w.setCell ⟨g, 2, none⟩ (.bool x)) g s sv x sv' := by
  have : w.heap[g]? = some (.cells #[.bool s, sv, .bool s', sv'] 52 (0, 0)) := h
  show (w.setCell ⟨g, 2, none⟩ (.bool x)).heap[g]? = _
  simp only [World.setCell, Array.getElem?_modify, this]
  simp
theorem Nbx.set3 {w : World} {g : Nat} {s s' : Bool} {sv sv' : Value} (h : Nbx w g s sv s' sv') (x : Value) : Nbx (w.setCell ⟨g, 3, none⟩ x) g s sv s' x := by
  have : w.heap[g]? = some (.cells #[.bool s, sv, .bool s', sv'] 52 (0, 0)) := h
  show (w.setCell ⟨g, 3, none⟩ x).heap[g]? = _
  simp only [World.setCell, Array.getElem?_modify, this]
  simp
/-- What a walk needs to write all four. -/
theorem Nbx.stores {w : World} {g : Nat} {s s' : Bool} {sv sv' : Value} (h : Nbx w g s sv s' sv') :
    (w.cell? ⟨g, 0, none⟩ = some (.bool s) ∧ w.frozen? ⟨g, 0, none⟩ = false) ∧
    ((∀ x, (w.setCell ⟨g, 0, none⟩ (.bool x)).cell? ⟨g, 1, none⟩ = some sv) ∧ (∀ x, (w.setCell ⟨g, 0, none⟩ (.bool x)).frozen? ⟨g, 1, none⟩ = false)) ∧
    ((∀ x y, ((w.setCell ⟨g, 0, none⟩ (.bool x)).setCell ⟨g, 1, none⟩ y).cell? ⟨g, 2, none⟩ = some (.bool s')) ∧ (∀ x y, ((w.setCell ⟨g, 0, none⟩ (.bool x)).setCell ⟨g, 1, none⟩ y).frozen? ⟨g, 2, none⟩ = false)) ∧
    ((∀ x y z, (((w.setCell ⟨g, 0, none⟩ (.bool x)).setCell ⟨g, 1, none⟩ y).setCell ⟨g, 2, none⟩ (.bool z)).cell? ⟨g, 3, none⟩ = some sv') ∧ (∀ x y z, (((w.setCell ⟨g, 0, none⟩ (.bool x)).setCell ⟨g, 1, none⟩ y).setCell ⟨g, 2, none⟩ (.bool z)).frozen? ⟨g, 3, none⟩ = false)) :=
  ⟨⟨h.cells.1, h.free 0⟩, ⟨fun x => (h.set0 x).cells.2.1, fun x => (h.set0 x).free 1⟩, ⟨fun x y => ((h.set0 x).set1 y).cells.2.2.1, fun x y => ((h.set0 x).set1 y).free 2⟩,
    fun x y z => (((h.set0 x).set1 y).set2 z).cells.2.2.2, fun x y z => (((h.set0 x).set1 y).set2 z).free 3⟩
theorem Lim.nbx {w : World} {v : Value} {xs : List Nat} {g : Nat} {s s' : Bool} {p p' : Option Addr} {n n' c c' : Nat} (h : Lim w v xs) (hx : Nbx w g s (.slice p n c) s' (.slice p' n' c')) (i : Nat) (u : Value) : Lim (w.setCell ⟨g, i, none⟩ u) v xs := by
  have hg : w.heap[g]? = some (.cells #[.bool s, .slice p n c, .bool s', .slice p' n' c'] 52 (0, 0)) := hx
  obtain ⟨h1, q, d, h2, h3, h4, h5⟩ := h
  refine ⟨h1, q, d, h2, h3, h4, ?_⟩
  rcases h5 with h5 | ⟨b, off, h6, h7, h8⟩
  · exact .inl h5
  · refine .inr ⟨b, off, h6, by simpa [World.setCell] using h7, fun i hi => ?_⟩
    have h9 := h8 i hi
    by_cases hb : b = g
    · subst hb
      simp only [World.cell?, hg] at h9
      have hh : ∀ k : Nat, (#[Value.bool s, Value.slice p n c, Value.bool s', Value.slice p' n' c'] : Array Value)[k]? ≠ some (.int .u32 (dg xs i)) := by
        intro k
        rcases k with _ | _ | _ | _ | k <;> simp
      exact absurd h9 (hh _)
    · rw [← h9]
      exact World.cell?_of_block (Below.heap_setCell _ _ _ _ (by exact hb))
theorem Whl.nbx {w : World} {v : Value} {z : Int} {k g : Nat} {s s' : Bool} {p p' : Option Addr} {n n' c c' : Nat} (h : Whl w v z k) (hx : Nbx w g s (.slice p n c) s' (.slice p' n' c')) (i : Nat) (u : Value) : Whl (w.setCell ⟨g, i, none⟩ u) v z k := by
  obtain ⟨s', sv', xs, h1, h2, h3⟩ := h
  exact ⟨s', sv', xs, h1, h2.nbx hx i u, h3⟩
/-- The last store of four cells. -/
theorem Nbx.last {w0 w : World} {g K : Nat} {s s' : Bool} {p p' : Option Addr} {n n' c c' : Nat} (h : Nbx w g s (.slice p n c) s' (.slice p' n' c')) (hb : Below K w0 w) (hg : K ≤ g) (a b : Bool) (q q' : Option Addr) (m m' d d' : Nat) :
    Nbx ((((w.setCell ⟨g, 0, none⟩ (.bool a)).setCell ⟨g, 1, none⟩ (.slice q m d)).setCell ⟨g, 2, none⟩ (.bool b)).setCell ⟨g, 3, none⟩ (.slice q' m' d')) g a (.slice q m d) b (.slice q' m' d') ∧
    Below K w0 ((((w.setCell ⟨g, 0, none⟩ (.bool a)).setCell ⟨g, 1, none⟩ (.slice q m d)).setCell ⟨g, 2, none⟩ (.bool b)).setCell ⟨g, 3, none⟩ (.slice q' m' d')) ∧
    (∀ {v z k}, Whl w v z k → Whl ((((w.setCell ⟨g, 0, none⟩ (.bool a)).setCell ⟨g, 1, none⟩ (.slice q m d)).setCell ⟨g, 2, none⟩ (.bool b)).setCell ⟨g, 3, none⟩ (.slice q' m' d')) v z k) := by
  have h1 := h.set0 a
  have h2 := h1.set1 (.slice q m d)
  have h3 := h2.set2 b
  refine ⟨h3.set3 _, (((hb.setCell (p := ⟨g, 0, none⟩) hg _).setCell (p := ⟨g, 1, none⟩) hg _).setCell (p := ⟨g, 2, none⟩) hg _).setCell (p := ⟨g, 3, none⟩) hg _, fun hv => ?_⟩
  exact (((hv.nbx h 0 _).nbx h1 1 _).nbx h2 2 _).nbx h3 3 _

theorem load_num {w : World} {g : Nat} {s s' : Bool} {sv sv' : Value} (h2 : Nbx w g s sv s' sv') : (loadVar 52 ⟨g, 0, none⟩).run Try.prog w = .ok (.agg #[.bool s, sv, .bool s', sv']) w := by
  obtain ⟨h0, h1, h3, h4⟩ := h2.cells
  simp [go_sem, h0, h1, h3, h4]
theorem res_num_tmp {fn : Func} {t t' : Tmp} {tmps : Array Value} {w : World} {g : Nat} {s s' : Bool} {sv sv' u : Value} (hf : fn.results = #[.cell t 52, .tmp t']) (ht : tmps.getD t undef = .pointer (some ⟨g, 0, none⟩)) (hu : tmps.getD t' undef = u) (h2 : Nbx w g s sv s' sv') :
    (results fn tmps).run Try.prog w = .ok (.tuple #[.agg #[.bool s, sv, .bool s', sv'], u]) w := by
  have h1 := at_addr (P := Try.prog) (w := w) ht
  have h3 := load_num h2
  simp only [Array.getD_eq_getD_getElem?] at h1 hu
  simp [results, hf, Sem.run_bind, h1, h3, hu]

theorem res_num {fn : Func} {t : Tmp} {tmps : Array Value} {w : World} {g : Nat} {s s' : Bool} {sv sv' : Value} (hf : fn.results = #[.cell t 52]) (ht : tmps.getD t undef = .pointer (some ⟨g, 0, none⟩)) (h2 : Nbx w g s sv s' sv') :
    (results fn tmps).run Try.prog w = .ok (.agg #[.bool s, sv, .bool s', sv']) w := by
  have h1 := at_addr (P := Try.prog) (w := w) ht
  have h3 := load_num h2
  simp only [Array.getD_eq_getD_getElem?] at h1
  simp [results, hf, Sem.run_bind, h1, h3]

/-- A value reads as a fraction, both parts of k limbs or fewer. -/
def Rtl (w : World) (v : Value) (q : Rat) (k : Nat) : Prop :=
  ∃ s p n c s' p' n' c', v = .agg #[.bool s, .slice p n c, .bool s', .slice p' n' c'] ∧ Whl w (.agg #[.bool s, .slice p n c]) q.num k ∧
    ∃ d : Int, Whl w (.agg #[.bool s', .slice p' n' c']) d k ∧ (d = q.den ∨ (d = 0 ∧ q.den = 1))
theorem Rtl.below {w w' : World} {v : Value} {q : Rat} {k K : Nat} (h : Rtl w v q k) (hb : Below K w w') (hK : w.heap.size ≤ K) : Rtl w' v q k := by
  obtain ⟨s, p, n, c, s', p', n', c', h1, h2, d, h3, h4⟩ := h
  exact ⟨s, p, n, c, s', p', n', c', h1, h2.below hb hK, d, h3.below hb hK, h4⟩
theorem Rtl.on {w w' : World} {v : Value} {q : Rat} {k : Nat} (h : Rtl w v q k) (hb : Below w.heap.size w w') : Rtl w' v q k := h.below hb (Nat.le_refl _)
theorem Rtl.mono {w : World} {v : Value} {q : Rat} {k m : Nat} (h : Rtl w v q k) (hk : k ≤ m) : Rtl w v q m := by
  obtain ⟨s, p, n, c, s', p', n', c', h1, h2, d, h3, h4⟩ := h
  exact ⟨s, p, n, c, s', p', n', c', h1, h2.mono hk, d, h3.mono hk, h4⟩
theorem Rtl.opened {w : World} {v : Value} {q : Rat} {k : Nat} (h : Rtl w v q k) : ∃ s p n c s' p' n' c', v = .agg #[.bool s, .slice p n c, .bool s', .slice p' n' c'] := by
  obtain ⟨s, p, n, c, s', p', n', c', h1, _⟩ := h
  exact ⟨s, p, n, c, s', p', n', c', h1⟩

theorem Box.both {w : World} {g : Nat} {s : Bool} {sv : Value} (h : Box w g s sv) : w.cell? ⟨g, 0, none⟩ = some (.bool s) ∧ w.cell? ⟨g, 1, none⟩ = some sv := ⟨h.cell0, h.cell1⟩
theorem Box.dr {w : World} {g : Nat} {s : Bool} {sv : Value} (h : Box w g s sv) : Box w.drew g s sv := h
theorem Nbx.dr {w : World} {g : Nat} {s s' : Bool} {sv sv' : Value} (h : Nbx w g s sv s' sv') : Nbx w.drew g s sv s' sv' := h

/-- Facts that are carried past a call. -/
theorem bx {w w' : World} {g : Nat} {s : Bool} {sv : Value} (h : Hid (Box w g s sv)) (hb : Below w.heap.size w w') : Hid (Box w' g s sv) := hid (h.out.below hb h.out.lt)
theorem nx {w w' : World} {g : Nat} {s s' : Bool} {sv sv' : Value} (h : Hid (Nbx w g s sv s' sv')) (hb : Below w.heap.size w w') : Hid (Nbx w' g s sv s' sv') := hid (h.out.below hb h.out.lt)
theorem wl {w w' : World} {v : Value} {z : Int} {k : Nat} (h : Hid (Whl w v z k)) (hb : Below w.heap.size w w') : Hid (Whl w' v z k) := hid (h.out.on hb)
theorem bb {w0 w w' : World} (h : Hid (Below w0.heap.size w0 w)) (hb : Below w.heap.size w w') : Hid (Below w0.heap.size w0 w') := hid (h.out.trans (hb.mono h.out.size))

/-- What a quotient is. -/
theorem divInt_parts (z y : Int) (hy : y ≠ 0) : (Rat.divInt z y).num = z / (if y < 0 then -(Int.gcd z y : Int) else (Int.gcd z y : Int)) ∧ ((Rat.divInt z y).den : Int) = y / (if y < 0 then -(Int.gcd z y : Int) else (Int.gcd z y : Int)) := by
  have hg : Int.gcd y z = Int.gcd z y := Int.gcd_comm y z
  have hd1 : (Int.gcd z y : Int) ∣ z := Int.gcd_dvd_left z y
  have hd2 : (Int.gcd z y : Int) ∣ y := Int.gcd_dvd_right z y
  rw [Rat.num_divInt, Rat.den_divInt, hg, if_neg hy]
  by_cases h : y < 0
  · rw [if_pos h, Int.sign_eq_neg_one_of_neg h]
    constructor
    · rw [Int.neg_one_mul, Int.neg_ediv_of_dvd hd1, Int.ediv_neg]
    · rw [Int.natCast_ediv, Int.ofNat_natAbs_of_nonpos (by omega), Int.neg_ediv_of_dvd hd2, Int.ediv_neg]
  · rw [if_neg h, Int.sign_eq_one_of_pos (by omega)]
    constructor
    · rw [Int.one_mul]
    · rw [Int.natCast_ediv, Int.natAbs_of_nonneg (by omega)]

end Go.Proofs.Ytkenlaikhnoldaa

/-
  A Number's cells.
-/
namespace Go.Proofs.Ytkenlaikhnoldaa
open Go.RowKit
open Num
set_option linter.unusedVariables false
set_option maxRecDepth 100000
set_option linter.unusedSimpArgs false

/-- A Number's four cells. -/
abbrev Nr := Zr × Zr
def nag (r : Nr) : Value := .agg #[.bool r.1.1, .slice r.1.2.1 r.1.2.2.1 r.1.2.2.2, .bool r.2.1, .slice r.2.2.1 r.2.2.2.1 r.2.2.2.2]

end Go.Proofs.Ytkenlaikhnoldaa

/-
  PACKAGE rat: reduced.
-/
namespace Go.Proofs.Ytkenlaikhnoldaa
open Go.RowKit
open Num
set_option linter.unusedVariables false
set_option maxRecDepth 100000
set_option linter.unusedSimpArgs false

set_option maxHeartbeats 1000000 in
theorem reduced_plus {w : World} {v u : Value} {z y : Int} {k : Nat} (h : Whl w v z k) (h' : Whl w u y k) (hy : 0 < y) (hk : k ≤ 549755813888) :
    Calls Try.prog 44 #[v, u] w fun e w' => ∃ v, e = .returned v ∧ Rtl w' v (Rat.divInt z y) k ∧ Below w.heap.size w w' := by
  obtain ⟨s1, p1, n1, c1, rfl⟩ := h.opened
  obtain ⟨s2, p2, n2, c2, rfl⟩ := h'.opened
  have HK := hid hk
  have H0 := hid hy
  have HD := hid (divInt_parts z y (by omega))
  have YG := Int.sign_eq_one_of_pos hy
  rw [if_neg (by omega)] at HD
  have HG0 := hid (show (Int.gcd z y : Int) ≠ 0 by have := Int.gcd_pos_of_ne_zero_right z (show y ≠ 0 by omega); omega)
  have B := hid (Below.refl w.heap.size w)
  have HZ := hid h
  have HY := hid h'
  obtain ⟨hb1, hx2, hs3⟩ := Box.made w s1 p1 n1 c1
  replace HZ := wl HZ hb1
  replace HY := wl HY hb1
  replace B := bb B hb1
  have X1 := hid hx2
  clear hb1 hx2
  obtain ⟨hb4, hx5, hs6⟩ := Box.made (w.alloc (.cells #[.bool s1, .slice p1 n1 c1] 50)) s2 p2 n2 c2
  rw [hs3] at hx5 hs6
  replace X1 := bx X1 hb4
  replace HZ := wl HZ hb4
  replace HY := wl HY hb4
  replace B := bb B hb4
  have X2 := hid hx5
  clear hb4 hx5
  obtain ⟨hb7, hx8, hs9⟩ := Nbx.made ((w.alloc (.cells #[.bool s1, .slice p1 n1 c1] 50)).alloc (.cells #[.bool s2, .slice p2 n2 c2] 50)) false false (.slice none 0 0) (.slice none 0 0)
  rw [hs6] at hx8 hs9
  replace X1 := bx X1 hb7
  replace X2 := bx X2 hb7
  replace HZ := wl HZ hb7
  replace HY := wl HY hb7
  replace B := bb B hb7
  have XQ := hid hx8
  clear hb7 hx8
  clear hs9 h h' hk hy
  go_enter Try.func44, Try.ntmps44
  go_wp2_with fail
  generalize hW : ((w.alloc (.cells #[.bool s1, .slice p1 n1 c1] 50)).alloc (.cells #[.bool s2, .slice p2 n2 c2] 50)).alloc (.cells #[.bool false, .slice none 0 0, .bool false, .slice none 0 0] 52) = W10 at *
  clear hW
  refine (zgcd_whl HZ.out HY.out HK.out).mono ?_
  rintro e w11 ⟨v, rfl, hv, hb⟩
  obtain ⟨s3, p3, n3, c3, rfl⟩ := hv.opened
  replace X1 := bx X1 hb
  replace X2 := bx X2 hb
  replace XQ := nx XQ hb
  replace HZ := wl HZ hb
  replace HY := wl HY hb
  replace B := bb B hb
  have HG := hid hv
  clear hb hv
  obtain ⟨hb12, hx13, hs14⟩ := Box.made w11 s3 p3 n3 c3
  have L0 := hid XQ.out.lt
  replace X1 := bx X1 hb12
  replace X2 := bx X2 hb12
  replace XQ := nx XQ hb12
  replace HZ := wl HZ hb12
  replace HY := wl HY hb12
  replace HG := wl HG hb12
  replace B := bb B hb12
  have X3 := hid hx13
  clear hb12 hx13
  have cc15 := X1.out.both
  have cc16 := X2.out.both
  have cc17 := XQ.out.cells
  have cc18 := X3.out.both
  go_wp2_with fail
  generalize hW : w11.alloc (.cells #[.bool s3, .slice p3 n3 c3] 50) = W19 at *
  clear hW
  have HS := sgn_whl HY.out
  rw [YG] at HS
  refine (HS).mono ?_
  rintro e w20 ⟨rfl, hb⟩
  replace X1 := bx X1 hb
  replace X2 := bx X2 hb
  replace XQ := nx XQ hb
  replace X3 := bx X3 hb
  replace HZ := wl HZ hb
  replace HY := wl HY hb
  replace HG := wl HG hb
  replace B := bb B hb
  clear cc15 cc16 cc17 cc18
  clear hb 
  have cc21 := X1.out.both
  have cc22 := X2.out.both
  have cc23 := XQ.out.cells
  have cc24 := X3.out.both
  go_wp2_with fail
  refine (div_whl HZ.out HG.out (by have := HG0.out; omega) (by have := HK.out; omega) (by have := HK.out; omega)).mono ?_
  rintro e w25 ⟨v, u, rfl, hv, hu, hb⟩
  obtain ⟨s5, p5, n5, c5, rfl⟩ := hv.opened
  obtain ⟨s6, p6, n6, c6, rfl⟩ := hu.opened
  replace X1 := bx X1 hb
  replace X2 := bx X2 hb
  replace XQ := nx XQ hb
  replace X3 := bx X3 hb
  replace HZ := wl HZ hb
  replace HY := wl HY hb
  replace HG := wl HG hb
  replace B := bb B hb
  clear cc21 cc22 cc23 cc24
  have HT := hid hv
  clear hb hv hu
  have cc26 := X1.out.stores
  obtain ⟨r27a, r27b, r27c⟩ := X1.out.last B.out (by have := L0.out; omega) s5 p5 n5 c5
  replace X2 := hid (X2.out.kept (heap2 (g := w.heap.size) (by have := L0.out; omega) (.bool s5) (.slice p5 n5 c5)))
  replace XQ := hid (XQ.out.kept (heap2 (g := w.heap.size) (by have := L0.out; omega) (.bool s5) (.slice p5 n5 c5)))
  replace X3 := hid (X3.out.kept (heap2 (g := w.heap.size) (by have := L0.out; omega) (.bool s5) (.slice p5 n5 c5)))
  replace HZ := hid (r27c HZ.out)
  replace HY := hid (r27c HY.out)
  replace HG := hid (r27c HG.out)
  replace HT := hid (r27c HT.out)
  replace X1 := hid r27a
  replace B := hid r27b
  clear r27a r27b r27c
  have cc28 := X1.out.both
  have cc29 := X2.out.both
  have cc30 := XQ.out.cells
  have cc31 := X3.out.both
  go_wp2_with fail
  generalize hW : (w25.setCell ⟨w.heap.size, 0, none⟩ (.bool s5)).setCell ⟨w.heap.size, 1, none⟩ (.slice p5 n5 c5) = W32 at *
  clear hW
  refine (div_whl HY.out HG.out (by have := HG0.out; omega) (by have := HK.out; omega) (by have := HK.out; omega)).mono ?_
  rintro e w33 ⟨v, u, rfl, hv, hu, hb⟩
  obtain ⟨s7, p7, n7, c7, rfl⟩ := hv.opened
  obtain ⟨s8, p8, n8, c8, rfl⟩ := hu.opened
  replace X1 := bx X1 hb
  replace X2 := bx X2 hb
  replace XQ := nx XQ hb
  replace X3 := bx X3 hb
  replace HZ := wl HZ hb
  replace HY := wl HY hb
  replace HG := wl HG hb
  replace HT := wl HT hb
  replace B := bb B hb
  clear cc26 cc28 cc29 cc30 cc31
  have HU := hid hv
  clear hb hv hu
  have cc34 := X2.out.stores
  obtain ⟨r35a, r35b, r35c⟩ := X2.out.last B.out (by have := L0.out; omega) s7 p7 n7 c7
  replace X1 := hid (X1.out.kept (heap2 (g := w.heap.size + 1) (by have := L0.out; omega) (.bool s7) (.slice p7 n7 c7)))
  replace XQ := hid (XQ.out.kept (heap2 (g := w.heap.size + 1) (by have := L0.out; omega) (.bool s7) (.slice p7 n7 c7)))
  replace X3 := hid (X3.out.kept (heap2 (g := w.heap.size + 1) (by have := L0.out; omega) (.bool s7) (.slice p7 n7 c7)))
  replace HZ := hid (r35c HZ.out)
  replace HY := hid (r35c HY.out)
  replace HG := hid (r35c HG.out)
  replace HT := hid (r35c HT.out)
  replace HU := hid (r35c HU.out)
  replace X2 := hid r35a
  replace B := hid r35b
  clear r35a r35b r35c
  have cc36 := X1.out.both
  have cc37 := X2.out.both
  have cc38 := XQ.out.cells
  have cc39 := X3.out.both
  have cc40 := XQ.out.stores
  obtain ⟨r41a, r41b, r41c⟩ := XQ.out.last B.out (by have := L0.out; omega) s5 s7 p5 p7 n5 n7 c5 c7
  replace X1 := hid (X1.out.kept (heap4 (g := w.heap.size + 1 + 1) (by have := L0.out; omega) (.bool s5) (.slice p5 n5 c5) (.bool s7) (.slice p7 n7 c7)))
  replace X2 := hid (X2.out.kept (heap4 (g := w.heap.size + 1 + 1) (by have := L0.out; omega) (.bool s5) (.slice p5 n5 c5) (.bool s7) (.slice p7 n7 c7)))
  replace X3 := hid (X3.out.kept (heap4 (g := w.heap.size + 1 + 1) (by have := L0.out; omega) (.bool s5) (.slice p5 n5 c5) (.bool s7) (.slice p7 n7 c7)))
  replace HZ := hid (r41c HZ.out)
  replace HY := hid (r41c HY.out)
  replace HG := hid (r41c HG.out)
  replace HT := hid (r41c HT.out)
  replace HU := hid (r41c HU.out)
  replace XQ := hid r41a
  replace B := hid r41b
  clear r41a r41b r41c
  go_wp2_with fail
  refine bodyPost_ret (res_num rfl rfl XQ.out) rfl ?_
  obtain ⟨e1, e2⟩ := HD.out
  have t1 := (HT.out.fit k (Nat.lt_of_le_of_lt (natAbs_ediv_le _ _) HZ.out.lt))
  have t2 := (HU.out.fit k (Nat.lt_of_le_of_lt (natAbs_ediv_le _ _) HY.out.lt))
  rw [← e1] at t1
  rw [← e2] at t2
  exact ⟨_, rfl, ⟨_, _, _, _, _, _, _, _, rfl, t1, _, t2, .inl rfl⟩, B.out⟩

set_option maxHeartbeats 1000000 in
theorem reduced_minus {w : World} {v u : Value} {z y : Int} {k : Nat} (h : Whl w v z k) (h' : Whl w u y k) (hy : y < 0) (hk : k ≤ 549755813888) :
    Calls Try.prog 44 #[v, u] w fun e w' => ∃ v, e = .returned v ∧ Rtl w' v (Rat.divInt z y) k ∧ Below w.heap.size w w' := by
  obtain ⟨s1, p1, n1, c1, rfl⟩ := h.opened
  obtain ⟨s2, p2, n2, c2, rfl⟩ := h'.opened
  have HK := hid hk
  have H0 := hid hy
  have HD := hid (divInt_parts z y (by omega))
  have YG := Int.sign_eq_neg_one_of_neg hy
  rw [if_pos (by omega)] at HD
  have HG0 := hid (show (Int.gcd z y : Int) ≠ 0 by have := Int.gcd_pos_of_ne_zero_right z (show y ≠ 0 by omega); omega)
  have B := hid (Below.refl w.heap.size w)
  have HZ := hid h
  have HY := hid h'
  obtain ⟨hb1, hx2, hs3⟩ := Box.made w s1 p1 n1 c1
  replace HZ := wl HZ hb1
  replace HY := wl HY hb1
  replace B := bb B hb1
  have X1 := hid hx2
  clear hb1 hx2
  obtain ⟨hb4, hx5, hs6⟩ := Box.made (w.alloc (.cells #[.bool s1, .slice p1 n1 c1] 50)) s2 p2 n2 c2
  rw [hs3] at hx5 hs6
  replace X1 := bx X1 hb4
  replace HZ := wl HZ hb4
  replace HY := wl HY hb4
  replace B := bb B hb4
  have X2 := hid hx5
  clear hb4 hx5
  obtain ⟨hb7, hx8, hs9⟩ := Nbx.made ((w.alloc (.cells #[.bool s1, .slice p1 n1 c1] 50)).alloc (.cells #[.bool s2, .slice p2 n2 c2] 50)) false false (.slice none 0 0) (.slice none 0 0)
  rw [hs6] at hx8 hs9
  replace X1 := bx X1 hb7
  replace X2 := bx X2 hb7
  replace HZ := wl HZ hb7
  replace HY := wl HY hb7
  replace B := bb B hb7
  have XQ := hid hx8
  clear hb7 hx8
  clear hs9 h h' hk hy
  go_enter Try.func44, Try.ntmps44
  go_wp2_with fail
  generalize hW : ((w.alloc (.cells #[.bool s1, .slice p1 n1 c1] 50)).alloc (.cells #[.bool s2, .slice p2 n2 c2] 50)).alloc (.cells #[.bool false, .slice none 0 0, .bool false, .slice none 0 0] 52) = W10 at *
  clear hW
  refine (zgcd_whl HZ.out HY.out HK.out).mono ?_
  rintro e w11 ⟨v, rfl, hv, hb⟩
  obtain ⟨s3, p3, n3, c3, rfl⟩ := hv.opened
  replace X1 := bx X1 hb
  replace X2 := bx X2 hb
  replace XQ := nx XQ hb
  replace HZ := wl HZ hb
  replace HY := wl HY hb
  replace B := bb B hb
  have HG := hid hv
  clear hb hv
  obtain ⟨hb12, hx13, hs14⟩ := Box.made w11 s3 p3 n3 c3
  have L0 := hid XQ.out.lt
  replace X1 := bx X1 hb12
  replace X2 := bx X2 hb12
  replace XQ := nx XQ hb12
  replace HZ := wl HZ hb12
  replace HY := wl HY hb12
  replace HG := wl HG hb12
  replace B := bb B hb12
  have X3 := hid hx13
  clear hb12 hx13
  have cc15 := X1.out.both
  have cc16 := X2.out.both
  have cc17 := XQ.out.cells
  have cc18 := X3.out.both
  go_wp2_with fail
  generalize hW : w11.alloc (.cells #[.bool s3, .slice p3 n3 c3] 50) = W19 at *
  clear hW
  have HS := sgn_whl HY.out
  rw [YG] at HS
  refine (HS).mono ?_
  rintro e w20 ⟨rfl, hb⟩
  replace X1 := bx X1 hb
  replace X2 := bx X2 hb
  replace XQ := nx XQ hb
  replace X3 := bx X3 hb
  replace HZ := wl HZ hb
  replace HY := wl HY hb
  replace HG := wl HG hb
  replace B := bb B hb
  clear cc15 cc16 cc17 cc18
  clear hb 
  have cc21 := X1.out.both
  have cc22 := X2.out.both
  have cc23 := XQ.out.cells
  have cc24 := X3.out.both
  go_wp2_with fail
  refine (neg_whl HG.out).mono ?_
  rintro e w25 ⟨v, rfl, hv, hb⟩
  obtain ⟨s4, p4, n4, c4, rfl⟩ := hv.opened
  replace X1 := bx X1 hb
  replace X2 := bx X2 hb
  replace XQ := nx XQ hb
  replace X3 := bx X3 hb
  replace HZ := wl HZ hb
  replace HY := wl HY hb
  replace HG := wl HG hb
  replace B := bb B hb
  clear cc21 cc22 cc23 cc24
  have HN := hid hv
  clear hb hv
  have cc26 := X3.out.stores
  obtain ⟨r27a, r27b, r27c⟩ := X3.out.last B.out (by have := L0.out; omega) s4 p4 n4 c4
  replace X1 := hid (X1.out.kept (heap2 (g := w11.heap.size) (by have := L0.out; omega) (.bool s4) (.slice p4 n4 c4)))
  replace X2 := hid (X2.out.kept (heap2 (g := w11.heap.size) (by have := L0.out; omega) (.bool s4) (.slice p4 n4 c4)))
  replace XQ := hid (XQ.out.kept (heap2 (g := w11.heap.size) (by have := L0.out; omega) (.bool s4) (.slice p4 n4 c4)))
  replace HZ := hid (r27c HZ.out)
  replace HY := hid (r27c HY.out)
  replace HG := hid (r27c HG.out)
  replace HN := hid (r27c HN.out)
  replace X3 := hid r27a
  replace B := hid r27b
  clear r27a r27b r27c
  have cc28 := X1.out.both
  have cc29 := X2.out.both
  have cc30 := XQ.out.cells
  have cc31 := X3.out.both
  go_wp2_with fail
  generalize hW : (w25.setCell ⟨w11.heap.size, 0, none⟩ (.bool s4)).setCell ⟨w11.heap.size, 1, none⟩ (.slice p4 n4 c4) = W32 at *
  clear hW
  refine (div_whl HZ.out HN.out (by have := HG0.out; omega) (by have := HK.out; omega) (by have := HK.out; omega)).mono ?_
  rintro e w33 ⟨v, u, rfl, hv, hu, hb⟩
  obtain ⟨s5, p5, n5, c5, rfl⟩ := hv.opened
  obtain ⟨s6, p6, n6, c6, rfl⟩ := hu.opened
  replace X1 := bx X1 hb
  replace X2 := bx X2 hb
  replace XQ := nx XQ hb
  replace X3 := bx X3 hb
  replace HZ := wl HZ hb
  replace HY := wl HY hb
  replace HG := wl HG hb
  replace HN := wl HN hb
  replace B := bb B hb
  clear cc26 cc28 cc29 cc30 cc31
  have HT := hid hv
  clear hb hv hu
  have cc34 := X1.out.stores
  obtain ⟨r35a, r35b, r35c⟩ := X1.out.last B.out (by have := L0.out; omega) s5 p5 n5 c5
  replace X2 := hid (X2.out.kept (heap2 (g := w.heap.size) (by have := L0.out; omega) (.bool s5) (.slice p5 n5 c5)))
  replace XQ := hid (XQ.out.kept (heap2 (g := w.heap.size) (by have := L0.out; omega) (.bool s5) (.slice p5 n5 c5)))
  replace X3 := hid (X3.out.kept (heap2 (g := w.heap.size) (by have := L0.out; omega) (.bool s5) (.slice p5 n5 c5)))
  replace HZ := hid (r35c HZ.out)
  replace HY := hid (r35c HY.out)
  replace HG := hid (r35c HG.out)
  replace HN := hid (r35c HN.out)
  replace HT := hid (r35c HT.out)
  replace X1 := hid r35a
  replace B := hid r35b
  clear r35a r35b r35c
  have cc36 := X1.out.both
  have cc37 := X2.out.both
  have cc38 := XQ.out.cells
  have cc39 := X3.out.both
  go_wp2_with fail
  generalize hW : (w33.setCell ⟨w.heap.size, 0, none⟩ (.bool s5)).setCell ⟨w.heap.size, 1, none⟩ (.slice p5 n5 c5) = W40 at *
  clear hW
  refine (div_whl HY.out HN.out (by have := HG0.out; omega) (by have := HK.out; omega) (by have := HK.out; omega)).mono ?_
  rintro e w41 ⟨v, u, rfl, hv, hu, hb⟩
  obtain ⟨s7, p7, n7, c7, rfl⟩ := hv.opened
  obtain ⟨s8, p8, n8, c8, rfl⟩ := hu.opened
  replace X1 := bx X1 hb
  replace X2 := bx X2 hb
  replace XQ := nx XQ hb
  replace X3 := bx X3 hb
  replace HZ := wl HZ hb
  replace HY := wl HY hb
  replace HG := wl HG hb
  replace HN := wl HN hb
  replace HT := wl HT hb
  replace B := bb B hb
  clear cc34 cc36 cc37 cc38 cc39
  have HU := hid hv
  clear hb hv hu
  have cc42 := X2.out.stores
  obtain ⟨r43a, r43b, r43c⟩ := X2.out.last B.out (by have := L0.out; omega) s7 p7 n7 c7
  replace X1 := hid (X1.out.kept (heap2 (g := w.heap.size + 1) (by have := L0.out; omega) (.bool s7) (.slice p7 n7 c7)))
  replace XQ := hid (XQ.out.kept (heap2 (g := w.heap.size + 1) (by have := L0.out; omega) (.bool s7) (.slice p7 n7 c7)))
  replace X3 := hid (X3.out.kept (heap2 (g := w.heap.size + 1) (by have := L0.out; omega) (.bool s7) (.slice p7 n7 c7)))
  replace HZ := hid (r43c HZ.out)
  replace HY := hid (r43c HY.out)
  replace HG := hid (r43c HG.out)
  replace HN := hid (r43c HN.out)
  replace HT := hid (r43c HT.out)
  replace HU := hid (r43c HU.out)
  replace X2 := hid r43a
  replace B := hid r43b
  clear r43a r43b r43c
  have cc44 := X1.out.both
  have cc45 := X2.out.both
  have cc46 := XQ.out.cells
  have cc47 := X3.out.both
  have cc48 := XQ.out.stores
  obtain ⟨r49a, r49b, r49c⟩ := XQ.out.last B.out (by have := L0.out; omega) s5 s7 p5 p7 n5 n7 c5 c7
  replace X1 := hid (X1.out.kept (heap4 (g := w.heap.size + 1 + 1) (by have := L0.out; omega) (.bool s5) (.slice p5 n5 c5) (.bool s7) (.slice p7 n7 c7)))
  replace X2 := hid (X2.out.kept (heap4 (g := w.heap.size + 1 + 1) (by have := L0.out; omega) (.bool s5) (.slice p5 n5 c5) (.bool s7) (.slice p7 n7 c7)))
  replace X3 := hid (X3.out.kept (heap4 (g := w.heap.size + 1 + 1) (by have := L0.out; omega) (.bool s5) (.slice p5 n5 c5) (.bool s7) (.slice p7 n7 c7)))
  replace HZ := hid (r49c HZ.out)
  replace HY := hid (r49c HY.out)
  replace HG := hid (r49c HG.out)
  replace HN := hid (r49c HN.out)
  replace HT := hid (r49c HT.out)
  replace HU := hid (r49c HU.out)
  replace XQ := hid r49a
  replace B := hid r49b
  clear r49a r49b r49c
  go_wp2_with fail
  refine bodyPost_ret (res_num rfl rfl XQ.out) rfl ?_
  obtain ⟨e1, e2⟩ := HD.out
  have t1 := (HT.out.fit k (Nat.lt_of_le_of_lt (natAbs_ediv_le _ _) HZ.out.lt))
  have t2 := (HU.out.fit k (Nat.lt_of_le_of_lt (natAbs_ediv_le _ _) HY.out.lt))
  rw [← e1] at t1
  rw [← e2] at t2
  exact ⟨_, rfl, ⟨_, _, _, _, _, _, _, _, rfl, t1, _, t2, .inl rfl⟩, B.out⟩

theorem reduced_rtl {w : World} {v u : Value} {z y : Int} {k : Nat} (h : Whl w v z k) (h' : Whl w u y k) (hy : y ≠ 0) (hk : k ≤ 549755813888) :
    Calls Try.prog 44 #[v, u] w fun e w' => ∃ v, e = .returned v ∧ Rtl w' v (Rat.divInt z y) k ∧ Below w.heap.size w w' := by
  by_cases h0 : y < 0
  · exact reduced_minus h h' h0 hk
  · exact reduced_plus h h' (by omega) hk

end Go.Proofs.Ytkenlaikhnoldaa

/-
  PACKAGE rat: parts, moreThanOne.
-/
namespace Go.Proofs.Ytkenlaikhnoldaa
open Go.RowKit
open Num
set_option linter.unusedVariables false
set_option maxRecDepth 100000
set_option linter.unusedSimpArgs false

theorem res_ii {fn : Func} {t t' : Tmp} {tmps : Array Value} {w : World} {g g' : Nat} {s s' : Bool} {sv sv' : Value} (hf : fn.results = #[.cell t 50, .cell t' 50]) (ht : tmps.getD t undef = .pointer (some ⟨g, 0, none⟩)) (ht' : tmps.getD t' undef = .pointer (some ⟨g', 0, none⟩)) (h2 : Box w g s sv) (h2' : Box w g' s' sv') :
    (results fn tmps).run Try.prog w = .ok (.tuple #[.agg #[.bool s, sv], .agg #[.bool s', sv']]) w := by
  have h1 := at_addr (P := Try.prog) (w := w) ht
  have h1' := at_addr (P := Try.prog) (w := w) ht'
  have h3 := load_whl h2
  have h3' := load_whl h2'
  simp only [Array.getD_eq_getD_getElem?] at h1 h1'
  simp [results, hf, Sem.run_bind, h1, h3, h1', h3']

/-- A value of four cells reads as a fraction: its two parts. -/
theorem Rtl.two {w : World} {q : Rat} {k : Nat} {s p n c s' p' n' c'} (h : Rtl w (.agg #[.bool s, .slice p n c, .bool s', .slice p' n' c']) q k) : Whl w (.agg #[.bool s, .slice p n c]) q.num k ∧ ∃ d : Int, Whl w (.agg #[.bool s', .slice p' n' c']) d k ∧ (d = q.den ∨ (d = 0 ∧ q.den = 1)) := by
  obtain ⟨s1, p1, n1, c1, s2, p2, n2, c2, h1, h2⟩ := h
  simp only [Value.agg.injEq, Array.mk.injEq, List.cons.injEq, Value.bool.injEq, Value.slice.injEq, and_true] at h1
  obtain ⟨rfl, ⟨rfl, rfl, rfl⟩, rfl, rfl, rfl, rfl⟩ := h1
  exact h2
theorem Rtl.mk2 {w : World} {q : Rat} {k : Nat} {s p n c s' p' n' c'} {d : Int} (h1 : Whl w (.agg #[.bool s, .slice p n c]) q.num k) (h2 : Whl w (.agg #[.bool s', .slice p' n' c']) d k) (h3 : d = q.den ∨ (d = 0 ∧ q.den = 1)) : Rtl w (.agg #[.bool s, .slice p n c, .bool s', .slice p' n' c']) q k :=
  ⟨_, _, _, _, _, _, _, _, rfl, h1, d, h2, h3⟩

theorem list_dg_ext {xs ys : List Nat} (hl : xs.length = ys.length) (h : ∀ i, i < xs.length → dg xs i = dg ys i) : xs = ys := by
  apply List.ext_getElem hl
  intro i h1 h2
  have := h i h1
  rw [dg_lt h1, dg_lt h2] at this
  exact this
theorem Lim.inj {w : World} {v : Value} {xs ys : List Nat} (h : Lim w v xs) (h' : Lim w v ys) : xs = ys := by
  obtain ⟨h1, p, c, h2, h3, h4, h5⟩ := h
  obtain ⟨h1', p', c', h2', h3', h4', h5'⟩ := h'
  rw [h2] at h2'
  obtain ⟨rfl, hl, rfl⟩ := Value.slice.inj h2'
  refine list_dg_ext hl fun i hi => ?_
  rcases h5 with ⟨_, h5⟩ | ⟨b, off, h6, h7, h8⟩
  · omega
  · rcases h5' with ⟨_, h5'⟩ | ⟨b', off', h6', h7', h8'⟩
    · omega
    · rw [h6] at h6'
      simp only [Option.some.injEq, Addr.mk.injEq, and_true] at h6'
      obtain ⟨rfl, rfl⟩ := h6'
      have e1 := h8 i hi
      have e2 := h8' i (by omega)
      rw [e1] at e2
      simp only [Option.some.injEq, Value.int.injEq, true_and] at e2
      omega

set_option maxHeartbeats 1000000 in
theorem parts_zero {w : World} {v : Value} {q : Rat} {k : Nat} (h : Rtl w v q k) (hz : ∀ d : Int, ∀ {s p n c s' p' n' c'}, Whl w (.agg #[.bool s', .slice p' n' c']) d k → v = .agg #[.bool s, .slice p n c, .bool s', .slice p' n' c'] → d = 0) (hk : 1 ≤ k) :
    Calls Try.prog 41 #[v] w fun e w' => ∃ v u, e = .returned (.tuple #[v, u]) ∧ Whl w' v q.num k ∧ Whl w' u q.den k ∧ Below w.heap.size w w' := by
  obtain ⟨s1a, p1a, n1a, c1a, s1b, p1b, n1b, c1b, rfl⟩ := h.opened
  obtain ⟨h1, d, h2, h3⟩ := h.two
  have hd : d = 0 := hz d h2 rfl
  subst hd
  have hq : q.den = 1 := by rcases h3 with h3 | h3; exact absurd h3 (by have := q.den_pos; omega); exact h3.2
  have YG : (0 : Int).sign = 0 := rfl
  have HQ := hid hq
  have HK := hid hk
  have B := hid (Below.refl w.heap.size w)
  have HT := hid h1
  have HU := hid h2
  obtain ⟨hb1, hx2, hs3⟩ := Nbx.made w s1a s1b (.slice p1a n1a c1a) (.slice p1b n1b c1b)
  replace HT := wl HT hb1
  replace HU := wl HU hb1
  replace B := bb B hb1
  have XQ := hid hx2
  clear hb1 hx2
  obtain ⟨hb4, hx5, hs6⟩ := Box.made (w.alloc (.cells #[.bool s1a, .slice p1a n1a c1a, .bool s1b, .slice p1b n1b c1b] 52)) false none 0 0
  rw [hs3] at hx5 hs6
  replace XQ := nx XQ hb4
  replace HT := wl HT hb4
  replace HU := wl HU hb4
  replace B := bb B hb4
  have R1 := hid hx5
  clear hb4 hx5
  obtain ⟨hb7, hx8, hs9⟩ := Box.made ((w.alloc (.cells #[.bool s1a, .slice p1a n1a c1a, .bool s1b, .slice p1b n1b c1b] 52)).alloc (.cells #[.bool false, .slice none 0 0] 50)) false none 0 0
  rw [hs6] at hx8 hs9
  replace XQ := nx XQ hb7
  replace R1 := bx R1 hb7
  replace HT := wl HT hb7
  replace HU := wl HU hb7
  replace B := bb B hb7
  have R2 := hid hx8
  clear hb7 hx8
  clear hs9 h h1 h2 h3 hz hq hk
  go_enter Try.func41, Try.ntmps41
  have cc10 := XQ.out.cells
  have cc11 := R1.out.both
  have cc12 := R2.out.both
  go_wp2_with fail
  generalize hW : ((w.alloc (.cells #[.bool s1a, .slice p1a n1a c1a, .bool s1b, .slice p1b n1b c1b] 52)).alloc (.cells #[.bool false, .slice none 0 0] 50)).alloc (.cells #[.bool false, .slice none 0 0] 50) = W13 at *
  clear hW
  have HS := sgn_whl HU.out
  rw [YG] at HS
  refine (HS).mono ?_
  rintro e w14 ⟨rfl, hb⟩
  replace XQ := nx XQ hb
  replace R1 := bx R1 hb
  replace R2 := bx R2 hb
  replace HT := wl HT hb
  replace HU := wl HU hb
  replace B := bb B hb
  clear cc10 cc11 cc12
  clear hb 
  clear HS YG
  have cc15 := XQ.out.cells
  have cc16 := R1.out.both
  have cc17 := R2.out.both
  go_wp2_with fail
  have cc18 := XQ.out.cells
  replace XQ := hid XQ.out.dr
  replace R1 := hid R1.out.dr
  replace R2 := hid R2.out.dr
  replace HT := hid HT.out.drew
  replace HU := hid HU.out.drew
  replace B := hid (Below.drew B.out)
  have cc19 := XQ.out.cells
  go_region_held3 (fun w' => w'.cell? ⟨w.heap.size, 0, none⟩ = some (.bool s1a) ∧ w'.cell? ⟨w.heap.size, 1, none⟩ = some (.slice p1a n1a c1a) ∧ w'.cell? ⟨w.heap.size, 2, none⟩ = some (.bool s1b) ∧ w'.cell? ⟨w.heap.size, 3, none⟩ = some (.slice p1b n1b c1b)) (go_keep) (first
    | (go_at_call 31; refine (of_small 1 (by decide) _).mono ?_; rintro e w21 ⟨v, rfl, hv, hb⟩; obtain ⟨s4, p4, n4, c4, rfl⟩ := hv.opened; replace XQ := nx XQ hb; replace R1 := bx R1 hb; replace R2 := bx R2 hb; replace HT := wl HT hb; replace HU := wl HU hb; replace B := bb B hb; clear cc15 cc16 cc17 cc18 cc19; have HO := hid hv; clear hb hv; have cc22 := XQ.out.cells; have cc23 := R1.out.stores; obtain ⟨r24a, r24b, r24c⟩ := R1.out.last B.out (by omega) s1a p1a n1a c1a; replace XQ := hid (XQ.out.kept (heap2 (g := w.heap.size + 1) (by omega) (.bool s1a) (.slice p1a n1a c1a))); replace R2 := hid (R2.out.kept (heap2 (g := w.heap.size + 1) (by omega) (.bool s1a) (.slice p1a n1a c1a))); replace HT := hid (r24c HT.out); replace HU := hid (r24c HU.out); replace HO := hid (r24c HO.out); replace R1 := hid r24a; replace B := hid r24b; clear r24a r24b r24c; have cc25 := XQ.out.cells; have cc26 := R2.out.stores; obtain ⟨r27a, r27b, r27c⟩ := R2.out.last B.out (by omega) s4 p4 n4 c4; replace XQ := hid (XQ.out.kept (heap2 (g := w.heap.size + 1 + 1) (by omega) (.bool s4) (.slice p4 n4 c4))); replace R1 := hid (R1.out.kept (heap2 (g := w.heap.size + 1 + 1) (by omega) (.bool s4) (.slice p4 n4 c4))); replace HT := hid (r27c HT.out); replace HU := hid (r27c HU.out); replace HO := hid (r27c HO.out); replace R2 := hid r27a; replace B := hid r27b; clear r27a r27b r27c; have cc28 := XQ.out.cells; have mk20_0 := hid True.intro))
  go_wp2_with fail
  refine bodyPost_ret (res_ii rfl rfl rfl R1.out R2.out) rfl ?_
  exact ⟨_, _, rfl, HT.out, (show Whl _ _ (q.den : Int) _ by rw [HQ.out]; exact HO.out.mono HK.out), B.out⟩

set_option maxHeartbeats 1000000 in
theorem parts_some {w : World} {v : Value} {q : Rat} {k : Nat} (h : Rtl w v q k) (hz : ∀ d : Int, ∀ {s p n c s' p' n' c'}, Whl w (.agg #[.bool s', .slice p' n' c']) d k → v = .agg #[.bool s, .slice p n c, .bool s', .slice p' n' c'] → 0 < d) (hk : 1 ≤ k) :
    Calls Try.prog 41 #[v] w fun e w' => ∃ v u, e = .returned (.tuple #[v, u]) ∧ Whl w' v q.num k ∧ Whl w' u q.den k ∧ Below w.heap.size w w' := by
  obtain ⟨s1a, p1a, n1a, c1a, s1b, p1b, n1b, c1b, rfl⟩ := h.opened
  obtain ⟨h1, d, h2, h3⟩ := h.two
  have hd : 0 < d := hz d h2 rfl
  have hq : d = q.den := by rcases h3 with h3 | h3; exact h3; omega
  have YG := Int.sign_eq_one_of_pos hd
  have HQ := hid hq
  have HK := hid hk
  have B := hid (Below.refl w.heap.size w)
  have HT := hid h1
  have HU := hid h2
  obtain ⟨hb1, hx2, hs3⟩ := Nbx.made w s1a s1b (.slice p1a n1a c1a) (.slice p1b n1b c1b)
  replace HT := wl HT hb1
  replace HU := wl HU hb1
  replace B := bb B hb1
  have XQ := hid hx2
  clear hb1 hx2
  obtain ⟨hb4, hx5, hs6⟩ := Box.made (w.alloc (.cells #[.bool s1a, .slice p1a n1a c1a, .bool s1b, .slice p1b n1b c1b] 52)) false none 0 0
  rw [hs3] at hx5 hs6
  replace XQ := nx XQ hb4
  replace HT := wl HT hb4
  replace HU := wl HU hb4
  replace B := bb B hb4
  have R1 := hid hx5
  clear hb4 hx5
  obtain ⟨hb7, hx8, hs9⟩ := Box.made ((w.alloc (.cells #[.bool s1a, .slice p1a n1a c1a, .bool s1b, .slice p1b n1b c1b] 52)).alloc (.cells #[.bool false, .slice none 0 0] 50)) false none 0 0
  rw [hs6] at hx8 hs9
  replace XQ := nx XQ hb7
  replace R1 := bx R1 hb7
  replace HT := wl HT hb7
  replace HU := wl HU hb7
  replace B := bb B hb7
  have R2 := hid hx8
  clear hb7 hx8
  clear hs9 h h1 h2 h3 hz hq hk hd
  go_enter Try.func41, Try.ntmps41
  have cc10 := XQ.out.cells
  have cc11 := R1.out.both
  have cc12 := R2.out.both
  go_wp2_with fail
  generalize hW : ((w.alloc (.cells #[.bool s1a, .slice p1a n1a c1a, .bool s1b, .slice p1b n1b c1b] 52)).alloc (.cells #[.bool false, .slice none 0 0] 50)).alloc (.cells #[.bool false, .slice none 0 0] 50) = W13 at *
  clear hW
  have HS := sgn_whl HU.out
  rw [YG] at HS
  refine (HS).mono ?_
  rintro e w14 ⟨rfl, hb⟩
  replace XQ := nx XQ hb
  replace R1 := bx R1 hb
  replace R2 := bx R2 hb
  replace HT := wl HT hb
  replace HU := wl HU hb
  replace B := bb B hb
  clear cc10 cc11 cc12
  clear hb 
  clear HS YG
  have cc15 := XQ.out.cells
  have cc16 := R1.out.both
  have cc17 := R2.out.both
  go_wp2_with fail
  have cc18 := XQ.out.cells
  have cc19 := R1.out.stores
  obtain ⟨r20a, r20b, r20c⟩ := R1.out.last B.out (by omega) s1a p1a n1a c1a
  replace XQ := hid (XQ.out.kept (heap2 (g := w.heap.size + 1) (by omega) (.bool s1a) (.slice p1a n1a c1a)))
  replace R2 := hid (R2.out.kept (heap2 (g := w.heap.size + 1) (by omega) (.bool s1a) (.slice p1a n1a c1a)))
  replace HT := hid (r20c HT.out)
  replace HU := hid (r20c HU.out)
  replace R1 := hid r20a
  replace B := hid r20b
  clear r20a r20b r20c
  have cc21 := XQ.out.cells
  have cc22 := R2.out.stores
  obtain ⟨r23a, r23b, r23c⟩ := R2.out.last B.out (by omega) s1b p1b n1b c1b
  replace XQ := hid (XQ.out.kept (heap2 (g := w.heap.size + 1 + 1) (by omega) (.bool s1b) (.slice p1b n1b c1b)))
  replace R1 := hid (R1.out.kept (heap2 (g := w.heap.size + 1 + 1) (by omega) (.bool s1b) (.slice p1b n1b c1b)))
  replace HT := hid (r23c HT.out)
  replace HU := hid (r23c HU.out)
  replace R2 := hid r23a
  replace B := hid r23b
  clear r23a r23b r23c
  have cc24 := XQ.out.cells
  go_region_held3 (fun w' => w'.cell? ⟨w.heap.size, 0, none⟩ = some (.bool s1a) ∧ w'.cell? ⟨w.heap.size, 1, none⟩ = some (.slice p1a n1a c1a) ∧ w'.cell? ⟨w.heap.size, 2, none⟩ = some (.bool s1b) ∧ w'.cell? ⟨w.heap.size, 3, none⟩ = some (.slice p1b n1b c1b)) (go_keep) (first | fail)
  replace XQ := hid XQ.out.dr
  replace R1 := hid R1.out.dr
  replace R2 := hid R2.out.dr
  replace HT := hid HT.out.drew
  replace HU := hid HU.out.drew
  replace B := hid (Below.drew B.out)
  go_wp2_with fail
  refine bodyPost_ret (res_ii rfl rfl rfl R1.out R2.out) rfl ?_
  exact ⟨_, _, rfl, HT.out, (show Whl _ _ (q.den : Int) _ by rw [← HQ.out]; exact HU.out), B.out⟩

theorem Whl.inj {w : World} {v : Value} {z y : Int} {k l : Nat} (h : Whl w v z k) (h' : Whl w v y l) : z = y := by
  obtain ⟨s, sv, xs, h1, h2, h3, h4, h5, h6⟩ := h
  obtain ⟨s', sv', xs', h1', h2', h3', h4', h5', h6'⟩ := h'
  rw [h1] at h1'
  simp only [Value.agg.injEq, Array.mk.injEq, List.cons.injEq, Value.bool.injEq, and_true] at h1'
  obtain ⟨rfl, rfl⟩ := h1'
  have hx : xs = xs' := h2.inj h2'
  rw [← h6, ← h6', hx]
theorem parts_rtl {w : World} {v : Value} {q : Rat} {k : Nat} (h : Rtl w v q k) (hk : 1 ≤ k) :
    Calls Try.prog 41 #[v] w fun e w' => ∃ v u, e = .returned (.tuple #[v, u]) ∧ Whl w' v q.num k ∧ Whl w' u q.den k ∧ Below w.heap.size w w' := by
  obtain ⟨s1, p1, n1, c1, s2, p2, n2, c2, rfl⟩ := id h.opened
  obtain ⟨h1, d, h2, h3⟩ := h.two
  by_cases h0 : d = 0
  · refine parts_zero h (fun d' {s p n c s' p' n' c'} hw he => ?_) hk
    simp only [Value.agg.injEq, Array.mk.injEq, List.cons.injEq, Value.bool.injEq, Value.slice.injEq, and_true] at he
    obtain ⟨rfl, ⟨rfl, rfl, rfl⟩, rfl, rfl, rfl, rfl⟩ := he
    rw [hw.inj h2]; exact h0
  · refine parts_some h (fun d' {s p n c s' p' n' c'} hw he => ?_) hk
    simp only [Value.agg.injEq, Array.mk.injEq, List.cons.injEq, Value.bool.injEq, Value.slice.injEq, and_true] at he
    obtain ⟨rfl, ⟨rfl, rfl, rfl⟩, rfl, rfl, rfl, rfl⟩ := he
    rw [hw.inj h2]
    rcases h3 with h3 | h3
    · have := q.den_pos; omega
    · exact absurd h3.1 h0

set_option maxHeartbeats 1000000 in
theorem more_whl {w : World} {v : Value} {z : Int} {k : Nat} (h : Whl w v z k) (hk : k ≤ 549755813888) :
    Calls Try.prog 38 #[v] w fun e w' => e = .returned (.bool (decide (1 < z))) ∧ Below w.heap.size w w' := by
  obtain ⟨s1, p1, n1, c1, rfl⟩ := h.opened
  have HK := hid hk
  have B := hid (Below.refl w.heap.size w)
  have HZ := hid h
  obtain ⟨hb1, hx2, hs3⟩ := Box.made w s1 p1 n1 c1
  replace HZ := wl HZ hb1
  replace B := bb B hb1
  have X1 := hid hx2
  clear hb1 hx2
  clear hs3 h hk
  go_enter Try.func38, Try.ntmps38
  go_wp2_with fail
  have cc4 := X1.out.both
  replace X1 := hid X1.out.dr
  replace HZ := hid HZ.out.drew
  replace B := hid (Below.drew B.out)
  have cc5 := X1.out.both
  go_region_held3 (fun w' => w'.cell? ⟨w.heap.size, 0, none⟩ = some (.bool s1) ∧ w'.cell? ⟨w.heap.size, 1, none⟩ = some (.slice p1 n1 c1)) (go_keep) (first
    | (have hm := mk6_0; clear hm; go_at_call 58; refine (zless_whl HO.out HZ.out (by omega) HK.out).mono ?_; rintro e w9 ⟨rfl, hb⟩; replace X1 := bx X1 hb; replace B := bb B hb; clear cc8; clear hb ; have cc10 := X1.out.both; have mk6_1 := hid True.intro)
    | (go_at_call 31; refine (of_small 1 (by decide) _).mono ?_; rintro e w7 ⟨v, rfl, hv, hb⟩; obtain ⟨s2, p2, n2, c2, rfl⟩ := hv.opened; replace X1 := bx X1 hb; replace HZ := wl HZ hb; replace B := bb B hb; clear cc4 cc5; have HO := hid hv; clear hb hv; have cc8 := X1.out.both; have mk6_0 := hid True.intro))
  go_wp2_with fail
  go_ret
  exact ⟨rfl, B.out⟩

end Go.Proofs.Ytkenlaikhnoldaa

/-
  PACKAGE whole: Read.
-/
namespace Go.Proofs.Ytkenlaikhnoldaa
open Go.RowKit
open Num
set_option linter.unusedVariables false
set_option maxRecDepth 100000
set_option linter.unusedSimpArgs false

/-- An integer that may be handed in. -/
def GoodZ (s : ByteArray) : Prop := s.size ≤ 100 ∧ isWhl s.data.toList = true
/-- What is wrong with a text. -/
def BadZ (s : ByteArray) (k : Int) : Prop := (100 < s.size ∧ k = 4) ∨ (s.size ≤ 100 ∧ isWhl s.data.toList = false ∧ k = 1)
/-- The integer of a text. -/
def znum (s : ByteArray) : Int := whlOf s.data.toList

/-- The error of two texts. -/
def WrongZ (a b : ByteArray) (k : Int) : Prop := BadZ a k ∨ (GoodZ a ∧ BadZ b k)
end Go.Proofs.Ytkenlaikhnoldaa

/-
  PACKAGE whole: Check.
-/
namespace Go.Proofs.Ytkenlaikhnoldaa
open Go.RowKit
open Num
set_option linter.unusedVariables false
set_option maxRecDepth 100000
set_option linter.unusedSimpArgs false

end Go.Proofs.Ytkenlaikhnoldaa

/-
  A Number's box that a region makes.
-/
namespace Go.Proofs.Ytkenlaikhnoldaa
open Go.RowKit
open Num
set_option linter.unusedVariables false
set_option maxRecDepth 100000
set_option linter.unusedSimpArgs false


theorem below_next {a c d : World} (h : Below a.heap.size a c) (hb : Below c.heap.size c d) : Below a.heap.size a d := h.trans (hb.mono h.size)
/-- A Number's box that the region has made. -/
def NewN (w0 w : World) (u : Value) (b : Bool) (v : Value) : Prop := ∃ g, u = .pointer (some ⟨g, 0, none⟩) ∧ w0.heap.size ≤ g ∧ (b = false → Nbx w g false (.slice none 0 0) false (.slice none 0 0)) ∧ (b = true → ∃ s p n c s' p' n' c', v = .agg #[.bool s, .slice p n c, .bool s', .slice p' n' c'] ∧ Nbx w g s (.slice p n c) s' (.slice p' n' c'))
theorem NewN.free {w0 w : World} {u v v' : Value} {b : Bool} (h : NewN w0 w u b v) (hb : b = false) : NewN w0 w u b v' := by
  obtain ⟨g, h1, h2, h3, h4⟩ := h
  exact ⟨g, h1, h2, h3, fun e => absurd (hb.symm.trans e) (by decide)⟩
theorem NewN.on {w0 w w' : World} {u v : Value} {b : Bool} (h : NewN w0 w u b v) (hb : Below w.heap.size w w') : NewN w0 w' u b v := by
  obtain ⟨g, h1, h2, h3, h4⟩ := h
  refine ⟨g, h1, h2, fun e => (h3 e).below hb (h3 e).lt, fun e => ?_⟩
  obtain ⟨s, p, n, c, s', p', n', c', e1, e2⟩ := h4 e
  exact ⟨s, p, n, c, s', p', n', c', e1, e2.below hb e2.lt⟩

theorem NewN.lt {w0 w : World} {u v : Value} {b : Bool} (h : NewN w0 w u b v) : ∃ g, u = .pointer (some ⟨g, 0, none⟩) ∧ g < w.heap.size := by
  obtain ⟨g, h1, h2, h3, h4⟩ := h
  refine ⟨g, h1, ?_⟩
  cases b with
  | false => exact (h3 rfl).lt
  | true => obtain ⟨_, _, _, _, _, _, _, _, _, h⟩ := h4 rfl; exact h.lt
theorem NewN.set {w0 w : World} {u v : Value} {b : Bool} {g : Nat} (h : NewN w0 w u b v) (hne : u ≠ .pointer (some ⟨g, 0, none⟩)) (a1 a2 a3 a4 : Value) : NewN w0 ((((w.setCell ⟨g, 0, none⟩ a1).setCell ⟨g, 1, none⟩ a2).setCell ⟨g, 2, none⟩ a3).setCell ⟨g, 3, none⟩ a4) u b v := by
  obtain ⟨g', rfl, h2, h3, h4⟩ := h
  have hg : g' ≠ g := fun e => hne (by rw [e])
  refine ⟨g', rfl, h2, fun e => ((((h3 e).other hg _ _).other hg _ _).other hg _ _).other hg _ _, fun e => ?_⟩
  obtain ⟨s, p, n, c, s', p', n', c', e1, e2⟩ := h4 e
  exact ⟨s, p, n, c, s', p', n', c', e1, (((e2.other hg _ _).other hg _ _).other hg _ _).other hg _ _⟩
theorem Rtl.moved {w w' : World} {v : Value} {q : Rat} {k : Nat} (h : Rtl w v q k) (hm : ∀ v z k, Whl w v z k → Whl w' v z k) : Rtl w' v q k := by
  obtain ⟨s, p, n, c, s', p', n', c', h1, h2, d, h3, h4⟩ := h
  exact ⟨s, p, n, c, s', p', n', c', h1, hm _ _ _ h2, d, hm _ _ _ h3, h4⟩

end Go.Proofs.Ytkenlaikhnoldaa

/-
  RECORDS IN MEMORY: slices of Integers.
-/
namespace Go.Proofs.Ytkenlaikhnoldaa
open Go.RowKit
open Num
set_option linter.unusedVariables false
set_option maxRecDepth 100000
set_option linter.unusedSimpArgs false
def zat (vs : List Zr) (i : Nat) : Zr := vs[i]?.getD (false, none, 0, 0)
def flz (vs : List Zr) : Array Value := (vs.map zcs).flatten.toArray
theorem zcs_len (vs : List Zr) : ∀ r ∈ vs.map zcs, r.length = 2 := by
  intro r hr
  obtain ⟨x, _, rfl⟩ := List.mem_map.1 hr
  rfl
theorem flz_get (vs : List Zr) (i : Nat) (h : i < vs.length) : (flz vs)[i * 2]? = some (.bool (zat vs i).1) ∧ (flz vs)[i * 2 + 1]? = some (.slice (zat vs i).2.1 (zat vs i).2.2.1 (zat vs i).2.2.2) := by
  have h0 := flat_get 2 (vs.map zcs) (zcs_len vs) i 0 (by simpa using h) (by omega)
  have h1 := flat_get 2 (vs.map zcs) (zcs_len vs) i 1 (by simpa using h) (by omega)
  simp only [Nat.add_zero] at h0
  constructor
  · rw [flz, List.getElem?_toArray, h0]; simp [zat, h, zcs]
  · rw [flz, List.getElem?_toArray, h1]; simp [zat, h, zcs]
theorem flz_set (vs : List Zr) (i : Nat) (h : i < vs.length) (r : Zr) : ((flz vs).setIfInBounds (i * 2) (.bool r.1)).setIfInBounds (i * 2 + 1) (.slice r.2.1 r.2.2.1 r.2.2.2) = flz (vs.set i r) := by
  unfold flz
  rw [List.setIfInBounds_toArray, List.setIfInBounds_toArray]
  have h0 := flat_set 2 (vs.map zcs) (zcs_len vs) i 0 (.bool r.1) (by simpa using h) (by omega)
  rw [Nat.add_zero] at h0
  rw [h0]
  have hl : ∀ x ∈ (vs.map zcs).set i (((vs.map zcs)[i]?.getD []).set 0 (.bool r.1)), x.length = 2 := by
    intro x hx
    rcases List.mem_or_eq_of_mem_set hx with hx | rfl
    · exact zcs_len vs x hx
    · simp [h, zcs]
  rw [flat_set 2 _ hl i 1 _ (by simpa using h) (by omega)]
  congr 2
  rw [List.set_set, List.map_set]
  congr 1
  simp [h, zcs]
/-- Block b holds these Integers, and may be written. -/
def Zrow (w : World) (b : Nat) (vs : List Zr) : Prop := w.heap[b]? = some (.cells (flz vs) 50 (0, 0))
theorem Zrow.lt {w : World} {b : Nat} {vs : List Zr} (h : Zrow w b vs) : b < w.heap.size := (Array.getElem?_eq_some_iff.1 h).1
theorem Zrow.free {w : World} {b : Nat} {vs : List Zr} (h : Zrow w b vs) (i : Nat) : w.frozen? ⟨b, i, none⟩ = false := by
  have : w.heap[b]? = some (.cells (flz vs) 50 (0, 0)) := h
  simp [World.frozen?, this]
theorem Zrow.cells {w : World} {b : Nat} {vs : List Zr} (h : Zrow w b vs) {i : Nat} (hi : i < vs.length) : w.cell? ⟨b, i * 2, none⟩ = some (.bool (zat vs i).1) ∧ w.cell? ⟨b, i * 2 + 1, none⟩ = some (.slice (zat vs i).2.1 (zat vs i).2.2.1 (zat vs i).2.2.2) := by
  have : w.heap[b]? = some (.cells (flz vs) 50 (0, 0)) := h
  obtain ⟨h0, h1⟩ := flz_get vs i hi
  constructor <;> simp [World.cell?, this, h0, h1]
theorem Zrow.below {w w' : World} {b K : Nat} {vs : List Zr} (h : Zrow w b vs) (hb : Below K w w') (hK : b < K) : Zrow w' b vs := (hb.block b hK).trans h
theorem Zrow.other {w : World} {b g : Nat} {vs : List Zr} (h : Zrow w b vs) (hne : b ≠ g) (i : Nat) (u : Value) : Zrow (w.setCell ⟨g, i, none⟩ u) b vs := by
  show (w.setCell ⟨g, i, none⟩ u).heap[b]? = _
  rw [Below.heap_setCell _ _ _ _ (by exact hne)]; exact h
theorem Zrow.put {w : World} {b : Nat} {vs : List Zr} (h : Zrow w b vs) {i : Nat} (hi : i < vs.length) (s : Bool) (p : Option Addr) (n c : Nat) : Zrow ((w.setCell ⟨b, i * 2, none⟩ (.bool s)).setCell ⟨b, i * 2 + 1, none⟩ (.slice p n c)) b (vs.set i (s, p, n, c)) := by
  have : w.heap[b]? = some (.cells (flz vs) 50 (0, 0)) := h
  show ((w.setCell ⟨b, i * 2, none⟩ (.bool s)).setCell ⟨b, i * 2 + 1, none⟩ (.slice p n c)).heap[b]? = _
  rw [← flz_set vs i hi (s, p, n, c)]
  simp only [World.setCell, Array.getElem?_modify, this]
  simp
theorem Zrow.noint {w : World} {b : Nat} {vs : List Zr} (h : Zrow w b vs) : NoInt w b := by
  intro cur T f e u hu
  have : w.heap[b]? = some (.cells (flz vs) 50 (0, 0)) := h
  rw [this] at e
  cases e
  obtain ⟨x, hx, hu⟩ := List.mem_flatten.1 (show u ∈ (vs.map zcs).flatten from hu)
  obtain ⟨r, _, rfl⟩ := List.mem_map.1 hx
  simp [zcs] at hu
  rcases hu with rfl | rfl
  · exact NI.bool _
  · exact NI.slc _ _ _
/-- What a walk needs to write one. -/
theorem Zrow.stores {w : World} {b : Nat} {vs : List Zr} (h : Zrow w b vs) {i : Nat} (hi : i < vs.length) :
    w.cell? ⟨b, i * 2, none⟩ = some (.bool (zat vs i).1) ∧ w.frozen? ⟨b, i * 2, none⟩ = false ∧ (∀ x, (w.setCell ⟨b, i * 2, none⟩ (.bool x)).cell? ⟨b, i * 2 + 1, none⟩ = some (.slice (zat vs i).2.1 (zat vs i).2.2.1 (zat vs i).2.2.2)) ∧ (∀ x, (w.setCell ⟨b, i * 2, none⟩ (.bool x)).frozen? ⟨b, i * 2 + 1, none⟩ = false) := by
  have hw : w.heap[b]? = some (.cells (flz vs) 50 (0, 0)) := h
  obtain ⟨h0, h1⟩ := flz_get vs i hi
  refine ⟨(h.cells hi).1, h.free _, fun x => ?_, fun x => ?_⟩
  · have : (w.setCell ⟨b, i * 2, none⟩ (.bool x)).heap[b]? = some (.cells ((flz vs).setIfInBounds (i * 2) (.bool x)) 50 (0, 0)) := by
      simp only [World.setCell, Array.getElem?_modify, hw]; simp
    simp [World.cell?, this, Array.getElem?_setIfInBounds, h1]
  · have : (w.setCell ⟨b, i * 2, none⟩ (.bool x)).heap[b]? = some (.cells ((flz vs).setIfInBounds (i * 2) (.bool x)) 50 (0, 0)) := by
      simp only [World.setCell, Array.getElem?_modify, hw]; simp
    simp [World.frozen?, this]
theorem Whl.grown {w w' : World} {v : Value} {z : Int} {k g : Nat} (h : Whl w v z k) (hn : NoInt w g) (hg : w.grownBy w' (some g)) : Whl w' v z k := by
  obtain ⟨s, sv, xs, h1, h2, h3⟩ := h
  exact ⟨s, sv, xs, h1, h2.grown hn hg, h3⟩
end Go.Proofs.Ytkenlaikhnoldaa
