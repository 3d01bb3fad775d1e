/-
  PACKAGE whole: AN Integer IN MEMORY, ITS METHODS.
-/
import Derived.Test.YtjeeepcnaaadmaaNat
import Derived.Test.YtjeeepcnaaadmaaDiv
import Derived.Deep.RegionWith
import Derived.Deep.RegionHeld3
import Derived.IntWalk
namespace Go.Proofs.Ytjeeepcnaaadmaa
open Go.RowKit
open Num
set_option linter.unusedVariables false
set_option maxRecDepth 100000
set_option linter.unusedSimpArgs false

/-- A sign and a size. -/
def zof (s : Bool) (n : Nat) : Int := if s then -(n : Int) else n
theorem natAbs_zof (s : Bool) (n : Nat) : (zof s n).natAbs = n := by cases s <;> simp [zof]

/-- A value reads as an integer of k limbs or fewer. -/
def Whl (w : World) (v : Value) (z : Int) (k : Nat) : Prop := ∃ s sv xs, v = .agg #[.bool s, sv] ∧ Lim w sv xs ∧ Trim xs ∧ xs.length ≤ k ∧ (s = true → val xs ≠ 0) ∧ zof s (val xs) = z
theorem Whl.below {w w' : World} {v : Value} {z : Int} {k K : Nat} (h : Whl w v z k) (hb : Below K w w') (hK : w.heap.size ≤ K) : Whl w' v z k := by
  obtain ⟨s, sv, xs, h1, h2, h3⟩ := h
  exact ⟨s, sv, xs, h1, h2.below hb hK, h3⟩
theorem Whl.on {w w' : World} {v : Value} {z : Int} {k : Nat} (h : Whl w v z k) (hb : Below w.heap.size w w') : Whl w' v z k := h.below hb (Nat.le_refl _)
theorem Whl.mono {w : World} {v : Value} {z : Int} {k m : Nat} (h : Whl w v z k) (hk : k ≤ m) : Whl w v z m := by
  obtain ⟨s, sv, xs, h1, h2, h3, h4, h5⟩ := h
  exact ⟨s, sv, xs, h1, h2, h3, by omega, h5⟩
theorem Whl.fit {w : World} {v : Value} {z : Int} {k : Nat} (m : Nat) (h : Whl w v z k) (hm : z.natAbs < B ^ m) : Whl w v z m := by
  obtain ⟨s, sv, xs, h1, h2, h3, h4, h5, h6⟩ := h
  exact ⟨s, sv, xs, h1, h2, h3, length_le_of_val h3 m (by rw [← h6, natAbs_zof] at hm; exact hm), h5, h6⟩
theorem Whl.drewN {w : World} {v : Value} {z : Int} {k : Nat} (h : Whl w v z k) (n : Nat) : Whl (w.drewN n) v z k := h.on (below_drewN (Below.refl _ _) n)

/-- A block of two cells: an Integer's. -/
def Box (w : World) (g : Nat) (s : Bool) (sv : Value) : Prop := w.heap[g]? = some (.cells #[.bool s, sv] 49 (0, 0)) ∧ ∃ p n c, sv = .slice p n c
theorem Box.lt {w : World} {g : Nat} {s : Bool} {sv : Value} (h : Box w g s sv) : g < w.heap.size := lt_of_block h.1
theorem Box.cell0 {w : World} {g : Nat} {s : Bool} {sv : Value} (h : Box w g s sv) : w.cell? ⟨g, 0, none⟩ = some (.bool s) := by
  simp [World.cell?, h.1]
theorem Box.cell1 {w : World} {g : Nat} {s : Bool} {sv : Value} (h : Box w g s sv) : w.cell? ⟨g, 1, none⟩ = some sv := by
  simp [World.cell?, h.1]
theorem Box.free {w : World} {g : Nat} {s : Bool} {sv : Value} (h : Box w g s sv) (i : Nat) : w.frozen? ⟨g, i, none⟩ = false := by
  simp [World.frozen?, h.1]
theorem Box.below {w w' : World} {g K : Nat} {s : Bool} {sv : Value} (h : Box w g s sv) (hb : Below K w w') (hK : g < K) : Box w' g s sv := ⟨(hb.block g hK).trans h.1, h.2⟩
theorem Box.new (w : World) (s : Bool) (p : Option Addr) (n c : Nat) : Box (w.alloc (.cells #[.bool s, .slice p n c] 49)) w.heap.size s (.slice p n c) := by
  refine ⟨?_, p, n, c, rfl⟩
  show (w.heap.push _)[w.heap.size]? = _
  simp
theorem Box.set0 {w : World} {g : Nat} {s : Bool} {sv : Value} (h : Box w g s sv) (s' : Bool) : Box (w.setCell ⟨g, 0, none⟩ (.bool s')) g s' sv := by
  refine ⟨?_, h.2⟩
  show (w.setCell ⟨g, 0, none⟩ (.bool s')).heap[g]? = _
  simp only [World.setCell, Array.getElem?_modify, h.1]
  simp
theorem Box.set1 {w : World} {g : Nat} {s : Bool} {sv sv' : Value} (h : Box w g s sv) (h' : ∃ p n c, sv' = .slice p n c) : Box (w.setCell ⟨g, 1, none⟩ sv') g s sv' := by
  refine ⟨?_, h'⟩
  show (w.setCell ⟨g, 1, none⟩ sv').heap[g]? = _
  simp only [World.setCell, Array.getElem?_modify, h.1]
  simp
theorem Box.other {w : World} {g g2 : Nat} {s : Bool} {sv : Value} (h : Box w g s sv) (hne : g ≠ g2) (i : Nat) (v : Value) : Box (w.setCell ⟨g2, i, none⟩ v) g s sv := by
  refine ⟨?_, h.2⟩
  rw [Below.heap_setCell _ _ _ _ (by exact hne)]; exact h.1
theorem Box.stores {w : World} {g : Nat} {s : Bool} {sv : Value} (h : Box w g s sv) : w.cell? ⟨g, 0, none⟩ = some (.bool s) ∧ w.frozen? ⟨g, 0, none⟩ = false ∧ (∀ x, (w.setCell ⟨g, 0, none⟩ (.bool x)).cell? ⟨g, 1, none⟩ = some sv) ∧ (∀ x, (w.setCell ⟨g, 0, none⟩ (.bool x)).frozen? ⟨g, 1, none⟩ = false) :=
  ⟨h.cell0, h.free 0, fun x => (h.set0 x).cell1, fun x => (h.set0 x).free 1⟩
/-- A store into a box changes no number in memory. -/
theorem Lim.box {w : World} {v : Value} {xs : List Nat} {g : Nat} {s : Bool} {sv : Value} (h : Lim w v xs) (hx : Box w g s sv) (i : Nat) (u : Value) : Lim (w.setCell ⟨g, i, none⟩ u) v xs := by
  obtain ⟨h1, p, c, h2, h3, h4, h5⟩ := h
  refine ⟨h1, p, c, h2, h3, h4, ?_⟩
  rcases h5 with h5 | ⟨b, off, h6, h7, h8⟩
  · exact .inl h5
  · refine .inr ⟨b, off, h6, by simpa [World.setCell] using h7, fun i hi => ?_⟩
    have h9 := h8 i hi
    by_cases hb : b = g
    · subst hb
      obtain ⟨hx1, p', n', c', hx2⟩ := hx
      subst hx2
      simp only [World.cell?, hx1] at h9
      have hh : ∀ k : Nat, (#[Value.bool s, Value.slice p' n' c'] : Array Value)[k]? ≠ some (.int .u32 (dg xs i)) := by
        intro k
        rcases k with _ | _ | k <;> simp
      exact absurd h9 (hh _)
    · rw [← h9]
      exact World.cell?_of_block (Below.heap_setCell _ _ _ _ (by exact hb))
theorem Whl.box {w : World} {v : Value} {z : Int} {k g : Nat} {s : Bool} {sv : Value} (h : Whl w v z k) (hx : Box w g s sv) (i : Nat) (u : Value) : Whl (w.setCell ⟨g, i, none⟩ u) v z k := by
  obtain ⟨s', sv', xs, h1, h2, h3⟩ := h
  exact ⟨s', sv', xs, h1, h2.box hx i u, h3⟩
theorem Lim.slice {w : World} {v : Value} {xs : List Nat} (h : Lim w v xs) : ∃ p n c, v = .slice p n c := by
  obtain ⟨p, c, h2, _⟩ := lim_parts h
  exact ⟨p, _, c, h2⟩

theorem zof_if (s : Bool) (n : Nat) : zof (s && decide (0 < n)) n = zof s n := by
  cases s
  · rfl
  · by_cases h : 0 < n
    · simp [zof, h]
    · have : n = 0 := by omega
      subst this
      simp [zof]
theorem Whl.of {w : World} {s : Bool} {sv : Value} {xs : List Nat} {k : Nat} (h1 : Lim w sv xs) (h2 : Trim xs) (hk : xs.length ≤ k) : Whl w (.agg #[.bool (s && decide (0 < xs.length)), sv]) (zof s (val xs)) k := by
  refine ⟨_, sv, xs, rfl, h1, h2, hk, ?_, ?_⟩
  · intro hs h0
    have := h2.zero_iff.1 h0
    simp [this] at hs
  · have : decide (0 < xs.length) = decide (0 < val xs) := by
      have := h2.zero_iff
      apply decide_eq_decide.2
      constructor
      · intro h
        have : val xs ≠ 0 := fun e => by simp [h2.zero_iff.1 e] at h
        omega
      · intro h
        cases xs with
        | nil => simp [val] at h
        | cons => simp
    rw [this, zof_if]
theorem Whl.neg {w : World} {v : Value} {z : Int} {k : Nat} (h : Whl w v z k) : ∃ s sv xs, v = .agg #[.bool s, sv] ∧ Lim w sv xs ∧ Trim xs ∧ xs.length ≤ k ∧ s = decide (z < 0) ∧ val xs = z.natAbs := by
  obtain ⟨s, sv, xs, h1, h2, h3, h4, h5, h6⟩ := h
  refine ⟨s, sv, xs, h1, h2, h3, h4, ?_, by rw [← h6, natAbs_zof]⟩
  rw [← h6]
  cases s
  · simp [zof]
  · have := h5 rfl
    simp only [zof, if_true]
    exact (decide_eq_true (by omega)).symm

/-- Boxes made at the head of a method. -/
theorem boxes1 (w : World) (a : Bool) (b : Value) (hb : ∃ p n c, b = .slice p n c) : Box (w.alloc (.cells #[.bool a, b] 49)) w.heap.size a b ∧ Below w.heap.size w (w.alloc (.cells #[.bool a, b] 49)) ∧ (w.alloc (.cells #[.bool a, b] 49)).heap.size = w.heap.size + 1 := by
  obtain ⟨p, n, c, rfl⟩ := hb
  exact ⟨Box.new _ _ _ _ _, (Below.refl _ _).alloc (Nat.le_refl _) _, by simp⟩
theorem boxes2 (w : World) (a c : Bool) (b d : Value) (hb : ∃ p n c, b = .slice p n c) (hd : ∃ p n c, d = .slice p n c) : Box ((w.alloc (.cells #[.bool a, b] 49)).alloc (.cells #[.bool c, d] 49)) w.heap.size a b ∧ Box ((w.alloc (.cells #[.bool a, b] 49)).alloc (.cells #[.bool c, d] 49)) (w.heap.size + 1) c d ∧ Below w.heap.size w ((w.alloc (.cells #[.bool a, b] 49)).alloc (.cells #[.bool c, d] 49)) ∧ ((w.alloc (.cells #[.bool a, b] 49)).alloc (.cells #[.bool c, d] 49)).heap.size = w.heap.size + 1 + 1 := by
  obtain ⟨h1, h2, h3⟩ := boxes1 w a b hb
  obtain ⟨k1, k2, k3⟩ := boxes1 (w.alloc (.cells #[.bool a, b] 49)) c d hd
  rw [h3] at k1 k2 k3
  exact ⟨h1.below k2 (by omega), k1, h2.trans (k2.mono (by omega)), k3⟩
theorem boxes3 (w : World) (a c e : Bool) (b d f : Value) (hb : ∃ p n c, b = .slice p n c) (hd : ∃ p n c, d = .slice p n c) (hf : ∃ p n c, f = .slice p n c) : Box (((w.alloc (.cells #[.bool a, b] 49)).alloc (.cells #[.bool c, d] 49)).alloc (.cells #[.bool e, f] 49)) w.heap.size a b ∧ Box (((w.alloc (.cells #[.bool a, b] 49)).alloc (.cells #[.bool c, d] 49)).alloc (.cells #[.bool e, f] 49)) (w.heap.size + 1) c d ∧ Box (((w.alloc (.cells #[.bool a, b] 49)).alloc (.cells #[.bool c, d] 49)).alloc (.cells #[.bool e, f] 49)) (w.heap.size + 1 + 1) e f ∧ Below w.heap.size w (((w.alloc (.cells #[.bool a, b] 49)).alloc (.cells #[.bool c, d] 49)).alloc (.cells #[.bool e, f] 49)) ∧ (((w.alloc (.cells #[.bool a, b] 49)).alloc (.cells #[.bool c, d] 49)).alloc (.cells #[.bool e, f] 49)).heap.size = w.heap.size + 1 + 1 + 1 := by
  obtain ⟨h1, h2, h3, h4⟩ := boxes2 w a c b d hb hd
  obtain ⟨k1, k2, k3⟩ := boxes1 ((w.alloc (.cells #[.bool a, b] 49)).alloc (.cells #[.bool c, d] 49)) e f hf
  rw [h4] at k1 k2 k3
  exact ⟨h1.below k2 (by omega), h2.below k2 (by omega), k1, h3.trans (k2.mono (by omega)), k3⟩

theorem Lim.store {w : World} {v : Value} {xs : List Nat} (h : Lim w v xs) (a : Addr) (m : Mode) (w' : World) : (Go.store a v m).run Try.prog w' = stored Try.prog w' a v m := by
  obtain ⟨p, c, rfl, h⟩ := lim_parts h
  exact run_store Try.prog w' a _ m rfl

theorem below_undrewN {w w' : World} {n : Nat} (h : Below (w.drewN n).heap.size (w.drewN n) w') : Below w.heap.size w w' := (below_drewN (Below.refl _ _) n).trans h
theorem below_undrew' {w w' : World} (h : Below w.drew.heap.size w.drew w') : Below w.heap.size w w' := ⟨h.os, h.tape, h.output, h.size, h.block⟩

theorem at_addr {tmps : Array Value} {t : Tmp} {a : Addr} {P : Program} {w : World} (ht : tmps.getD t undef = .pointer (some a)) : (asAddr (tmps.getD t undef)).run P w = .ok a w := by
  rw [ht]; rfl
theorem load_whl {w : World} {g : Nat} {s : Bool} {sv : Value} (h2 : Box w g s sv) : (loadVar 49 ⟨g, 0, none⟩).run Try.prog w = .ok (.agg #[.bool s, sv]) w := by
  simp [go_sem, h2.cell0, h2.cell1]
theorem res_one {fn : Func} {t : Tmp} {tmps : Array Value} {w : World} {g : Nat} {s : Bool} {sv : Value} (hf : fn.results = #[.cell t 49]) (ht : tmps.getD t undef = .pointer (some ⟨g, 0, none⟩)) (h2 : Box w g s sv) :
    (results fn tmps).run Try.prog w = .ok (.agg #[.bool s, sv]) w := by
  have h1 := at_addr (P := Try.prog) (w := w) ht
  have h3 := load_whl h2
  simp only [Array.getD_eq_getD_getElem?] at h1
  simp [results, hf, Sem.run_bind, h1, h3]

set_option maxHeartbeats 400000 in
theorem signed_lim {w : World} {sv : Value} {xs : List Nat} {k : Nat} (s : Bool) (h : Lim w sv xs) (t : Trim xs) (hk : xs.length ≤ k) :
    Calls Try.prog 83 #[.bool s, sv] w fun e w' => ∃ v, e = .returned v ∧ Whl w' v (zof s (val xs)) k ∧ Below w.heap.size w w' := by
  obtain ⟨p, c, rfl, hx, hcn, hc, ha⟩ := lim_parts h
  have HW := hid (Whl.of (s := s) h t hk)
  clear h t ha hx hk
  generalize hn : xs.length = n at *
  cases s <;>
  ( go_enter Try.func83, Try.ntmps83
    go_wp2_with fail
    refine bodyPost_ret (res_one rfl rfl (Box.new _ _ _ _ _)) rfl ?_
    exact ⟨_, rfl, HW.out.below ((Below.refl _ _).alloc (Nat.le_refl _) _) (Nat.le_refl _), (Below.refl _ _).alloc (Nat.le_refl _) _⟩ )

theorem zof_not (s : Bool) (n : Nat) : zof (!s) n = -zof s n := by cases s <;> simp [zof]

set_option maxHeartbeats 400000 in
theorem neg_whl {w : World} {v : Value} {z : Int} {k : Nat} (h : Whl w v z k) :
    Calls Try.prog 82 #[v] w fun e w' => ∃ v, e = .returned v ∧ Whl w' v (-z) k ∧ Below w.heap.size w w' := by
  obtain ⟨s, sv, xs, rfl, hl, ht, hk, hs, rfl⟩ := h
  obtain ⟨x0, x1, bw, sz⟩ := boxes2 w s false sv (.slice none 0 0) hl.slice ⟨_, _, _, rfl⟩
  have HS := hid (signed_lim (!s) (hl.below bw (Nat.le_refl _)) ht hk)
  rw [zof_not] at HS
  have X1 := hid x1
  have BW := hid bw
  have SZ := hid sz
  clear hl ht hs hk x0 x1 bw sz
  go_enter Try.func82, Try.ntmps82
  go_wp2_with fail
  refine HS.out.mono ?_
  rintro e w1 ⟨v, rfl, hv, hb⟩
  obtain ⟨s1, sv1, xs1, rfl, hl1, hv2⟩ := id hv
  have hst := hl1.store
  have y1 := X1.out.below hb (by rw [SZ.out]; omega)
  obtain ⟨c0, f0, c1, f1⟩ := y1.stores
  have Y1 := hid y1
  have HV := hid hv
  have HB := hid (BW.out.trans (hb.mono (by rw [SZ.out]; omega)))
  have HL := hid hl1.slice
  clear hv hv2 hb y1 hl1
  go_wp2_with fail
  refine bodyPost_ret (res_one rfl rfl ((Y1.out.set0 _).set1 HL.out)) rfl ?_
  exact ⟨_, rfl, (HV.out.box Y1.out _ _).box (Y1.out.set0 _) _ _, (HB.out.setCell (p := ⟨w.heap.size + 1, 0, none⟩) (Nat.le_succ _) _).setCell (p := ⟨w.heap.size + 1, 1, none⟩) (Nat.le_succ _) _⟩

/-- The text of an integer. -/
def ztxt (z : Int) : ByteArray := if z < 0 then ⟨#[45]⟩ ++ txt z.natAbs else txt z.natAbs

set_option maxHeartbeats 400000 in
theorem string_whl {w : World} {v : Value} {z : Int} {k : Nat} (h : Whl w v z k) (hk : k ≤ 68719476736) :
    Calls Try.prog 38 #[v] w fun e w' => e = .returned (.string (ztxt z)) ∧ Below w.heap.size w w' := by
  obtain ⟨s, sv, xs, rfl, hl, ht, hkk, hs, hz⟩ := h.neg
  obtain ⟨x0, bw, sz⟩ := boxes1 w s sv hl.slice
  have HS := hid (string_lim (hl.below bw (Nat.le_refl _)) (by omega))
  rw [hz] at HS
  have BW := hid bw
  have SZ := hid sz
  have HZ := hid hs
  have hsz : (txt z.natAbs).size ≤ 687194767370 := by
    have h1 := val_lt hl.1
    rw [hz] at h1
    have h2 : z.natAbs < 10 ^ (10 * xs.length + 1) := by
      refine Nat.lt_of_lt_of_le h1 (Nat.le_trans (Nat.pow_le_pow_left (show B ≤ 10 ^ 10 by decide) _) ?_)
      rw [← Nat.pow_mul]
      exact Nat.pow_le_pow_right (by omega) (by omega)
    have h3 := size_txt_le h2 (by omega)
    omega
  clear hl ht hs hkk x0 bw sz h
  cases s <;>
  ( go_enter Try.func38, Try.ntmps38
    go_wp2_with fail
    refine HS.out.mono ?_
    rintro e w1 ⟨rfl, hb⟩
    have HB := hid (BW.out.trans (hb.mono (by rw [SZ.out]; omega)))
    clear hb
    go_wp2_with fail
    go_ret
    refine ⟨?_, HB.out⟩
    have hz := HZ.out.symm
    first
    | (rw [ztxt, if_pos (by simpa using hz)]; rfl)
    | (rw [ztxt, if_neg (by simpa using hz)]; rfl) )

theorem zof_add (s : Bool) (a b : Nat) : zof s (a + b) = zof s a + zof s b := by cases s <;> simp [zof] <;> omega
theorem zof_sub (s : Bool) (a b : Nat) (h : b ≤ a) : zof s (a - b) = zof s a + zof (!s) b := by cases s <;> simp [zof] <;> omega
theorem zof_mul (s t : Bool) (a b : Nat) : zof (s != t) (a * b) = zof s a * zof t b := by cases s <;> cases t <;> simp [zof, Int.mul_neg, Int.neg_mul]

set_option maxHeartbeats 1000000 in
theorem add_same {w : World} {s : Bool} {sv sv' : Value} {xs xs' : List Nat} {k l : Nat} (hl : Lim w sv xs) (hk : xs.length ≤ k) (hl' : Lim w sv' xs') (hk' : xs'.length ≤ l) (hs : s = true → val xs ≠ 0) (hkb : k ≤ 549755813888) (hlb : l ≤ 549755813888) :
    Calls Try.prog 63 #[.agg #[.bool s, sv], .agg #[.bool s, sv']] w fun e w' => ∃ v, e = .returned v ∧ Whl w' v (zof s (val xs) + zof s (val xs')) (max k l + 1) ∧ Below w.heap.size w w' := by
  obtain ⟨x0, x1, x2, bw, sz⟩ := boxes3 w s s false sv sv' (.slice none 0 0) hl.slice hl'.slice ⟨_, _, _, rfl⟩
  have HS := add_lim ((hl.below bw (Nat.le_refl _)).below (Below.drew (Below.refl _ _)) (Nat.le_refl _)) ((hl'.below bw (Nat.le_refl _)).below (Below.drew (Below.refl _ _)) (Nat.le_refl _)) (by omega) (by omega)
  have hres : ∀ (w5 : World) (v5 : Value) (zs : List Nat), Lim w5 v5 zs → Trim zs → val zs = val xs + val xs' → Whl w5 (.agg #[.bool s, v5]) (zof s (val xs) + zof s (val xs')) (max k l + 1) := by
    intro w5 v5 zs h1 h2 h3
    refine ⟨s, v5, zs, rfl, h1, h2, ?_, fun e => by have := hs e; omega, by rw [h3, zof_add]⟩
    refine length_le_of_val h2 _ ?_
    rw [h3]
    have b1 := few_limbs hl.1 (Nat.le_trans hk (Nat.le_max_left k l))
    have b2 := few_limbs hl'.1 (Nat.le_trans hk' (Nat.le_max_right k l))
    rw [Nat.pow_succ, B_eq] at *
    omega
  have HR := hid hres
  have X0 := hid x0
  have X1 := hid x1
  have X2 := hid x2
  have BW := hid bw
  have SZ := hid sz
  have HC := hid HS
  clear hl hk hl' hk' x0 x1 x2 bw sz hs hres HS
  go_enter Try.func63, Try.ntmps63
  have hss : (s == s) = true := by simp
  go_wp2_with fail
  go_region_held3 (fun w' => w'.cell? ⟨w.heap.size, 0, none⟩ = some (.bool s) ∧ w'.cell? ⟨w.heap.size, 1, none⟩ = some sv ∧ w'.cell? ⟨w.heap.size + 1, 1, none⟩ = some sv') (go_keep) (first
      | (go_at_call 85; refine HC.out.mono ?_; rintro e w4 ⟨v, zs, rfl, hv, tv, vv, hb⟩; obtain ⟨p, n, c, rfl⟩ := hv.slice; have hb' := below_undrew' hb; have x0' := X0.out.below hb' X0.out.lt; have c00 := x0'.cell0; have c01 := x0'.cell1; have z00 := fun a b => ((x0'.other (g2 := w.heap.size + 1 + 1) (by omega) 0 a).other (g2 := w.heap.size + 1 + 1) (by omega) 1 b).cell0; have z01 := fun a b => ((x0'.other (g2 := w.heap.size + 1 + 1) (by omega) 0 a).other (g2 := w.heap.size + 1 + 1) (by omega) 1 b).cell1; have c11 := (X1.out.below hb' X1.out.lt).cell1; have x2' := X2.out.below hb' X2.out.lt; obtain ⟨d0, g0, d1, g1⟩ := x2'.stores; have X2' := hid x2'; have HV := hid hv; have TV := hid tv; have VV := hid vv; have HB := hid hb'; clear hb; clear hb'; clear vv; clear tv; clear hv; clear x2'; clear x0'))
  go_wp2_with fail
  refine bodyPost_ret (res_one rfl rfl ((X2'.out.set0 _).set1 HV.out.slice)) rfl ?_
  exact ⟨_, rfl, ((HR.out _ _ _ HV.out TV.out VV.out).box X2'.out _ _).box (X2'.out.set0 _) _ _, ((BW.out.trans (HB.out.mono (by rw [SZ.out]; omega))).setCell (p := ⟨w.heap.size + 1 + 1, 0, none⟩) (show w.heap.size ≤ w.heap.size + 1 + 1 by omega) _).setCell (p := ⟨w.heap.size + 1 + 1, 1, none⟩) (show w.heap.size ≤ w.heap.size + 1 + 1 by omega) _⟩

theorem sub_bits {xs xs' : List Nat} {k l : Nat} (hf : Fits xs) (hk : xs.length ≤ k) (h : val xs' ≤ val xs) : val xs - val xs' < B ^ (max k l) := by
  have b1 := few_limbs hf (Nat.le_trans hk (Nat.le_max_left k l))
  omega

set_option maxHeartbeats 1000000 in
/-- Unlike signs, the first size is not the smaller one. -/
theorem add_ge {w : World} {s : Bool} {sv sv' : Value} {xs xs' : List Nat} {k l : Nat} (hl : Lim w sv xs) (hk : xs.length ≤ k) (hl' : Lim w sv' xs') (hk' : xs'.length ≤ l) (hge : val xs' ≤ val xs) (hkb : k ≤ 549755813888) (hlb : l ≤ 549755813888) :
    Calls Try.prog 63 #[.agg #[.bool s, sv], .agg #[.bool (!s), sv']] w fun e w' => ∃ v, e = .returned v ∧ Whl w' v (zof s (val xs) + zof (!s) (val xs')) (max k l + 1) ∧ Below w.heap.size w w' := by
  obtain ⟨x0, x1, x2, bw, sz⟩ := boxes3 w s (!s) false sv sv' (.slice none 0 0) hl.slice hl'.slice ⟨_, _, _, rfl⟩
  have hL := less_lim (hl.below bw (Nat.le_refl _)) (hl'.below bw (Nat.le_refl _))
  rw [decide_eq_false (by omega)] at hL
  have hS := fun n : Nat => sub_lim ((hl.below bw (Nat.le_refl _)).below (below_drewN (Below.refl _ _) n) (Nat.le_refl _)) ((hl'.below bw (Nat.le_refl _)).below (below_drewN (Below.refl _ _) n) (Nat.le_refl _)) (by omega) hge
  have HL := hid hL
  have HS := hid hS
  have HK := hid (sub_bits (l := l) hl.1 hk hge)
  have X0 := hid x0
  have X2 := hid x2
  have BW := hid bw
  have SZ := hid sz
  have HG := hid (zof_sub s _ _ hge)
  clear hl hk hl' hk' x0 x1 x2 bw sz hge hL hS
  have hss : (s == !s) = false := by cases s <;> rfl
  go_enter Try.func63, Try.ntmps63
  go_wp2_with fail
  refine HL.out.mono ?_
  rintro e w4 ⟨rfl, nd, rfl⟩
  go_wp2_with fail
  refine (HS.out nd).mono ?_
  rintro e w5 ⟨v, zs, rfl, hv, tv, vv, hb⟩
  have hb' : Below _ _ _ := below_undrewN hb
  have c0 := (X0.out.below hb' X0.out.lt).cell0
  have x2' := X2.out.below hb' X2.out.lt
  have X2' := hid x2'
  have hF := signed_lim s hv tv (k := max k l + 1) (length_le_of_val tv _ (by rw [vv]; exact Nat.lt_of_lt_of_le HK.out (Nat.pow_le_pow_right B_pos (Nat.le_succ _))))
  rw [vv, HG.out] at hF
  have HF := hid hF
  have HB := hid hb'
  clear hv tv vv hb hb' x2' hF
  go_wp2_with fail
  refine HF.out.mono ?_
  rintro e w6 ⟨v6, rfl, hv, hb⟩
  obtain ⟨s1, sv1, xs1, rfl, hl1, hv2⟩ := id hv
  obtain ⟨p1, n1, c1, rfl⟩ := hl1.slice
  have x2' := X2'.out.below hb X2'.out.lt
  obtain ⟨d0, g0, d1, g1⟩ := x2'.stores
  have X2'' := hid x2'
  have HV := hid hv
  have HL1 := hid hl1
  have HB2 := hid (HB.out.trans (hb.mono HB.out.size))
  clear hv hv2 hl1 hb x2'
  go_wp2_with fail
  refine bodyPost_ret (res_one rfl rfl ((X2''.out.set0 _).set1 ⟨_, _, _, rfl⟩)) rfl ?_
  exact ⟨_, rfl, (HV.out.box X2''.out _ _).box (X2''.out.set0 _) _ _, ((BW.out.trans (HB2.out.mono (by rw [SZ.out]; omega))).setCell (p := ⟨w.heap.size + 1 + 1, 0, none⟩) (show w.heap.size ≤ w.heap.size + 1 + 1 by omega) _).setCell (p := ⟨w.heap.size + 1 + 1, 1, none⟩) (show w.heap.size ≤ w.heap.size + 1 + 1 by omega) _⟩

theorem less_below {w : World} {v u : Value} {xs ys : List Nat} (h1 : Lim w v xs) (h2 : Lim w u ys) :
    Calls Try.prog 86 #[v, u] w fun e w' => e = .returned (.bool (decide (val xs < val ys))) ∧ Below w.heap.size w w' := by
  refine (less_lim h1 h2).mono ?_
  rintro e w' ⟨rfl, n, rfl⟩
  exact ⟨rfl, below_drewN (Below.refl _ _) n⟩

/-- Two boxes are changed for each other. -/
theorem Box.swap {w : World} {g : Nat} {a c : Bool} {b d : Value} (h0 : Box w g a b) (h1 : Box w (g + 1) c d) :
    Box ((((w.setCell ⟨g, 0, none⟩ (.bool c)).setCell ⟨g, 1, none⟩ d).setCell ⟨g + 1, 0, none⟩ (.bool a)).setCell ⟨g + 1, 1, none⟩ b) g c d ∧
    Box ((((w.setCell ⟨g, 0, none⟩ (.bool c)).setCell ⟨g, 1, none⟩ d).setCell ⟨g + 1, 0, none⟩ (.bool a)).setCell ⟨g + 1, 1, none⟩ b) (g + 1) a b ∧
    Box ((w.setCell ⟨g, 0, none⟩ (.bool c)).setCell ⟨g, 1, none⟩ d) (g + 1) c d ∧
    (∀ {v : Value} {xs : List Nat}, Lim w v xs → Lim ((((w.setCell ⟨g, 0, none⟩ (.bool c)).setCell ⟨g, 1, none⟩ d).setCell ⟨g + 1, 0, none⟩ (.bool a)).setCell ⟨g + 1, 1, none⟩ b) v xs) ∧
    (∀ {K : Nat} {w0 : World}, Below K w0 w → K ≤ g → Below K w0 ((((w.setCell ⟨g, 0, none⟩ (.bool c)).setCell ⟨g, 1, none⟩ d).setCell ⟨g + 1, 0, none⟩ (.bool a)).setCell ⟨g + 1, 1, none⟩ b)) ∧
    (∀ {g2 : Nat} {e : Bool} {f : Value}, Box w g2 e f → g2 ≠ g → g2 ≠ g + 1 → Box ((((w.setCell ⟨g, 0, none⟩ (.bool c)).setCell ⟨g, 1, none⟩ d).setCell ⟨g + 1, 0, none⟩ (.bool a)).setCell ⟨g + 1, 1, none⟩ b) g2 e f) := by
  have k0 := (h0.set0 c).set1 h1.2
  have k1 := (h1.other (g2 := g) (by omega) 0 (.bool c)).other (g2 := g) (by omega) 1 d
  refine ⟨(k0.other (by omega) _ _).other (by omega) _ _, (k1.set0 _).set1 h0.2, k1, fun h => ?_, fun h hK => ?_, fun h n0 n1 => ?_⟩
  · exact (((h.box h0 0 _).box (h0.set0 c) 1 _).box k1 0 _).box (k1.set0 _) 1 _
  · exact (((h.setCell (p := ⟨g, 0, none⟩) hK _).setCell (p := ⟨g, 1, none⟩) hK _).setCell (p := ⟨g + 1, 0, none⟩) (Nat.le_succ_of_le hK) _).setCell (p := ⟨g + 1, 1, none⟩) (Nat.le_succ_of_le hK) _
  · exact (((h.other n0 _ _).other n0 _ _).other n1 _ _).other n1 _ _

set_option maxHeartbeats 2000000 in
/-- Unlike signs, the first size is the smaller one. -/
theorem add_lt {w : World} {s : Bool} {sv sv' : Value} {xs xs' : List Nat} {k l : Nat} (hl : Lim w sv xs) (hk : xs.length ≤ k) (hl' : Lim w sv' xs') (hk' : xs'.length ≤ l) (hlt : val xs < val xs') (hkb : k ≤ 549755813888) (hlb : l ≤ 549755813888) :
    Calls Try.prog 63 #[.agg #[.bool s, sv], .agg #[.bool (!s), sv']] w fun e w' => ∃ v, e = .returned v ∧ Whl w' v (zof s (val xs) + zof (!s) (val xs')) (max k l + 1) ∧ Below w.heap.size w w' := by
  obtain ⟨x0, x1, x2, bw, sz⟩ := boxes3 w s (!s) false sv sv' (.slice none 0 0) hl.slice hl'.slice ⟨_, _, _, rfl⟩
  have hL := less_below (hl.below bw (Nat.le_refl _)) (hl'.below bw (Nat.le_refl _))
  rw [decide_eq_true hlt] at hL
  have hst := hl.store
  have hst' := hl'.store
  have L1 := hid (hl.below bw (Nat.le_refl _))
  have L2 := hid (hl'.below bw (Nat.le_refl _))
  have HL := hid hL
  have HK := hid (sub_bits (l := k) hl'.1 hk' (Nat.le_of_lt hlt))
  have X0 := hid x0
  have X1 := hid x1
  have X2 := hid x2
  have BW := hid bw
  have SZ := hid sz
  have HG := hid (show zof (!s) (val xs' - val xs) = zof s (val xs) + zof (!s) (val xs') by rw [zof_sub (!s) _ _ (Nat.le_of_lt hlt), Bool.not_not, Int.add_comm])
  have LK := hid (show xs.length ≤ 1099511627776 by omega)
  have LK' := hid (show xs'.length ≤ 1099511627776 by omega)
  have HLT := hid hlt
  clear hl hk hl' hk' x0 x1 x2 bw sz hlt hL
  have hss : (s == !s) = false := by cases s <;> rfl
  go_enter Try.func63, Try.ntmps63
  go_wp2_with fail
  refine HL.out.mono ?_
  rintro e w4 ⟨rfl, hb4⟩
  have x0' := X0.out.below hb4 X0.out.lt
  have x1' := X1.out.below hb4 X1.out.lt
  have x2' := X2.out.below hb4 X2.out.lt
  have l1 := L1.out.below hb4 (Nat.le_refl _)
  have l2 := L2.out.below hb4 (Nat.le_refl _)
  obtain ⟨b0, b1, b10, bl, bb, bo⟩ := x0'.swap x1'
  have b2 := bo x2' (by omega) (by omega)
  obtain ⟨c0, f0, c1, f1⟩ := x0'.stores
  obtain ⟨e0, h0, e1, h1⟩ := b10.stores
  have c00 := b0.cell0
  have c01 := b0.cell1
  have c11 := b1.cell1
  have q0 := x0'.cell1
  have q1 := x1'.cell0
  have q2 := x1'.cell1
  have hS := sub_lim (bl l2) (bl l1) LK'.out (Nat.le_of_lt HLT.out)
  have HS := hid hS
  have B0 := hid b0
  have B2 := hid b2
  have BA := hid (bb (BW.out.trans (hb4.mono (by rw [SZ.out]; omega))) (Nat.le_refl _))
  clear x0' x1' x2' l1 l2 b0 b1 b10 bl bb bo b2 hb4 hS HL
  go_wp2_with fail
  refine HS.out.mono ?_
  rintro e w5 ⟨v, zs, rfl, hv, tv, vv, hb⟩
  have d00 := (B0.out.below hb B0.out.lt).cell0
  have x2' := B2.out.below hb B2.out.lt
  have X2' := hid x2'
  have hF := signed_lim (!s) hv tv (k := max k l + 1) (length_le_of_val tv _ (by rw [vv, Nat.max_comm]; exact Nat.lt_of_lt_of_le HK.out (Nat.pow_le_pow_right B_pos (Nat.le_succ _))))
  rw [vv, HG.out] at hF
  have HF := hid hF
  have HB := hid (BA.out.trans (hb.mono BA.out.size))
  clear hv tv vv hb x2' hF HS
  go_wp2_with fail
  refine HF.out.mono ?_
  rintro e w6 ⟨v6, rfl, hv, hb⟩
  obtain ⟨s1, sv1, xs1, rfl, hl1, hv2⟩ := id hv
  obtain ⟨p1, n1, c1, rfl⟩ := hl1.slice
  have x2' := X2'.out.below hb X2'.out.lt
  obtain ⟨d0, g0, d1, g1⟩ := x2'.stores
  have X2'' := hid x2'
  have HV := hid hv
  have HB2 := hid (HB.out.trans (hb.mono HB.out.size))
  clear hv hv2 hl1 hb x2'
  go_wp2_with fail
  refine bodyPost_ret (res_one rfl rfl ((X2''.out.set0 _).set1 ⟨_, _, _, rfl⟩)) rfl ?_
  exact ⟨_, rfl, (HV.out.box X2''.out _ _).box (X2''.out.set0 _) _ _, ((HB2.out).setCell (p := ⟨w.heap.size + 1 + 1, 0, none⟩) (show w.heap.size ≤ w.heap.size + 1 + 1 by omega) _).setCell (p := ⟨w.heap.size + 1 + 1, 1, none⟩) (show w.heap.size ≤ w.heap.size + 1 + 1 by omega) _⟩

theorem add_whl {w : World} {v u : Value} {z y : Int} {k l : Nat} (h : Whl w v z k) (h' : Whl w u y l) (hk : k ≤ 549755813888) (hl : l ≤ 549755813888) :
    Calls Try.prog 63 #[v, u] w fun e w' => ∃ v, e = .returned v ∧ Whl w' v (z + y) (max k l + 1) ∧ Below w.heap.size w w' := by
  obtain ⟨s, sv, xs, rfl, hl1, ht, hk1, hs, rfl⟩ := h
  obtain ⟨s', sv', xs', rfl, hl1', ht', hk1', hs', rfl⟩ := h'
  by_cases e : s = s'
  · subst e
    exact add_same hl1 hk1 hl1' hk1' hs hk hl
  · have e' : s' = !s := by cases s <;> cases s' <;> simp at e ⊢
    subst e'
    by_cases hge : val xs' ≤ val xs
    · exact add_ge hl1 hk1 hl1' hk1' hge hk hl
    · exact add_lt hl1 hk1 hl1' hk1' (by omega) hk hl

end Go.Proofs.Ytjeeepcnaaadmaa

