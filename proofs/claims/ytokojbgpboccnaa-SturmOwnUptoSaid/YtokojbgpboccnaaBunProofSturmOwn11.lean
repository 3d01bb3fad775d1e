import Derived.Test.YtokojbgpboccnaaBunProofSturmOwn5
import Derived.Test.YtokojbgpboccnaaBunProofSturmOwn8
import Derived.Deep.RegionWith
import Derived.Deep.RegionHeld3
import Derived.IntWalk
import Derived.Test.YtokojbgpboccnaaBunProofSturmOwn4
/-
  PACKAGE whole: AN Integer IN MEMORY, ITS METHODS.
-/
namespace Go.Proofs.Ytokojbgpboccnaa
open Go.RowKit
open Num
set_option linter.unusedVariables false
set_option maxRecDepth 100000
set_option linter.unusedSimpArgs false

/-- A sign and a size. -/
def zof (s : Bool) (n : Nat) : Int := if s then -(n : Int) else n
theorem natAbs_zof (s : Bool) (n : Nat) : (zof s n).natAbs = n := by cases s <;> simp [zof]

/-- A value reads as an integer of k limbs or fewer. -/
def Whl (w : World) (v : Value) (z : Int) (k : Nat) : Prop := ∃ s sv xs, v = .agg #[.bool s, sv] ∧ Lim w sv xs ∧ Trim xs ∧ xs.length ≤ k ∧ (s = true → val xs ≠ 0) ∧ zof s (val xs) = z
theorem Whl.below {w w' : World} {v : Value} {z : Int} {k K : Nat} (h : Whl w v z k) (hb : Below K w w') (hK : w.heap.size ≤ K) : Whl w' v z k := by
  obtain ⟨s, sv, xs, h1, h2, h3⟩ := h
  exact ⟨s, sv, xs, h1, h2.below hb hK, h3⟩
theorem Whl.on {w w' : World} {v : Value} {z : Int} {k : Nat} (h : Whl w v z k) (hb : Below w.heap.size w w') : Whl w' v z k := h.below hb (Nat.le_refl _)
theorem Whl.mono {w : World} {v : Value} {z : Int} {k m : Nat} (h : Whl w v z k) (hk : k ≤ m) : Whl w v z m := by
  obtain ⟨s, sv, xs, h1, h2, h3, h4, h5⟩ := h
  exact ⟨s, sv, xs, h1, h2, h3, by omega, h5⟩
theorem Whl.fit {w : World} {v : Value} {z : Int} {k : Nat} (m : Nat) (h : Whl w v z k) (hm : z.natAbs < B ^ m) : Whl w v z m := by
  obtain ⟨s, sv, xs, h1, h2, h3, h4, h5, h6⟩ := h
  exact ⟨s, sv, xs, h1, h2, h3, length_le_of_val h3 m (by rw [← h6, natAbs_zof] at hm; exact hm), h5, h6⟩
theorem Whl.drewN {w : World} {v : Value} {z : Int} {k : Nat} (h : Whl w v z k) (n : Nat) : Whl (w.drewN n) v z k := h.on (below_drewN (Below.refl _ _) n)

/-- A block of two cells: an Integer's. -/
def Box (w : World) (g : Nat) (s : Bool) (sv : Value) : Prop := w.heap[g]? = some (.cells #[.bool s, sv] 47 (0, 0)) ∧ ∃ p n c, sv = .slice p n c
theorem Box.lt {w : World} {g : Nat} {s : Bool} {sv : Value} (h : Box w g s sv) : g < w.heap.size := lt_of_block h.1
theorem Box.cell0 {w : World} {g : Nat} {s : Bool} {sv : Value} (h : Box w g s sv) : w.cell? ⟨g, 0, none⟩ = some (.bool s) := by
  simp [World.cell?, h.1]
theorem Box.cell1 {w : World} {g : Nat} {s : Bool} {sv : Value} (h : Box w g s sv) : w.cell? ⟨g, 1, none⟩ = some sv := by
  simp [World.cell?, h.1]
theorem Box.free {w : World} {g : Nat} {s : Bool} {sv : Value} (h : Box w g s sv) (i : Nat) : w.frozen? ⟨g, i, none⟩ = false := by
  simp [World.frozen?, h.1]
theorem Box.below {w w' : World} {g K : Nat} {s : Bool} {sv : Value} (h : Box w g s sv) (hb : Below K w w') (hK : g < K) : Box w' g s sv := ⟨(hb.block g hK).trans h.1, h.2⟩
theorem Box.new (w : World) (s : Bool) (p : Option Addr) (n c : Nat) : Box (w.alloc (.cells #[.bool s, .slice p n c] 47)) w.heap.size s (.slice p n c) := by
  refine ⟨?_, p, n, c, rfl⟩
  show (w.heap.push _)[w.heap.size]? = _
  simp
theorem Box.made (w : World) (s : Bool) (p : Option Addr) (n c : Nat) : Below w.heap.size w (w.alloc (.cells #[.bool s, .slice p n c] 47)) ∧ Box (w.alloc (.cells #[.bool s, .slice p n c] 47)) w.heap.size s (.slice p n c) ∧ (w.alloc (.cells #[.bool s, .slice p n c] 47)).heap.size = w.heap.size + 1 := ⟨(Below.refl _ _).alloc (Nat.le_refl _) _, Box.new w s p n c, by simp⟩
theorem Box.kept {w w' : World} {g : Nat} {s : Bool} {sv : Value} (h : Box w g s sv) (e : w'.heap[g]? = w.heap[g]?) : Box w' g s sv := ⟨e.trans h.1, h.2⟩
theorem Box.set0 {w : World} {g : Nat} {s : Bool} {sv : Value} (h : Box w g s sv) (s' : Bool) : Box (w.setCell ⟨g, 0, none⟩ (.bool s')) g s' sv := by
  refine ⟨?_, h.2⟩
  show (w.setCell ⟨g, 0, none⟩ (.bool s')).heap[g]? = _
  simp only [World.setCell, Array.getElem?_modify, h.1]
  simp
theorem Box.set1 {w : World} {g : Nat} {s : Bool} {sv sv' : Value} (h : Box w g s sv) (h' : ∃ p n c, sv' = .slice p n c) : Box (w.setCell ⟨g, 1, none⟩ sv') g s sv' := by
  refine ⟨?_, h'⟩
  show (w.setCell ⟨g, 1, none⟩ sv').heap[g]? = _
  simp only [World.setCell, Array.getElem?_modify, h.1]
  simp
theorem Box.other {w : World} {g g2 : Nat} {s : Bool} {sv : Value} (h : Box w g s sv) (hne : g ≠ g2) (i : Nat) (v : Value) : Box (w.setCell ⟨g2, i, none⟩ v) g s sv := by
  refine ⟨?_, h.2⟩
  rw [Below.heap_setCell _ _ _ _ (by exact hne)]; exact h.1
theorem Box.stores {w : World} {g : Nat} {s : Bool} {sv : Value} (h : Box w g s sv) : w.cell? ⟨g, 0, none⟩ = some (.bool s) ∧ w.frozen? ⟨g, 0, none⟩ = false ∧ (∀ x, (w.setCell ⟨g, 0, none⟩ (.bool x)).cell? ⟨g, 1, none⟩ = some sv) ∧ (∀ x, (w.setCell ⟨g, 0, none⟩ (.bool x)).frozen? ⟨g, 1, none⟩ = false) :=
  ⟨h.cell0, h.free 0, fun x => (h.set0 x).cell1, fun x => (h.set0 x).free 1⟩
/-- A store into a box changes no number in memory. -/
theorem Lim.box {w : World} {v : Value} {xs : List Nat} {g : Nat} {s : Bool} {sv : Value} (h : Lim w v xs) (hx : Box w g s sv) (i : Nat) (u : Value) : Lim (w.setCell ⟨g, i, none⟩ u) v xs := by
  obtain ⟨h1, p, c, h2, h3, h4, h5⟩ := h
  refine ⟨h1, p, c, h2, h3, h4, ?_⟩
  rcases h5 with h5 | ⟨b, off, h6, h7, h8⟩
  · exact .inl h5
  · refine .inr ⟨b, off, h6, by simpa [World.setCell] using h7, fun i hi => ?_⟩
    have h9 := h8 i hi
    by_cases hb : b = g
    · subst hb
      obtain ⟨hx1, p', n', c', hx2⟩ := hx
      subst hx2
      simp only [World.cell?, hx1] at h9
      have hh : ∀ k : Nat, (#[Value.bool s, Value.slice p' n' c'] : Array Value)[k]? ≠ some (.int .u32 (dg xs i)) := by
        intro k
        rcases k with _ | _ | k <;> simp
      exact absurd h9 (hh _)
    · rw [← h9]
      exact World.cell?_of_block (Below.heap_setCell _ _ _ _ (by exact hb))
theorem Whl.box {w : World} {v : Value} {z : Int} {k g : Nat} {s : Bool} {sv : Value} (h : Whl w v z k) (hx : Box w g s sv) (i : Nat) (u : Value) : Whl (w.setCell ⟨g, i, none⟩ u) v z k := by
  obtain ⟨s', sv', xs, h1, h2, h3⟩ := h
  exact ⟨s', sv', xs, h1, h2.box hx i u, h3⟩
theorem Lim.slice {w : World} {v : Value} {xs : List Nat} (h : Lim w v xs) : ∃ p n c, v = .slice p n c := by
  obtain ⟨p, c, h2, _⟩ := lim_parts h
  exact ⟨p, _, c, h2⟩

theorem zof_if (s : Bool) (n : Nat) : zof (s && decide (0 < n)) n = zof s n := by
  cases s
  · rfl
  · by_cases h : 0 < n
    · simp [zof, h]
    · have : n = 0 := by omega
      subst this
      simp [zof]
theorem Whl.of {w : World} {s : Bool} {sv : Value} {xs : List Nat} {k : Nat} (h1 : Lim w sv xs) (h2 : Trim xs) (hk : xs.length ≤ k) : Whl w (.agg #[.bool (s && decide (0 < xs.length)), sv]) (zof s (val xs)) k := by
  refine ⟨_, sv, xs, rfl, h1, h2, hk, ?_, ?_⟩
  · intro hs h0
    have := h2.zero_iff.1 h0
    simp [this] at hs
  · have : decide (0 < xs.length) = decide (0 < val xs) := by
      have := h2.zero_iff
      apply decide_eq_decide.2
      constructor
      · intro h
        have : val xs ≠ 0 := fun e => by simp [h2.zero_iff.1 e] at h
        omega
      · intro h
        cases xs with
        | nil => simp [val] at h
        | cons => simp
    rw [this, zof_if]
theorem Whl.neg {w : World} {v : Value} {z : Int} {k : Nat} (h : Whl w v z k) : ∃ s sv xs, v = .agg #[.bool s, sv] ∧ Lim w sv xs ∧ Trim xs ∧ xs.length ≤ k ∧ s = decide (z < 0) ∧ val xs = z.natAbs := by
  obtain ⟨s, sv, xs, h1, h2, h3, h4, h5, h6⟩ := h
  refine ⟨s, sv, xs, h1, h2, h3, h4, ?_, by rw [← h6, natAbs_zof]⟩
  rw [← h6]
  cases s
  · simp [zof]
  · have := h5 rfl
    simp only [zof, if_true]
    exact (decide_eq_true (by omega)).symm

/-- Boxes made at the head of a method. -/
theorem boxes1 (w : World) (a : Bool) (b : Value) (hb : ∃ p n c, b = .slice p n c) : Box (w.alloc (.cells #[.bool a, b] 47)) w.heap.size a b ∧ Below w.heap.size w (w.alloc (.cells #[.bool a, b] 47)) ∧ (w.alloc (.cells #[.bool a, b] 47)).heap.size = w.heap.size + 1 := by
  obtain ⟨p, n, c, rfl⟩ := hb
  exact ⟨Box.new _ _ _ _ _, (Below.refl _ _).alloc (Nat.le_refl _) _, by simp⟩
theorem boxes2 (w : World) (a c : Bool) (b d : Value) (hb : ∃ p n c, b = .slice p n c) (hd : ∃ p n c, d = .slice p n c) : Box ((w.alloc (.cells #[.bool a, b] 47)).alloc (.cells #[.bool c, d] 47)) w.heap.size a b ∧ Box ((w.alloc (.cells #[.bool a, b] 47)).alloc (.cells #[.bool c, d] 47)) (w.heap.size + 1) c d ∧ Below w.heap.size w ((w.alloc (.cells #[.bool a, b] 47)).alloc (.cells #[.bool c, d] 47)) ∧ ((w.alloc (.cells #[.bool a, b] 47)).alloc (.cells #[.bool c, d] 47)).heap.size = w.heap.size + 1 + 1 := by
  obtain ⟨h1, h2, h3⟩ := boxes1 w a b hb
  obtain ⟨k1, k2, k3⟩ := boxes1 (w.alloc (.cells #[.bool a, b] 47)) c d hd
  rw [h3] at k1 k2 k3
  exact ⟨h1.below k2 (by omega), k1, h2.trans (k2.mono (by omega)), k3⟩
theorem boxes3 (w : World) (a c e : Bool) (b d f : Value) (hb : ∃ p n c, b = .slice p n c) (hd : ∃ p n c, d = .slice p n c) (hf : ∃ p n c, f = .slice p n c) : Box (((w.alloc (.cells #[.bool a, b] 47)).alloc (.cells #[.bool c, d] 47)).alloc (.cells #[.bool e, f] 47)) w.heap.size a b ∧ Box (((w.alloc (.cells #[.bool a, b] 47)).alloc (.cells #[.bool c, d] 47)).alloc (.cells #[.bool e, f] 47)) (w.heap.size + 1) c d ∧ Box (((w.alloc (.cells #[.bool a, b] 47)).alloc (.cells #[.bool c, d] 47)).alloc (.cells #[.bool e, f] 47)) (w.heap.size + 1 + 1) e f ∧ Below w.heap.size w (((w.alloc (.cells #[.bool a, b] 47)).alloc (.cells #[.bool c, d] 47)).alloc (.cells #[.bool e, f] 47)) ∧ (((w.alloc (.cells #[.bool a, b] 47)).alloc (.cells #[.bool c, d] 47)).alloc (.cells #[.bool e, f] 47)).heap.size = w.heap.size + 1 + 1 + 1 := by
  obtain ⟨h1, h2, h3, h4⟩ := boxes2 w a c b d hb hd
  obtain ⟨k1, k2, k3⟩ := boxes1 ((w.alloc (.cells #[.bool a, b] 47)).alloc (.cells #[.bool c, d] 47)) e f hf
  rw [h4] at k1 k2 k3
  exact ⟨h1.below k2 (by omega), h2.below k2 (by omega), k1, h3.trans (k2.mono (by omega)), k3⟩

theorem Lim.store {w : World} {v : Value} {xs : List Nat} (h : Lim w v xs) (a : Addr) (m : Mode) (w' : World) : (Go.store a v m).run Try.prog w' = stored Try.prog w' a v m := by
  obtain ⟨p, c, rfl, h⟩ := lim_parts h
  exact run_store Try.prog w' a _ m rfl

theorem below_undrewN {w w' : World} {n : Nat} (h : Below (w.drewN n).heap.size (w.drewN n) w') : Below w.heap.size w w' := (below_drewN (Below.refl _ _) n).trans h
theorem below_undrew' {w w' : World} (h : Below w.drew.heap.size w.drew w') : Below w.heap.size w w' := ⟨h.os, h.tape, h.output, h.size, h.block⟩

theorem at_addr {tmps : Array Value} {t : Tmp} {a : Addr} {P : Program} {w : World} (ht : tmps.getD t undef = .pointer (some a)) : (asAddr (tmps.getD t undef)).run P w = .ok a w := by
  rw [ht]; rfl
theorem load_whl {w : World} {g : Nat} {s : Bool} {sv : Value} (h2 : Box w g s sv) : (loadVar 47 ⟨g, 0, none⟩).run Try.prog w = .ok (.agg #[.bool s, sv]) w := by
  simp [go_sem, h2.cell0, h2.cell1]
theorem res_one {fn : Func} {t : Tmp} {tmps : Array Value} {w : World} {g : Nat} {s : Bool} {sv : Value} (hf : fn.results = #[.cell t 47]) (ht : tmps.getD t undef = .pointer (some ⟨g, 0, none⟩)) (h2 : Box w g s sv) :
    (results fn tmps).run Try.prog w = .ok (.agg #[.bool s, sv]) w := by
  have h1 := at_addr (P := Try.prog) (w := w) ht
  have h3 := load_whl h2
  simp only [Array.getD_eq_getD_getElem?] at h1
  simp [results, hf, Sem.run_bind, h1, h3]

set_option maxHeartbeats 400000 in
theorem signed_lim {w : World} {sv : Value} {xs : List Nat} {k : Nat} (s : Bool) (h : Lim w sv xs) (t : Trim xs) (hk : xs.length ≤ k) :
    Calls Try.prog 57 #[.bool s, sv] w fun e w' => ∃ v, e = .returned v ∧ Whl w' v (zof s (val xs)) k ∧ Below w.heap.size w w' := by
  obtain ⟨p, c, rfl, hx, hcn, hc, ha⟩ := lim_parts h
  have HW := hid (Whl.of (s := s) h t hk)
  clear h t ha hx hk
  generalize hn : xs.length = n at *
  cases s <;>
  ( go_enter Try.func57, Try.ntmps57
    go_wp2_with fail
    refine bodyPost_ret (res_one rfl rfl (Box.new _ _ _ _ _)) rfl ?_
    exact ⟨_, rfl, HW.out.below ((Below.refl _ _).alloc (Nat.le_refl _) _) (Nat.le_refl _), (Below.refl _ _).alloc (Nat.le_refl _) _⟩ )

theorem zof_not (s : Bool) (n : Nat) : zof (!s) n = -zof s n := by cases s <;> simp [zof]

set_option maxHeartbeats 400000 in
theorem neg_whl {w : World} {v : Value} {z : Int} {k : Nat} (h : Whl w v z k) :
    Calls Try.prog 55 #[v] w fun e w' => ∃ v, e = .returned v ∧ Whl w' v (-z) k ∧ Below w.heap.size w w' := by
  obtain ⟨s, sv, xs, rfl, hl, ht, hk, hs, rfl⟩ := h
  obtain ⟨x0, x1, bw, sz⟩ := boxes2 w s false sv (.slice none 0 0) hl.slice ⟨_, _, _, rfl⟩
  have HS := hid (signed_lim (!s) (hl.below bw (Nat.le_refl _)) ht hk)
  rw [zof_not] at HS
  have X1 := hid x1
  have BW := hid bw
  have SZ := hid sz
  clear hl ht hs hk x0 x1 bw sz
  go_enter Try.func55, Try.ntmps55
  go_wp2_with fail
  refine HS.out.mono ?_
  rintro e w1 ⟨v, rfl, hv, hb⟩
  obtain ⟨s1, sv1, xs1, rfl, hl1, hv2⟩ := id hv
  have hst := hl1.store
  have y1 := X1.out.below hb (by rw [SZ.out]; omega)
  obtain ⟨c0, f0, c1, f1⟩ := y1.stores
  have Y1 := hid y1
  have HV := hid hv
  have HB := hid (BW.out.trans (hb.mono (by rw [SZ.out]; omega)))
  have HL := hid hl1.slice
  clear hv hv2 hb y1 hl1
  go_wp2_with fail
  refine bodyPost_ret (res_one rfl rfl ((Y1.out.set0 _).set1 HL.out)) rfl ?_
  exact ⟨_, rfl, (HV.out.box Y1.out _ _).box (Y1.out.set0 _) _ _, (HB.out.setCell (p := ⟨w.heap.size + 1, 0, none⟩) (Nat.le_succ _) _).setCell (p := ⟨w.heap.size + 1, 1, none⟩) (Nat.le_succ _) _⟩

/-- The text of an integer. -/
def ztxt (z : Int) : ByteArray := if z < 0 then ⟨#[45]⟩ ++ txt z.natAbs else txt z.natAbs

set_option maxHeartbeats 400000 in
theorem string_whl {w : World} {v : Value} {z : Int} {k : Nat} (h : Whl w v z k) (hk : k ≤ 68719476736) :
    Calls Try.prog 31 #[v] w fun e w' => e = .returned (.string (ztxt z)) ∧ Below w.heap.size w w' := by
  obtain ⟨s, sv, xs, rfl, hl, ht, hkk, hs, hz⟩ := h.neg
  obtain ⟨x0, bw, sz⟩ := boxes1 w s sv hl.slice
  have HS := hid (string_lim (hl.below bw (Nat.le_refl _)) (by omega))
  rw [hz] at HS
  have BW := hid bw
  have SZ := hid sz
  have HZ := hid hs
  have hsz : (txt z.natAbs).size ≤ 687194767370 := by
    have h1 := val_lt hl.1
    rw [hz] at h1
    have h2 : z.natAbs < 10 ^ (10 * xs.length + 1) := by
      refine Nat.lt_of_lt_of_le h1 (Nat.le_trans (Nat.pow_le_pow_left (show B ≤ 10 ^ 10 by decide) _) ?_)
      rw [← Nat.pow_mul]
      exact Nat.pow_le_pow_right (by omega) (by omega)
    have h3 := size_txt_le h2 (by omega)
    omega
  clear hl ht hs hkk x0 bw sz h
  cases s <;>
  ( go_enter Try.func31, Try.ntmps31
    go_wp2_with fail
    refine HS.out.mono ?_
    rintro e w1 ⟨rfl, hb⟩
    have HB := hid (BW.out.trans (hb.mono (by rw [SZ.out]; omega)))
    clear hb
    go_wp2_with fail
    go_ret
    refine ⟨?_, HB.out⟩
    have hz := HZ.out.symm
    first
    | (rw [ztxt, if_pos (by simpa using hz)]; rfl)
    | (rw [ztxt, if_neg (by simpa using hz)]; rfl) )

theorem zof_add (s : Bool) (a b : Nat) : zof s (a + b) = zof s a + zof s b := by cases s <;> simp [zof] <;> omega
theorem zof_sub (s : Bool) (a b : Nat) (h : b ≤ a) : zof s (a - b) = zof s a + zof (!s) b := by cases s <;> simp [zof] <;> omega
theorem zof_mul (s t : Bool) (a b : Nat) : zof (s != t) (a * b) = zof s a * zof t b := by cases s <;> cases t <;> simp [zof, Int.mul_neg, Int.neg_mul]

set_option maxHeartbeats 1000000 in
theorem add_same {w : World} {s : Bool} {sv sv' : Value} {xs xs' : List Nat} {k l : Nat} (hl : Lim w sv xs) (hk : xs.length ≤ k) (hl' : Lim w sv' xs') (hk' : xs'.length ≤ l) (hs : s = true → val xs ≠ 0) (hkb : k ≤ 549755813888) (hlb : l ≤ 549755813888) :
    Calls Try.prog 45 #[.agg #[.bool s, sv], .agg #[.bool s, sv']] w fun e w' => ∃ v, e = .returned v ∧ Whl w' v (zof s (val xs) + zof s (val xs')) (max k l + 1) ∧ Below w.heap.size w w' := by
  obtain ⟨x0, x1, x2, bw, sz⟩ := boxes3 w s s false sv sv' (.slice none 0 0) hl.slice hl'.slice ⟨_, _, _, rfl⟩
  have HS := add_lim ((hl.below bw (Nat.le_refl _)).below (Below.drew (Below.refl _ _)) (Nat.le_refl _)) ((hl'.below bw (Nat.le_refl _)).below (Below.drew (Below.refl _ _)) (Nat.le_refl _)) (by omega) (by omega)
  have hres : ∀ (w5 : World) (v5 : Value) (zs : List Nat), Lim w5 v5 zs → Trim zs → val zs = val xs + val xs' → Whl w5 (.agg #[.bool s, v5]) (zof s (val xs) + zof s (val xs')) (max k l + 1) := by
    intro w5 v5 zs h1 h2 h3
    refine ⟨s, v5, zs, rfl, h1, h2, ?_, fun e => by have := hs e; omega, by rw [h3, zof_add]⟩
    refine length_le_of_val h2 _ ?_
    rw [h3]
    have b1 := few_limbs hl.1 (Nat.le_trans hk (Nat.le_max_left k l))
    have b2 := few_limbs hl'.1 (Nat.le_trans hk' (Nat.le_max_right k l))
    rw [Nat.pow_succ, B_eq] at *
    omega
  have HR := hid hres
  have X0 := hid x0
  have X1 := hid x1
  have X2 := hid x2
  have BW := hid bw
  have SZ := hid sz
  have HC := hid HS
  clear hl hk hl' hk' x0 x1 x2 bw sz hs hres HS
  go_enter Try.func45, Try.ntmps45
  have hss : (s == s) = true := by simp
  go_wp2_with fail
  go_region_held3 (fun w' => w'.cell? ⟨w.heap.size, 0, none⟩ = some (.bool s) ∧ w'.cell? ⟨w.heap.size, 1, none⟩ = some sv ∧ w'.cell? ⟨w.heap.size + 1, 1, none⟩ = some sv') (go_keep) (first
      | (go_at_call 59; refine HC.out.mono ?_; rintro e w4 ⟨v, zs, rfl, hv, tv, vv, hb⟩; obtain ⟨p, n, c, rfl⟩ := hv.slice; have hb' := below_undrew' hb; have x0' := X0.out.below hb' X0.out.lt; have c00 := x0'.cell0; have c01 := x0'.cell1; have z00 := fun a b => ((x0'.other (g2 := w.heap.size + 1 + 1) (by omega) 0 a).other (g2 := w.heap.size + 1 + 1) (by omega) 1 b).cell0; have z01 := fun a b => ((x0'.other (g2 := w.heap.size + 1 + 1) (by omega) 0 a).other (g2 := w.heap.size + 1 + 1) (by omega) 1 b).cell1; have c11 := (X1.out.below hb' X1.out.lt).cell1; have x2' := X2.out.below hb' X2.out.lt; obtain ⟨d0, g0, d1, g1⟩ := x2'.stores; have X2' := hid x2'; have HV := hid hv; have TV := hid tv; have VV := hid vv; have HB := hid hb'; clear hb; clear hb'; clear vv; clear tv; clear hv; clear x2'; clear x0'))
  go_wp2_with fail
  refine bodyPost_ret (res_one rfl rfl ((X2'.out.set0 _).set1 HV.out.slice)) rfl ?_
  exact ⟨_, rfl, ((HR.out _ _ _ HV.out TV.out VV.out).box X2'.out _ _).box (X2'.out.set0 _) _ _, ((BW.out.trans (HB.out.mono (by rw [SZ.out]; omega))).setCell (p := ⟨w.heap.size + 1 + 1, 0, none⟩) (show w.heap.size ≤ w.heap.size + 1 + 1 by omega) _).setCell (p := ⟨w.heap.size + 1 + 1, 1, none⟩) (show w.heap.size ≤ w.heap.size + 1 + 1 by omega) _⟩

theorem sub_bits {xs xs' : List Nat} {k l : Nat} (hf : Fits xs) (hk : xs.length ≤ k) (h : val xs' ≤ val xs) : val xs - val xs' < B ^ (max k l) := by
  have b1 := few_limbs hf (Nat.le_trans hk (Nat.le_max_left k l))
  omega

set_option maxHeartbeats 1000000 in
/-- Unlike signs, the first size is not the smaller one. -/
theorem add_ge {w : World} {s : Bool} {sv sv' : Value} {xs xs' : List Nat} {k l : Nat} (hl : Lim w sv xs) (hk : xs.length ≤ k) (hl' : Lim w sv' xs') (hk' : xs'.length ≤ l) (hge : val xs' ≤ val xs) (hkb : k ≤ 549755813888) (hlb : l ≤ 549755813888) :
    Calls Try.prog 45 #[.agg #[.bool s, sv], .agg #[.bool (!s), sv']] w fun e w' => ∃ v, e = .returned v ∧ Whl w' v (zof s (val xs) + zof (!s) (val xs')) (max k l + 1) ∧ Below w.heap.size w w' := by
  obtain ⟨x0, x1, x2, bw, sz⟩ := boxes3 w s (!s) false sv sv' (.slice none 0 0) hl.slice hl'.slice ⟨_, _, _, rfl⟩
  have hL := less_lim (hl.below bw (Nat.le_refl _)) (hl'.below bw (Nat.le_refl _))
  rw [decide_eq_false (by omega)] at hL
  have hS := fun n : Nat => sub_lim ((hl.below bw (Nat.le_refl _)).below (below_drewN (Below.refl _ _) n) (Nat.le_refl _)) ((hl'.below bw (Nat.le_refl _)).below (below_drewN (Below.refl _ _) n) (Nat.le_refl _)) (by omega) hge
  have HL := hid hL
  have HS := hid hS
  have HK := hid (sub_bits (l := l) hl.1 hk hge)
  have X0 := hid x0
  have X2 := hid x2
  have BW := hid bw
  have SZ := hid sz
  have HG := hid (zof_sub s _ _ hge)
  clear hl hk hl' hk' x0 x1 x2 bw sz hge hL hS
  have hss : (s == !s) = false := by cases s <;> rfl
  go_enter Try.func45, Try.ntmps45
  go_wp2_with fail
  refine HL.out.mono ?_
  rintro e w4 ⟨rfl, nd, rfl⟩
  go_wp2_with fail
  refine (HS.out nd).mono ?_
  rintro e w5 ⟨v, zs, rfl, hv, tv, vv, hb⟩
  have hb' : Below _ _ _ := below_undrewN hb
  have c0 := (X0.out.below hb' X0.out.lt).cell0
  have x2' := X2.out.below hb' X2.out.lt
  have X2' := hid x2'
  have hF := signed_lim s hv tv (k := max k l + 1) (length_le_of_val tv _ (by rw [vv]; exact Nat.lt_of_lt_of_le HK.out (Nat.pow_le_pow_right B_pos (Nat.le_succ _))))
  rw [vv, HG.out] at hF
  have HF := hid hF
  have HB := hid hb'
  clear hv tv vv hb hb' x2' hF
  go_wp2_with fail
  refine HF.out.mono ?_
  rintro e w6 ⟨v6, rfl, hv, hb⟩
  obtain ⟨s1, sv1, xs1, rfl, hl1, hv2⟩ := id hv
  obtain ⟨p1, n1, c1, rfl⟩ := hl1.slice
  have x2' := X2'.out.below hb X2'.out.lt
  obtain ⟨d0, g0, d1, g1⟩ := x2'.stores
  have X2'' := hid x2'
  have HV := hid hv
  have HL1 := hid hl1
  have HB2 := hid (HB.out.trans (hb.mono HB.out.size))
  clear hv hv2 hl1 hb x2'
  go_wp2_with fail
  refine bodyPost_ret (res_one rfl rfl ((X2''.out.set0 _).set1 ⟨_, _, _, rfl⟩)) rfl ?_
  exact ⟨_, rfl, (HV.out.box X2''.out _ _).box (X2''.out.set0 _) _ _, ((BW.out.trans (HB2.out.mono (by rw [SZ.out]; omega))).setCell (p := ⟨w.heap.size + 1 + 1, 0, none⟩) (show w.heap.size ≤ w.heap.size + 1 + 1 by omega) _).setCell (p := ⟨w.heap.size + 1 + 1, 1, none⟩) (show w.heap.size ≤ w.heap.size + 1 + 1 by omega) _⟩

theorem less_below {w : World} {v u : Value} {xs ys : List Nat} (h1 : Lim w v xs) (h2 : Lim w u ys) :
    Calls Try.prog 60 #[v, u] w fun e w' => e = .returned (.bool (decide (val xs < val ys))) ∧ Below w.heap.size w w' := by
  refine (less_lim h1 h2).mono ?_
  rintro e w' ⟨rfl, n, rfl⟩
  exact ⟨rfl, below_drewN (Below.refl _ _) n⟩

/-- Two boxes are changed for each other. -/
theorem Box.swap {w : World} {g : Nat} {a c : Bool} {b d : Value} (h0 : Box w g a b) (h1 : Box w (g + 1) c d) :
    Box ((((w.setCell ⟨g, 0, none⟩ (.bool c)).setCell ⟨g, 1, none⟩ d).setCell ⟨g + 1, 0, none⟩ (.bool a)).setCell ⟨g + 1, 1, none⟩ b) g c d ∧
    Box ((((w.setCell ⟨g, 0, none⟩ (.bool c)).setCell ⟨g, 1, none⟩ d).setCell ⟨g + 1, 0, none⟩ (.bool a)).setCell ⟨g + 1, 1, none⟩ b) (g + 1) a b ∧
    Box ((w.setCell ⟨g, 0, none⟩ (.bool c)).setCell ⟨g, 1, none⟩ d) (g + 1) c d ∧
    (∀ {v : Value} {xs : List Nat}, Lim w v xs → Lim ((((w.setCell ⟨g, 0, none⟩ (.bool c)).setCell ⟨g, 1, none⟩ d).setCell ⟨g + 1, 0, none⟩ (.bool a)).setCell ⟨g + 1, 1, none⟩ b) v xs) ∧
    (∀ {K : Nat} {w0 : World}, Below K w0 w → K ≤ g → Below K w0 ((((w.setCell ⟨g, 0, none⟩ (.bool c)).setCell ⟨g, 1, none⟩ d).setCell ⟨g + 1, 0, none⟩ (.bool a)).setCell ⟨g + 1, 1, none⟩ b)) ∧
    (∀ {g2 : Nat} {e : Bool} {f : Value}, Box w g2 e f → g2 ≠ g → g2 ≠ g + 1 → Box ((((w.setCell ⟨g, 0, none⟩ (.bool c)).setCell ⟨g, 1, none⟩ d).setCell ⟨g + 1, 0, none⟩ (.bool a)).setCell ⟨g + 1, 1, none⟩ b) g2 e f) := by
  have k0 := (h0.set0 c).set1 h1.2
  have k1 := (h1.other (g2 := g) (by omega) 0 (.bool c)).other (g2 := g) (by omega) 1 d
  refine ⟨(k0.other (by omega) _ _).other (by omega) _ _, (k1.set0 _).set1 h0.2, k1, fun h => ?_, fun h hK => ?_, fun h n0 n1 => ?_⟩
  · exact (((h.box h0 0 _).box (h0.set0 c) 1 _).box k1 0 _).box (k1.set0 _) 1 _
  · exact (((h.setCell (p := ⟨g, 0, none⟩) hK _).setCell (p := ⟨g, 1, none⟩) hK _).setCell (p := ⟨g + 1, 0, none⟩) (Nat.le_succ_of_le hK) _).setCell (p := ⟨g + 1, 1, none⟩) (Nat.le_succ_of_le hK) _
  · exact (((h.other n0 _ _).other n0 _ _).other n1 _ _).other n1 _ _

set_option maxHeartbeats 2000000 in
/-- Unlike signs, the first size is the smaller one. -/
theorem add_lt {w : World} {s : Bool} {sv sv' : Value} {xs xs' : List Nat} {k l : Nat} (hl : Lim w sv xs) (hk : xs.length ≤ k) (hl' : Lim w sv' xs') (hk' : xs'.length ≤ l) (hlt : val xs < val xs') (hkb : k ≤ 549755813888) (hlb : l ≤ 549755813888) :
    Calls Try.prog 45 #[.agg #[.bool s, sv], .agg #[.bool (!s), sv']] w fun e w' => ∃ v, e = .returned v ∧ Whl w' v (zof s (val xs) + zof (!s) (val xs')) (max k l + 1) ∧ Below w.heap.size w w' := by
  obtain ⟨x0, x1, x2, bw, sz⟩ := boxes3 w s (!s) false sv sv' (.slice none 0 0) hl.slice hl'.slice ⟨_, _, _, rfl⟩
  have hL := less_below (hl.below bw (Nat.le_refl _)) (hl'.below bw (Nat.le_refl _))
  rw [decide_eq_true hlt] at hL
  have hst := hl.store
  have hst' := hl'.store
  have L1 := hid (hl.below bw (Nat.le_refl _))
  have L2 := hid (hl'.below bw (Nat.le_refl _))
  have HL := hid hL
  have HK := hid (sub_bits (l := k) hl'.1 hk' (Nat.le_of_lt hlt))
  have X0 := hid x0
  have X1 := hid x1
  have X2 := hid x2
  have BW := hid bw
  have SZ := hid sz
  have HG := hid (show zof (!s) (val xs' - val xs) = zof s (val xs) + zof (!s) (val xs') by rw [zof_sub (!s) _ _ (Nat.le_of_lt hlt), Bool.not_not, Int.add_comm])
  have LK := hid (show xs.length ≤ 1099511627776 by omega)
  have LK' := hid (show xs'.length ≤ 1099511627776 by omega)
  have HLT := hid hlt
  clear hl hk hl' hk' x0 x1 x2 bw sz hlt hL
  have hss : (s == !s) = false := by cases s <;> rfl
  go_enter Try.func45, Try.ntmps45
  go_wp2_with fail
  refine HL.out.mono ?_
  rintro e w4 ⟨rfl, hb4⟩
  have x0' := X0.out.below hb4 X0.out.lt
  have x1' := X1.out.below hb4 X1.out.lt
  have x2' := X2.out.below hb4 X2.out.lt
  have l1 := L1.out.below hb4 (Nat.le_refl _)
  have l2 := L2.out.below hb4 (Nat.le_refl _)
  obtain ⟨b0, b1, b10, bl, bb, bo⟩ := x0'.swap x1'
  have b2 := bo x2' (by omega) (by omega)
  obtain ⟨c0, f0, c1, f1⟩ := x0'.stores
  obtain ⟨e0, h0, e1, h1⟩ := b10.stores
  have c00 := b0.cell0
  have c01 := b0.cell1
  have c11 := b1.cell1
  have q0 := x0'.cell1
  have q1 := x1'.cell0
  have q2 := x1'.cell1
  have hS := sub_lim (bl l2) (bl l1) LK'.out (Nat.le_of_lt HLT.out)
  have HS := hid hS
  have B0 := hid b0
  have B2 := hid b2
  have BA := hid (bb (BW.out.trans (hb4.mono (by rw [SZ.out]; omega))) (Nat.le_refl _))
  clear x0' x1' x2' l1 l2 b0 b1 b10 bl bb bo b2 hb4 hS HL
  go_wp2_with fail
  refine HS.out.mono ?_
  rintro e w5 ⟨v, zs, rfl, hv, tv, vv, hb⟩
  have d00 := (B0.out.below hb B0.out.lt).cell0
  have x2' := B2.out.below hb B2.out.lt
  have X2' := hid x2'
  have hF := signed_lim (!s) hv tv (k := max k l + 1) (length_le_of_val tv _ (by rw [vv, Nat.max_comm]; exact Nat.lt_of_lt_of_le HK.out (Nat.pow_le_pow_right B_pos (Nat.le_succ _))))
  rw [vv, HG.out] at hF
  have HF := hid hF
  have HB := hid (BA.out.trans (hb.mono BA.out.size))
  clear hv tv vv hb x2' hF HS
  go_wp2_with fail
  refine HF.out.mono ?_
  rintro e w6 ⟨v6, rfl, hv, hb⟩
  obtain ⟨s1, sv1, xs1, rfl, hl1, hv2⟩ := id hv
  obtain ⟨p1, n1, c1, rfl⟩ := hl1.slice
  have x2' := X2'.out.below hb X2'.out.lt
  obtain ⟨d0, g0, d1, g1⟩ := x2'.stores
  have X2'' := hid x2'
  have HV := hid hv
  have HB2 := hid (HB.out.trans (hb.mono HB.out.size))
  clear hv hv2 hl1 hb x2'
  go_wp2_with fail
  refine bodyPost_ret (res_one rfl rfl ((X2''.out.set0 _).set1 ⟨_, _, _, rfl⟩)) rfl ?_
  exact ⟨_, rfl, (HV.out.box X2''.out _ _).box (X2''.out.set0 _) _ _, ((HB2.out).setCell (p := ⟨w.heap.size + 1 + 1, 0, none⟩) (show w.heap.size ≤ w.heap.size + 1 + 1 by omega) _).setCell (p := ⟨w.heap.size + 1 + 1, 1, none⟩) (show w.heap.size ≤ w.heap.size + 1 + 1 by omega) _⟩

theorem add_whl {w : World} {v u : Value} {z y : Int} {k l : Nat} (h : Whl w v z k) (h' : Whl w u y l) (hk : k ≤ 549755813888) (hl : l ≤ 549755813888) :
    Calls Try.prog 45 #[v, u] w fun e w' => ∃ v, e = .returned v ∧ Whl w' v (z + y) (max k l + 1) ∧ Below w.heap.size w w' := by
  obtain ⟨s, sv, xs, rfl, hl1, ht, hk1, hs, rfl⟩ := h
  obtain ⟨s', sv', xs', rfl, hl1', ht', hk1', hs', rfl⟩ := h'
  by_cases e : s = s'
  · subst e
    exact add_same hl1 hk1 hl1' hk1' hs hk hl
  · have e' : s' = !s := by cases s <;> cases s' <;> simp at e ⊢
    subst e'
    by_cases hge : val xs' ≤ val xs
    · exact add_ge hl1 hk1 hl1' hk1' hge hk hl
    · exact add_lt hl1 hk1 hl1' hk1' (by omega) hk hl

end Go.Proofs.Ytokojbgpboccnaa

/-
  PACKAGE whole: THE METHODS Sub, Mul, Div, abs.
-/
namespace Go.Proofs.Ytokojbgpboccnaa
open Go.RowKit
open Num
set_option linter.unusedVariables false
set_option maxRecDepth 100000
set_option linter.unusedSimpArgs false

theorem Whl.opened {w : World} {v : Value} {z : Int} {k : Nat} (h : Whl w v z k) : ∃ s p n c, v = .agg #[.bool s, .slice p n c] := by
  obtain ⟨s, sv, xs, rfl, hl, _⟩ := h
  obtain ⟨p, n, c, rfl⟩ := hl.slice
  exact ⟨s, p, n, c, rfl⟩
/-- What is known of a box behind a call, and behind a store of two cells into another one. -/
theorem Box.keep {w w' : World} {g : Nat} {s : Bool} {sv : Value} (h : Box w g s sv) (hb : Below w.heap.size w w') : w'.cell? ⟨g, 0, none⟩ = some (.bool s) ∧ w'.cell? ⟨g, 1, none⟩ = some sv :=
  have h' := h.below hb h.lt
  ⟨h'.cell0, h'.cell1⟩
theorem Box.keep2 {w w' : World} {g : Nat} {s : Bool} {sv : Value} (h : Box w g s sv) (hb : Below w.heap.size w w') (g2 : Nat) (hne : g ≠ g2) :
    (∀ a b, ((w'.setCell ⟨g2, 0, none⟩ a).setCell ⟨g2, 1, none⟩ b).cell? ⟨g, 0, none⟩ = some (.bool s)) ∧ (∀ a b, ((w'.setCell ⟨g2, 0, none⟩ a).setCell ⟨g2, 1, none⟩ b).cell? ⟨g, 1, none⟩ = some sv) :=
  have h' := h.below hb h.lt
  ⟨fun a b => ((h'.other hne 0 a).other hne 1 b).cell0, fun a b => ((h'.other hne 0 a).other hne 1 b).cell1⟩
theorem natAbs_ediv_le (a b : Int) : (a / b).natAbs ≤ a.natAbs := Int.natAbs_ediv_le_natAbs a b
/-- The last store of a method. -/
theorem Box.last {w0 w : World} {g K : Nat} {s : Bool} {sv : Value} (h : Box w g s sv) (hb : Below K w0 w) (hg : K ≤ g) (s' : Bool) (p : Option Addr) (n c : Nat) :
    Box ((w.setCell ⟨g, 0, none⟩ (.bool s')).setCell ⟨g, 1, none⟩ (.slice p n c)) g s' (.slice p n c) ∧ Below K w0 ((w.setCell ⟨g, 0, none⟩ (.bool s')).setCell ⟨g, 1, none⟩ (.slice p n c)) ∧
    (∀ {v z k}, Whl w v z k → Whl ((w.setCell ⟨g, 0, none⟩ (.bool s')).setCell ⟨g, 1, none⟩ (.slice p n c)) v z k) :=
  ⟨(h.set0 _).set1 ⟨_, _, _, rfl⟩, (hb.setCell (p := ⟨g, 0, none⟩) hg _).setCell (p := ⟨g, 1, none⟩) hg _, fun hv => (hv.box h _ _).box (h.set0 _) _ _⟩

set_option maxHeartbeats 1000000 in
theorem sub_whl {w : World} {v u : Value} {z y : Int} {k l : Nat} (h : Whl w v z k) (h' : Whl w u y l) (hk : k ≤ 549755813888) (hl : l ≤ 549755813888) :
    Calls Try.prog 62 #[v, u] w fun e w' => ∃ v, e = .returned v ∧ Whl w' v (z - y) (max k l + 1) ∧ Below w.heap.size w w' := by
  obtain ⟨s, p, n, c, rfl⟩ := h.opened
  obtain ⟨s', p', n', c', rfl⟩ := h'.opened
  obtain ⟨x0, x1, x2, bw, sz⟩ := boxes3 w s s' false (.slice p n c) (.slice p' n' c') (.slice none 0 0) ⟨_, _, _, rfl⟩ ⟨_, _, _, rfl⟩ ⟨_, _, _, rfl⟩
  have i1 := h.on bw
  have HN := hid (neg_whl ((h'.on bw).on (Below.drew (Below.refl _ _))))
  have HA := hid (fun w' u' hb (h2 : Whl w' u' (-y) l) => add_whl (i1.below (w' := w') hb (Nat.le_refl _)) h2 hk hl)
  have X0 := hid x0
  have X1 := hid x1
  have X2 := hid x2
  have BW := hid bw
  have SZ := hid sz
  clear h h' hk hl x0 x1 x2 bw sz i1
  go_enter Try.func62, Try.ntmps62
  go_wp2_with fail
  go_region_held3 (fun w' => w'.cell? ⟨w.heap.size, 0, none⟩ = some (.bool s) ∧ w'.cell? ⟨w.heap.size, 1, none⟩ = some (.slice p n c) ∧ w'.cell? ⟨w.heap.size + 1, 0, none⟩ = some (.bool s') ∧ w'.cell? ⟨w.heap.size + 1, 1, none⟩ = some (.slice p' n' c')) (go_keep) (first
    | (go_at_call 55; refine HN.out.mono ?_; rintro e w4 ⟨v4, rfl, hv4, hb4⟩; replace hb4 := below_undrew' hb4; obtain ⟨c00, c01⟩ := X0.out.keep hb4; obtain ⟨c10, c11⟩ := X1.out.keep hb4; have HV4 := hid hv4; have HB4 := hid hb4; clear hv4; clear hb4)
    | (go_at_call 45; refine (HA.out w4 _ HB4.out HV4.out).mono ?_; rintro e w5 ⟨v5, rfl, hv5, hb5⟩; obtain ⟨s5, p5, n5, c5, rfl⟩ := hv5.opened; replace hb5 := HB4.out.trans (hb5.mono HB4.out.size); obtain ⟨d00, d01⟩ := X0.out.keep hb5; obtain ⟨d10, d11⟩ := X1.out.keep hb5; obtain ⟨z00, z01⟩ := X0.out.keep2 hb5 (w.heap.size + 1 + 1) (by omega); obtain ⟨z10, z11⟩ := X1.out.keep2 hb5 (w.heap.size + 1 + 1) (by omega); have x2' := X2.out.below hb5 X2.out.lt; obtain ⟨q0, g0, q1, g1⟩ := x2'.stores; have X2' := hid x2'; have HV5 := hid hv5; have HB5 := hid hb5; clear hv5; clear hb5; clear x2'))
  go_wp2_with fail
  obtain ⟨r1, r2, r3⟩ := X2'.out.last (BW.out.trans (HB5.out.mono (by rw [SZ.out]; omega))) (show w.heap.size ≤ w.heap.size + 1 + 1 by omega) s5 p5 n5 c5
  refine bodyPost_ret (res_one rfl rfl r1) rfl ?_
  exact ⟨_, rfl, r3 (by rw [Int.sub_eq_add_neg]; exact HV5.out), r2⟩

set_option maxHeartbeats 1000000 in
theorem mul_whl {w : World} {v u : Value} {z y : Int} {k l : Nat} (h : Whl w v z k) (h' : Whl w u y l) (hk : k ≤ 549755813888) (hl : l ≤ 549755813888) :
    Calls Try.prog 44 #[v, u] w fun e w' => ∃ v, e = .returned v ∧ Whl w' v (z * y) (k + l) ∧ Below w.heap.size w w' := by
  obtain ⟨s, sv, xs, rfl, hl1, ht, hk1, hs, rfl⟩ := h
  obtain ⟨s', sv', xs', rfl, hl1', ht', hk1', hs', rfl⟩ := h'
  obtain ⟨x0, x1, x2, bw, sz⟩ := boxes3 w s s' false sv sv' (.slice none 0 0) hl1.slice hl1'.slice ⟨_, _, _, rfl⟩
  have hM := mul_lim ((hl1.below bw (Nat.le_refl _)).below (Below.drew (Below.refl _ _)) (Nat.le_refl _)) ((hl1'.below bw (Nat.le_refl _)).below (Below.drew (Below.refl _ _)) (Nat.le_refl _)) (by omega) (by omega)
  have hlen : ∀ zs, Trim zs → val zs = val xs * val xs' → zs.length ≤ k + l := by
    intro zs tz vz
    refine length_le_of_val tz _ ?_
    rw [vz, Nat.pow_add]
    exact Nat.mul_lt_mul'' (few_limbs hl1.1 hk1) (few_limbs hl1'.1 hk1')
  have HM := hid hM
  have HLEN := hid hlen
  have X0 := hid x0
  have X1 := hid x1
  have X2 := hid x2
  have BW := hid bw
  have SZ := hid sz
  obtain ⟨p, n, c, rfl⟩ := hl1.slice
  obtain ⟨p', n', c', rfl⟩ := hl1'.slice
  clear hl1 hl1' hk1 hk1' ht ht' hs hs' x0 x1 x2 bw sz hM hlen
  have HZ := hid (zof_mul s s' (val xs) (val xs'))
  go_enter Try.func44, Try.ntmps44
  go_wp2_with fail
  go_region_held3 (fun w' => w'.cell? ⟨w.heap.size, 0, none⟩ = some (.bool s) ∧ w'.cell? ⟨w.heap.size, 1, none⟩ = some (.slice p n c) ∧ w'.cell? ⟨w.heap.size + 1, 0, none⟩ = some (.bool s') ∧ w'.cell? ⟨w.heap.size + 1, 1, none⟩ = some (.slice p' n' c')) (go_keep) (first
    | (go_at_call 58; refine HM.out.mono ?_; rintro e w4 ⟨v4, zs, rfl, hv4, tz, vz, hb4⟩; replace hb4 := below_undrew' hb4; obtain ⟨c00, c01⟩ := X0.out.keep hb4; obtain ⟨c10, c11⟩ := X1.out.keep hb4; have HS := hid (signed_lim (k := k + l) (s != s') hv4 tz (HLEN.out _ tz vz)); have VZ := hid vz; have HB4 := hid hb4; clear hv4; clear hb4; clear tz; clear vz)
    | (go_at_call 57; refine HS.out.mono ?_; rintro e w5 ⟨v5, rfl, hv5, hb5⟩; obtain ⟨s5, p5, n5, c5, rfl⟩ := hv5.opened; replace hb5 := HB4.out.trans (hb5.mono HB4.out.size); obtain ⟨d00, d01⟩ := X0.out.keep hb5; obtain ⟨d10, d11⟩ := X1.out.keep hb5; obtain ⟨z00, z01⟩ := X0.out.keep2 hb5 (w.heap.size + 1 + 1) (by omega); obtain ⟨z10, z11⟩ := X1.out.keep2 hb5 (w.heap.size + 1 + 1) (by omega); have x2' := X2.out.below hb5 X2.out.lt; obtain ⟨q0, g0, q1, g1⟩ := x2'.stores; have X2' := hid x2'; have HV5 := hid hv5; have HB5 := hid hb5; clear hv5; clear hb5; clear x2'))
  go_wp2_with fail
  obtain ⟨r1, r2, r3⟩ := X2'.out.last (BW.out.trans (HB5.out.mono (by rw [SZ.out]; omega))) (show w.heap.size ≤ w.heap.size + 1 + 1 by omega) s5 p5 n5 c5
  refine bodyPost_ret (res_one rfl rfl r1) rfl ?_
  have h5 := HV5.out
  rw [VZ.out, HZ.out] at h5
  exact ⟨_, rfl, r3 h5, r2⟩

theorem boxes4 (w : World) (a c e a4 : Bool) (b d f b4 : Value) (hb : ∃ p n c, b = .slice p n c) (hd : ∃ p n c, d = .slice p n c) (hf : ∃ p n c, f = .slice p n c) (hb4 : ∃ p n c, b4 = .slice p n c) :
    Box ((((w.alloc (.cells #[.bool a, b] 47)).alloc (.cells #[.bool c, d] 47)).alloc (.cells #[.bool e, f] 47)).alloc (.cells #[.bool a4, b4] 47)) w.heap.size a b ∧ Box ((((w.alloc (.cells #[.bool a, b] 47)).alloc (.cells #[.bool c, d] 47)).alloc (.cells #[.bool e, f] 47)).alloc (.cells #[.bool a4, b4] 47)) (w.heap.size + 1) c d ∧ Box ((((w.alloc (.cells #[.bool a, b] 47)).alloc (.cells #[.bool c, d] 47)).alloc (.cells #[.bool e, f] 47)).alloc (.cells #[.bool a4, b4] 47)) (w.heap.size + 1 + 1) e f ∧ Box ((((w.alloc (.cells #[.bool a, b] 47)).alloc (.cells #[.bool c, d] 47)).alloc (.cells #[.bool e, f] 47)).alloc (.cells #[.bool a4, b4] 47)) (w.heap.size + 1 + 1 + 1) a4 b4 ∧ Below w.heap.size w ((((w.alloc (.cells #[.bool a, b] 47)).alloc (.cells #[.bool c, d] 47)).alloc (.cells #[.bool e, f] 47)).alloc (.cells #[.bool a4, b4] 47)) ∧ ((((w.alloc (.cells #[.bool a, b] 47)).alloc (.cells #[.bool c, d] 47)).alloc (.cells #[.bool e, f] 47)).alloc (.cells #[.bool a4, b4] 47)).heap.size = w.heap.size + 1 + 1 + 1 + 1 := by
  obtain ⟨h1, h2, h3, h4, h5⟩ := boxes3 w a c e b d f hb hd hf
  obtain ⟨k1, k2, k3⟩ := boxes1 (((w.alloc (.cells #[.bool a, b] 47)).alloc (.cells #[.bool c, d] 47)).alloc (.cells #[.bool e, f] 47)) a4 b4 hb4
  rw [h5] at k1 k2 k3
  exact ⟨h1.below k2 (by omega), h2.below k2 (by omega), h3.below k2 (by omega), k1, h4.trans (k2.mono (by omega)), k3⟩

theorem lim_one {w w' : World} (hw : w' = w.alloc (.cells #[.int .u32 1] 95)) : Lim w' (.slice (some ⟨w.heap.size, 0, none⟩) 1 1) [1] := by
  have h := Blk.new w [1]
  have h2 := h.lim (Fits.single (by omega)) 0 1 1 (by simp) (Nat.le_refl _) (by unfold maxLen; omega)
  rw [hw]
  exact h2

/-- The quotient and what is left of two wholes, by signs and sizes. -/
theorem div_signs (s t : Bool) (a b : Nat) (hb : 0 < b) (hs : s = true → a ≠ 0) :
    (s = false ∨ a % b = 0 → zof s a / zof t b = zof (s != t) (a / b) ∧ zof s a % zof t b = ((a % b : Nat) : Int)) ∧
    (s = true → a % b ≠ 0 → zof s a / zof t b = zof (s != t) (a / b + 1) ∧ zof s a % zof t b = ((b - a % b : Nat) : Int)) := by
  have h1 := Nat.div_add_mod a b
  have h2 := Nat.mod_lt a hb
  generalize a / b = q at *
  generalize a % b = r at *
  have key : ∀ (x y Q : Int) (R : Nat), y ≠ 0 → x = y * Q + R → R < y.natAbs → x / y = Q ∧ x % y = R := by
    intro x y Q R hy hx hR
    have hr0 : (R : Int) / y = 0 := by
      rcases Int.natAbs_eq y with e | e
      · rw [e]; exact Int.ediv_eq_zero_of_lt (by omega) (by omega)
      · rw [e, Int.ediv_neg, Int.ediv_eq_zero_of_lt (by omega) (by omega)]; rfl
    have hrm : (R : Int) % y = R := by
      have := Int.mul_ediv_add_emod (R : Int) y
      rw [hr0, Int.mul_zero] at this; omega
    rw [hx]
    refine ⟨?_, ?_⟩
    · rw [Int.mul_add_ediv_left _ _ hy, hr0, Int.add_zero]
    · rw [Int.mul_add_emod_self_left, hrm]
  constructor
  · intro h
    refine key _ _ _ _ ?_ ?_ ?_
    · cases t <;> simp [zof] <;> omega
    · rw [← h1]
      cases s <;> cases t <;> simp [zof, Int.mul_neg, Int.neg_mul] at h ⊢ <;> omega
    · rw [natAbs_zof]; omega
  · rintro rfl hr
    refine key _ _ _ _ ?_ ?_ ?_
    · cases t <;> simp [zof] <;> omega
    · rw [← h1]
      cases t <;> simp [zof, Int.mul_neg, Int.neg_mul, Int.mul_add] <;> omega
    · rw [natAbs_zof]; omega

theorem res_two {fn : Func} {t t' t'' : Tmp} {tmps : Array Value} {w : World} {g g' : Nat} {s s' : Bool} {sv sv' u : Value} (hf : fn.results = #[.cell t 47, .cell t' 47, .tmp t'']) (ht : tmps.getD t undef = .pointer (some ⟨g, 0, none⟩)) (ht' : tmps.getD t' undef = .pointer (some ⟨g', 0, none⟩)) (hu : tmps.getD t'' undef = u) (h2 : Box w g s sv) (h2' : Box w g' s' sv') :
    (results fn tmps).run Try.prog w = .ok (.tuple #[.agg #[.bool s, sv], .agg #[.bool s', sv'], u]) w := by
  have h1 := at_addr (P := Try.prog) (w := w) ht
  have h1' := at_addr (P := Try.prog) (w := w) ht'
  have h3 := load_whl h2
  have h3' := load_whl h2'
  simp only [Array.getD_eq_getD_getElem?] at h1 h1' hu
  simp [results, hf, Sem.run_bind, h1, h3, h1', h3', hu]

/-- Two boxes side by side, both written. -/
theorem Box.last2 {w0 w : World} {g K : Nat} {s s' : Bool} {sv sv' : Value} (h : Box w g s sv) (h' : Box w (g + 1) s' sv') (hb : Below K w0 w) (hg : K ≤ g) (a a' : Bool) (p p' : Option Addr) (n n' c c' : Nat) :
    Box ((((w.setCell ⟨g, 0, none⟩ (.bool a)).setCell ⟨g, 1, none⟩ (.slice p n c)).setCell ⟨g + 1, 0, none⟩ (.bool a')).setCell ⟨g + 1, 1, none⟩ (.slice p' n' c')) g a (.slice p n c) ∧ Box ((((w.setCell ⟨g, 0, none⟩ (.bool a)).setCell ⟨g, 1, none⟩ (.slice p n c)).setCell ⟨g + 1, 0, none⟩ (.bool a')).setCell ⟨g + 1, 1, none⟩ (.slice p' n' c')) (g + 1) a' (.slice p' n' c') ∧ Below K w0 ((((w.setCell ⟨g, 0, none⟩ (.bool a)).setCell ⟨g, 1, none⟩ (.slice p n c)).setCell ⟨g + 1, 0, none⟩ (.bool a')).setCell ⟨g + 1, 1, none⟩ (.slice p' n' c')) ∧ (∀ {v z k}, Whl w v z k → Whl ((((w.setCell ⟨g, 0, none⟩ (.bool a)).setCell ⟨g, 1, none⟩ (.slice p n c)).setCell ⟨g + 1, 0, none⟩ (.bool a')).setCell ⟨g + 1, 1, none⟩ (.slice p' n' c')) v z k) := by
  obtain ⟨r1, r2, r3⟩ := h.last hb hg a p n c
  have k1 := (h'.other (g2 := g) (by omega) 0 (.bool a)).other (g2 := g) (by omega) 1 (.slice p n c)
  obtain ⟨q1, q2, q3⟩ := k1.last r2 (Nat.le_succ_of_le hg) a' p' n' c'
  exact ⟨(r1.other (by omega) _ _).other (by omega) _ _, q1, q2, fun hv => q3 (r3 hv)⟩
/-- What a walk needs to write two boxes side by side. -/
theorem Box.stores2 {w : World} {g : Nat} {s s' : Bool} {sv sv' : Value} (h : Box w g s sv) (h' : Box w (g + 1) s' sv') :
    (w.cell? ⟨g, 0, none⟩ = some (.bool s) ∧ w.frozen? ⟨g, 0, none⟩ = false ∧ (∀ x, (w.setCell ⟨g, 0, none⟩ (.bool x)).cell? ⟨g, 1, none⟩ = some sv) ∧ (∀ x, (w.setCell ⟨g, 0, none⟩ (.bool x)).frozen? ⟨g, 1, none⟩ = false)) ∧
    (∀ a b, ((w.setCell ⟨g, 0, none⟩ a).setCell ⟨g, 1, none⟩ b).cell? ⟨g + 1, 0, none⟩ = some (.bool s')) ∧ (∀ a b, ((w.setCell ⟨g, 0, none⟩ a).setCell ⟨g, 1, none⟩ b).frozen? ⟨g + 1, 0, none⟩ = false) ∧
    (∀ a b x, (((w.setCell ⟨g, 0, none⟩ a).setCell ⟨g, 1, none⟩ b).setCell ⟨g + 1, 0, none⟩ (.bool x)).cell? ⟨g + 1, 1, none⟩ = some sv') ∧ (∀ a b x, (((w.setCell ⟨g, 0, none⟩ a).setCell ⟨g, 1, none⟩ b).setCell ⟨g + 1, 0, none⟩ (.bool x)).frozen? ⟨g + 1, 1, none⟩ = false) := by
  have k1 := fun a b => (h'.other (g2 := g) (by omega) 0 a).other (g2 := g) (by omega) 1 b
  exact ⟨h.stores, fun a b => (k1 a b).cell0, fun a b => (k1 a b).free 0, fun a b x => ((k1 a b).set0 x).cell1, fun a b x => ((k1 a b).set0 x).free 1⟩

set_option maxHeartbeats 2000000 in
theorem div_even {w : World} {s s' : Bool} {sv sv' : Value} {xs xs' : List Nat} {k l : Nat} (hl : Lim w sv xs) (hk : xs.length ≤ k) (hl' : Lim w sv' xs') (hk' : xs'.length ≤ l) (h0 : 0 < val xs') (he : s = false ∨ val xs % val xs' = 0) (hs : s = true → val xs ≠ 0) (hkb : k ≤ 549755813888) (hlb : l ≤ 549755813888) :
    Calls Try.prog 56 #[.agg #[.bool s, sv], .agg #[.bool s', sv']] w fun e w' => ∃ v u, e = .returned (.tuple #[v, u, .nilIface]) ∧ Whl w' v (zof s (val xs) / zof s' (val xs')) (k + 1) ∧ Whl w' u (zof s (val xs) % zof s' (val xs')) l ∧ Below w.heap.size w w' := by
  obtain ⟨x0, x1, x2, x3, bw, sz⟩ := boxes4 w s s' false false sv sv' (.slice none 0 0) (.slice none 0 0) hl.slice hl'.slice ⟨_, _, _, rfl⟩ ⟨_, _, _, rfl⟩
  have HD := hid (div_lim (hl.below bw (Nat.le_refl _)) (hl'.below bw (Nat.le_refl _)) (by omega) (by omega) h0)
  obtain ⟨e1, e2⟩ := (div_signs s s' (val xs) (val xs') h0 hs).1 he
  rw [e1, e2]
  have hq : val xs / val xs' < B ^ (k + 1) := Nat.lt_of_le_of_lt (Nat.div_le_self _ _) (Nat.lt_of_lt_of_le (few_limbs hl.1 hk) (Nat.pow_le_pow_right B_pos (Nat.le_succ _)))
  have hr : val xs % val xs' < B ^ l := Nat.lt_trans (Nat.mod_lt _ h0) (few_limbs hl'.1 hk')
  have hz : s = true → ¬ (0 : Int) < ((val xs % val xs' : Nat) : Int) := by
    rcases he with rfl | e
    · intro e; cases e
    · rw [e]; simp
  have HQ := hid hq
  have HR := hid hr
  have HZ := hid hz
  have X0 := hid x0
  have X1 := hid x1
  have X2 := hid x2
  have X3 := hid x3
  have BW := hid bw
  have SZ := hid sz
  clear hl hk hl' hk' h0 hs x0 x1 x2 x3 bw sz e1 e2 hq hr hz he
  have hrs : ∀ rs : List Nat, Trim rs → val rs = val xs % val xs' → s = true → rs = [] := by
    intro rs tr vr e
    have := HZ.out e
    exact tr.zero_iff.1 (by omega)
  have HRS := hid hrs
  clear hrs
  cases s
  · rw [show (false != s') = s' by cases s' <;> rfl]
    go_enter Try.func56, Try.ntmps56
    go_wp2_with fail
    refine HD.out.mono ?_
    rintro e w4 ⟨q, r, qs, rs, rfl, hq, hr, tq, tr, vq, vr, hb⟩
    obtain ⟨c00, c01⟩ := X0.out.keep hb
    obtain ⟨c10, c11⟩ := X1.out.keep hb
    obtain ⟨p, n, c, rfl⟩ := hr.slice
    have hS := signed_lim (k := k + 1) s' hq tq (length_le_of_val tq _ (by rw [vq]; exact HQ.out))
    rw [vq] at hS
    have HS := hid hS
    have HWR := hid (show Whl w4 (.agg #[.bool false, .slice p n c]) ((val xs % val xs' : Nat) : Int) l from ⟨false, _, rs, rfl, hr, tr, length_le_of_val tr _ (by rw [vr]; exact HR.out), fun e => by simp at e, by rw [vr]; rfl⟩)
    have HB := hid hb
    clear hS hq hr tq tr vq vr hb
    go_wp2_with fail
    refine HS.out.mono ?_
    rintro e w5 ⟨v5, rfl, hv5, hb5⟩
    obtain ⟨s5, p5, n5, c5, rfl⟩ := hv5.opened
    have HWR5 := hid (HWR.out.on hb5)
    replace hb5 := HB.out.trans (hb5.mono HB.out.size)
    have x2' := X2.out.below hb5 X2.out.lt
    have x3' := X3.out.below hb5 X3.out.lt
    obtain ⟨⟨q0, g0, q1, g1⟩, q2, g2, q3, g3⟩ := x2'.stores2 x3'
    have HL := hid (x2'.last2 x3' (BW.out.trans (hb5.mono (by rw [SZ.out]; omega))) (by omega) s5 false p5 p n5 n c5 c)
    have HV5 := hid hv5
    clear hv5 hb5 x2' x3'
    go_wp2_with fail
    obtain ⟨r1, r2, r3, r4⟩ := HL.out
    refine bodyPost_ret (res_two rfl rfl rfl rfl r1 r2) rfl ?_
    exact ⟨_, _, rfl, r4 HV5.out, r4 HWR5.out, r3⟩
  · rw [show (true != s') = !s' by cases s' <;> rfl]
    go_enter Try.func56, Try.ntmps56
    go_wp2_with fail
    refine HD.out.mono ?_
    rintro e w4 ⟨q, r, qs, rs, rfl, hq, hr, tq, tr, vq, vr, hb⟩
    obtain rfl := HRS.out rs tr vr (by simp)
    obtain ⟨c00, c01⟩ := X0.out.keep hb
    obtain ⟨c10, c11⟩ := X1.out.keep hb
    obtain ⟨p, c, rfl, _⟩ := lim_parts hr
    have hS := signed_lim (k := k + 1) (!s') hq tq (length_le_of_val tq _ (by rw [vq]; exact HQ.out))
    rw [vq] at hS
    have HS := hid hS
    have HWR := hid (show Whl w4 (.agg #[.bool false, .slice p 0 c]) ((val xs % val xs' : Nat) : Int) l from ⟨false, _, [], rfl, hr, tr, Nat.zero_le _, fun e => by simp at e, by rw [vr]; rfl⟩)
    have HB := hid hb
    clear hS hq hr tq tr vq vr hb
    go_wp2_with fail
    refine HS.out.mono ?_
    rintro e w5 ⟨v5, rfl, hv5, hb5⟩
    obtain ⟨s5, p5, n5, c5, rfl⟩ := hv5.opened
    have HWR5 := hid (HWR.out.on hb5)
    replace hb5 := HB.out.trans (hb5.mono HB.out.size)
    have x2' := X2.out.below hb5 X2.out.lt
    have x3' := X3.out.below hb5 X3.out.lt
    obtain ⟨⟨q0, g0, q1, g1⟩, q2, g2, q3, g3⟩ := x2'.stores2 x3'
    have HL := hid (x2'.last2 x3' (BW.out.trans (hb5.mono (by rw [SZ.out]; omega))) (by omega) s5 false p5 p n5 0 c5 c)
    have HV5 := hid hv5
    clear hv5 hb5 x2' x3'
    go_wp2_with fail
    obtain ⟨r1, r2, r3, r4⟩ := HL.out
    refine bodyPost_ret (res_two rfl rfl rfl rfl r1 r2) rfl ?_
    exact ⟨_, _, rfl, r4 HV5.out, r4 HWR5.out, r3⟩

set_option maxHeartbeats 2000000 in
theorem div_odd {w : World} {s' : Bool} {sv sv' : Value} {xs xs' : List Nat} {k l : Nat} (hl : Lim w sv xs) (hk : xs.length ≤ k) (hl' : Lim w sv' xs') (hk' : xs'.length ≤ l) (h0 : 0 < val xs') (he : val xs % val xs' ≠ 0) (hs : val xs ≠ 0) (hkb : k ≤ 549755813888) (hlb : l ≤ 549755813888) :
    Calls Try.prog 56 #[.agg #[.bool true, sv], .agg #[.bool s', sv']] w fun e w' => ∃ v u, e = .returned (.tuple #[v, u, .nilIface]) ∧ Whl w' v (zof true (val xs) / zof s' (val xs')) (k + 1) ∧ Whl w' u (zof true (val xs) % zof s' (val xs')) l ∧ Below w.heap.size w w' := by
  obtain ⟨x0, x1, x2, x3, bw, sz⟩ := boxes4 w true s' false false sv sv' (.slice none 0 0) (.slice none 0 0) hl.slice hl'.slice ⟨_, _, _, rfl⟩ ⟨_, _, _, rfl⟩
  have HD := hid (div_lim (hl.below bw (Nat.le_refl _)) (hl'.below bw (Nat.le_refl _)) (by omega) (by omega) h0)
  obtain ⟨e1, e2⟩ := (div_signs true s' (val xs) (val xs') h0 (fun _ => hs)).2 rfl he
  rw [e1, e2, show (true != s') = !s' by cases s' <;> rfl]
  have hq0 : val xs / val xs' < B ^ k := Nat.lt_of_le_of_lt (Nat.div_le_self _ _) (few_limbs hl.1 hk)
  have hq : val xs / val xs' + 1 < B ^ (k + 1) := by
    have : 0 < B ^ k := Nat.pow_pos B_pos
    rw [Nat.pow_succ, B_eq] at *
    omega
  have hr : val xs' - val xs % val xs' < B ^ l := Nat.lt_of_le_of_lt (Nat.sub_le _ _) (few_limbs hl'.1 hk')
  have hm := Nat.mod_lt (val xs) h0
  have HQ0 := hid hq0
  have HQ := hid hq
  have HR := hid hr
  have HM := hid hm
  have HE := hid he
  have L2 := hid (hl'.below bw (Nat.le_refl _))
  have LB := hid (show xs'.length ≤ 1099511627776 by omega)
  have X0 := hid x0
  have X1 := hid x1
  have X2 := hid x2
  have X3 := hid x3
  have BW := hid bw
  have SZ := hid sz
  clear hl hk hl' hk' h0 hs x0 x1 x2 x3 bw sz e1 e2 hq hr he hm hq0
  go_enter Try.func56, Try.ntmps56
  go_wp2_with fail
  refine HD.out.mono ?_
  rintro e w4 ⟨q, r, qs, rs, rfl, hq, hr, tq, tr, vq, vr, hb⟩
  obtain ⟨c00, c01⟩ := X0.out.keep hb
  obtain ⟨c10, c11⟩ := X1.out.keep hb
  have hn0 : ∃ n, rs.length = n ∧ (0 : Int) < (n : Int) := by
    refine ⟨_, rfl, ?_⟩
    have h1 := HE.out
    rw [← vr] at h1
    cases rs with
    | nil => simp [val] at h1
    | cons => simp
  obtain ⟨n, hn, hn0⟩ := hn0
  obtain ⟨p, c, rfl, _⟩ := lim_parts hr
  rw [hn] at *
  have hAq := (Below.refl w4.heap.size w4).alloc (Nat.le_refl _) (.cells #[.int .u32 1] 95)
  have hlq := length_le_of_val tq k (by rw [vq]; exact HQ0.out)
  have HA := hid (add_lim (hq.below hAq (Nat.le_refl _)) (lim_one rfl) (by omega) (by simp))
  have hS := fun w' (hb' : Below w4.heap.size w4 w') => sub_lim (L2.out.below (hb.trans (hb'.mono hb.size)) (Nat.le_refl _)) (hr.below hb' (Nat.le_refl _)) LB.out (by rw [vr]; exact Nat.le_of_lt HM.out)
  have HS := hid hS
  have HB := hid hb
  have HBA := hid hAq
  have VQ := hid vq
  have VR := hid vr
  clear hq hr tq tr vq vr hb hn hAq hS hlq
  go_wp2_with fail
  refine HA.out.mono ?_
  rintro e w5 ⟨q2, qs2, rfl, hq2, tq2, vq2, hb5⟩
  have B5 := hid (HBA.out.trans (hb5.mono (by simp)))
  obtain ⟨c50, c51⟩ := X1.out.keep (HB.out.trans (B5.out.mono HB.out.size))
  obtain ⟨c60, c61⟩ := X0.out.keep (HB.out.trans (B5.out.mono HB.out.size))
  have HC := hid (HS.out w5 B5.out)
  have L5 := hid hq2
  have TQ2 := hid tq2
  have VQ2 := hid vq2
  clear hq2 tq2 vq2 hb5 HA HS
  go_wp2_with fail
  refine HC.out.mono ?_
  rintro e w6 ⟨r2, rs2, rfl, hr2, tr2, vr2, hb6⟩
  have B6 := hid ((HB.out.trans (B5.out.mono HB.out.size)).trans (hb6.mono (Nat.le_trans HB.out.size B5.out.size)))
  obtain ⟨c70, c71⟩ := X1.out.keep B6.out
  obtain ⟨c80, c81⟩ := X0.out.keep B6.out
  obtain ⟨p2, n2, c2, rfl⟩ := hr2.slice
  have hv2 : val qs2 = val xs / val xs' + 1 := by rw [VQ2.out, VQ.out]; rfl
  have hF := signed_lim (k := k + 1) (!s') (L5.out.below hb6 (Nat.le_refl _)) TQ2.out (length_le_of_val TQ2.out _ (by rw [hv2]; exact HQ.out))
  rw [hv2] at hF
  have HF := hid hF
  rw [VR.out] at vr2
  have HWR := hid (show Whl w6 (.agg #[.bool false, .slice p2 n2 c2]) ((val xs' - val xs % val xs' : Nat) : Int) l from ⟨false, _, rs2, rfl, hr2, tr2, length_le_of_val tr2 _ (by rw [vr2]; exact HR.out), fun e => by simp at e, by rw [vr2]; rfl⟩)
  clear hr2 tr2 vr2 hb6 hF hv2 HC
  go_wp2_with fail
  refine HF.out.mono ?_
  rintro e w7 ⟨v5, rfl, hv5, hb5⟩
  obtain ⟨s5, p5, n5, c5, rfl⟩ := hv5.opened
  have HWR5 := hid (HWR.out.on hb5)
  replace hb5 := B6.out.trans (hb5.mono B6.out.size)
  have x2' := X2.out.below hb5 X2.out.lt
  have x3' := X3.out.below hb5 X3.out.lt
  obtain ⟨⟨q0, g0, q1, g1⟩, q2, g2, q3, g3⟩ := x2'.stores2 x3'
  have HL := hid (x2'.last2 x3' (BW.out.trans (hb5.mono (by rw [SZ.out]; omega))) (by omega) s5 false p5 p2 n5 n2 c5 c2)
  have HV5 := hid hv5
  clear hv5 hb5 x2' x3'
  go_wp2_with fail
  obtain ⟨r1, r2, r3, r4⟩ := HL.out
  refine bodyPost_ret (res_two rfl rfl rfl rfl r1 r2) rfl ?_
  exact ⟨_, _, rfl, r4 HV5.out, r4 HWR5.out, r3⟩

theorem div_whl {w : World} {v u : Value} {z y : Int} {k l : Nat} (h : Whl w v z k) (h' : Whl w u y l) (hy : y ≠ 0) (hk : k ≤ 549755813888) (hl : l ≤ 549755813888) :
    Calls Try.prog 56 #[v, u] w fun e w' => ∃ v u, e = .returned (.tuple #[v, u, .nilIface]) ∧ Whl w' v (z / y) (k + 1) ∧ Whl w' u (z % y) l ∧ Below w.heap.size w w' := by
  obtain ⟨s, sv, xs, rfl, hl1, ht, hk1, hs, rfl⟩ := h
  obtain ⟨s', sv', xs', rfl, hl1', ht', hk1', hs', rfl⟩ := h'
  have h0 : 0 < val xs' := by
    apply Nat.pos_of_ne_zero
    intro e
    rw [e] at hy
    cases s' <;> simp [zof] at hy
  by_cases he : s = false ∨ val xs % val xs' = 0
  · exact div_even hl1 hk1 hl1' hk1' h0 he hs hk hl
  · have hst : s = true := by
      cases s
      · exact absurd (.inl rfl) he
      · rfl
    subst hst
    exact div_odd hl1 hk1 hl1' hk1' h0 (fun e => he (.inr e)) (hs rfl) hk hl

end Go.Proofs.Ytokojbgpboccnaa

/-
  RECORDS IN MEMORY: slices of Integers.
-/
namespace Go.Proofs.Ytokojbgpboccnaa
open Go.RowKit
open Num
set_option linter.unusedVariables false
set_option maxRecDepth 100000
set_option linter.unusedSimpArgs false
def zat (vs : List Zr) (i : Nat) : Zr := vs[i]?.getD (false, none, 0, 0)
def flz (vs : List Zr) : Array Value := (vs.map zcs).flatten.toArray
theorem zcs_len (vs : List Zr) : ∀ r ∈ vs.map zcs, r.length = 2 := by
  intro r hr
  obtain ⟨x, _, rfl⟩ := List.mem_map.1 hr
  rfl
theorem flz_get (vs : List Zr) (i : Nat) (h : i < vs.length) : (flz vs)[i * 2]? = some (.bool (zat vs i).1) ∧ (flz vs)[i * 2 + 1]? = some (.slice (zat vs i).2.1 (zat vs i).2.2.1 (zat vs i).2.2.2) := by
  have h0 := flat_get 2 (vs.map zcs) (zcs_len vs) i 0 (by simpa using h) (by omega)
  have h1 := flat_get 2 (vs.map zcs) (zcs_len vs) i 1 (by simpa using h) (by omega)
  simp only [Nat.add_zero] at h0
  constructor
  · rw [flz, List.getElem?_toArray, h0]; simp [zat, h, zcs]
  · rw [flz, List.getElem?_toArray, h1]; simp [zat, h, zcs]
theorem flz_set (vs : List Zr) (i : Nat) (h : i < vs.length) (r : Zr) : ((flz vs).setIfInBounds (i * 2) (.bool r.1)).setIfInBounds (i * 2 + 1) (.slice r.2.1 r.2.2.1 r.2.2.2) = flz (vs.set i r) := by
  unfold flz
  rw [List.setIfInBounds_toArray, List.setIfInBounds_toArray]
  have h0 := flat_set 2 (vs.map zcs) (zcs_len vs) i 0 (.bool r.1) (by simpa using h) (by omega)
  rw [Nat.add_zero] at h0
  rw [h0]
  have hl : ∀ x ∈ (vs.map zcs).set i (((vs.map zcs)[i]?.getD []).set 0 (.bool r.1)), x.length = 2 := by
    intro x hx
    rcases List.mem_or_eq_of_mem_set hx with hx | rfl
    · exact zcs_len vs x hx
    · simp [h, zcs]
  rw [flat_set 2 _ hl i 1 _ (by simpa using h) (by omega)]
  congr 2
  rw [List.set_set, List.map_set]
  congr 1
  simp [h, zcs]
/-- Block b holds these Integers, and may be written. -/
def Zrow (w : World) (b : Nat) (vs : List Zr) : Prop := w.heap[b]? = some (.cells (flz vs) 47 (0, 0))
theorem Zrow.lt {w : World} {b : Nat} {vs : List Zr} (h : Zrow w b vs) : b < w.heap.size := (Array.getElem?_eq_some_iff.1 h).1
theorem Zrow.free {w : World} {b : Nat} {vs : List Zr} (h : Zrow w b vs) (i : Nat) : w.frozen? ⟨b, i, none⟩ = false := by
  have : w.heap[b]? = some (.cells (flz vs) 47 (0, 0)) := h
  simp [World.frozen?, this]
theorem Zrow.cells {w : World} {b : Nat} {vs : List Zr} (h : Zrow w b vs) {i : Nat} (hi : i < vs.length) : w.cell? ⟨b, i * 2, none⟩ = some (.bool (zat vs i).1) ∧ w.cell? ⟨b, i * 2 + 1, none⟩ = some (.slice (zat vs i).2.1 (zat vs i).2.2.1 (zat vs i).2.2.2) := by
  have : w.heap[b]? = some (.cells (flz vs) 47 (0, 0)) := h
  obtain ⟨h0, h1⟩ := flz_get vs i hi
  constructor <;> simp [World.cell?, this, h0, h1]
theorem Zrow.below {w w' : World} {b K : Nat} {vs : List Zr} (h : Zrow w b vs) (hb : Below K w w') (hK : b < K) : Zrow w' b vs := (hb.block b hK).trans h
theorem Zrow.other {w : World} {b g : Nat} {vs : List Zr} (h : Zrow w b vs) (hne : b ≠ g) (i : Nat) (u : Value) : Zrow (w.setCell ⟨g, i, none⟩ u) b vs := by
  show (w.setCell ⟨g, i, none⟩ u).heap[b]? = _
  rw [Below.heap_setCell _ _ _ _ (by exact hne)]; exact h
theorem Zrow.put {w : World} {b : Nat} {vs : List Zr} (h : Zrow w b vs) {i : Nat} (hi : i < vs.length) (s : Bool) (p : Option Addr) (n c : Nat) : Zrow ((w.setCell ⟨b, i * 2, none⟩ (.bool s)).setCell ⟨b, i * 2 + 1, none⟩ (.slice p n c)) b (vs.set i (s, p, n, c)) := by
  have : w.heap[b]? = some (.cells (flz vs) 47 (0, 0)) := h
  show ((w.setCell ⟨b, i * 2, none⟩ (.bool s)).setCell ⟨b, i * 2 + 1, none⟩ (.slice p n c)).heap[b]? = _
  rw [← flz_set vs i hi (s, p, n, c)]
  simp only [World.setCell, Array.getElem?_modify, this]
  simp
theorem Zrow.noint {w : World} {b : Nat} {vs : List Zr} (h : Zrow w b vs) : NoInt w b := by
  intro cur T f e u hu
  have : w.heap[b]? = some (.cells (flz vs) 47 (0, 0)) := h
  rw [this] at e
  cases e
  obtain ⟨x, hx, hu⟩ := List.mem_flatten.1 (show u ∈ (vs.map zcs).flatten from hu)
  obtain ⟨r, _, rfl⟩ := List.mem_map.1 hx
  simp [zcs] at hu
  rcases hu with rfl | rfl
  · exact NI.bool _
  · exact NI.slc _ _ _
/-- What a walk needs to write one. -/
theorem Zrow.stores {w : World} {b : Nat} {vs : List Zr} (h : Zrow w b vs) {i : Nat} (hi : i < vs.length) :
    w.cell? ⟨b, i * 2, none⟩ = some (.bool (zat vs i).1) ∧ w.frozen? ⟨b, i * 2, none⟩ = false ∧ (∀ x, (w.setCell ⟨b, i * 2, none⟩ (.bool x)).cell? ⟨b, i * 2 + 1, none⟩ = some (.slice (zat vs i).2.1 (zat vs i).2.2.1 (zat vs i).2.2.2)) ∧ (∀ x, (w.setCell ⟨b, i * 2, none⟩ (.bool x)).frozen? ⟨b, i * 2 + 1, none⟩ = false) := by
  have hw : w.heap[b]? = some (.cells (flz vs) 47 (0, 0)) := h
  obtain ⟨h0, h1⟩ := flz_get vs i hi
  refine ⟨(h.cells hi).1, h.free _, fun x => ?_, fun x => ?_⟩
  · have : (w.setCell ⟨b, i * 2, none⟩ (.bool x)).heap[b]? = some (.cells ((flz vs).setIfInBounds (i * 2) (.bool x)) 47 (0, 0)) := by
      simp only [World.setCell, Array.getElem?_modify, hw]; simp
    simp [World.cell?, this, Array.getElem?_setIfInBounds, h1]
  · have : (w.setCell ⟨b, i * 2, none⟩ (.bool x)).heap[b]? = some (.cells ((flz vs).setIfInBounds (i * 2) (.bool x)) 47 (0, 0)) := by
      simp only [World.setCell, Array.getElem?_modify, hw]; simp
    simp [World.frozen?, this]
theorem Whl.grown {w w' : World} {v : Value} {z : Int} {k g : Nat} (h : Whl w v z k) (hn : NoInt w g) (hg : w.grownBy w' (some g)) : Whl w' v z k := by
  obtain ⟨s, sv, xs, h1, h2, h3⟩ := h
  exact ⟨s, sv, xs, h1, h2.grown hn hg, h3⟩
end Go.Proofs.Ytokojbgpboccnaa

/-
  PACKAGE whole: TEXTS: Parse, read.
-/
namespace Go.Proofs.Ytokojbgpboccnaa
open Go.RowKit
open Num
set_option linter.unusedVariables false
set_option maxRecDepth 100000
set_option linter.unusedSimpArgs false

theorem extract_one (s : ByteArray) : (s.extract 0 1).toList = s.data.toList.take 1 := by
  rw [ByteArray.toList_eq, ByteArray.data_extract, Array.toList_extract, List.extract]
  simp

set_option maxHeartbeats 400000 in
theorem hasPrefix_one (s : ByteArray) (c : UInt8) (w : World) :
    Calls Try.prog 82 #[.string s, .string ⟨#[c]⟩] w fun e w' => e = .returned (.bool (s.data.toList.head? == some c)) ∧ w = w' := by
  have h1 : (⟨#[c]⟩ : ByteArray).size = 1 := rfl
  have hl : s.data.toList.length = s.size := rfl
  by_cases h0 : (1 : Int) ≤ (s.size : Int)
  · have hx : ((s.extract 0 1).toList == [c]) = (s.data.toList.head? == some c) := by
      rw [extract_one]
      cases hd : s.data.toList with
      | nil => rw [hd] at hl; simp at hl; omega
      | cons a l => simp
    have HX := hid hx
    clear hx hl
    go_enter Try.func82, Try.ntmps82
    go_wp2_with fail
    go_ret
    exact ⟨ret_bool HX.out, rfl⟩
  · have h0' : (s.size : Int) < 1 := by omega
    have hx : (s.data.toList.head? == some c) = false := by
      cases hd : s.data.toList with
      | nil => rfl
      | cons a l => rw [hd] at hl; simp at hl; omega
    have HX := hid hx
    clear hx hl h0
    go_enter Try.func82, Try.ntmps82
    go_wp2_with fail
    go_ret
    exact ⟨ret_bool HX.out.symm, rfl⟩

/-- What is left of a text behind a sign, if it has one. -/
def cutZ (c : UInt8) (s : ByteArray) : ByteArray := if s.data.toList.head? == some c then s.extract 1 s.size else s

set_option maxHeartbeats 400000 in
theorem cut_lite (s : ByteArray) (c : UInt8) (w : World) (hs : s.size ≤ maxLen) :
    Calls Try.prog 68 #[.string s, .string ⟨#[c]⟩] w fun e w' => e = .returned (.tuple #[.string (cutZ c s), .bool (s.data.toList.head? == some c)]) ∧ w = w' := by
  have h1 : (⟨#[c]⟩ : ByteArray).size = 1 := rfl
  have hl : s.data.toList.length = s.size := rfl
  unfold maxLen at hs
  have HP := hid (hasPrefix_one s c w)
  cases hb : (s.data.toList.head? == some c)
  · have HC := hid (show cutZ c s = s by rw [cutZ, hb]; rfl)
    rw [hb] at HP
    clear hb hl
    go_enter Try.func68, Try.ntmps68
    go_wp2_with fail
    refine HP.out.mono ?_
    rintro e w' ⟨rfl, rfl⟩
    go_wp2_with fail
    go_ret2
    rw [HC.out]
    exact ⟨rfl, rfl⟩
  · have HC := hid (show cutZ c s = s.extract 1 s.size by rw [cutZ, hb]; rfl)
    have h2 : (1 : Int) ≤ (s.size : Int) := by
      cases hd : s.data.toList with
      | nil => rw [hd] at hb; simp at hb
      | cons a l => rw [hd] at hl; simp at hl; omega
    rw [hb] at HP
    clear hb hl
    go_enter Try.func68, Try.ntmps68
    go_wp2_with fail
    refine HP.out.mono ?_
    rintro e w' ⟨rfl, rfl⟩
    go_wp2_with fail
    go_ret2
    rw [HC.out]
    exact ⟨rfl, rfl⟩

set_option maxHeartbeats 400000 in
theorem cut_prefix (s : ByteArray) (c : UInt8) (w : World) (hs : s.size ≤ maxLen) :
    Calls Try.prog 49 #[.string s, .string ⟨#[c]⟩] w fun e w' => e = .returned (.tuple #[.string (cutZ c s), .bool (s.data.toList.head? == some c)]) ∧ w = w' := by
  have HP := hid (cut_lite s c w hs)
  clear hs
  go_enter Try.func49, Try.ntmps49
  go_wp2_with fail
  refine HP.out.mono ?_
  rintro e w' ⟨rfl, rfl⟩
  go_wp2_with fail
  go_ret2
  exact ⟨rfl, rfl⟩

/-- Is a text one of an integer? -/
def isWhl (l : List UInt8) : Bool := if l.head? == some 45 then isNat l.tail && (dval l.tail != 0) else isNat l
/-- The integer of a text. -/
def whlOf (l : List UInt8) : Int := if l.head? == some 45 then -(dval l.tail : Int) else dval l

theorem tail_cut {s : ByteArray} (h : (s.data.toList.head? == some 45) = true) : (cutZ 45 s).data.toList = s.data.toList.tail ∧ (cutZ 45 s).size + 1 = s.size := by
  rw [cutZ, h]
  refine ⟨by rw [if_pos rfl, extract_end, List.drop_one], ?_⟩
  rw [if_pos rfl, size_extract_end]
  have hl : s.data.toList.length = s.size := rfl
  cases hd : s.data.toList with
  | nil => rw [hd] at h; simp at h
  | cons a l => rw [hd] at hl; simp at hl; omega
theorem same_cut {s : ByteArray} (h : (s.data.toList.head? == some 45) = false) : cutZ 45 s = s := by
  rw [cutZ, h]; rfl

theorem res_cell_tmp {fn : Func} {t t' : Tmp} {tmps : Array Value} {w : World} {g : Nat} {s : Bool} {sv u : Value} (hf : fn.results = #[.cell t 47, .tmp t']) (ht : tmps.getD t undef = .pointer (some ⟨g, 0, none⟩)) (hu : tmps.getD t' undef = u) (h2 : Box w g s sv) :
    (results fn tmps).run Try.prog w = .ok (.tuple #[.agg #[.bool s, sv], u]) w := by
  have h1 := at_addr (P := Try.prog) (w := w) ht
  have h3 := load_whl h2
  simp only [Array.getD_eq_getD_getElem?] at h1 hu
  simp [results, hf, Sem.run_bind, h1, h3, hu]

set_option maxHeartbeats 1000000 in
theorem zparse_no (s : ByteArray) (w : World) (hs : s.size ≤ 1099511627776) (hn : isWhl s.data.toList = false) :
    Calls Try.prog 33 #[.string s] w fun e w' => e = .returned (.tuple #[.agg #[.bool false, .slice none 0 0], errno 1]) ∧ Below w.heap.size w w' := by
  obtain ⟨x0, bw, sz⟩ := boxes1 w false (.slice none 0 0) ⟨_, _, _, rfl⟩
  have HC := hid (fun w => cut_prefix s 45 w (by unfold maxLen; omega))
  have X0 := hid x0
  have BW := hid bw
  cases hb : (s.data.toList.head? == some 45)
  · have hc := same_cut hb
    have h2 : isNat s.data.toList = false := by
      rw [isWhl, hb] at hn; simpa using hn
    have HP := hid (fun w => parse_no s w (by unfold maxLen; omega) h2)
    rw [hc, hb] at HC
    clear hb hc h2 hn x0 bw sz
    go_enter Try.func33, Try.ntmps33
    go_wp2_with fail
    refine (HC.out _).mono ?_
    rintro e w1 ⟨rfl, rfl⟩
    go_wp2_with fail
    refine (HP.out _).mono ?_
    rintro e w1 ⟨rfl, rfl⟩
    go_wp2_with fail
    refine bodyPost_ret (res_cell_tmp rfl rfl rfl X0.out) rfl ?_
    exact ⟨rfl, BW.out⟩
  · obtain ⟨hc1, hc2⟩ := tail_cut hb
    rw [hb] at HC
    by_cases h2 : isNat s.data.toList.tail = true
    · have h3 : dval s.data.toList.tail = 0 := by
        rw [isWhl, hb] at hn
        simpa [h2] using hn
      have HP := hid (fun w => parse_trim (cutZ 45 s) w (by omega) (by rw [hc1]; exact h2))
      have H3 := hid (show dval (cutZ 45 s).data.toList = 0 by rw [hc1]; exact h3)
      clear hb hc1 hc2 h2 hn h3 x0 bw sz
      go_enter Try.func33, Try.ntmps33
      go_wp2_with fail
      refine (HC.out _).mono ?_
      rintro e w1 ⟨rfl, rfl⟩
      go_wp2_with fail
      refine (HP.out _).mono ?_
      rintro e w1 ⟨v, xs, rfl, hO, hv, hl, ht, hb⟩
      have h4 : xs = [] := ht.zero_iff.1 (by rw [hv, H3.out])
      subst h4
      obtain ⟨p, c, rfl, _⟩ := lim_parts hO.lim
      have x0' := X0.out.below hb X0.out.lt
      obtain ⟨c0, f0, c1, f1⟩ := x0'.stores
      have X1 := hid x0'
      have B1 := hid (BW.out.trans (hb.mono BW.out.size))
      clear hO hv hl ht hb x0' HP
      go_wp2_with fail
      refine bodyPost_ret (res_cell_tmp rfl rfl rfl ((X1.out.set0 _).set1 ⟨_, _, _, rfl⟩)) rfl ?_
      exact ⟨rfl, (X1.out.last B1.out (Nat.le_refl _) false none 0 0).2.1⟩
    · have h2' : isNat (cutZ 45 s).data.toList = false := by rw [hc1]; simpa using h2
      have HP := hid (fun w => parse_no (cutZ 45 s) w (by unfold maxLen; omega) h2')
      clear hb hc1 hc2 h2 hn h2' x0 bw sz
      go_enter Try.func33, Try.ntmps33
      go_wp2_with fail
      refine (HC.out _).mono ?_
      rintro e w1 ⟨rfl, rfl⟩
      go_wp2_with fail
      refine (HP.out _).mono ?_
      rintro e w1 ⟨rfl, rfl⟩
      go_wp2_with fail
      refine bodyPost_ret (res_cell_tmp rfl rfl rfl X0.out) rfl ?_
      exact ⟨rfl, BW.out⟩

set_option maxHeartbeats 1000000 in
theorem zparse_yes (s : ByteArray) (w : World) (hs : s.size ≤ 1099511627776) (hn : isWhl s.data.toList = true) :
    Calls Try.prog 33 #[.string s] w fun e w' => ∃ v, e = .returned (.tuple #[v, .nilIface]) ∧ Whl w' v (whlOf s.data.toList) s.size ∧ Below w.heap.size w w' := by
  obtain ⟨x0, bw, sz⟩ := boxes1 w false (.slice none 0 0) ⟨_, _, _, rfl⟩
  have HC := hid (fun w => cut_prefix s 45 w (by unfold maxLen; omega))
  have X0 := hid x0
  have BW := hid bw
  cases hb : (s.data.toList.head? == some 45)
  · have hc := same_cut hb
    have h2 : isNat s.data.toList = true := by
      rw [isWhl, hb] at hn; simpa using hn
    have HP := hid (fun w => parse_trim s w hs h2)
    have HW := hid (show whlOf s.data.toList = (dval s.data.toList : Int) by rw [whlOf, hb]; rfl)
    rw [hc, hb] at HC
    clear hb hc h2 hn x0 bw sz
    go_enter Try.func33, Try.ntmps33
    go_wp2_with fail
    refine (HC.out _).mono ?_
    rintro e w1 ⟨rfl, rfl⟩
    go_wp2_with fail
    refine (HP.out _).mono ?_
    rintro e w1 ⟨v, xs, rfl, hO, hv, hl, ht, hb⟩
    obtain ⟨p, n, c, rfl⟩ := hO.lim.slice
    have x0' := X0.out.below hb X0.out.lt
    obtain ⟨c0, f0, c1, f1⟩ := x0'.stores
    have X1 := hid x0'
    have B1 := hid (BW.out.trans (hb.mono BW.out.size))
    have HV := hid (show Whl w1 (.agg #[.bool false, .slice p n c]) (whlOf s.data.toList) s.size from ⟨false, _, xs, rfl, hO.lim, ht, hl, fun e => by simp at e, by rw [HW.out, hv]; rfl⟩)
    clear hO hv hl ht hb x0' HP
    go_wp2_with fail
    obtain ⟨r1, r2, r3⟩ := X1.out.last B1.out (Nat.le_refl _) false p n c
    refine bodyPost_ret (res_cell_tmp rfl rfl rfl r1) rfl ?_
    exact ⟨_, rfl, r3 HV.out, r2⟩
  · obtain ⟨hc1, hc2⟩ := tail_cut hb
    rw [hb] at HC
    have h2 : isNat s.data.toList.tail = true ∧ dval s.data.toList.tail ≠ 0 := by
      rw [isWhl, hb] at hn
      simpa using hn
    have HP := hid (fun w => parse_trim (cutZ 45 s) w (by omega) (by rw [hc1]; exact h2.1))
    have H3 := hid (show dval (cutZ 45 s).data.toList ≠ 0 by rw [hc1]; exact h2.2)
    have HW := hid (show whlOf s.data.toList = -(dval (cutZ 45 s).data.toList : Int) by rw [hc1, whlOf, hb]; rfl)
    have H4 := hid hc2
    clear hb hc1 hc2 h2 hn x0 bw sz
    go_enter Try.func33, Try.ntmps33
    go_wp2_with fail
    refine (HC.out _).mono ?_
    rintro e w1 ⟨rfl, rfl⟩
    go_wp2_with fail
    refine (HP.out _).mono ?_
    rintro e w1 ⟨v, xs, rfl, hO, hv, hl, ht, hb⟩
    have hn0 : ∃ n, xs.length = n ∧ (n : Int) ≠ 0 := by
      refine ⟨_, rfl, ?_⟩
      have h1 := H3.out
      rw [← hv] at h1
      cases xs with
      | nil => simp [val] at h1
      | cons => simp; omega
    obtain ⟨n, hn, hn0⟩ := hn0
    obtain ⟨p, c, rfl, _⟩ := lim_parts hO.lim
    rw [hn] at *
    have x0' := X0.out.below hb X0.out.lt
    obtain ⟨c0, f0, c1, f1⟩ := x0'.stores
    have X1 := hid x0'
    have B1 := hid (BW.out.trans (hb.mono BW.out.size))
    have HV := hid (show Whl w1 (.agg #[.bool true, .slice p n c]) (whlOf s.data.toList) s.size from ⟨true, _, xs, rfl, hO.lim, ht, by have := H4.out; omega, fun e => by rw [hv]; exact H3.out, by rw [HW.out, hv]; rfl⟩)
    clear hO hv hl ht hb x0' HP hn
    go_wp2_with fail
    obtain ⟨r1, r2, r3⟩ := X1.out.last B1.out (Nat.le_refl _) true p n c
    refine bodyPost_ret (res_cell_tmp rfl rfl rfl r1) rfl ?_
    exact ⟨_, rfl, r3 HV.out, r2⟩

end Go.Proofs.Ytokojbgpboccnaa
