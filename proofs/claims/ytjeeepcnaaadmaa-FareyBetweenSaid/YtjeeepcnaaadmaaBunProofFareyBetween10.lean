import Derived.Test.YtjeeepcnaaadmaaBunProofFareyBetween4
import Derived.Test.YtjeeepcnaaadmaaBunProofFareyBetween9
/-
  RECORDS IN MEMORY: slices of Integers.
-/
namespace Go.Proofs.Ytjeeepcnaaadmaa
open Go.RowKit
open Num
set_option linter.unusedVariables false
set_option maxRecDepth 100000
set_option linter.unusedSimpArgs false

theorem flat_get (m : Nat) : ∀ (L : List (List Value)), (∀ r ∈ L, r.length = m) → ∀ i j, i < L.length → j < m → L.flatten[i * m + j]? = (L[i]?.getD [])[j]? := by
  intro L
  induction L with
  | nil => intro _ i j h; simp at h
  | cons r L ih =>
    intro h i j hi hj
    have hr := h r (by simp)
    rw [List.flatten_cons]
    cases i with
    | zero => rw [Nat.zero_mul, Nat.zero_add, List.getElem?_append_left (by omega)]; simp
    | succ i =>
      rw [Nat.succ_mul, List.getElem?_append_right (by omega), hr, show i * m + m + j - m = i * m + j by omega]
      rw [ih (fun x hx => h x (by simp [hx])) i j (by simpa using hi) hj]
      simp
theorem flat_set (m : Nat) : ∀ (L : List (List Value)), (∀ r ∈ L, r.length = m) → ∀ i j u, i < L.length → j < m → L.flatten.set (i * m + j) u = (L.set i ((L[i]?.getD []).set j u)).flatten := by
  intro L
  induction L with
  | nil => intro _ i j u h; simp at h
  | cons r L ih =>
    intro h i j u hi hj
    have hr := h r (by simp)
    rw [List.flatten_cons]
    cases i with
    | zero => rw [Nat.zero_mul, Nat.zero_add, List.set_append_left _ _ (by omega)]; simp
    | succ i =>
      rw [Nat.succ_mul, List.set_append_right _ _ (by omega), hr, show i * m + m + j - m = i * m + j by omega]
      rw [ih (fun x hx => h x (by simp [hx])) i j u (by simpa using hi) hj]
      simp
theorem flat_len (m : Nat) : ∀ (L : List (List Value)), (∀ r ∈ L, r.length = m) → L.flatten.length = L.length * m := by
  intro L
  induction L with
  | nil => intro _; simp
  | cons r L ih =>
    intro h
    rw [List.flatten_cons, List.length_append, ih (fun x hx => h x (by simp [hx])), h r (by simp), List.length_cons, Nat.succ_mul]
    omega

/-- An Integer's two cells. -/
abbrev Zr := Bool × Option Addr × Nat × Nat
def zcs (r : Zr) : List Value := [.bool r.1, .slice r.2.1 r.2.2.1 r.2.2.2]
def zag (r : Zr) : Value := .agg #[.bool r.1, .slice r.2.1 r.2.2.1 r.2.2.2]
def zat (vs : List Zr) (i : Nat) : Zr := vs[i]?.getD (false, none, 0, 0)
theorem zat_set_self (vs : List Zr) (i : Nat) (r : Zr) (h : i < vs.length) : zat (vs.set i r) i = r := by simp [zat, h]
theorem zat_set_ne (vs : List Zr) (i j : Nat) (r : Zr) (h : i ≠ j) : zat (vs.set i r) j = zat vs j := by simp [zat, List.getElem?_set_ne h]
def flz (vs : List Zr) : Array Value := (vs.map zcs).flatten.toArray
theorem zcs_len (vs : List Zr) : ∀ r ∈ vs.map zcs, r.length = 2 := by
  intro r hr
  obtain ⟨x, _, rfl⟩ := List.mem_map.1 hr
  rfl
theorem flz_get (vs : List Zr) (i : Nat) (h : i < vs.length) : (flz vs)[i * 2]? = some (.bool (zat vs i).1) ∧ (flz vs)[i * 2 + 1]? = some (.slice (zat vs i).2.1 (zat vs i).2.2.1 (zat vs i).2.2.2) := by
  have h0 := flat_get 2 (vs.map zcs) (zcs_len vs) i 0 (by simpa using h) (by omega)
  have h1 := flat_get 2 (vs.map zcs) (zcs_len vs) i 1 (by simpa using h) (by omega)
  simp only [Nat.add_zero] at h0
  constructor
  · rw [flz, List.getElem?_toArray, h0]; simp [zat, h, zcs]
  · rw [flz, List.getElem?_toArray, h1]; simp [zat, h, zcs]
theorem flz_set (vs : List Zr) (i : Nat) (h : i < vs.length) (r : Zr) : ((flz vs).setIfInBounds (i * 2) (.bool r.1)).setIfInBounds (i * 2 + 1) (.slice r.2.1 r.2.2.1 r.2.2.2) = flz (vs.set i r) := by
  unfold flz
  rw [List.setIfInBounds_toArray, List.setIfInBounds_toArray]
  have h0 := flat_set 2 (vs.map zcs) (zcs_len vs) i 0 (.bool r.1) (by simpa using h) (by omega)
  rw [Nat.add_zero] at h0
  rw [h0]
  have hl : ∀ x ∈ (vs.map zcs).set i (((vs.map zcs)[i]?.getD []).set 0 (.bool r.1)), x.length = 2 := by
    intro x hx
    rcases List.mem_or_eq_of_mem_set hx with hx | rfl
    · exact zcs_len vs x hx
    · simp [h, zcs]
  rw [flat_set 2 _ hl i 1 _ (by simpa using h) (by omega)]
  congr 2
  rw [List.set_set, List.map_set]
  congr 1
  simp [h, zcs]
/-- Block b holds these Integers, and may be written. -/
def Zrow (w : World) (b : Nat) (vs : List Zr) : Prop := w.heap[b]? = some (.cells (flz vs) 49 (0, 0))
theorem Zrow.lt {w : World} {b : Nat} {vs : List Zr} (h : Zrow w b vs) : b < w.heap.size := (Array.getElem?_eq_some_iff.1 h).1
theorem Zrow.free {w : World} {b : Nat} {vs : List Zr} (h : Zrow w b vs) (i : Nat) : w.frozen? ⟨b, i, none⟩ = false := by
  have : w.heap[b]? = some (.cells (flz vs) 49 (0, 0)) := h
  simp [World.frozen?, this]
theorem Zrow.cells {w : World} {b : Nat} {vs : List Zr} (h : Zrow w b vs) {i : Nat} (hi : i < vs.length) : w.cell? ⟨b, i * 2, none⟩ = some (.bool (zat vs i).1) ∧ w.cell? ⟨b, i * 2 + 1, none⟩ = some (.slice (zat vs i).2.1 (zat vs i).2.2.1 (zat vs i).2.2.2) := by
  have : w.heap[b]? = some (.cells (flz vs) 49 (0, 0)) := h
  obtain ⟨h0, h1⟩ := flz_get vs i hi
  constructor <;> simp [World.cell?, this, h0, h1]
theorem Zrow.below {w w' : World} {b K : Nat} {vs : List Zr} (h : Zrow w b vs) (hb : Below K w w') (hK : b < K) : Zrow w' b vs := (hb.block b hK).trans h
theorem Zrow.other {w : World} {b g : Nat} {vs : List Zr} (h : Zrow w b vs) (hne : b ≠ g) (i : Nat) (u : Value) : Zrow (w.setCell ⟨g, i, none⟩ u) b vs := by
  show (w.setCell ⟨g, i, none⟩ u).heap[b]? = _
  rw [Below.heap_setCell _ _ _ _ (by exact hne)]; exact h
theorem Zrow.put {w : World} {b : Nat} {vs : List Zr} (h : Zrow w b vs) {i : Nat} (hi : i < vs.length) (s : Bool) (p : Option Addr) (n c : Nat) : Zrow ((w.setCell ⟨b, i * 2, none⟩ (.bool s)).setCell ⟨b, i * 2 + 1, none⟩ (.slice p n c)) b (vs.set i (s, p, n, c)) := by
  have : w.heap[b]? = some (.cells (flz vs) 49 (0, 0)) := h
  show ((w.setCell ⟨b, i * 2, none⟩ (.bool s)).setCell ⟨b, i * 2 + 1, none⟩ (.slice p n c)).heap[b]? = _
  rw [← flz_set vs i hi (s, p, n, c)]
  simp only [World.setCell, Array.getElem?_modify, this]
  simp
theorem Zrow.noint {w : World} {b : Nat} {vs : List Zr} (h : Zrow w b vs) : NoInt w b := by
  intro cur T f e u hu
  have : w.heap[b]? = some (.cells (flz vs) 49 (0, 0)) := h
  rw [this] at e
  cases e
  obtain ⟨x, hx, hu⟩ := List.mem_flatten.1 (show u ∈ (vs.map zcs).flatten from hu)
  obtain ⟨r, _, rfl⟩ := List.mem_map.1 hx
  simp [zcs] at hu
  rcases hu with rfl | rfl
  · exact NI.bool _
  · exact NI.slc _ _ _
/-- What a walk needs to write one. -/
theorem Zrow.stores {w : World} {b : Nat} {vs : List Zr} (h : Zrow w b vs) {i : Nat} (hi : i < vs.length) :
    w.cell? ⟨b, i * 2, none⟩ = some (.bool (zat vs i).1) ∧ w.frozen? ⟨b, i * 2, none⟩ = false ∧ (∀ x, (w.setCell ⟨b, i * 2, none⟩ (.bool x)).cell? ⟨b, i * 2 + 1, none⟩ = some (.slice (zat vs i).2.1 (zat vs i).2.2.1 (zat vs i).2.2.2)) ∧ (∀ x, (w.setCell ⟨b, i * 2, none⟩ (.bool x)).frozen? ⟨b, i * 2 + 1, none⟩ = false) := by
  have hw : w.heap[b]? = some (.cells (flz vs) 49 (0, 0)) := h
  obtain ⟨h0, h1⟩ := flz_get vs i hi
  refine ⟨(h.cells hi).1, h.free _, fun x => ?_, fun x => ?_⟩
  · have : (w.setCell ⟨b, i * 2, none⟩ (.bool x)).heap[b]? = some (.cells ((flz vs).setIfInBounds (i * 2) (.bool x)) 49 (0, 0)) := by
      simp only [World.setCell, Array.getElem?_modify, hw]; simp
    simp [World.cell?, this, Array.getElem?_setIfInBounds, h1]
  · have : (w.setCell ⟨b, i * 2, none⟩ (.bool x)).heap[b]? = some (.cells ((flz vs).setIfInBounds (i * 2) (.bool x)) 49 (0, 0)) := by
      simp only [World.setCell, Array.getElem?_modify, hw]; simp
    simp [World.frozen?, this]
theorem Whl.grown {w w' : World} {v : Value} {z : Int} {k g : Nat} (h : Whl w v z k) (hn : NoInt w g) (hg : w.grownBy w' (some g)) : Whl w' v z k := by
  obtain ⟨s, sv, xs, h1, h2, h3⟩ := h
  exact ⟨s, sv, xs, h1, h2.grown hn hg, h3⟩
theorem grown_set2 {w : World} {b : Nat} (i : Nat) (j : Nat) (a c : Value) : w.grownBy ((w.setCell ⟨b, i, none⟩ a).setCell ⟨b, j, none⟩ c) (some b) :=
  ⟨rfl, rfl, rfl, by simp [World.setCell], fun k _ hk => by
    rw [Below.heap_setCell _ _ _ _ (by intro e; exact hk (congrArg some e)), Below.heap_setCell _ _ _ _ (by intro e; exact hk (congrArg some e))]⟩

theorem infoZ : (Try.prog.info? 49).map (fun i => (i.zero, i.size, i.bytes)) = some (some (.agg #[.bool false, .slice none 0 0]), 2, 32) := by kernel_rfl
theorem made_flz (n : Nat) : madeCells (Value.agg #[.bool false, .slice none 0 0]).cells (n * 2) = flz (List.replicate n (false, none, 0, 0)) := by
  have hc : (Value.agg #[.bool false, .slice none 0 0]).cells = #[.bool false, .slice none 0 0] := by simp [Value.cells]
  rw [hc]
  apply Array.ext_getElem?
  intro k
  by_cases hk : k < n * 2
  · have hd := Nat.div_add_mod k 2
    have hm := Nat.mod_lt k (show 0 < 2 by omega)
    obtain ⟨g0, g1⟩ := flz_get (List.replicate n (false, none, 0, 0)) (k / 2) (by simp; omega)
    have hz : zat (List.replicate n (false, none, 0, 0)) (k / 2) = (false, none, 0, 0) := by
      unfold zat
      rw [List.getElem?_replicate]
      split <;> rfl
    rw [hz] at g0 g1
    have hl : (madeCells #[Value.bool false, .slice none 0 0] (n * 2))[k]? = some (#[Value.bool false, .slice none 0 0][k % 2]!) := by simp [madeCells, hk]
    rw [hl]
    rcases (show k % 2 = 0 ∨ k % 2 = 1 by omega) with h | h
    · rw [show k / 2 * 2 = k by omega] at g0
      rw [g0, h]; rfl
    · rw [show k / 2 * 2 + 1 = k by omega] at g1
      rw [g1, h]; rfl
  · rw [Array.getElem?_eq_none (by simp [madeCells]; omega), Array.getElem?_eq_none]
    simp only [flz, List.size_toArray]
    rw [flat_len 2 _ (zcs_len _)]
    simp
    omega
/-- 'make([]Integer, n)'. -/
theorem wpList_make_zs (w : World) {ops : Array Oper} {rest : List Oper} {o : Oper} {a : Act} {Q : Exit → Act → World → Prop}
    (hg : o.guard = none) (l c : Operand) (t : TypeId) (hop : o.op = Op.makeSlice t l c) (h1 : Try.prog.underlying t = some (.slice 49))
    (n : Nat) (hl : a.eval l = .int .i64 n) (hc : a.eval c = .int .i64 n) (hb : n ≤ 4398046511104)
    (hK : ∀ w', Zrow w' w.heap.size (List.replicate n (false, none, 0, 0)) → Below w.heap.size w w' → w'.heap.size = w.heap.size + 1 → wpList Try.prog ops Q rest (a.put o.dst (.slice (some ⟨w.heap.size, 0, none⟩) n n)) w') :
    wpList Try.prog ops Q (o :: rest) a w := by
  obtain ⟨i, hi, hz0, hz1, hz2⟩ := info_parts infoZ
  refine wpList_plain hg fun K hK' => ?_
  have hr := run_make (P := Try.prog) w t _ i _ h1 hi hz0 .i64 .i64 (n : Int) (n : Int) (by omega) (by omega) (by rw [hz2]; omega) (by omega)
  simp only [Int.toNat_natCast] at hr
  unfold Oper.wp
  simp [execOp, hop, hl, hc, hr, Result.andThen]
  rw [hz1, made_flz]
  exact hK' _ _ (hK _ (by show (w.heap.push _)[w.heap.size]? = _; simp) ((Below.refl _ _).alloc (Nat.le_refl _) _) (by simp))

end Go.Proofs.Ytjeeepcnaaadmaa
