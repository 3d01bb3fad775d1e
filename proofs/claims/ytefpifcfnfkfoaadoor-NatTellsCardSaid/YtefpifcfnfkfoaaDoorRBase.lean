/-
  WHAT THE WALKS OF PACKAGE abacistref1 SHARE: slices of ints (four digits a place) in memory.
-/
import Derived.Test.YtefpifcfnfkfoaaDoorBase
import Derived.Test.YtefpifcfnfkfoaaDoorNum4
namespace Go.Proofs.YtefpifcfnfkfoaaDoor
open Go.RowKit
open Num (dg dg_lt dg_ge dg_zeros dg_take dg_drop dg_set_self dg_set_ne tl tlen tl_zero tl_skip tl_stop tl_le tlen_le trimL length_trimL tl_top drop_dg)
open Num4
set_option linter.unusedVariables false
set_option linter.unusedSimpArgs false

theorem infoInt : (Tryd.prog.info? 3).map (fun i => (i.zero, i.size, i.bytes)) = some (some (.int .i64 0), 1, 8) := by kernel_rfl

/-- A slice value reads as limbs. -/
def LimR (w : World) (v : Value) (xs : List Nat) : Prop :=
  Fits xs ∧ ∃ p c, v = .slice p xs.length c ∧ xs.length ≤ c ∧ c ≤ maxLen ∧
    ((p = none ∧ c = 0) ∨ ∃ b off, p = some ⟨b, off, none⟩ ∧ b < w.heap.size ∧ ∀ i, i < xs.length → w.cell? ⟨b, off + i, none⟩ = some (.int .i64 (dg xs i)))

theorem LimR.nil (w : World) : LimR w (.slice none 0 0) [] := ⟨Fits.nil, none, 0, rfl, by simp, by simp, .inl ⟨rfl, rfl⟩⟩

theorem LimR.below {w w' : World} {v : Value} {xs : List Nat} {K : Nat} (h : LimR w v xs) (hb : Below K w w') (hK : w.heap.size ≤ K) : LimR w' v xs := by
  obtain ⟨h1, p, c, h2, h3, h4, h5⟩ := h
  refine ⟨h1, p, c, h2, h3, h4, ?_⟩
  rcases h5 with h5 | ⟨b, off, h6, h7, h8⟩
  · exact .inl h5
  · refine .inr ⟨b, off, h6, Nat.lt_of_lt_of_le h7 hb.size, fun i hi => ?_⟩
    rw [hb.cell (by exact Nat.lt_of_lt_of_le h7 hK)]
    exact h8 i hi

/-! ### A block of limbs that is known whole -/
def cellsR (us : List Nat) : Array Value := (us.map fun n : Nat => Value.int .i64 (n : Int)).toArray
theorem size_cellsR (us : List Nat) : (cellsR us).size = us.length := by simp [cellsR]
theorem get_cellsR (us : List Nat) (i : Nat) (h : i < us.length) : (cellsR us)[i]? = some (.int .i64 (dg us i)) := by
  simp [cellsR, dg, h]
theorem set_cellsR (us : List Nat) (i x : Nat) : (cellsR us).setIfInBounds i (.int .i64 x) = cellsR (us.set i x) := by
  apply Array.ext_getElem?
  intro j
  simp only [cellsR, List.setIfInBounds_toArray, List.map_set]

/-- Block b holds the limbs us, and may be written. -/
def BlkR (w : World) (b : Nat) (us : List Nat) : Prop := w.heap[b]? = some (.cells (cellsR us) 3 (0, 0))
theorem BlkR.lt {w : World} {b : Nat} {us : List Nat} (h : BlkR w b us) : b < w.heap.size := (Array.getElem?_eq_some_iff.1 h).1
theorem BlkR.cell {w : World} {b : Nat} {us : List Nat} (h : BlkR w b us) {i : Nat} (hi : i < us.length) : w.cell? ⟨b, i, none⟩ = some (.int .i64 (dg us i)) := by
  have : w.heap[b]? = some (.cells (cellsR us) 3 (0, 0)) := h
  simp [World.cell?, this, get_cellsR us i hi]
theorem BlkR.free {w : World} {b : Nat} {us : List Nat} (h : BlkR w b us) (i : Nat) : w.frozen? ⟨b, i, none⟩ = false := by
  have : w.heap[b]? = some (.cells (cellsR us) 3 (0, 0)) := h
  simp [World.frozen?, this]
theorem BlkR.set {w : World} {b : Nat} {us : List Nat} (h : BlkR w b us) (i x : Nat) : BlkR (w.setCell ⟨b, i, none⟩ (.int .i64 x)) b (us.set i x) := by
  have h0 : w.heap[b]? = some (.cells (cellsR us) 3 (0, 0)) := h
  show (w.setCell ⟨b, i, none⟩ (.int .i64 x)).heap[b]? = _
  simp only [World.setCell, Array.getElem?_modify, h0]
  simp [set_cellsR]
theorem BlkR.set' {w : World} {b : Nat} {us : List Nat} (h : BlkR w b us) (i : Nat) (z : Int) (x : Nat) (hz : z = (x : Int)) : BlkR (w.setCell ⟨b, i, none⟩ (.int .i64 z)) b (us.set i x) := by
  subst hz; exact h.set i x
theorem BlkR.other {w : World} {b b2 : Nat} {us : List Nat} (h : BlkR w b us) (hne : b ≠ b2) (i : Nat) (v : Value) : BlkR (w.setCell ⟨b2, i, none⟩ v) b us := by
  show (w.setCell ⟨b2, i, none⟩ v).heap[b]? = _
  rw [Below.heap_setCell _ _ _ _ (by exact hne)]; exact h
theorem BlkR.below {w w' : World} {b K : Nat} {us : List Nat} (h : BlkR w b us) (hb : Below K w w') (hK : b < K) : BlkR w' b us := (hb.block b hK).trans h
theorem BlkR.block' {w w' : World} {b g : Nat} {us : List Nat} (h : BlkR w b us) (hg : w.grownBy w' (some g)) (hne : b ≠ g) : BlkR w' b us := (hg.block b h.lt (by simpa using hne)).trans h
theorem BlkR.drewN {w : World} {b : Nat} {us : List Nat} (h : BlkR w b us) (n : Nat) : BlkR (w.drewN n) b us := h
theorem BlkR.new (w : World) (us : List Nat) : BlkR (w.alloc (.cells (cellsR us) 3)) w.heap.size us := by
  show (w.heap.push _)[w.heap.size]? = _
  simp

/-- A slice over a part of such a block reads as that part. -/
theorem BlkR.lim {w : World} {b : Nat} {us : List Nat} (h : BlkR w b us) (hf : Fits us) (off n c : Nat) (hn : off + n ≤ us.length) (hc : n ≤ c) (hm : c ≤ maxLen) : LimR w (.slice (some ⟨b, off, none⟩) n c) ((us.drop off).take n) := by
  have hl : ((us.drop off).take n).length = n := by rw [List.length_take, List.length_drop]; omega
  refine ⟨(hf.drop _).take _, some ⟨b, off, none⟩, c, by rw [hl], by omega, hm, .inr ⟨b, off, rfl, h.lt, fun i hi => ?_⟩⟩
  rw [hl] at hi
  rw [dg_take hi, dg_drop]
  exact h.cell (by omega)

theorem made_cellsR (n : Nat) : madeCells (Value.int .i64 0).cells n = cellsR (List.replicate n 0) := by
  have h := toList_madeCells_one (.int .i64 0) n
  apply Array.ext'
  rw [show (Value.int .i64 0).cells = #[Value.int .i64 0] from rfl, h]
  simp [cellsR]

/-- 'make([]int, n)': a new block of n noughts. -/
theorem wpList_make_ints {P : Program} (w : World) {ops : Array Oper} {rest : List Oper} {o : Oper} {a : Act} {Q : Exit → Act → World → Prop}
    (hg : o.guard = none) (l c : Operand) (t : TypeId) (hop : o.op = Op.makeSlice t l c)
    (i : TypeInfo) (h1 : P.underlying t = some (.slice 3)) (h2 : P.info? 3 = some i) (h3 : i.zero = some (.int .i64 0)) (h4 : i.size = 1) (h5 : i.bytes = 8)
    (L C : Int) (n m : Nat) (hl : a.eval l = .int .i64 L) (hc : a.eval c = .int .i64 C) (hL : L = (n : Int)) (hC : C = (m : Int)) (hnm : n ≤ m) (hb : m ≤ 17592186044416)
    (hK : ∀ w', BlkR w' w.heap.size (List.replicate m 0) → Below w.heap.size w w' → w'.heap.size = w.heap.size + 1 → wpList P ops Q rest (a.put o.dst (.slice (some ⟨w.heap.size, 0, none⟩) n m)) w') :
    wpList P ops Q (o :: rest) a w := by
  refine wpList_plain hg fun K hK' => ?_
  subst hL hC
  have hr := run_make (P := P) w t _ i _ h1 h2 h3 .i64 .i64 (n : Int) (m : Int) (by omega) (by omega) (by rw [h5]; omega) (by omega)
  simp only [Int.toNat_natCast] at hr
  unfold Oper.wp
  simp [execOp, hop, hl, hc, hr, Result.andThen]
  rw [h4, Nat.mul_one, made_cellsR]
  exact hK' _ _ (hK _ (BlkR.new w _) ((Below.refl _ _).alloc (Nat.le_refl _) _) (by simp))

/-- A fact on a cell of a slice, where there is one. -/
theorem AddrR.at' {w : World} {p : Option Addr} {c n : Nat} {xs : List Nat} (ha : (p = none ∧ c = 0) ∨ ∃ b off, p = some ⟨b, off, none⟩ ∧ b < w.heap.size ∧ ∀ i, i < xs.length → w.cell? ⟨b, off + i, none⟩ = some (.int .i64 (dg xs i))) (hn : n = xs.length) (hc : n ≤ c) :
    ∀ k, k < n → ∃ b off, p = some ⟨b, off, none⟩ ∧ b < w.heap.size ∧ w.cell? ⟨b, off + k, none⟩ = some (.int .i64 (dg xs k)) := by
  intro k hk
  rcases ha with ⟨_, h⟩ | ⟨b, off, h1, h2, h3⟩
  · omega
  · exact ⟨b, off, h1, h2, h3 k (by omega)⟩

def AddrR (w : World) (p : Option Addr) (c : Nat) (xs : List Nat) : Prop :=
  (p = none ∧ c = 0) ∨ ∃ b off, p = some ⟨b, off, none⟩ ∧ b < w.heap.size ∧ ∀ i, i < xs.length → w.cell? ⟨b, off + i, none⟩ = some (.int .i64 (dg xs i))

theorem AddrR.take {w : World} {p : Option Addr} {c : Nat} {xs : List Nat} (h : AddrR w p c xs) (k : Nat) : AddrR w p c (xs.take k) := by
  rcases h with h | ⟨b, off, h1, h2, h3⟩
  · exact .inl h
  · refine .inr ⟨b, off, h1, h2, fun i hi => ?_⟩
    rw [List.length_take] at hi
    rw [dg_take (by omega)]
    exact h3 i (by omega)

theorem AddrR.below {w w' : World} {p : Option Addr} {c : Nat} {xs : List Nat} {K : Nat} (h : AddrR w p c xs) (hb : Below K w w') (hK : w.heap.size ≤ K) : AddrR w' p c xs := by
  rcases h with h5 | ⟨b, off, h6, h7, h8⟩
  · exact .inl h5
  · refine .inr ⟨b, off, h6, Nat.lt_of_lt_of_le h7 hb.size, fun i hi => ?_⟩
    rw [hb.cell (by exact Nat.lt_of_lt_of_le h7 hK)]
    exact h8 i hi

/-- Block b, of c cells of a kind, may be written and begins with these numbers. -/
def RowR (ty : TypeId) (kd : IntKind) (w : World) (b c : Nat) (xs : List Nat) : Prop :=
  ∃ cur : Array Value, w.heap[b]? = some (.cells cur ty (0, 0)) ∧ cur.size = c ∧ ∀ i, i < xs.length → cur[i]? = some (.int kd (dg xs i))
abbrev Row1 := RowR 3 .i64
abbrev Row2 := RowR 5 .u8
section
variable {ty : TypeId} {kd : IntKind} {w w' : World} {b c K : Nat} {xs : List Nat}
theorem RowR.cell (h : RowR ty kd w b c xs) {i : Nat} (hi : i < xs.length) : w.cell? ⟨b, i, none⟩ = some (.int kd (dg xs i)) := by
  obtain ⟨cur, h1, h2, h3⟩ := h
  simp [World.cell?, h1, h3 i hi]
theorem RowR.free (h : RowR ty kd w b c xs) (i : Nat) : w.frozen? ⟨b, i, none⟩ = false := by
  obtain ⟨cur, h1, h2, h3⟩ := h
  simp [World.frozen?, h1]
theorem RowR.lt (h : RowR ty kd w b c xs) : b < w.heap.size := by
  obtain ⟨cur, h1, h2, h3⟩ := h
  exact (Array.getElem?_eq_some_iff.1 h1).1
theorem RowR.set (h : RowR ty kd w b c xs) (i : Nat) (z : Int) (x : Nat) (hz : z = (x : Int)) (hi : i < c) : RowR ty kd (w.setCell ⟨b, i, none⟩ (.int kd z)) b c (xs.set i x) := by
  obtain ⟨cur, h1, h2, h3⟩ := h
  subst hz
  refine ⟨cur.setIfInBounds i (.int kd x), ?_, by simp [h2], fun j hj => ?_⟩
  · simp only [World.setCell, Array.getElem?_modify, h1]; simp
  · rw [List.length_set] at hj
    rw [Array.getElem?_setIfInBounds]
    by_cases e : i = j
    · subst e
      rw [if_pos rfl, if_pos (by omega), dg_set_self _ _ _ hj]
    · rw [if_neg e, dg_set_ne _ _ _ _ (by omega)]; exact h3 j hj
theorem RowR.block {h1 : w'.heap[b]? = w.heap[b]?} (h : RowR ty kd w b c xs) : RowR ty kd w' b c xs := by
  obtain ⟨cur, h2, h3⟩ := h
  exact ⟨cur, h1.trans h2, h3⟩
theorem RowR.below (h : RowR ty kd w b c xs) (hb : Below K w w') (hK : b < K) : RowR ty kd w' b c xs := h.block (h1 := hb.block b hK)
theorem RowR.grown (h : RowR ty kd w b c xs) {g : Option Nat} (hg : w.grownBy w' g) (hne : some b ≠ g) : RowR ty kd w' b c xs := h.block (h1 := hg.block b h.lt hne)
theorem RowR.drewN (h : RowR ty kd w b c xs) (n : Nat) : RowR ty kd (w.drewN n) b c xs := h
theorem RowR.take (h : RowR ty kd w b c xs) (k : Nat) : RowR ty kd w b c (xs.take k) := by
  obtain ⟨cur, h1, h2, h3⟩ := h
  refine ⟨cur, h1, h2, fun i hi => ?_⟩
  rw [List.length_take] at hi
  rw [dg_take (by omega)]
  exact h3 i (by omega)
end

def VR (kd : IntKind) (n : Nat) : Value := .int kd (n : Int)
abbrev V1 := VR .i64
abbrev V2 := VR .u8
theorem VR_map (kd : IntKind) (xs : List Nat) (i : Nat) (h : i < xs.length) : (xs.map (VR kd))[i]? = some (.int kd (dg xs i)) := by
  simp [VR, dg, h]
section
variable {ty : TypeId} {kd : IntKind} {w w' : World} {b c K n : Nat} {v : Value} {xs : List Nat}
theorem RowR.ownsK (h : RowR ty kd w b c xs) (hK : K ≤ b) (hn : xs.length ≤ c) (hm : c ≤ maxLen) : w.ownsRow K ty 1 (.slice (some ⟨b, 0, none⟩) xs.length c) xs.length (xs.map (VR kd)) := by
  obtain ⟨cur, h1, h2, h3⟩ := h
  refine ⟨by simp, .inr ⟨b, c, cur, rfl, hK, h1, hn, hm, by simpa using h2, ?_⟩⟩
  apply List.ext_getElem?
  intro i
  rw [List.getElem?_take, Nat.mul_one]
  by_cases hi : i < xs.length
  · rw [if_pos hi, VR_map kd xs i hi, Array.getElem?_toList, h3 i hi]
  · rw [if_neg hi, List.getElem?_eq_none (by simp; omega)]
theorem RowR.ofOwnsK (h : w.ownsRow K ty 1 v n (xs.map (VR kd))) (hn : 0 < n) : ∃ b c, v = .slice (some ⟨b, 0, none⟩) xs.length c ∧ K ≤ b ∧ RowR ty kd w b c xs ∧ xs.length ≤ c ∧ c ≤ maxLen := by
  obtain ⟨hl, h⟩ := h
  simp only [List.length_map, Nat.mul_one] at hl
  rcases h with ⟨_, h⟩ | ⟨g, cap, cur, rfl, hK, h1, h2, h3, h4, h5⟩
  · omega
  · refine ⟨g, cap, by rw [hl], hK, ⟨cur, h1, by simpa using h4, fun i hi => ?_⟩, by omega, h3⟩
    have h6 := VR_map kd xs i hi
    rw [← h5, List.getElem?_take, Nat.mul_one, if_pos (by omega), Array.getElem?_toList] at h6
    exact h6
end

/-- A slice value over a block of the call's own (from block K on). -/
def OwnR (w : World) (K : Nat) (v : Value) (xs : List Nat) : Prop :=
  Fits xs ∧ ∃ b c, v = .slice (some ⟨b, 0, none⟩) xs.length c ∧ K ≤ b ∧ Row1 w b c xs ∧ xs.length ≤ c ∧ c ≤ maxLen
theorem OwnR.lim {w : World} {K : Nat} {v : Value} {xs : List Nat} (h : OwnR w K v xs) : LimR w v xs := by
  obtain ⟨hf, b, c, rfl, hK, hr, hn, hm⟩ := h
  exact ⟨hf, _, c, rfl, hn, hm, .inr ⟨b, 0, rfl, hr.lt, fun i hi => by rw [Nat.zero_add]; exact hr.cell hi⟩⟩
theorem OwnR.drewN {w : World} {K : Nat} {v : Value} {xs : List Nat} (h : OwnR w K v xs) (n : Nat) : OwnR (w.drewN n) K v xs := h

theorem limR_parts {w : World} {v : Value} {xs : List Nat} (h : LimR w v xs) : ∃ p c, v = .slice p xs.length c ∧ Fits xs ∧ xs.length ≤ c ∧ c ≤ maxLen ∧ AddrR w p c xs := by
  obtain ⟨hf, p, c, h1, h2, h3, h4⟩ := h
  exact ⟨p, c, h1, hf, h2, h3, h4⟩

theorem limR_cut {w : World} {p : Option Addr} {c : Nat} {xs : List Nat} (hf : Fits xs) (hc : xs.length ≤ c) (hm : c ≤ maxLen) (ha : AddrR w p c xs) : LimR w (.slice p (tlen xs) c) (trimL xs) :=
  ⟨fits_trimL hf, p, c, by rw [length_trimL], by rw [length_trimL]; exact Nat.le_trans (tlen_le xs) hc, hm, ha.take _⟩


end Go.Proofs.YtefpifcfnfkfoaaDoor
