/-
  WHAT ALL WALKS OF PACKAGE nat SHARE: slices of limbs in memory.
-/
import Derived.Test.YtjeeepcnaaadmaaRows
import Derived.Test.YtjeeepcnaaadmaaNum
import Derived.WalkKit
import Derived.WalkSpells
import Derived.WalkSmall
import Derived.WalkLawsBesides
import Derived.Lib.Hide
import Derived.BigQuiet
import Derived.Deep.QuietTactic
namespace Go.Proofs.Ytjeeepcnaaadmaa
open Go.RowKit
open Num
set_option linter.unusedVariables false
set_option linter.unusedSimpArgs false

theorem hid {p : Prop} (h : p) : Hid p := h

theorem ret_bool {a b : Bool} (h : a = b) : Ending.returned (.bool a) = Ending.returned (.bool b) := by rw [h]
theorem ret_int {k : IntKind} {a b : Int} (h : a = b) : Ending.returned (.int k a) = Ending.returned (.int k b) := by rw [h]
theorem val_int {k : IntKind} {a b : Int} (h : a = b) : Value.int k a = Value.int k b := by rw [h]

theorem infoU32 : (Try.prog.info? 108).map (fun i => (i.zero, i.size, i.bytes)) = some (some (.int .u32 0), 1, 4) := by kernel_rfl
theorem infoU8 : (Try.prog.info? 5).map (fun i => (i.zero, i.size, i.bytes)) = some (some (.int .u8 0), 1, 1) := by kernel_rfl

/-- A slice value reads as limbs. -/
def Lim (w : World) (v : Value) (xs : List Nat) : Prop :=
  Fits xs ∧ ∃ p c, v = .slice p xs.length c ∧ xs.length ≤ c ∧ c ≤ maxLen ∧
    ((p = none ∧ c = 0) ∨ ∃ b off, p = some ⟨b, off, none⟩ ∧ b < w.heap.size ∧ ∀ i, i < xs.length → w.cell? ⟨b, off + i, none⟩ = some (.int .u32 (dg xs i)))

theorem Lim.nil (w : World) : Lim w (.slice none 0 0) [] := ⟨Fits.nil, none, 0, rfl, by simp, by simp, .inl ⟨rfl, rfl⟩⟩

theorem Lim.below {w w' : World} {v : Value} {xs : List Nat} {K : Nat} (h : Lim w v xs) (hb : Below K w w') (hK : w.heap.size ≤ K) : Lim w' v xs := by
  obtain ⟨h1, p, c, h2, h3, h4, h5⟩ := h
  refine ⟨h1, p, c, h2, h3, h4, ?_⟩
  rcases h5 with h5 | ⟨b, off, h6, h7, h8⟩
  · exact .inl h5
  · refine .inr ⟨b, off, h6, Nat.lt_of_lt_of_le h7 hb.size, fun i hi => ?_⟩
    rw [hb.cell (by exact Nat.lt_of_lt_of_le h7 hK)]
    exact h8 i hi

/-! ### A block of limbs that is known whole -/
def cellsOf (us : List Nat) : Array Value := (us.map fun n : Nat => Value.int .u32 (n : Int)).toArray
theorem size_cellsOf (us : List Nat) : (cellsOf us).size = us.length := by simp [cellsOf]
theorem get_cellsOf (us : List Nat) (i : Nat) (h : i < us.length) : (cellsOf us)[i]? = some (.int .u32 (dg us i)) := by
  simp [cellsOf, dg, h]
theorem set_cellsOf (us : List Nat) (i x : Nat) : (cellsOf us).setIfInBounds i (.int .u32 x) = cellsOf (us.set i x) := by
  apply Array.ext_getElem?
  intro j
  simp only [cellsOf, List.setIfInBounds_toArray, List.map_set]

/-- Block b holds the limbs us, and may be written. -/
def Blk (w : World) (b : Nat) (us : List Nat) : Prop := w.heap[b]? = some (.cells (cellsOf us) 108 (0, 0))
theorem Blk.lt {w : World} {b : Nat} {us : List Nat} (h : Blk w b us) : b < w.heap.size := (Array.getElem?_eq_some_iff.1 h).1
theorem Blk.cell {w : World} {b : Nat} {us : List Nat} (h : Blk w b us) {i : Nat} (hi : i < us.length) : w.cell? ⟨b, i, none⟩ = some (.int .u32 (dg us i)) := by
  have : w.heap[b]? = some (.cells (cellsOf us) 108 (0, 0)) := h
  simp [World.cell?, this, get_cellsOf us i hi]
theorem Blk.free {w : World} {b : Nat} {us : List Nat} (h : Blk w b us) (i : Nat) : w.frozen? ⟨b, i, none⟩ = false := by
  have : w.heap[b]? = some (.cells (cellsOf us) 108 (0, 0)) := h
  simp [World.frozen?, this]
theorem Blk.set {w : World} {b : Nat} {us : List Nat} (h : Blk w b us) (i x : Nat) : Blk (w.setCell ⟨b, i, none⟩ (.int .u32 x)) b (us.set i x) := by
  have h0 : w.heap[b]? = some (.cells (cellsOf us) 108 (0, 0)) := h
  show (w.setCell ⟨b, i, none⟩ (.int .u32 x)).heap[b]? = _
  simp only [World.setCell, Array.getElem?_modify, h0]
  simp [set_cellsOf]
theorem Blk.set' {w : World} {b : Nat} {us : List Nat} (h : Blk w b us) (i : Nat) (z : Int) (x : Nat) (hz : z = (x : Int)) : Blk (w.setCell ⟨b, i, none⟩ (.int .u32 z)) b (us.set i x) := by
  subst hz; exact h.set i x
theorem Blk.other {w : World} {b b2 : Nat} {us : List Nat} (h : Blk w b us) (hne : b ≠ b2) (i : Nat) (v : Value) : Blk (w.setCell ⟨b2, i, none⟩ v) b us := by
  show (w.setCell ⟨b2, i, none⟩ v).heap[b]? = _
  rw [Below.heap_setCell _ _ _ _ (by exact hne)]; exact h
theorem Blk.below {w w' : World} {b K : Nat} {us : List Nat} (h : Blk w b us) (hb : Below K w w') (hK : b < K) : Blk w' b us := (hb.block b hK).trans h
theorem Blk.block' {w w' : World} {b g : Nat} {us : List Nat} (h : Blk w b us) (hg : w.grownBy w' (some g)) (hne : b ≠ g) : Blk w' b us := (hg.block b h.lt (by simpa using hne)).trans h
theorem Blk.drewN {w : World} {b : Nat} {us : List Nat} (h : Blk w b us) (n : Nat) : Blk (w.drewN n) b us := h
theorem Blk.new (w : World) (us : List Nat) : Blk (w.alloc (.cells (cellsOf us) 108)) w.heap.size us := by
  show (w.heap.push _)[w.heap.size]? = _
  simp

/-- A slice over a part of such a block reads as that part. -/
theorem Blk.lim {w : World} {b : Nat} {us : List Nat} (h : Blk w b us) (hf : Fits us) (off n c : Nat) (hn : off + n ≤ us.length) (hc : n ≤ c) (hm : c ≤ maxLen) : Lim w (.slice (some ⟨b, off, none⟩) n c) ((us.drop off).take n) := by
  have hl : ((us.drop off).take n).length = n := by rw [List.length_take, List.length_drop]; omega
  refine ⟨(hf.drop _).take _, some ⟨b, off, none⟩, c, by rw [hl], by omega, hm, .inr ⟨b, off, rfl, h.lt, fun i hi => ?_⟩⟩
  rw [hl] at hi
  rw [dg_take hi, dg_drop]
  exact h.cell (by omega)

theorem made_cellsOf (n : Nat) : madeCells (Value.int .u32 0).cells n = cellsOf (List.replicate n 0) := by
  have h := toList_madeCells_one (.int .u32 0) n
  apply Array.ext'
  rw [show (Value.int IntKind.u32 0).cells = #[Value.int .u32 0] from rfl, h]
  simp [cellsOf]

/-- 'make([]uint32, n)': a new block of n noughts. -/
theorem wpList_make_limbs {P : Program} (w : World) {ops : Array Oper} {rest : List Oper} {o : Oper} {a : Act} {Q : Exit → Act → World → Prop}
    (hg : o.guard = none) (l c : Operand) (t : TypeId) (hop : o.op = Op.makeSlice t l c)
    (i : TypeInfo) (h1 : P.underlying t = some (.slice 108)) (h2 : P.info? 108 = some i) (h3 : i.zero = some (.int .u32 0)) (h4 : i.size = 1) (h5 : i.bytes = 4)
    (L C : Int) (n m : Nat) (hl : a.eval l = .int .i64 L) (hc : a.eval c = .int .i64 C) (hL : L = (n : Int)) (hC : C = (m : Int)) (hnm : n ≤ m) (hb : m ≤ 70368744177664)
    (hK : ∀ w', Blk w' w.heap.size (List.replicate m 0) → Below w.heap.size w w' → w'.heap.size = w.heap.size + 1 → wpList P ops Q rest (a.put o.dst (.slice (some ⟨w.heap.size, 0, none⟩) n m)) w') :
    wpList P ops Q (o :: rest) a w := by
  refine wpList_plain hg fun K hK' => ?_
  subst hL hC
  have hr := run_make (P := P) w t _ i _ h1 h2 h3 .i64 .i64 (n : Int) (m : Int) (by omega) (by omega) (by rw [h5]; omega) (by omega)
  simp only [Int.toNat_natCast] at hr
  unfold Oper.wp
  simp [execOp, hop, hl, hc, hr, Result.andThen]
  rw [h4, Nat.mul_one, made_cellsOf]
  exact hK' _ _ (hK _ (Blk.new w _) ((Below.refl _ _).alloc (Nat.le_refl _) _) (by simp))

/-- A fact on a cell of a slice, where there is one. -/
theorem AddrOk.at' {w : World} {p : Option Addr} {c n : Nat} {xs : List Nat} (ha : (p = none ∧ c = 0) ∨ ∃ b off, p = some ⟨b, off, none⟩ ∧ b < w.heap.size ∧ ∀ i, i < xs.length → w.cell? ⟨b, off + i, none⟩ = some (.int .u32 (dg xs i))) (hn : n = xs.length) (hc : n ≤ c) :
    ∀ k, k < n → ∃ b off, p = some ⟨b, off, none⟩ ∧ b < w.heap.size ∧ w.cell? ⟨b, off + k, none⟩ = some (.int .u32 (dg xs k)) := by
  intro k hk
  rcases ha with ⟨_, h⟩ | ⟨b, off, h1, h2, h3⟩
  · omega
  · exact ⟨b, off, h1, h2, h3 k (by omega)⟩

end Go.Proofs.Ytjeeepcnaaadmaa

