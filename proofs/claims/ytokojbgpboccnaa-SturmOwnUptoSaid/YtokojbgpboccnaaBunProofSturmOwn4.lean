import Derived.Test.YtokojbgpboccnaaRows
import Derived.Test.YtokojbgpboccnaaBunProofSturmOwn1
import Derived.WalkKit
import Derived.WalkSpells
import Derived.WalkSmall
import Derived.WalkLawsBesides
import Derived.Lib.Hide
import Derived.BigQuiet
import Derived.Deep.QuietTactic
import Derived.Laws.AppendOwn
import Derived.Laws.OwnMore
import Derived.Laws.BitsAllLaws
import Derived.RegionTactic
import Derived.WideShapes
import Derived.Laws.Rows
/-
  WHAT ALL WALKS OF PACKAGE nat SHARE: slices of limbs in memory.
-/
namespace Go.Proofs.Ytokojbgpboccnaa
open Go.RowKit
open Num
set_option linter.unusedVariables false
set_option linter.unusedSimpArgs false

theorem hid {p : Prop} (h : p) : Hid p := h

theorem heap2 {w : World} {b g : Nat} (hne : b ≠ g) (x0 x1 : Value) : ((w.setCell ⟨g, 0, none⟩ x0).setCell ⟨g, 1, none⟩ x1).heap[b]? = w.heap[b]? := by
  rw [Below.heap_setCell _ _ _ _ (by exact hne), Below.heap_setCell _ _ _ _ (by exact hne)]
theorem heap4 {w : World} {b g : Nat} (hne : b ≠ g) (x0 x1 x2 x3 : Value) : ((((w.setCell ⟨g, 0, none⟩ x0).setCell ⟨g, 1, none⟩ x1).setCell ⟨g, 2, none⟩ x2).setCell ⟨g, 3, none⟩ x3).heap[b]? = w.heap[b]? := by
  rw [Below.heap_setCell _ _ _ _ (by exact hne), Below.heap_setCell _ _ _ _ (by exact hne), Below.heap_setCell _ _ _ _ (by exact hne), Below.heap_setCell _ _ _ _ (by exact hne)]
theorem ret_bool {a b : Bool} (h : a = b) : Ending.returned (.bool a) = Ending.returned (.bool b) := by rw [h]
theorem ret_int {k : IntKind} {a b : Int} (h : a = b) : Ending.returned (.int k a) = Ending.returned (.int k b) := by rw [h]
theorem val_int {k : IntKind} {a b : Int} (h : a = b) : Value.int k a = Value.int k b := by rw [h]

theorem infoU32 : (Try.prog.info? 95).map (fun i => (i.zero, i.size, i.bytes)) = some (some (.int .u32 0), 1, 4) := by kernel_rfl
theorem infoU8 : (Try.prog.info? 5).map (fun i => (i.zero, i.size, i.bytes)) = some (some (.int .u8 0), 1, 1) := by kernel_rfl

/-- A slice value reads as limbs. -/
def Lim (w : World) (v : Value) (xs : List Nat) : Prop :=
  Fits xs ∧ ∃ p c, v = .slice p xs.length c ∧ xs.length ≤ c ∧ c ≤ maxLen ∧
    ((p = none ∧ c = 0) ∨ ∃ b off, p = some ⟨b, off, none⟩ ∧ b < w.heap.size ∧ ∀ i, i < xs.length → w.cell? ⟨b, off + i, none⟩ = some (.int .u32 (dg xs i)))

theorem Lim.nil (w : World) : Lim w (.slice none 0 0) [] := ⟨Fits.nil, none, 0, rfl, by simp, by simp, .inl ⟨rfl, rfl⟩⟩

theorem Lim.below {w w' : World} {v : Value} {xs : List Nat} {K : Nat} (h : Lim w v xs) (hb : Below K w w') (hK : w.heap.size ≤ K) : Lim w' v xs := by
  obtain ⟨h1, p, c, h2, h3, h4, h5⟩ := h
  refine ⟨h1, p, c, h2, h3, h4, ?_⟩
  rcases h5 with h5 | ⟨b, off, h6, h7, h8⟩
  · exact .inl h5
  · refine .inr ⟨b, off, h6, Nat.lt_of_lt_of_le h7 hb.size, fun i hi => ?_⟩
    rw [hb.cell (by exact Nat.lt_of_lt_of_le h7 hK)]
    exact h8 i hi

/-! ### A block of limbs that is known whole -/
def cellsOf (us : List Nat) : Array Value := (us.map fun n : Nat => Value.int .u32 (n : Int)).toArray
theorem size_cellsOf (us : List Nat) : (cellsOf us).size = us.length := by simp [cellsOf]
theorem get_cellsOf (us : List Nat) (i : Nat) (h : i < us.length) : (cellsOf us)[i]? = some (.int .u32 (dg us i)) := by
  simp [cellsOf, dg, h]
theorem set_cellsOf (us : List Nat) (i x : Nat) : (cellsOf us).setIfInBounds i (.int .u32 x) = cellsOf (us.set i x) := by
  apply Array.ext_getElem?
  intro j
  simp only [cellsOf, List.setIfInBounds_toArray, List.map_set]

/-- Block b holds the limbs us, and may be written. -/
def Blk (w : World) (b : Nat) (us : List Nat) : Prop := w.heap[b]? = some (.cells (cellsOf us) 95 (0, 0))
theorem Blk.lt {w : World} {b : Nat} {us : List Nat} (h : Blk w b us) : b < w.heap.size := (Array.getElem?_eq_some_iff.1 h).1
theorem Blk.cell {w : World} {b : Nat} {us : List Nat} (h : Blk w b us) {i : Nat} (hi : i < us.length) : w.cell? ⟨b, i, none⟩ = some (.int .u32 (dg us i)) := by
  have : w.heap[b]? = some (.cells (cellsOf us) 95 (0, 0)) := h
  simp [World.cell?, this, get_cellsOf us i hi]
theorem Blk.free {w : World} {b : Nat} {us : List Nat} (h : Blk w b us) (i : Nat) : w.frozen? ⟨b, i, none⟩ = false := by
  have : w.heap[b]? = some (.cells (cellsOf us) 95 (0, 0)) := h
  simp [World.frozen?, this]
theorem Blk.set {w : World} {b : Nat} {us : List Nat} (h : Blk w b us) (i x : Nat) : Blk (w.setCell ⟨b, i, none⟩ (.int .u32 x)) b (us.set i x) := by
  have h0 : w.heap[b]? = some (.cells (cellsOf us) 95 (0, 0)) := h
  show (w.setCell ⟨b, i, none⟩ (.int .u32 x)).heap[b]? = _
  simp only [World.setCell, Array.getElem?_modify, h0]
  simp [set_cellsOf]
theorem Blk.set' {w : World} {b : Nat} {us : List Nat} (h : Blk w b us) (i : Nat) (z : Int) (x : Nat) (hz : z = (x : Int)) : Blk (w.setCell ⟨b, i, none⟩ (.int .u32 z)) b (us.set i x) := by
  subst hz; exact h.set i x
theorem Blk.other {w : World} {b b2 : Nat} {us : List Nat} (h : Blk w b us) (hne : b ≠ b2) (i : Nat) (v : Value) : Blk (w.setCell ⟨b2, i, none⟩ v) b us := by
  show (w.setCell ⟨b2, i, none⟩ v).heap[b]? = _
  rw [Below.heap_setCell _ _ _ _ (by exact hne)]; exact h
theorem Blk.below {w w' : World} {b K : Nat} {us : List Nat} (h : Blk w b us) (hb : Below K w w') (hK : b < K) : Blk w' b us := (hb.block b hK).trans h
theorem Blk.block' {w w' : World} {b g : Nat} {us : List Nat} (h : Blk w b us) (hg : w.grownBy w' (some g)) (hne : b ≠ g) : Blk w' b us := (hg.block b h.lt (by simpa using hne)).trans h
theorem Blk.drewN {w : World} {b : Nat} {us : List Nat} (h : Blk w b us) (n : Nat) : Blk (w.drewN n) b us := h
theorem Blk.new (w : World) (us : List Nat) : Blk (w.alloc (.cells (cellsOf us) 95)) w.heap.size us := by
  show (w.heap.push _)[w.heap.size]? = _
  simp

/-- A slice over a part of such a block reads as that part. -/
theorem Blk.lim {w : World} {b : Nat} {us : List Nat} (h : Blk w b us) (hf : Fits us) (off n c : Nat) (hn : off + n ≤ us.length) (hc : n ≤ c) (hm : c ≤ maxLen) : Lim w (.slice (some ⟨b, off, none⟩) n c) ((us.drop off).take n) := by
  have hl : ((us.drop off).take n).length = n := by rw [List.length_take, List.length_drop]; omega
  refine ⟨(hf.drop _).take _, some ⟨b, off, none⟩, c, by rw [hl], by omega, hm, .inr ⟨b, off, rfl, h.lt, fun i hi => ?_⟩⟩
  rw [hl] at hi
  rw [dg_take hi, dg_drop]
  exact h.cell (by omega)

theorem made_cellsOf (n : Nat) : madeCells (Value.int .u32 0).cells n = cellsOf (List.replicate n 0) := by
  have h := toList_madeCells_one (.int .u32 0) n
  apply Array.ext'
  rw [show (Value.int IntKind.u32 0).cells = #[Value.int .u32 0] from rfl, h]
  simp [cellsOf]

/-- 'make([]uint32, n)': a new block of n noughts. -/
theorem wpList_make_limbs {P : Program} (w : World) {ops : Array Oper} {rest : List Oper} {o : Oper} {a : Act} {Q : Exit → Act → World → Prop}
    (hg : o.guard = none) (l c : Operand) (t : TypeId) (hop : o.op = Op.makeSlice t l c)
    (i : TypeInfo) (h1 : P.underlying t = some (.slice 95)) (h2 : P.info? 95 = some i) (h3 : i.zero = some (.int .u32 0)) (h4 : i.size = 1) (h5 : i.bytes = 4)
    (L C : Int) (n m : Nat) (hl : a.eval l = .int .i64 L) (hc : a.eval c = .int .i64 C) (hL : L = (n : Int)) (hC : C = (m : Int)) (hnm : n ≤ m) (hb : m ≤ 70368744177664)
    (hK : ∀ w', Blk w' w.heap.size (List.replicate m 0) → Below w.heap.size w w' → w'.heap.size = w.heap.size + 1 → wpList P ops Q rest (a.put o.dst (.slice (some ⟨w.heap.size, 0, none⟩) n m)) w') :
    wpList P ops Q (o :: rest) a w := by
  refine wpList_plain hg fun K hK' => ?_
  subst hL hC
  have hr := run_make (P := P) w t _ i _ h1 h2 h3 .i64 .i64 (n : Int) (m : Int) (by omega) (by omega) (by rw [h5]; omega) (by omega)
  simp only [Int.toNat_natCast] at hr
  unfold Oper.wp
  simp [execOp, hop, hl, hc, hr, Result.andThen]
  rw [h4, Nat.mul_one, made_cellsOf]
  exact hK' _ _ (hK _ (Blk.new w _) ((Below.refl _ _).alloc (Nat.le_refl _) _) (by simp))

/-- A fact on a cell of a slice, where there is one. -/
theorem AddrOk.at' {w : World} {p : Option Addr} {c n : Nat} {xs : List Nat} (ha : (p = none ∧ c = 0) ∨ ∃ b off, p = some ⟨b, off, none⟩ ∧ b < w.heap.size ∧ ∀ i, i < xs.length → w.cell? ⟨b, off + i, none⟩ = some (.int .u32 (dg xs i))) (hn : n = xs.length) (hc : n ≤ c) :
    ∀ k, k < n → ∃ b off, p = some ⟨b, off, none⟩ ∧ b < w.heap.size ∧ w.cell? ⟨b, off + k, none⟩ = some (.int .u32 (dg xs k)) := by
  intro k hk
  rcases ha with ⟨_, h⟩ | ⟨b, off, h1, h2, h3⟩
  · omega
  · exact ⟨b, off, h1, h2, h3 k (by omega)⟩

end Go.Proofs.Ytokojbgpboccnaa

/-
  ROWS OF CELLS, so many to each.
-/
namespace Go.Proofs.Ytokojbgpboccnaa
open Go.RowKit
set_option linter.unusedVariables false
set_option linter.unusedSimpArgs false

theorem flat_get (m : Nat) : ∀ (L : List (List Value)), (∀ r ∈ L, r.length = m) → ∀ i j, i < L.length → j < m → L.flatten[i * m + j]? = (L[i]?.getD [])[j]? := by
  intro L
  induction L with
  | nil => intro _ i j h; simp at h
  | cons r L ih =>
    intro h i j hi hj
    have hr := h r (by simp)
    rw [List.flatten_cons]
    cases i with
    | zero => rw [Nat.zero_mul, Nat.zero_add, List.getElem?_append_left (by omega)]; simp
    | succ i =>
      rw [Nat.succ_mul, List.getElem?_append_right (by omega), hr, show i * m + m + j - m = i * m + j by omega]
      rw [ih (fun x hx => h x (by simp [hx])) i j (by simpa using hi) hj]
      simp
theorem flat_set (m : Nat) : ∀ (L : List (List Value)), (∀ r ∈ L, r.length = m) → ∀ i j u, i < L.length → j < m → L.flatten.set (i * m + j) u = (L.set i ((L[i]?.getD []).set j u)).flatten := by
  intro L
  induction L with
  | nil => intro _ i j u h; simp at h
  | cons r L ih =>
    intro h i j u hi hj
    have hr := h r (by simp)
    rw [List.flatten_cons]
    cases i with
    | zero => rw [Nat.zero_mul, Nat.zero_add, List.set_append_left _ _ (by omega)]; simp
    | succ i =>
      rw [Nat.succ_mul, List.set_append_right _ _ (by omega), hr, show i * m + m + j - m = i * m + j by omega]
      rw [ih (fun x hx => h x (by simp [hx])) i j u (by simpa using hi) hj]
      simp
/-- An Integer's two cells. -/
abbrev Zr := Bool × Option Addr × Nat × Nat
def zcs (r : Zr) : List Value := [.bool r.1, .slice r.2.1 r.2.2.1 r.2.2.2]

end Go.Proofs.Ytokojbgpboccnaa

/-
  LISTS IN MEMORY: texts; records of several cells.
-/
namespace Go.Proofs.Ytokojbgpboccnaa
open Go.RowKit
open Num
set_option linter.unusedVariables false
set_option maxRecDepth 100000
set_option linter.unusedSimpArgs false

theorem infoStr : (Try.prog.info? 9).map (fun i => (i.zero, i.size, i.bytes)) = some (some (.string ⟨#[]⟩), 1, 16) := by kernel_rfl
/-- The i-th text. -/
def tx (ss : List ByteArray) (i : Nat) : ByteArray := ss[i]?.getD ⟨#[]⟩
theorem tx_lt {ss : List ByteArray} {i : Nat} (h : i < ss.length) : tx ss i = ss[i] := by simp [tx, h]
/-- A slice value reads as texts. -/
def Txs (w : World) (v : Value) (ss : List ByteArray) : Prop :=
  ∃ p c, v = .slice p ss.length c ∧ ss.length ≤ c ∧ c ≤ maxLen ∧ ((p = none ∧ c = 0) ∨ ∃ b off, p = some ⟨b, off, none⟩ ∧ b < w.heap.size ∧ ∀ i, i < ss.length → w.cell? ⟨b, off + i, none⟩ = some (.string (tx ss i)))
theorem Txs.below {w w' : World} {v : Value} {ss : List ByteArray} {K : Nat} (h : Txs w v ss) (hb : Below K w w') (hK : w.heap.size ≤ K) : Txs w' v ss := by
  obtain ⟨p, c, h1, h2, h3, h4⟩ := h
  refine ⟨p, c, h1, h2, h3, ?_⟩
  rcases h4 with h4 | ⟨b, off, h5, h6, h7⟩
  · exact .inl h4
  · refine .inr ⟨b, off, h5, Nat.lt_of_lt_of_le h6 hb.size, fun i hi => ?_⟩
    rw [hb.cell (by exact Nat.lt_of_lt_of_le h6 hK)]
    exact h7 i hi
theorem Txs.on {w w' : World} {v : Value} {ss : List ByteArray} (h : Txs w v ss) (hb : Below w.heap.size w w') : Txs w' v ss := h.below hb (Nat.le_refl _)
theorem Txs.nil (w : World) : Txs w (.slice none 0 0) [] := ⟨none, 0, rfl, by simp, by simp, .inl ⟨rfl, rfl⟩⟩
/-- A list of texts of the call's own. -/
def OwnT (w : World) (K : Nat) (v : Value) (ss : List ByteArray) : Prop := w.ownsRow K 9 1 v ss.length (ss.map Value.string)
theorem OwnT.txs {w : World} {K : Nat} {v : Value} {ss : List ByteArray} (h : OwnT w K v ss) : Txs w v ss := by
  obtain ⟨_, h⟩ := h
  rcases h with ⟨rfl, h0⟩ | ⟨g, cap, cur, rfl, hK, h1, h2, h3, h4, h5⟩
  · obtain rfl := List.length_eq_zero_iff.1 h0
    exact Txs.nil w
  · refine ⟨_, cap, rfl, h2, h3, .inr ⟨g, 0, rfl, (Array.getElem?_eq_some_iff.1 h1).1, fun i hi => ?_⟩⟩
    have h6 : (ss.map Value.string)[i]? = some (.string (tx ss i)) := by simp [tx, hi]
    rw [← h5, List.getElem?_take, Nat.mul_one, if_pos hi, Array.getElem?_toList] at h6
    rw [Nat.zero_add]
    simp [World.cell?, h1, h6]
theorem OwnT.below {w w' : World} {K L : Nat} {v : Value} {ss : List ByteArray} (h : OwnT w K v ss) (hb : Below L w w') (hL : w.heap.size ≤ L) : OwnT w' K v ss := by
  obtain ⟨h0, h⟩ := h
  refine ⟨h0, ?_⟩
  rcases h with h | ⟨g, cap, cur, rfl, hK, h1, h2⟩
  · exact .inl h
  · exact .inr ⟨g, cap, cur, rfl, hK, (hb.block g (Nat.lt_of_lt_of_le (Array.getElem?_eq_some_iff.1 h1).1 hL)).trans h1, h2⟩
theorem OwnT.on {w w' : World} {K : Nat} {v : Value} {ss : List ByteArray} (h : OwnT w K v ss) (hb : Below w.heap.size w w') : OwnT w' K v ss := h.below hb (Nat.le_refl _)
theorem OwnT.mono {w : World} {K L : Nat} {v : Value} {ss : List ByteArray} (h : OwnT w K v ss) (hL : L ≤ K) : OwnT w L v ss := by
  obtain ⟨h0, h⟩ := h
  refine ⟨h0, ?_⟩
  rcases h with h | ⟨g, cap, cur, rfl, hK, h1⟩
  · exact .inl h
  · exact .inr ⟨g, cap, cur, rfl, by omega, h1⟩
theorem OwnT.new (w : World) (K : Nat) (hK : K ≤ w.heap.size) (ss : List ByteArray) (hs : ss.length ≤ maxLen) : OwnT (w.alloc (.cells (ss.map Value.string).toArray 9)) K (.slice (some ⟨w.heap.size, 0, none⟩) ss.length ss.length) ss :=
  ⟨by simp, .inr ⟨w.heap.size, ss.length, (ss.map Value.string).toArray, rfl, hK, by show (w.heap.push _)[w.heap.size]? = _; simp, Nat.le_refl _, hs, by simp, by rw [Nat.mul_one]; exact List.take_of_length_le (by simp)⟩⟩
theorem OwnT.nil (w : World) (K : Nat) : OwnT w K (.slice none 0 0) [] := World.ownsRow_nil w K _ 1

/-! ### Blocks without numbers -/
/-- No number. -/
def NI (u : Value) : Prop := ∀ k z, u ≠ .int k z
/-- A block without numbers. -/
def NoInt (w : World) (g : Nat) : Prop := ∀ cur T f, w.heap[g]? = some (.cells cur T f) → ∀ u ∈ cur.toList, NI u
theorem NI.bool (b : Bool) : NI (.bool b) := fun _ _ h => by cases h
theorem NI.slc (p : Option Addr) (n c : Nat) : NI (.slice p n c) := fun _ _ h => by cases h
theorem NoInt.below {w w' : World} {g K : Nat} (h : NoInt w g) (hb : Below K w w') (hg : g < K) : NoInt w' g := by
  intro cur T f e
  rw [hb.block g hg] at e
  exact h _ _ _ e
theorem Lim.grown {w w' : World} {v : Value} {xs : List Nat} {g : Nat} (h : Lim w v xs) (hn : NoInt w g) (hg : w.grownBy w' (some g)) : Lim w' v xs := by
  obtain ⟨h1, p, c, h2, h3, h4, h5⟩ := h
  refine ⟨h1, p, c, h2, h3, h4, ?_⟩
  rcases h5 with h5 | ⟨b, off, h6, h7, h8⟩
  · exact .inl h5
  · refine .inr ⟨b, off, h6, Nat.lt_of_lt_of_le h7 hg.size, fun i hi => ?_⟩
    have h9 := h8 i hi
    by_cases hb : b = g
    · exfalso
      subst hb
      simp only [World.cell?] at h9
      split at h9
      · rename_i cur T f e
        have := hn cur T f e _ (by have := Array.mem_of_getElem? h9; simpa using this)
        exact this _ _ rfl
      all_goals simp at h9
    · rw [← h9]
      exact World.cell?_of_block (hg.block b h7 (by simpa using hb))
theorem grown_set (w : World) (g i : Nat) (u : Value) : w.grownBy (w.setCell ⟨g, i, none⟩ u) (some g) :=
  ⟨rfl, rfl, rfl, by simp [World.setCell], fun k _ hk => Below.heap_setCell _ _ _ _ (by intro e; exact hk (congrArg some e))⟩

theorem NoInt.new (w : World) (cs : Array Value) (T : TypeId) (h : ∀ u ∈ cs.toList, NI u) : NoInt (w.alloc (.cells cs T)) w.heap.size := by
  intro cur T' f e
  rw [heap_alloc_new] at e
  cases e
  exact h

section
variable {P : Program}
/-- 'append' onto a row of the call's own that holds no numbers. -/
theorem append_ni (w : World) (base : Nat) (t ty e : TypeId) (i : TypeInfo) (z : Value) (size bytes : Nat) (ht : P.underlying t = some (.slice e)) (hi : P.info? e = some i) (hz : i.zero = some z)
    (hsize : i.size = size) (hby : i.bytes = bytes) (hzs : z.cells.size = size) (hsz : 0 < size)
    (v : Value) (n : Nat) (xs : List Value) (hown : w.ownsRow base e size v n xs) (hC : ∀ g, v.ownBlock = some g → NoInt w g) (hzC : ∀ u ∈ z.cells.toList, NI u)
    (a : Addr) (m c : Nat) (news : List Value) (hl : news.length = m * size) (hnews : ∀ j u, news[j]? = some u → w.cell? (a.add j) = some u) (h1 : ∀ u ∈ news, u.oneCell' = true) (hnC : ∀ u ∈ news, NI u)
    (h63 : n + m ≤ maxLen) (hbytes : (n + m) * bytes ≤ 140737488355328) (hbase : base ≤ w.heap.size) :
    ∃ v' w', (Builtin.append_ #[t, t] ty #[v, .slice (some a) m c]).run P w = .ok v' w' ∧ w'.ownsRow base e size v' (n + m) (xs ++ news) ∧ w.grownBy w' v.ownBlock ∧ (∀ g, v'.ownBlock = some g → NoInt w' g) := by
  obtain ⟨v', w', hr, h2, h3, h4⟩ := run_append_own (P := P) w base t ty e i z size bytes ht hi hz hsize hby hzs hsz v n xs hown a m c news hl hnews h1 h63 hbytes hbase
  refine ⟨v', w', hr, h2, h3, ?_⟩
  subst hsize hby
  have hsmall : n + m ≤ 9223372036854775807 := by simp only [maxLen] at h63; omega
  have hzr : ∀ k, ∀ u ∈ (Builtin.zeroCells z.cells k).toList, NI u := by
    intro k u hu
    simp only [Builtin.zeroCells] at hu
    apply hzC
    simp at hu
    obtain ⟨j, hj, rfl⟩ := hu
    have hp : j % z.cells.size < z.cells.size := Nat.mod_lt _ (by
      rcases Nat.eq_zero_or_pos z.cells.size with h0 | h0
      · rw [h0] at hj; simp at hj
      · exact h0)
    rw [getElem!_pos z.cells _ hp]
    simp
  rcases hown.2 with ⟨rfl, rfl⟩ | ⟨g, cap, cur, rfl, hbg, hg, hnc, hcm, hcs, htake⟩
  · by_cases hm : m = 0
    · subst hm
      obtain rfl := h4.2 ⟨rfl, rfl⟩
      intro g hg
      simp [Value.ownBlock] at hg
    · have hr' := run_append_nil (P := P) w t ty e i z ht hi hz a m c news hl hnews (by omega) (by omega) (by have hb := hbytes; simp only [Nat.zero_add] at hb; omega)
      rw [hr'] at hr
      cases hr
      intro g hg
      simp [Value.ownBlock] at hg
      subst hg
      refine NoInt.new w.drew _ _ fun u hu => ?_
      rw [Array.toList_append] at hu
      rcases List.mem_append.1 hu with hu | hu
      · exact hnC u (by simpa using hu)
      · exact hzr _ u hu
  · have hng := hC g rfl
    by_cases hroom : n + m ≤ cap
    · have hfit : n * i.size + news.length ≤ cur.size := by rw [hl, hcs, ← Nat.add_mul]; exact Nat.mul_le_mul_right _ hroom
      have hr' := run_append_room (P := P) w t ty e i ht hi g n cap cur hg a m c news hl hnews h1 hroom hfit
      rw [hr'] at hr
      cases hr
      intro g' hg'
      simp [Value.ownBlock] at hg'
      subst hg'
      intro cur' T f e'
      rw [setRow_heap w g cur _ e _ hg] at e'
      cases e'
      intro u hu
      have hcu := hng cur e _ hg
      rcases List.mem_append.1 hu with hu | hu
      · rcases List.mem_append.1 hu with hu | hu
        · exact hcu u (List.mem_of_mem_take hu)
        · exact hnC u hu
      · exact hcu u (List.mem_of_mem_drop hu)
    · have holds : ∀ j u, xs[j]? = some u → w.cell? ((⟨g, 0, none⟩ : Addr).add j) = some u := hown.cells (g := g) rfl
      have hr' := run_append_grow (P := P) w t ty e i z ht hi hz ⟨g, 0, none⟩ n cap xs hown.1 holds a m c news hl hnews (by omega) (by omega) (growslice_fits (by omega) hbytes)
      rw [hr'] at hr
      cases hr
      intro g' hg'
      simp [Value.ownBlock] at hg'
      subst hg'
      have hcu := hng cur e _ hg
      refine NoInt.new w.drew _ _ fun u hu => ?_
      rw [Array.toList_append] at hu
      rcases List.mem_append.1 hu with hu | hu
      · rw [Array.toList_append] at hu
        rcases List.mem_append.1 hu with hu | hu
        · exact hcu u (by rw [← htake] at hu; exact List.mem_of_mem_take hu)
        · exact hnC u (by simpa using hu)
      · exact hzr _ u hu
theorem wpList_append_ni {w : World} {ops : Array Oper} {rest : List Oper} {o : Oper} {a : Act} {Q : Exit → Act → World → Prop} (hgd : o.guard = none) (s x : Operand) (t : TypeId)
    (ho : o.op = .call { callee := .builtin .append, args := #[s, x], argTypes := #[t, t] })
    (base : Nat) (e : TypeId) (i : TypeInfo) (z : Value) (size bytes : Nat) (ht : P.underlying t = some (.slice e)) (hi : P.info? e = some i) (hz : i.zero = some z)
    (hsize : i.size = size) (hby : i.bytes = bytes) (hzs : z.cells.size = size) (hsz : 0 < size)
    (v : Value) (n : Nat) (xs : List Value) (hs : a.eval s = v) (hown : w.ownsRow base e size v n xs) (hC : ∀ g, v.ownBlock = some g → NoInt w g) (hzC : ∀ u ∈ z.cells.toList, NI u)
    (ad : Addr) (m c : Nat) (news : List Value) (hx : a.eval x = .slice (some ad) m c) (hl : news.length = m * size) (hnews : ∀ j u, news[j]? = some u → w.cell? (ad.add j) = some u) (h1 : ∀ u ∈ news, u.oneCell' = true) (hnC : ∀ u ∈ news, NI u)
    (h63 : n + m ≤ maxLen) (hbytes : (n + m) * bytes ≤ 140737488355328) (hbase : base ≤ w.heap.size)
    (h : ∀ v' w', w'.ownsRow base e size v' (n + m) (xs ++ news) → w.grownBy w' v.ownBlock → (∀ g, v'.ownBlock = some g → NoInt w' g) → wpList P ops Q rest (a.put o.dst v') w') : wpList P ops Q (o :: rest) a w :=
  wpList_plain hgd fun K hK => by
    obtain ⟨v', w', hr, h2, h3, h4⟩ := append_ni (P := P) w base t o.type e i z size bytes ht hi hz hsize hby hzs hsz v n xs hown hC hzC ad m c news hl hnews h1 hnC h63 hbytes hbase
    unfold Oper.wp execOp
    simp only [ho, resolve, invoke, builtin, Sem.run_bind, Sem.run_pure, Result.andThen_ok, List.map_toArray, List.map_cons, List.map_nil, hs, hx, hr]
    exact hK _ _ (h v' w' h2 h3 h4)
end

/-- A list of texts of the call's own; its block holds no numbers. -/
def OwnL (w : World) (K : Nat) (v : Value) (ss : List ByteArray) : Prop := OwnT w K v ss ∧ ∀ g, v.ownBlock = some g → NoInt w g
theorem OwnL.nil (w : World) (K : Nat) : OwnL w K (.slice none 0 0) [] := ⟨OwnT.nil w K, fun g h => by simp [Value.ownBlock] at h⟩
theorem OwnL.txs {w : World} {K : Nat} {v : Value} {ss : List ByteArray} (h : OwnL w K v ss) : Txs w v ss := h.1.txs
theorem OwnL.on {w w' : World} {K : Nat} {v : Value} {ss : List ByteArray} (h : OwnL w K v ss) (hb : Below w.heap.size w w') : OwnL w' K v ss :=
  ⟨h.1.on hb, fun g hg => (h.2 g hg).below hb (h.1.lt g hg).2⟩
theorem OwnL.mono {w : World} {K L : Nat} {v : Value} {ss : List ByteArray} (h : OwnL w K v ss) (hL : L ≤ K) : OwnL w L v ss := ⟨h.1.mono hL, h.2⟩
theorem OwnL.drew {w : World} {K : Nat} {v : Value} {ss : List ByteArray} (h : OwnL w K v ss) : OwnL w.drew K v ss := h
theorem OwnL.ne {w : World} {K : Nat} {v : Value} {ss : List ByteArray} {g : Nat} {cs : Array Value} {T : TypeId} {f : Nat × Nat} (h : OwnL w K v ss) (hg : w.heap[g]? = some (.cells cs T f)) (hT : T ≠ 9) : v.ownBlock ≠ some g := by
  intro e
  rcases h.1.2 with ⟨rfl, _⟩ | ⟨g', cap, cur, rfl, _, h1, _⟩
  · simp [Value.ownBlock] at e
  · simp [Value.ownBlock] at e
    subst e
    rw [hg] at h1
    cases h1
    exact hT rfl
theorem OwnL.set {w : World} {K : Nat} {v : Value} {ss : List ByteArray} {g : Nat} (h : OwnL w K v ss) (hne : v.ownBlock ≠ some g) (i : Nat) (u : Value) : OwnL (w.setCell ⟨g, i, none⟩ u) K v ss := by
  refine ⟨h.1.kept (grown_set w g i u) (.inr hne), fun g' hg' => ?_⟩
  intro cur T f e
  rw [Below.heap_setCell _ _ _ _ (by rintro rfl; exact hne hg')] at e
  exact h.2 g' hg' cur T f e
theorem Lim.own {w w' : World} {v u : Value} {xs : List Nat} {ss : List ByteArray} {K : Nat} (h : Lim w v xs) (ho : OwnL w K u ss) (hg : w.grownBy w' u.ownBlock) : Lim w' v xs := by
  cases hu : u.ownBlock with
  | none =>
    rw [hu] at hg
    exact h.below (K := w.heap.size) ⟨hg.os, hg.tape, hg.output, hg.size, fun b hb => hg.block b hb (by simp)⟩ (Nat.le_refl _)
  | some g =>
    rw [hu] at hg
    exact h.grown (ho.2 g hu) hg
theorem OwnL.grown {w0 w w' : World} {K : Nat} {u : Value} {ss : List ByteArray} (ho : OwnL w K u ss) (hb : Below K w0 w) (hK : K ≤ w.heap.size) (hg : w.grownBy w' u.ownBlock) : Below K w0 w' :=
  hb.grown hg hK fun g h => (ho.1.lt g h).1
/-- A fact on a text's cell, where there is one. -/
theorem txs_at {w : World} {p : Option Addr} {c : Nat} {ss : List ByteArray} (hn : ss.length ≤ c) (h : (p = none ∧ c = 0) ∨ ∃ b off, p = some ⟨b, off, none⟩ ∧ b < w.heap.size ∧ ∀ i, i < ss.length → w.cell? ⟨b, off + i, none⟩ = some (.string (tx ss i))) :
    ∀ k, k < ss.length → ∃ b off, p = some ⟨b, off, none⟩ ∧ b < w.heap.size ∧ w.cell? ⟨b, off + k, none⟩ = some (.string (tx ss k)) := by
  intro k hk
  rcases h with ⟨_, h⟩ | ⟨b, off, h1, h2, h3⟩
  · omega
  · exact ⟨b, off, h1, h2, h3 k hk⟩

/-- A slice value reads as texts; of a list without texts nothing is asked. -/
def TxsW (w : World) (v : Value) (ss : List ByteArray) : Prop :=
  ∃ p c, v = .slice p ss.length c ∧ ss.length ≤ c ∧ c ≤ maxLen ∧ ∀ k, k < ss.length → ∃ b off, p = some ⟨b, off, none⟩ ∧ b < w.heap.size ∧ w.cell? ⟨b, off + k, none⟩ = some (.string (tx ss k))
theorem Txs.weak {w : World} {v : Value} {ss : List ByteArray} (h : Txs w v ss) : TxsW w v ss := by
  obtain ⟨p, c, h1, h2, h3, h4⟩ := h
  exact ⟨p, c, h1, h2, h3, txs_at h2 h4⟩
theorem TxsW.full {w : World} {v : Value} {ss : List ByteArray} (h : TxsW w v ss) (h0 : 0 < ss.length) : Txs w v ss := by
  obtain ⟨p, c, h1, h2, h3, h4⟩ := h
  obtain ⟨b, off, rfl, hb, _⟩ := h4 0 h0
  refine ⟨_, c, h1, h2, h3, .inr ⟨b, off, rfl, hb, fun i hi => ?_⟩⟩
  obtain ⟨b', off', e, _, h5⟩ := h4 i hi
  cases e
  exact h5
theorem TxsW.below {w w' : World} {v : Value} {ss : List ByteArray} {K : Nat} (h : TxsW w v ss) (hb : Below K w w') (hK : w.heap.size ≤ K) : TxsW w' v ss := by
  obtain ⟨p, c, h1, h2, h3, h4⟩ := h
  refine ⟨p, c, h1, h2, h3, fun k hk => ?_⟩
  obtain ⟨b, off, h5, h6, h7⟩ := h4 k hk
  refine ⟨b, off, h5, Nat.lt_of_lt_of_le h6 hb.size, ?_⟩
  rw [hb.cell (by exact Nat.lt_of_lt_of_le h6 hK)]
  exact h7

set_option maxHeartbeats 1000000 in
-- @needs{abacist/abacistsame.Texts}@
/-- Are two lists the same? -/
theorem same_texts {w : World} {v u : Value} {ss ts : List ByteArray} (h : Txs w v ss) (h' : Txs w u ts) :
    Calls Try.prog 9 #[v, u] w fun e w' => e = .returned (.bool (decide (ss = ts))) ∧ Below w.heap.size w w' := by
  obtain ⟨p, c, rfl, hn, hc, hp⟩ := h
  obtain ⟨p', c', rfl, hn', hc', hp'⟩ := h'
  have hA := txs_at hn hp
  have hA' := txs_at hn' hp'
  obtain ⟨n, hN⟩ : ∃ n, ss.length = n := ⟨_, rfl⟩
  obtain ⟨m, hM⟩ : ∃ m, ts.length = m := ⟨_, rfl⟩
  have HA := hid hA
  have HA' := hid hA'
  have HN := hid hN
  have HM := hid hM
  rw [hN] at hn ⊢
  rw [hM] at hn' ⊢
  unfold maxLen at hc hc'
  clear hA hA' hp hp' hN hM
  by_cases hnm : n = m
  · subst hnm
    go_enter Try.func9, Try.ntmps9
    go_wp2_with fail
    go_loopw [5] (fun i wr => ∃ k : Nat, k ≤ n ∧ i = .int .i64 k ∧ Hid (ss.take k = ts.take k) ∧ ∃ j, wr = w.drewN j) (fun i _ => n - (intOf i).toNat)
    case atStart => exact ⟨0, by omega, rfl, hid (by simp), 0, rfl⟩
    case round =>
      obtain ⟨k, hk, rfl, ht, j, rfl⟩ := hrel
      by_cases hlt : k < n
      · obtain ⟨b, off, rfl, hb, cu⟩ := HA.out k (by rw [HN.out]; exact hlt)
        obtain ⟨b', off', rfl, hb', cu'⟩ := HA'.out k (by rw [HM.out]; exact hlt)
        have hstep : tx ss k = tx ts k → ss.take (k + 1) = ts.take (k + 1) := by
          intro e
          rw [List.take_add_one, List.take_add_one, ht.out]
          rw [tx_lt (by rw [HN.out]; exact hlt), tx_lt (by rw [HM.out]; exact hlt)] at e
          rw [List.getElem?_eq_getElem (by rw [HN.out]; exact hlt), List.getElem?_eq_getElem (by rw [HM.out]; exact hlt), e]
        have HS := hid hstep
        have hdiff : ¬ tx ss k = tx ts k → decide (ss = ts) = false := by
          intro e
          apply decide_eq_false
          rintro rfl
          exact e rfl
        have HD := hid hdiff
        clear hstep hdiff
        by_cases he : tx ss k = tx ts k
        · have HE := hid (HS.out he)
          rw [he] at cu
          go_wp2_with fail
          go_quiet (fail)
          go_wp2_with fail
          go_roundw
          case rel => exact ⟨k + 1, by omega, by go_num, hid HE.out, _, rfl⟩
          case measure => simp [intOf]; omega
        · have HE := hid (HD.out he)
          have hne : ((tx ss k).toList == (tx ts k).toList) = false := by
            rw [beq_eq_false_iff_ne]
            intro e
            rw [ByteArray.toList_eq, ByteArray.toList_eq] at e
            exact he (by cases h1 : tx ss k; cases h2 : tx ts k; rw [h1, h2] at e; congr 1; exact Array.toList_inj.1 e)
          go_wp2_with fail
          go_quiet (fail)
          go_wp2_with fail
          go_ret
          exact ⟨ret_bool HE.out.symm, below_drewN (below_drewN (Below.refl _ _) _) _⟩
      · obtain rfl : k = n := by omega
        have hE : decide (ss = ts) = true := by
          apply decide_eq_true
          have := ht.out
          rwa [List.take_of_length_le (by rw [HN.out]; exact Nat.le_refl _), List.take_of_length_le (by rw [HM.out]; exact Nat.le_refl _)] at this
        have HE := hid hE
        clear hE
        go_wp2_with fail
        go_ret
        exact ⟨ret_bool HE.out.symm, below_drewN (Below.refl _ _) _⟩
  · have hE : decide (ss = ts) = false := by
      apply decide_eq_false
      rintro rfl
      exact hnm (HN.out.symm.trans HM.out)
    have HE := hid hE
    clear hE
    have hx : ¬ (n : Int) = (m : Int) := by omega
    go_enter Try.func9, Try.ntmps9
    go_wp2_with fail
    go_ret
    exact ⟨ret_bool HE.out.symm, Below.refl _ _⟩

end Go.Proofs.Ytokojbgpboccnaa

namespace Go.Proofs.Ytokojbgpboccnaa
open Go.RowKit
open Num
set_option linter.unusedVariables false
set_option linter.unusedSimpArgs false

def AddrOk (w : World) (p : Option Addr) (c : Nat) (xs : List Nat) : Prop :=
  (p = none ∧ c = 0) ∨ ∃ b off, p = some ⟨b, off, none⟩ ∧ b < w.heap.size ∧ ∀ i, i < xs.length → w.cell? ⟨b, off + i, none⟩ = some (.int .u32 (dg xs i))

set_option maxHeartbeats 400000 in
theorem trim_at (b off n c : Nat) (xs : List Nat) (w : World) (hf : Fits xs) (hn : n = xs.length) (hc : n ≤ c) (hm : c ≤ maxLen)
    (hcell : ∀ i, i < n → w.cell? ⟨b, off + i, none⟩ = some (.int .u32 (dg xs i))) :
    Calls Try.prog 64 #[.slice (some ⟨b, off, none⟩) n c] w fun e w' => e = .returned (.slice (some ⟨b, off, none⟩) (tl xs n) c) ∧ w = w' := by
  unfold maxLen at hm
  clear hn
  go_enter Try.func64, Try.ntmps64
  go_wp2
  go_loop [3] (fun i => ∃ k : Nat, k ≤ n ∧ i = .int .i64 k ∧ Hid (tl xs k = tl xs n)) (fun i => (intOf i).toNat)
  case atStart => exact ⟨n, Nat.le_refl _, rfl, rfl⟩
  case round =>
    obtain ⟨k, hk, rfl, ht⟩ := hrel
    match k, hk, ht with
    | 0, hk, ht =>
      go_wp2
      go_ret
      exact ⟨by rw [← ht.out]; rfl, rfl⟩
    | k + 1, hk, ht =>
      have hx := hcell k (by omega)
      have hb := hf k
      by_cases h0 : dg xs k = 0
      · have H0 := hid h0
        rw [h0] at hx
        clear h0 hb
        go_wp2
        go_round
        case rel => exact ⟨k, by omega, by go_num, by have := ht.out; rw [tl_skip H0.out] at this; exact this⟩
        case measure => simp [intOf]
      · go_wp2
        go_ret
        exact ⟨by rw [← ht.out, tl_stop h0]; go_num, rfl⟩

set_option maxHeartbeats 400000 in
theorem trim_none (w : World) :
    Calls Try.prog 64 #[.slice none 0 0] w fun e w' => e = .returned (.slice none 0 0) ∧ w = w' := by
  go_enter Try.func64, Try.ntmps64
  go_wp2
  go_loop [3] (fun i => i = .int .i64 0) (fun i => (intOf i).toNat)
  case atStart => rfl
  case round =>
    obtain rfl := hrel
    go_wp2
    go_ret
    exact ⟨rfl, rfl⟩

/-- trim: the same memory, as many limbs as count. -/
theorem trim_any (p : Option Addr) (c : Nat) (xs : List Nat) (w : World) (hf : Fits xs) (hc : xs.length ≤ c) (hm : c ≤ maxLen) (ha : AddrOk w p c xs) :
    Calls Try.prog 64 #[.slice p xs.length c] w fun e w' => e = .returned (.slice p (tlen xs) c) ∧ w = w' := by
  rcases ha with ⟨rfl, rfl⟩ | ⟨b, off, rfl, _, hcell⟩
  · have : xs = [] := List.length_eq_zero_iff.1 (by omega)
    subst this
    exact trim_none w
  · exact trim_at b off xs.length c xs w hf rfl hc hm hcell

theorem AddrOk.take {w : World} {p : Option Addr} {c : Nat} {xs : List Nat} (h : AddrOk w p c xs) (k : Nat) : AddrOk w p c (xs.take k) := by
  rcases h with h | ⟨b, off, h1, h2, h3⟩
  · exact .inl h
  · refine .inr ⟨b, off, h1, h2, fun i hi => ?_⟩
    rw [List.length_take] at hi
    rw [dg_take (by omega)]
    exact h3 i (by omega)

theorem AddrOk.below {w w' : World} {p : Option Addr} {c : Nat} {xs : List Nat} {K : Nat} (h : AddrOk w p c xs) (hb : Below K w w') (hK : w.heap.size ≤ K) : AddrOk w' p c xs := by
  rcases h with h5 | ⟨b, off, h6, h7, h8⟩
  · exact .inl h5
  · refine .inr ⟨b, off, h6, Nat.lt_of_lt_of_le h7 hb.size, fun i hi => ?_⟩
    rw [hb.cell (by exact Nat.lt_of_lt_of_le h7 hK)]
    exact h8 i hi

/-- trim of what reads as limbs reads as those that count. -/
theorem trim_lim {w : World} {v : Value} {xs : List Nat} (h : Lim w v xs) :
    Calls Try.prog 64 #[v] w fun e w' => ∃ v', e = .returned v' ∧ Lim w v' (trimL xs) ∧ w = w' := by
  obtain ⟨hf, p, c, rfl, hc, hm, ha⟩ := h
  refine (trim_any p c xs w hf hc hm ha).mono ?_
  rintro e w' ⟨rfl, rfl⟩
  refine ⟨_, rfl, ⟨fits_trimL hf, p, c, by rw [length_trimL], ?_, hm, AddrOk.take (w := w) (p := p) (c := c) ha (tlen xs)⟩, rfl⟩
  rw [length_trimL]
  exact Nat.le_trans (tlen_le xs) hc

end Go.Proofs.Ytokojbgpboccnaa

namespace Go.Proofs.Ytokojbgpboccnaa
open Go.RowKit
open Num
set_option linter.unusedVariables false
set_option linter.unusedSimpArgs false

set_option maxHeartbeats 400000 in
theorem less_core (p q : Option Addr) (c d n0 m0 n m : Nat) (xs ys : List Nat) (w : World) (hx : Fits xs) (hy : Fits ys) (hcn : n ≤ c) (hdm : m ≤ d) (hn : n = xs.length) (hm : m = ys.length)
    (hc : c ≤ maxLen) (hd : d ≤ maxLen) (ha : AddrOk w p c xs) (hb : AddrOk w q d ys) (tx : Trim xs) (ty : Trim ys)
    (T1 : Calls Try.prog 64 #[.slice p n0 c] w fun e w' => e = .returned (.slice p n c) ∧ w = w')
    (T2 : Calls Try.prog 64 #[.slice q m0 d] w fun e w' => e = .returned (.slice q m d) ∧ w = w') (lt : Bool) (hlt : lt = decide (val xs < val ys)) :
    Calls Try.prog 60 #[.slice p n0 c, .slice q m0 d] w fun e w' => e = .returned (.bool lt) ∧ ∃ k, w' = w.drewN k := by
  have HT1 := hid T1
  have HT2 := hid T2
  have Hn := hid hn
  have Hm := hid hm
  have Hlt := hid hlt
  clear hn hm T1 T2 hlt
  unfold maxLen at hc hd
  have A1 : ∀ k, k < n → ∃ b off, p = some ⟨b, off, none⟩ ∧ w.cell? ⟨b, off + k, none⟩ = some (.int .u32 (dg xs k)) := by
    intro k hk
    rcases ha with ⟨_, h⟩ | ⟨b, off, h1, h2, h3⟩
    · omega
    · exact ⟨b, off, h1, h3 k (by rw [← Hn.out]; exact hk)⟩
  have A2 : ∀ k, k < m → ∃ b off, q = some ⟨b, off, none⟩ ∧ w.cell? ⟨b, off + k, none⟩ = some (.int .u32 (dg ys k)) := by
    intro k hk
    rcases hb with ⟨_, h⟩ | ⟨b, off, h1, h2, h3⟩
    · omega
    · exact ⟨b, off, h1, h3 k (by rw [← Hm.out]; exact hk)⟩
  have HA1 := hid A1
  have HA2 := hid A2
  clear A1 A2 ha hb
  by_cases hnm : n = m
  · subst hnm
    go_enter Try.func60, Try.ntmps60
    go_wp2_with fail
    refine HT1.out.mono ?_
    rintro e w' ⟨rfl, rfl⟩
    go_wp2_with fail
    refine HT2.out.mono ?_
    rintro e w' ⟨rfl, rfl⟩
    go_wp2
    go_loopw [5] (fun i wr => ∃ z : Int, -1 ≤ z ∧ z < n ∧ i = .int .i64 z ∧ Hid (xs.drop (z + 1).toNat = ys.drop (z + 1).toNat) ∧ ∃ j, wr = w.drewN j) (fun i _ => (intOf i + 1).toNat)
    case atStart =>
      refine ⟨(n : Int) - 1, by omega, by omega, rfl, ?_, 0, rfl⟩
      show _ = _
      rw [show ((n : Int) - 1 + 1).toNat = n by omega, List.drop_of_length_le (by rw [← Hn.out]; exact Nat.le_refl _), List.drop_of_length_le (by rw [← Hm.out]; exact Nat.le_refl _)]
    case round =>
      obtain ⟨z, hz1, hz2, rfl, hdr, j, rfl⟩ := hrel
      by_cases h0 : z = -1
      · subst h0
        have e : xs = ys := hdr.out
        have HE := hid e
        clear e
        go_wp2
        go_ret
        exact ⟨by rw [Hlt.out, HE.out]; simp, j, rfl⟩
      · obtain ⟨k, rfl⟩ := Int.eq_ofNat_of_zero_le (show 0 ≤ z by omega)
        obtain ⟨b1, o1, rfl, c1⟩ := HA1.out k (by omega)
        obtain ⟨b2, o2, rfl, c2⟩ := HA2.out k (by omega)
        by_cases heq : dg xs k = dg ys k
        · rw [heq] at c1
          have HE := hid heq
          clear heq
          go_wp2
          go_quiet (fail)
          go_wp2
          go_roundw
          case rel =>
            refine ⟨(k : Int) - 1, by omega, by omega, by go_num, ?_, _, rfl⟩
            show _ = _
            rw [show ((k : Int) - 1 + 1).toNat = k by omega]
            have hd1 := hdr.out
            rw [show ((k : Int) + 1).toNat = k + 1 by omega] at hd1
            rw [drop_dg (by rw [← Hn.out]; omega), drop_dg (l := ys) (by rw [← Hm.out]; omega), HE.out, hd1]
          case measure => simp [intOf]
        · have hd1 := hdr.out
          rw [show ((k : Int) + 1).toNat = k + 1 by omega] at hd1
          have hr : decide (val xs < val ys) = decide (dg xs k < dg ys k) := by
            rw [decide_eq_decide]
            exact val_lt_of_top hx hy hd1 (by rw [← Hn.out]; omega) (by rw [← Hm.out]; omega) heq
          have HR := hid hr
          clear hr hd1
          have hb1 : ((dg xs k : Int) != (dg ys k : Int)) = true := by rw [bne_iff_ne]; omega
          go_wp2
          go_quiet (fail)
          go_wp2
          go_quiet (fail)
          go_wp2
          go_ret
          exact ⟨by rw [Hlt.out, HR.out]; simp, _, by simp only [World.drewN_drewN]; rfl⟩
  · have hr : decide (val xs < val ys) = decide (n < m) := by
      rw [decide_eq_decide, Hn.out, Hm.out]
      constructor
      · intro h
        apply Classical.byContradiction
        intro hh
        have := lt_of_length (x := ys) (y := xs) hy tx (by have := Hn.out; have := Hm.out; omega)
        omega
      · intro h
        exact lt_of_length hx ty h
    have HR := hid hr
    clear hr
    have hb1 : ((n : Int) != (m : Int)) = true := by rw [bne_iff_ne]; omega
    go_enter Try.func60, Try.ntmps60
    go_wp2_with fail
    refine HT1.out.mono ?_
    rintro e w' ⟨rfl, rfl⟩
    go_wp2_with fail
    refine HT2.out.mono ?_
    rintro e w' ⟨rfl, rfl⟩
    go_wp2
    go_ret
    exact ⟨ret_bool (by rw [Hlt.out, HR.out]), 0, rfl⟩

/-- Less tells which number is less; nothing in memory changes. -/
theorem less_lim {w : World} {v u : Value} {xs ys : List Nat} (h1 : Lim w v xs) (h2 : Lim w u ys) :
    Calls Try.prog 60 #[v, u] w fun e w' => e = .returned (.bool (decide (val xs < val ys))) ∧ ∃ k, w' = w.drewN k := by
  obtain ⟨hf, p, c, rfl, hc, hm, ha⟩ := h1
  obtain ⟨hf2, q, d, rfl, hd, hm2, ha2⟩ := h2
  have lx := tlen_le xs
  have ly := tlen_le ys
  exact less_core p q c d xs.length ys.length (tlen xs) (tlen ys) (trimL xs) (trimL ys) w (fits_trimL hf) (fits_trimL hf2) (by omega) (by omega) (length_trimL xs).symm (length_trimL ys).symm hm hm2
    (AddrOk.take (xs := xs) ha _) (AddrOk.take (xs := ys) ha2 _) (trim_trimL _) (trim_trimL _) (trim_any p c xs w hf hc hm ha) (trim_any q d ys w hf2 hd hm2 ha2) _ (by rw [val_trimL, val_trimL])

end Go.Proofs.Ytokojbgpboccnaa

namespace Go.Proofs.Ytokojbgpboccnaa
open Go.RowKit
open Num
set_option linter.unusedVariables false
set_option maxRecDepth 100000
set_option linter.unusedSimpArgs false

/-- One step of the sum. -/
theorem add_step {xs ys us : List Nat} {k c s n : Nat} (hl : us.length = n + 1) (hk : k < n) (hI : val (us.take k) + c * B ^ k = val (xs.take k) + val (ys.take k)) (hs : s = c + dg xs k + dg ys k) :
    val ((us.set k (s % 4294967296)).take (k + 1)) + s / 4294967296 * B ^ (k + 1) = val (xs.take (k + 1)) + val (ys.take (k + 1)) := by
  rw [val_take_set _ _ _ (by omega), val_take_succ, val_take_succ ys]
  have h := carry_split s (B ^ k)
  rw [Nat.pow_succ]
  subst hs
  rw [Nat.add_mul, Nat.add_mul] at h
  omega

set_option maxHeartbeats 400000 in
theorem add_core (p q : Option Addr) (c d n m : Nat) (xs ys : List Nat) (w : World) (hx : Fits xs) (hy : Fits ys) (hcn : n ≤ c) (hdm : m ≤ d) (hn : n = xs.length) (hm : m = ys.length) (A1 A2 : Value)
    (hA : (A1 = .slice p n c ∧ A2 = .slice q m d ∧ m ≤ n) ∨ (A1 = .slice q m d ∧ A2 = .slice p n c ∧ m < n))
    (hc : c ≤ maxLen) (hd : d ≤ maxLen) (hbig : n ≤ 1099511627776) (hA1 : ∀ k, k < n → ∃ b off, p = some ⟨b, off, none⟩ ∧ b < w.heap.size ∧ w.cell? ⟨b, off + k, none⟩ = some (.int .u32 (dg xs k)))
    (hA2 : ∀ k, k < m → ∃ b off, q = some ⟨b, off, none⟩ ∧ b < w.heap.size ∧ w.cell? ⟨b, off + k, none⟩ = some (.int .u32 (dg ys k))) :
    Calls Try.prog 59 #[A1, A2] w fun e w' => ∃ v zs, e = .returned v ∧ Lim w' v zs ∧ Trim zs ∧ val zs = val xs + val ys ∧ Below w.heap.size w w' := by
  obtain ⟨i0, hi, hz0, hz1, hz2⟩ := info_parts infoU32
  have Hn := hid hn
  have Hm := hid hm
  have HA1 := hid hA1
  have HA2 := hid hA2
  clear hn hm hA1 hA2
  unfold maxLen at hc hd
  rcases hA with ⟨rfl, rfl, hle⟩ | ⟨rfl, rfl, hle⟩ <;>
  ( go_enter Try.func59, Try.ntmps59
    go_wp2_with (refine wpList_make_limbs _ rfl _ _ 45 rfl i0 Try.underlying45 hi hz0 hz1 hz2 _ _ (n + 1) (n + 1) rfl rfl ?cL ?cC (Nat.le_refl _) ?cb ?_)
    case cL => omega
    case cC => omega
    case cb => omega
    intro w1 hblk hbelow hsz
    go_wp2
    go_loopw [6, 22] (fun cy i wr => ∃ (k c : Nat) (us : List Nat), k ≤ n ∧ i = .int .i64 k ∧ cy = .int .u64 c ∧ c ≤ 1 ∧ Hid (Blk wr w.heap.size us) ∧ Hid (us.length = n + 1) ∧ Fits us ∧
        Hid (val (us.take k) + c * B ^ k = val (xs.take k) + val (ys.take k)) ∧ Hid (Below w.heap.size w wr)) (fun _ i _ => n - (intOf i).toNat)
    case atStart => exact ⟨0, 0, _, by omega, rfl, rfl, by omega, hblk, hid (by simp), Fits.zeros _, hid (by simp [val_nil]), hbelow⟩
    case round =>
      obtain ⟨k, c0, us, hk, rfl, rfl, hc0, hB, hl, hf, hI, hbw⟩ := hrel
      by_cases hlt : k < n
      · obtain ⟨b1, o1, rfl, hb1, cx⟩ := HA1.out k hlt
        rw [← (hbw.out).cell (by exact hb1)] at cx
        have cu := hB.out.cell (i := k) (by rw [hl.out]; omega)
        have fu := hB.out.free k
        have bx := hx k
        have by' := hy k
        by_cases hm2 : k < m
        · obtain ⟨b2, o2, rfl, hb2, cy⟩ := HA2.out k hm2
          rw [← (hbw.out).cell (by exact hb2)] at cy
          go_wp2
          go_roundw
          case rel =>
            exact ⟨k + 1, (c0 + dg xs k + dg ys k) / 4294967296, us.set k ((c0 + dg xs k + dg ys k) % 4294967296), by omega, by go_num, val_int (by omega), by omega, hid (hB.out.set' k _ _ (by omega)), hid (by rw [List.length_set]; exact hl.out),
              hf.set _ _ (by omega), hid (add_step hl.out hlt hI.out rfl), hid (hbw.out.setCell (Nat.le_refl _) _)⟩
          case measure => simp [intOf]; omega
        · have hy0 : dg ys k = 0 := dg_ge (by rw [← Hm.out]; omega)
          have HY := hid hy0
          clear hy0 by'
          go_wp2
          go_roundw
          case rel =>
            exact ⟨k + 1, (c0 + dg xs k) / 4294967296, us.set k ((c0 + dg xs k) % 4294967296), by omega, by go_num, val_int (by omega), by omega, hid (hB.out.set' k _ _ (by omega)), hid (by rw [List.length_set]; exact hl.out),
              hf.set _ _ (by omega), hid (add_step hl.out hlt hI.out (by rw [HY.out]; rfl)), hid (hbw.out.setCell (Nat.le_refl _) _)⟩
          case measure => simp [intOf]; omega
      · obtain rfl : k = n := by omega
        have cu := hB.out.cell (i := k) (by rw [hl.out]; omega)
        have fu := hB.out.free k
        go_wp2_with fail
        have hB2 := hB.out.set' k (c0 : Int) c0 rfl
        have hf2 := hf.set k c0 (by omega)
        have hl2 : (us.set k c0).length = k + 1 := by rw [List.length_set]; exact hl.out
        have hv : val (us.set k c0) = val xs + val ys := by
          have h1 := val_take_set us k c0 (by rw [hl.out]; omega)
          have h2 := hI.out
          rw [List.take_of_length_le (by omega)] at h1
          rw [val_take_all xs _ (by rw [← Hn.out]; exact Nat.le_refl _), val_take_all ys _ (by rw [← Hm.out]; omega)] at h2
          omega
        have hb2 := hbw.out.setCell (p := ⟨w.heap.size, k, none⟩) (Nat.le_refl _) (.int .u32 (c0 : Int))
        have hL := hB2.lim hf2 0 (k + 1) (k + 1) (by omega) (Nat.le_refl _) (by unfold maxLen; omega)
        rw [List.drop_zero, List.take_of_length_le (by omega)] at hL
        have HL := hid hL
        have HV := hid hv
        have HB2 := hid hb2
        clear hL hv hb2 hB2 hf2 hl2
        refine (trim_lim HL.out).mono ?_
        rintro e w' ⟨v', rfl, hL3, rfl⟩
        go_wp2_with fail
        go_ret
        exact ⟨_, _, rfl, hL3, trim_trimL _, by rw [val_trimL]; exact HV.out, HB2.out⟩)

theorem add_lim {w : World} {v u : Value} {xs ys : List Nat} (h1 : Lim w v xs) (h2 : Lim w u ys) (b1 : xs.length ≤ 1099511627776) (b2 : ys.length ≤ 1099511627776) :
    Calls Try.prog 59 #[v, u] w fun e w' => ∃ v zs, e = .returned v ∧ Lim w' v zs ∧ Trim zs ∧ val zs = val xs + val ys ∧ Below w.heap.size w w' := by
  obtain ⟨hf, p, c, rfl, hc, hm, ha⟩ := h1
  obtain ⟨hf2, q, d, rfl, hd, hm2, ha2⟩ := h2
  have A1 := AddrOk.at' ha rfl hc
  have A2 := AddrOk.at' ha2 rfl hd
  by_cases hle : ys.length ≤ xs.length
  · exact add_core p q c d _ _ xs ys w hf hf2 hc hd rfl rfl _ _ (.inl ⟨rfl, rfl, hle⟩) hm hm2 b1 A1 A2
  · rw [Nat.add_comm]
    exact add_core q p d c _ _ ys xs w hf2 hf hd hc rfl rfl _ _ (.inr ⟨rfl, rfl, by omega⟩) hm2 hm b2 A2 A1

end Go.Proofs.Ytokojbgpboccnaa

namespace Go.Proofs.Ytokojbgpboccnaa
open Go.RowKit
open Num
set_option linter.unusedVariables false
set_option maxRecDepth 100000
set_option linter.unusedSimpArgs false

/-- An error of package api. -/
abbrev errno (k : Int) : Value := .iface 40 (.int .i64 k)

/-- One step of the difference. -/
theorem sub_step {xs ys us : List Nat} {k b b' t n : Nat} (hl : us.length = n) (hk : k < n) (hI : val (us.take k) + val (ys.take k) = val (xs.take k) + b * B ^ k)
    (hs : t + b + dg ys k = dg xs k + b' * 4294967296) : val ((us.set k t).take (k + 1)) + val (ys.take (k + 1)) = val (xs.take (k + 1)) + b' * B ^ (k + 1) := by
  rw [val_take_set _ _ _ (by omega), val_take_succ ys, val_take_succ xs, Nat.pow_succ]
  have e : (t + b + dg ys k) * B ^ k = (dg xs k + b' * 4294967296) * B ^ k := by rw [hs]
  rw [Nat.add_mul, Nat.add_mul, Nat.add_mul, Nat.mul_assoc] at e
  rw [Nat.mul_comm (B ^ k) B, B_eq]
  rw [B_eq] at e hI
  omega

/-- A difference of limbs as the machine reckons it: what is stored, and what is borrowed. -/
theorem sub_wrap (x b y : Nat) (hx : x < 4294967296) (hb : b ≤ 1) (hy : y < 4294967296) : ∃ t b' : Nat, t < 4294967296 ∧ b' ≤ 1 ∧ t + b + y = x + b' * 4294967296 ∧
    IntKind.u64.wrap (IntKind.u64.wrap ((x : Int) - (b : Int)) - (y : Int)) % 4294967296 = (t : Int) ∧ IntKind.u64.wrap (IntKind.u64.wrap ((x : Int) - (b : Int)) - (y : Int)) / 9223372036854775808 = (b' : Int) := by
  rw [IntKind.wrap_u64, IntKind.wrap_u64]
  by_cases h : b + y ≤ x
  · exact ⟨x - b - y, 0, by omega, by omega, by omega, by omega, by omega⟩
  · exact ⟨x + 4294967296 - b - y, 1, by omega, by omega, by omega, by omega, by omega⟩
theorem sub_wrap0 (x b : Nat) (hx : x < 4294967296) (hb : b ≤ 1) : ∃ t b' : Nat, t < 4294967296 ∧ b' ≤ 1 ∧ t + b + 0 = x + b' * 4294967296 ∧
    IntKind.u64.wrap ((x : Int) - (b : Int)) % 4294967296 = (t : Int) ∧ IntKind.u64.wrap ((x : Int) - (b : Int)) / 9223372036854775808 = (b' : Int) := by
  rw [IntKind.wrap_u64]
  by_cases h : b ≤ x
  · exact ⟨x - b, 0, by omega, by omega, by omega, by omega, by omega⟩
  · exact ⟨x + 4294967296 - b, 1, by omega, by omega, by omega, by omega, by omega⟩

set_option maxHeartbeats 400000 in
theorem sub_core (p q : Option Addr) (c d n0 m0 n m : Nat) (xs ys : List Nat) (w : World) (hx : Fits xs) (hy : Fits ys) (hcn : n ≤ c) (hdm : m ≤ d) (hn : n = xs.length) (hm : m = ys.length)
    (hc : c ≤ maxLen) (hd : d ≤ maxLen) (ha : AddrOk w p c xs) (hb : AddrOk w q d ys) (tx : Trim xs) (ty : Trim ys) (hbig : n ≤ 1099511627776) (hge : val ys ≤ val xs)
    (T1 : Calls Try.prog 64 #[.slice p n0 c] w fun e w' => e = .returned (.slice p n c) ∧ w = w')
    (T2 : Calls Try.prog 64 #[.slice q m0 d] w fun e w' => e = .returned (.slice q m d) ∧ w = w')
    (T3 : Calls Try.prog 60 #[.slice p n c, .slice q m d] w fun e w' => e = .returned (.bool false) ∧ ∃ k, w' = w.drewN k) :
    Calls Try.prog 61 #[.slice p n0 c, .slice q m0 d] w fun e w' => ∃ v zs, e = .returned (.tuple #[v, .nilIface]) ∧ Lim w' v zs ∧ Trim zs ∧ val zs = val xs - val ys ∧ Below w.heap.size w w' := by
  obtain ⟨i0, hi, hz0, hz1, hz2⟩ := info_parts infoU32
  have hle : m ≤ n := by
    apply Classical.byContradiction
    intro hh
    have := lt_of_length (x := xs) (y := ys) hx ty (by omega)
    omega
  have HA1 := hid (AddrOk.at' ha hn hcn)
  have HA2 := hid (AddrOk.at' hb hm hdm)
  have HT1 := hid T1
  have HT2 := hid T2
  have HT3 := hid T3
  have Hn := hid hn
  have Hm := hid hm
  have Hge := hid hge
  clear hn hm T1 T2 T3 ha hb hge
  unfold maxLen at hc hd
  go_enter Try.func61, Try.ntmps61
  go_wp2_with fail
  refine HT1.out.mono ?_
  rintro e w' ⟨rfl, rfl⟩
  go_wp2_with fail
  refine HT2.out.mono ?_
  rintro e w' ⟨rfl, rfl⟩
  go_wp2_with fail
  refine HT3.out.mono ?_
  rintro e w' ⟨rfl, nd, rfl⟩
  go_wp2_with (refine wpList_make_limbs _ rfl _ _ 45 rfl i0 Try.underlying45 hi hz0 hz1 hz2 _ _ n n rfl rfl rfl rfl (Nat.le_refl _) ?cb ?_)
  case cb => omega
  intro w1 hblk0 hbelow0 hsz
  have hblk : Blk w1 w.heap.size (List.replicate n 0) := hblk0
  have hbelow : Below w.heap.size w w1 := (below_drewN (Below.refl _ _) nd).trans hbelow0
  clear hblk0 hbelow0
  go_wp2
  go_loopw [7, 24] (fun bo i wr => ∃ (k b : Nat) (us : List Nat), k ≤ n ∧ i = .int .i64 k ∧ bo = .int .u64 b ∧ b ≤ 1 ∧ Hid (Blk wr w.heap.size us) ∧ Hid (us.length = n) ∧ Fits us ∧
      Hid (val (us.take k) + val (ys.take k) = val (xs.take k) + b * B ^ k) ∧ Hid (Below w.heap.size w wr)) (fun _ i _ => n - (intOf i).toNat)
  case atStart => exact ⟨0, 0, _, by omega, rfl, rfl, by omega, hblk, hid (by simp), Fits.zeros _, hid (by simp [val_nil]), hbelow⟩
  case round =>
    obtain ⟨k, b0, us, hk, rfl, rfl, hb0, hB, hl, hf, hI, hbw⟩ := hrel
    by_cases hlt : k < n
    · obtain ⟨b1, o1, rfl, hb1, cx⟩ := HA1.out k hlt
      rw [← (hbw.out).cell (by exact hb1)] at cx
      have cu := hB.out.cell (i := k) (by rw [hl.out]; omega)
      have fu := hB.out.free k
      have bx := hx k
      have by' := hy k
      by_cases hm2 : k < m
      · obtain ⟨b2, o2, rfl, hb2, cy⟩ := HA2.out k hm2
        rw [← (hbw.out).cell (by exact hb2)] at cy
        go_wp2
        obtain ⟨t, b', ht1, ht2, ht3, ht4, ht5⟩ := sub_wrap (dg xs k) b0 (dg ys k) bx hb0 by'
        go_roundw
        case rel =>
          exact ⟨k + 1, b', us.set k t, by omega, by go_num, val_int ht5, ht2, hid (hB.out.set' k _ _ ht4), hid (by rw [List.length_set]; exact hl.out),
            hf.set _ _ ht1, hid (sub_step hl.out hlt hI.out ht3), hid (hbw.out.setCell (Nat.le_refl _) _)⟩
        case measure => simp [intOf]; omega
      · have hy0 : dg ys k = 0 := dg_ge (by rw [← Hm.out]; omega)
        have HY := hid hy0
        clear hy0 by'
        go_wp2
        obtain ⟨t, b', ht1, ht2, ht3, ht4, ht5⟩ := sub_wrap0 (dg xs k) b0 bx hb0
        go_roundw
        case rel =>
          exact ⟨k + 1, b', us.set k t, by omega, by go_num, val_int ht5, ht2, hid (hB.out.set' k _ _ ht4), hid (by rw [List.length_set]; exact hl.out),
            hf.set _ _ ht1, hid (sub_step hl.out hlt hI.out (by rw [HY.out]; exact ht3)), hid (hbw.out.setCell (Nat.le_refl _) _)⟩
        case measure => simp [intOf]; omega
    · obtain rfl : k = n := by omega
      go_wp2_with fail
      have hv : val us = val xs - val ys := by
        have h2 := hI.out
        have h3 := Hge.out
        have h4 := val_lt hf
        rw [hl.out] at h4
        rw [val_take_all us _ (by rw [hl.out]; exact Nat.le_refl _), val_take_all xs _ (by rw [← Hn.out]; exact Nat.le_refl _), val_take_all ys _ (by rw [← Hm.out]; omega)] at h2
        rcases (show b0 = 0 ∨ b0 = 1 by omega) with rfl | rfl
        · omega
        · omega
      have hL := hB.out.lim hf 0 k k (by rw [hl.out]; omega) (Nat.le_refl _) (by unfold maxLen; omega)
      rw [List.drop_zero, List.take_of_length_le (by rw [hl.out]; exact Nat.le_refl _)] at hL
      have HL := hid hL
      have HV := hid hv
      clear hL hv
      refine (trim_lim HL.out).mono ?_
      rintro e w' ⟨v', rfl, hL3, rfl⟩
      go_wp2_with fail
      go_ret2
      exact ⟨_, _, rfl, hL3, trim_trimL _, by rw [val_trimL]; exact HV.out, hbw.out⟩

theorem lim_parts {w : World} {v : Value} {xs : List Nat} (h : Lim w v xs) : ∃ p c, v = .slice p xs.length c ∧ Fits xs ∧ xs.length ≤ c ∧ c ≤ maxLen ∧ AddrOk w p c xs := by
  obtain ⟨hf, p, c, h1, h2, h3, h4⟩ := h
  exact ⟨p, c, h1, hf, h2, h3, h4⟩

theorem lim_cut {w : World} {p : Option Addr} {c : Nat} {xs : List Nat} (hf : Fits xs) (hc : xs.length ≤ c) (hm : c ≤ maxLen) (ha : AddrOk w p c xs) : Lim w (.slice p (tlen xs) c) (trimL xs) :=
  ⟨fits_trimL hf, p, c, by rw [length_trimL], by rw [length_trimL]; exact Nat.le_trans (tlen_le xs) hc, hm, ha.take _⟩

theorem sub_lim {w : World} {v u : Value} {xs ys : List Nat} (h1 : Lim w v xs) (h2 : Lim w u ys) (b1 : xs.length ≤ 1099511627776) (hge : val ys ≤ val xs) :
    Calls Try.prog 61 #[v, u] w fun e w' => ∃ v zs, e = .returned (.tuple #[v, .nilIface]) ∧ Lim w' v zs ∧ Trim zs ∧ val zs = val xs - val ys ∧ Below w.heap.size w w' := by
  obtain ⟨p, c, rfl, hf, hc, hm, ha⟩ := lim_parts h1
  obtain ⟨q, d, rfl, hf2, hd, hm2, ha2⟩ := lim_parts h2
  have lx := tlen_le xs
  have ly := tlen_le ys
  have hl := less_lim (lim_cut hf hc hm ha) (lim_cut hf2 hd hm2 ha2)
  rw [val_trimL, val_trimL, decide_eq_false (by omega)] at hl
  have h := sub_core p q c d xs.length ys.length (tlen xs) (tlen ys) (trimL xs) (trimL ys) w (fits_trimL hf) (fits_trimL hf2) (by omega) (by omega) (length_trimL xs).symm (length_trimL ys).symm hm hm2
    (AddrOk.take (xs := xs) ha _) (AddrOk.take (xs := ys) ha2 _) (trim_trimL _) (trim_trimL _) (by omega) (by rw [val_trimL, val_trimL]; exact hge) (trim_any p c xs w hf hc hm ha) (trim_any q d ys w hf2 hd hm2 ha2) hl
  rw [val_trimL, val_trimL] at h
  exact h

end Go.Proofs.Ytokojbgpboccnaa

namespace Go.Proofs.Ytokojbgpboccnaa
open Go.RowKit
open Num
set_option linter.unusedVariables false
set_option maxRecDepth 100000
set_option linter.unusedSimpArgs false

theorem mul_le_limbs {a b : Nat} (ha : a < 4294967296) (hb : b < 4294967296) : a * b ≤ 18446744065119617025 := by
  have : a * b ≤ 4294967295 * 4294967295 := Nat.mul_le_mul (by omega) (by omega)
  omega

/-- One step of a row of the product. -/
theorem mul_step {ys us : List Nat} {v0 a k l c s : Nat} (hp : k + l < us.length) (hI : val us + c * B ^ (k + l) = v0 + a * val (ys.take l) * B ^ k)
    (hs : s = c + (a * dg ys l + dg us (k + l))) : val (us.set (k + l) (s % 4294967296)) + s / 4294967296 * B ^ (k + (l + 1)) = v0 + a * val (ys.take (l + 1)) * B ^ k := by
  have h1 := val_set us (k + l) (s % 4294967296) hp
  have h2 := carry_split s (B ^ (k + l))
  rw [val_take_succ, Nat.mul_add, Nat.add_mul, ← Nat.add_assoc, Nat.pow_succ]
  have h3 : a * (dg ys l * B ^ l) * B ^ k = a * dg ys l * B ^ (k + l) := by
    rw [← Nat.mul_assoc, Nat.mul_assoc, ← Nat.pow_add, Nat.add_comm l k]
  subst hs
  rw [Nat.add_mul, Nat.add_mul] at h2
  omega

theorem mul_row {xs ys us vs : List Nat} {k m c : Nat} (hm : m = ys.length) (hp : k + m < vs.length) (hI : val us = val (xs.take k) * val ys) (hI' : val vs + c * B ^ (k + m) = val us + dg xs k * val (ys.take m) * B ^ k) (hz : dg vs (k + m) = 0) :
    val (vs.set (k + m) c) = val (xs.take (k + 1)) * val ys := by
  have h1 := val_set vs (k + m) c hp
  rw [hz] at h1
  rw [val_take_all ys _ (by omega)] at hI'
  rw [val_take_succ, Nat.add_mul, Nat.mul_assoc (dg xs k), Nat.mul_comm (B ^ k), ← Nat.mul_assoc]
  omega

set_option maxHeartbeats 400000 in
theorem mul_lim {w : World} {v u : Value} {xs ys : List Nat} (h1 : Lim w v xs) (h2 : Lim w u ys) (b1 : xs.length ≤ 1099511627776) (b2 : ys.length ≤ 1099511627776) :
    Calls Try.prog 58 #[v, u] w fun e w' => ∃ v zs, e = .returned v ∧ Lim w' v zs ∧ Trim zs ∧ val zs = val xs * val ys ∧ Below w.heap.size w w' := by
  obtain ⟨i0, hi, hz0, hz1, hz2⟩ := info_parts infoU32
  obtain ⟨p, c, rfl, hx, hcn, hc, ha⟩ := lim_parts h1
  obtain ⟨q, d, rfl, hy, hdm, hd, hb⟩ := lim_parts h2
  clear h1 h2
  obtain ⟨n, hn⟩ : ∃ n, n = xs.length := ⟨_, rfl⟩
  obtain ⟨m, hm⟩ : ∃ m, m = ys.length := ⟨_, rfl⟩
  have HA1 := hid (AddrOk.at' ha hn (by rw [hn]; exact hcn))
  have HA2 := hid (AddrOk.at' hb hm (by rw [hm]; exact hdm))
  rw [← hn] at hcn b1 ⊢
  rw [← hm] at hdm b2 ⊢
  have Hn := hid hn
  have Hm := hid hm
  clear hn hm ha hb
  unfold maxLen at hc hd
  go_enter Try.func58, Try.ntmps58
  go_wp2_with (refine wpList_make_limbs _ rfl _ _ 45 rfl i0 Try.underlying45 hi hz0 hz1 hz2 _ _ (n + m) (n + m) rfl rfl ?cL ?cC (Nat.le_refl _) ?cb ?_)
  case cL => omega
  case cC => omega
  case cb => omega
  intro w1 hblk hbelow hsz
  go_wp2
  go_loopw [8, 19] (fun cy i wr => ∃ (k : Nat) (us : List Nat), k ≤ n ∧ i = .int .i64 k ∧ Hid (Blk wr w.heap.size us) ∧ Hid (us.length = n + m) ∧ Fits us ∧
      Hid (val us = val (xs.take k) * val ys) ∧ Hid (∀ j, k + m ≤ j → dg us j = 0) ∧ Hid (Below w.heap.size w wr)) (fun _ i _ => n - (intOf i).toNat)
  case atStart => exact ⟨0, _, by omega, rfl, hblk, hid (by simp), Fits.zeros _, hid (by rw [val_zeros]; simp [val_nil]), hid (fun j _ => dg_zeros _ j), hbelow⟩
  case round =>
    obtain ⟨k, us, hk, rfl, hB, hl, hf, hI, hZ, hbw⟩ := hrel
    by_cases hlt : k < n
    · obtain ⟨b1, o1, rfl, hb1, cx⟩ := HA1.out k hlt
      rw [← (hbw.out).cell (by exact hb1)] at cx
      have bx := hx k
      obtain ⟨wo, rfl⟩ : ∃ wo : World, wo = wr := ⟨_, rfl⟩
      go_wp2
      go_loopw [8, 26] (fun cy j wr => ∃ (l c : Nat) (vs : List Nat), l ≤ m ∧ j = .int .i64 l ∧ cy = .int .u64 c ∧ c < 4294967296 ∧ Hid (Blk wr w.heap.size vs) ∧ Hid (vs.length = n + m) ∧ Fits vs ∧
          Hid (val vs + c * B ^ (k + l) = val us + dg xs k * val (ys.take l) * B ^ k) ∧ Hid (∀ j, k + l ≤ j → dg vs j = dg us j) ∧ Hid (Below w.heap.size w wr)) (fun _ j _ => m - (intOf j).toNat)
      case atStart => exact ⟨0, 0, us, by omega, rfl, rfl, by omega, hB, hl, hf, hid (by simp [val_nil]), hid (fun j _ => rfl), hbw⟩
      case round =>
        obtain ⟨l, c0, vs, hl', rfl, rfl, hc0, hB', hl2, hf', hI', hZ', hbw'⟩ := hrel
        by_cases hlt2 : l < m
        · obtain ⟨b2, o2, rfl, hb2, cy⟩ := HA2.out l hlt2
          rw [← (hbw'.out).cell (by exact hb2)] at cy
          have by' := hy l
          have cu := hB'.out.cell (i := k + l) (by rw [hl2.out]; omega)
          have fu := hB'.out.free (k + l)
          have bu := hf' (k + l)
          have bm := mul_le_limbs bx by'
          go_wp2
          go_roundw
          case rel =>
            refine ⟨l + 1, (c0 + (dg xs k * dg ys l + dg vs (k + l))) / 4294967296, vs.set (k + l) ((c0 + (dg xs k * dg ys l + dg vs (k + l))) % 4294967296), by omega, by go_num, val_int (by omega), by omega, hid (hB'.out.set' _ _ _ (by omega)), hid (by rw [List.length_set]; exact hl2.out),
              hf'.set _ _ (by omega), hid (mul_step (by rw [hl2.out]; omega) hI'.out rfl), hid (fun j hj => ?_), hid (hbw'.out.setCell (Nat.le_refl _) _)⟩
            rw [dg_set_ne _ _ _ _ (by omega)]
            exact hZ'.out j (by omega)
          case measure => simp [intOf]; omega
        · obtain rfl : l = m := by omega
          have cu := hB'.out.cell (i := k + l) (by rw [hl2.out]; omega)
          have fu := hB'.out.free (k + l)
          go_wp2
          go_roundw
          case rel =>
            refine ⟨k + 1, vs.set (k + l) c0, by omega, by go_num, hid (hB'.out.set' _ _ _ (by omega)), hid (by rw [List.length_set]; exact hl2.out), hf'.set _ _ (by omega),
              hid (mul_row Hm.out (by rw [hl2.out]; omega) hI.out hI'.out (by rw [hZ'.out _ (Nat.le_refl _)]; exact hZ.out _ (Nat.le_refl _))), hid (fun j hj => ?_), hid (hbw'.out.setCell (Nat.le_refl _) _)⟩
            rw [dg_set_ne _ _ _ _ (by omega), hZ'.out j (by omega)]
            exact hZ.out j (by omega)
          case measure => simp [intOf]; omega
    · obtain rfl : k = n := by omega
      go_wp2_with fail
      have hv : val us = val xs * val ys := by
        have h2 := hI.out
        rw [val_take_all xs _ (by rw [← Hn.out]; exact Nat.le_refl _)] at h2
        exact h2
      have hL := hB.out.lim hf 0 (k + m) (k + m) (by rw [hl.out]; omega) (Nat.le_refl _) (by unfold maxLen; omega)
      rw [List.drop_zero, List.take_of_length_le (by rw [hl.out]; exact Nat.le_refl _)] at hL
      have HL := hid hL
      have HV := hid hv
      clear hL hv
      refine (trim_lim HL.out).mono ?_
      rintro e w' ⟨v', rfl, hL3, rfl⟩
      go_wp2_with fail
      go_ret
      exact ⟨_, _, rfl, hL3, trim_trimL _, by rw [val_trimL]; exact HV.out, hbw.out⟩

end Go.Proofs.Ytokojbgpboccnaa

namespace Go.Proofs.Ytokojbgpboccnaa
open Go.RowKit
open Num
set_option linter.unusedVariables false
set_option maxRecDepth 100000
set_option linter.unusedSimpArgs false

theorem toList_at (s : ByteArray) (k : Nat) (h : k < s.size) : s.data.toList[k]? = some s[k] := by
  rw [List.getElem?_eq_getElem (by simpa using h)]; rfl
theorem take_snoc (s : ByteArray) (k : Nat) (h : k < s.size) : s.data.toList.take (k + 1) = s.data.toList.take k ++ [s[k]] := by
  rw [List.take_succ_eq_append_getElem (by simpa using h)]; rfl
theorem head_at (s : ByteArray) (h : 0 < s.size) : s.data.toList.head? = some s[0] := by
  rw [List.head?_eq_getElem?]; exact toList_at s 0 h
theorem u8_eq {a : UInt8} {n : Nat} (hn : n < 256) : a = UInt8.ofNat n ↔ (a.toNat : Int) = (n : Int) := by
  constructor
  · rintro rfl; rw [UInt8.toNat_ofNat']; omega
  · intro h
    apply UInt8.toNat_inj.1
    rw [UInt8.toNat_ofNat']; omega

set_option maxHeartbeats 400000 in
theorem isNat_any (s : ByteArray) (w : World) (hs : s.size ≤ maxLen) (bv : Bool) (hbv : isNat s.data.toList = bv) :
    Calls Try.prog 69 #[.string s] w fun e w' => e = .returned (.bool bv) ∧ w = w' := by
  unfold maxLen at hs
  have HBV := hid hbv
  clear hbv
  have htl : s.toList = s.data.toList := ByteArray.toList_eq s
  by_cases h0 : s.size = 0
  · have he : s.data.toList = [] := List.length_eq_zero_iff.1 (by simpa using h0)
    have hn : s.toList = [] := htl.trans he
    have HE := hid he
    clear he htl h0
    go_enter Try.func69, Try.ntmps69
    go_wp2
    go_ret
    exact ⟨ret_bool (by rw [← HBV.out, HE.out]; rfl), rfl⟩
  · have hpos : 0 < s.size := by omega
    have hne0 : s.data.toList ≠ [] := by intro e; have h2 : s.size = 0 := congrArg List.length e; omega
    have hne : ¬ s.toList = [] := by rw [htl]; exact hne0
    have hie : s.toList.isEmpty = false := by simpa using hne
    have hh := head_at s hpos
    have HH := hid hh
    have HT := hid htl
    have HN0 := hid hne0
    clear hh htl h0 hne0
    by_cases hB : (s[0].toNat : Int) = 48 ∧ (s.toList == [48]) = false
    · obtain ⟨h48, hq⟩ := hB
      have hr : bv = false := by
        rw [← HBV.out]
        exact isNat_lead (by rw [HH.out, (u8_eq (n := 48) (by omega)).2 h48]; rfl) (by rw [← HT.out]; exact hq)
      have HR := hid hr
      clear hr
      go_enter Try.func69, Try.ntmps69
      go_wp2
      go_ret
      exact ⟨ret_bool HR.out.symm, rfl⟩
    · have hC : ¬ (s[0].toNat : Int) = 48 ∨ ((s[0].toNat : Int) = 48 ∧ (s.toList == [48]) = true) := by
        by_cases h : (s[0].toNat : Int) = 48
        · right
          refine ⟨h, ?_⟩
          cases hq : (s.toList == [48]) with
          | true => rfl
          | false => exact absurd ⟨h, hq⟩ hB
        · left; exact h
      have hr : isNat s.data.toList = s.data.toList.all isDig := by
        refine isNat_rest HN0.out ?_
        rcases hC with h | h
        · left
          intro e
          rw [HH.out] at e
          exact h ((u8_eq (a := s[0]) (n := 48) (by omega)).1 (by simpa using e))
        · right; rw [← HT.out]; exact h.2
      have HR := hid hr
      clear hr hB
      rcases hC with h48 | ⟨h48, hq⟩ <;>
      ( go_enter Try.func69, Try.ntmps69
        go_wp2
        go_loop [17] (fun i => ∃ k : Nat, k ≤ s.size ∧ i = .int .i64 k ∧ Hid ((s.data.toList.take k).all isDig = true)) (fun i => s.size - (intOf i).toNat)
        case atStart => exact ⟨0, by omega, rfl, hid (by simp)⟩
        case round =>
          obtain ⟨k, hk, rfl, ha⟩ := hrel
          by_cases hlt : k < s.size
          · by_cases hd : 48 ≤ (s[k].toNat : Int) ∧ (s[k].toNat : Int) ≤ 57
            · obtain ⟨hd1, hd2⟩ := hd
              go_wp2
              go_round
              case rel =>
                refine ⟨k + 1, by omega, by go_num, ?_⟩
                show _ = _
                rw [take_snoc s k hlt, List.all_append, ha.out]
                simp [isDig]; omega
              case measure => simp [intOf]; omega
            · have hf : bv = false := by
                rw [← HBV.out, HR.out, List.all_eq_false]
                refine ⟨s[k], List.mem_of_getElem? (toList_at s k hlt), ?_⟩
                simp [isDig]; omega
              have HF := hid hf
              clear hf
              by_cases hlo : (s[k].toNat : Int) < 48
              · clear hd
                go_wp2
                go_ret
                exact ⟨ret_bool HF.out.symm, rfl⟩
              · have hhi : (57 : Int) < (s[k].toNat : Int) := by omega
                clear hd
                go_wp2
                go_ret
                exact ⟨ret_bool HF.out.symm, rfl⟩
          · have hf : bv = true := by
              rw [← HBV.out, HR.out]
              have := ha.out
              rwa [List.take_of_length_le (by simp; omega)] at this
            have HF := hid hf
            clear hf
            go_wp2
            go_ret
            exact ⟨ret_bool HF.out.symm, rfl⟩)

end Go.Proofs.Ytokojbgpboccnaa

namespace Go.Proofs.Ytokojbgpboccnaa
open Go.RowKit
open Num
set_option linter.unusedVariables false
set_option maxRecDepth 100000
set_option linter.unusedSimpArgs false

/-- Block b, of c cells of a kind, may be written and begins with these numbers. -/
def RowK (ty : TypeId) (kd : IntKind) (w : World) (b c : Nat) (xs : List Nat) : Prop :=
  ∃ cur : Array Value, w.heap[b]? = some (.cells cur ty (0, 0)) ∧ cur.size = c ∧ ∀ i, i < xs.length → cur[i]? = some (.int kd (dg xs i))
abbrev Row := RowK 95 .u32
abbrev Row8 := RowK 5 .u8
section
variable {ty : TypeId} {kd : IntKind} {w w' : World} {b c K : Nat} {xs : List Nat}
theorem RowK.cell (h : RowK ty kd w b c xs) {i : Nat} (hi : i < xs.length) : w.cell? ⟨b, i, none⟩ = some (.int kd (dg xs i)) := by
  obtain ⟨cur, h1, h2, h3⟩ := h
  simp [World.cell?, h1, h3 i hi]
theorem RowK.free (h : RowK ty kd w b c xs) (i : Nat) : w.frozen? ⟨b, i, none⟩ = false := by
  obtain ⟨cur, h1, h2, h3⟩ := h
  simp [World.frozen?, h1]
theorem RowK.lt (h : RowK ty kd w b c xs) : b < w.heap.size := by
  obtain ⟨cur, h1, h2, h3⟩ := h
  exact (Array.getElem?_eq_some_iff.1 h1).1
theorem RowK.set (h : RowK ty kd w b c xs) (i : Nat) (z : Int) (x : Nat) (hz : z = (x : Int)) (hi : i < c) : RowK ty kd (w.setCell ⟨b, i, none⟩ (.int kd z)) b c (xs.set i x) := by
  obtain ⟨cur, h1, h2, h3⟩ := h
  subst hz
  refine ⟨cur.setIfInBounds i (.int kd x), ?_, by simp [h2], fun j hj => ?_⟩
  · simp only [World.setCell, Array.getElem?_modify, h1]; simp
  · rw [List.length_set] at hj
    rw [Array.getElem?_setIfInBounds]
    by_cases e : i = j
    · subst e
      rw [if_pos rfl, if_pos (by omega), dg_set_self _ _ _ hj]
    · rw [if_neg e, dg_set_ne _ _ _ _ (by omega)]; exact h3 j hj
theorem RowK.block {h1 : w'.heap[b]? = w.heap[b]?} (h : RowK ty kd w b c xs) : RowK ty kd w' b c xs := by
  obtain ⟨cur, h2, h3⟩ := h
  exact ⟨cur, h1.trans h2, h3⟩
theorem RowK.below (h : RowK ty kd w b c xs) (hb : Below K w w') (hK : b < K) : RowK ty kd w' b c xs := h.block (h1 := hb.block b hK)
theorem RowK.grown (h : RowK ty kd w b c xs) {g : Option Nat} (hg : w.grownBy w' g) (hne : some b ≠ g) : RowK ty kd w' b c xs := h.block (h1 := hg.block b h.lt hne)
theorem RowK.drewN (h : RowK ty kd w b c xs) (n : Nat) : RowK ty kd (w.drewN n) b c xs := h
theorem RowK.take (h : RowK ty kd w b c xs) (k : Nat) : RowK ty kd w b c (xs.take k) := by
  obtain ⟨cur, h1, h2, h3⟩ := h
  refine ⟨cur, h1, h2, fun i hi => ?_⟩
  rw [List.length_take] at hi
  rw [dg_take (by omega)]
  exact h3 i (by omega)
end

def VK (kd : IntKind) (n : Nat) : Value := .int kd (n : Int)
abbrev V32 := VK .u32
abbrev V8 := VK .u8
theorem VK_map (kd : IntKind) (xs : List Nat) (i : Nat) (h : i < xs.length) : (xs.map (VK kd))[i]? = some (.int kd (dg xs i)) := by
  simp [VK, dg, h]
section
variable {ty : TypeId} {kd : IntKind} {w w' : World} {b c K n : Nat} {v : Value} {xs : List Nat}
theorem RowK.ownsK (h : RowK ty kd w b c xs) (hK : K ≤ b) (hn : xs.length ≤ c) (hm : c ≤ maxLen) : w.ownsRow K ty 1 (.slice (some ⟨b, 0, none⟩) xs.length c) xs.length (xs.map (VK kd)) := by
  obtain ⟨cur, h1, h2, h3⟩ := h
  refine ⟨by simp, .inr ⟨b, c, cur, rfl, hK, h1, hn, hm, by simpa using h2, ?_⟩⟩
  apply List.ext_getElem?
  intro i
  rw [List.getElem?_take, Nat.mul_one]
  by_cases hi : i < xs.length
  · rw [if_pos hi, VK_map kd xs i hi, Array.getElem?_toList, h3 i hi]
  · rw [if_neg hi, List.getElem?_eq_none (by simp; omega)]
theorem RowK.ofOwnsK (h : w.ownsRow K ty 1 v n (xs.map (VK kd))) (hn : 0 < n) : ∃ b c, v = .slice (some ⟨b, 0, none⟩) xs.length c ∧ K ≤ b ∧ RowK ty kd w b c xs ∧ xs.length ≤ c ∧ c ≤ maxLen := by
  obtain ⟨hl, h⟩ := h
  simp only [List.length_map, Nat.mul_one] at hl
  rcases h with ⟨_, h⟩ | ⟨g, cap, cur, rfl, hK, h1, h2, h3, h4, h5⟩
  · omega
  · refine ⟨g, cap, by rw [hl], hK, ⟨cur, h1, by simpa using h4, fun i hi => ?_⟩, by omega, h3⟩
    have h6 := VK_map kd xs i hi
    rw [← h5, List.getElem?_take, Nat.mul_one, if_pos (by omega), Array.getElem?_toList] at h6
    exact h6
theorem RowK.owns (h : Row w b c xs) (hK : K ≤ b) (hn : xs.length ≤ c) (hm : c ≤ maxLen) : w.ownsRow K 95 1 (.slice (some ⟨b, 0, none⟩) xs.length c) xs.length (xs.map V32) := h.ownsK hK hn hm
theorem RowK.ofOwns (h : w.ownsRow K 95 1 v n (xs.map V32)) (hn : 0 < n) : ∃ b c, v = .slice (some ⟨b, 0, none⟩) xs.length c ∧ K ≤ b ∧ Row w b c xs ∧ xs.length ≤ c ∧ c ≤ maxLen := RowK.ofOwnsK (kd := .u32) h hn
end

/-- A slice value over a block of the call's own (from block K on). -/
def Own (w : World) (K : Nat) (v : Value) (xs : List Nat) : Prop :=
  Fits xs ∧ ∃ b c, v = .slice (some ⟨b, 0, none⟩) xs.length c ∧ K ≤ b ∧ Row w b c xs ∧ xs.length ≤ c ∧ c ≤ maxLen
theorem Own.lim {w : World} {K : Nat} {v : Value} {xs : List Nat} (h : Own w K v xs) : Lim w v xs := by
  obtain ⟨hf, b, c, rfl, hK, hr, hn, hm⟩ := h
  exact ⟨hf, _, c, rfl, hn, hm, .inr ⟨b, 0, rfl, hr.lt, fun i hi => by rw [Nat.zero_add]; exact hr.cell hi⟩⟩
theorem Own.drewN {w : World} {K : Nat} {v : Value} {xs : List Nat} (h : Own w K v xs) (n : Nat) : Own (w.drewN n) K v xs := h

/-- One step of 'times s and m more'. -/
theorem grow_step {xs vs : List Nat} {k c s m z : Nat} (hk : k < vs.length) (hI : val (vs.take k) + c * B ^ k = val (xs.take k) * s + m) (hZ : dg vs k = dg xs k) (hz : z = c + dg vs k * s) :
    val ((vs.set k (z % 4294967296)).take (k + 1)) + z / 4294967296 * B ^ (k + 1) = val (xs.take (k + 1)) * s + m := by
  rw [val_take_set _ _ _ hk, val_take_succ]
  have h := carry_split z (B ^ k)
  rw [Nat.pow_succ]
  subst hz
  rw [Nat.add_mul] at h
  rw [Nat.add_mul (val _) _ s, ← hZ, Nat.mul_right_comm]
  omega

theorem val_append_one (l : List Nat) (c : Nat) : val (l ++ [c]) = val l + c * B ^ l.length := by
  rw [val_append, val_single, Nat.mul_comm]

theorem trim_of_low {l : List Nat} (hf : Fits l) (h : B ^ (l.length - 1) ≤ val l) : Trim l := by
  by_cases h0 : l = []
  · exact .inl h0
  · right
    have hl : 0 < l.length := by cases l <;> simp at h0 ⊢
    apply Nat.pos_of_ne_zero
    intro e
    have h1 := val_take_succ l (l.length - 1)
    rw [show l.length - 1 + 1 = l.length by omega, val_take_all l _ (Nat.le_refl _), e, Nat.zero_mul, Nat.add_zero] at h1
    have h2 := val_lt (hf.take (l.length - 1))
    rw [List.length_take, Nat.min_eq_left (by omega)] at h2
    omega
theorem trim_grown {xs zs : List Nat} {s m : Nat} (ht : Trim xs) (hf : Fits zs) (hl : zs.length = xs.length) (hm : m < s) (hv : val zs = val xs * s + m) : Trim zs := by
  by_cases h0 : xs = []
  · subst h0
    exact .inl (List.length_eq_zero_iff.1 hl)
  · refine trim_of_low hf ?_
    rw [hl, hv]
    have h1 := ht.low h0
    have h2 : val xs * 1 ≤ val xs * s := Nat.mul_le_mul_left _ (by omega)
    omega
theorem trim_snoc (l : List Nat) {c : Nat} (h : 0 < c) : Trim (l ++ [c]) := by
  right
  simp [dg, h]

set_option maxHeartbeats 1000000 in
theorem grow_own (K : Nat) (v : Value) (s m : Nat) (xs : List Nat) (w : World) (hO : Own w K v xs) (hn : xs.length ≤ 1099511627776) (hs : s ≤ 1000000000) (hmm : m < s) :
    Calls Try.prog 70 #[v, .int .u64 s, .int .u64 m] w fun e w' => ∃ v' zs, e = .returned v' ∧ Own w' K v' zs ∧ val zs = val xs * s + m ∧ zs.length ≤ xs.length + 1 ∧ Below K w w' ∧ (Trim xs → Trim zs) := by
  obtain ⟨i0, hi, hz0, hz1, hz2⟩ := info_parts infoU32
  obtain ⟨hf, b, c, rfl, hK, hR, hnc, hmax⟩ := hO
  obtain ⟨n, hN⟩ : ∃ n, xs.length = n := ⟨_, rfl⟩
  rw [hN] at hnc hn ⊢
  have HN := hid hN
  have HR := hid hR
  clear hN hR
  unfold maxLen at hmax
  go_enter Try.func70, Try.ntmps70
  go_wp2
  go_loopw [7, 13] (fun cy i wr => ∃ (k c0 : Nat) (vs : List Nat), k ≤ n ∧ i = .int .i64 k ∧ cy = .int .u64 c0 ∧ c0 < s ∧ Hid (Row wr b c vs) ∧ Hid (vs.length = n) ∧ Fits vs ∧
      Hid (val (vs.take k) + c0 * B ^ k = val (xs.take k) * s + m) ∧ Hid (∀ j, k ≤ j → dg vs j = dg xs j) ∧ Hid (Below K w wr)) (fun _ i _ => n - (intOf i).toNat)
  case atStart => exact ⟨0, m, xs, by omega, rfl, rfl, hmm, HR, HN, hf, hid (by simp [val_nil]), hid (fun j _ => rfl), Below.refl _ _⟩
  case round =>
    obtain ⟨k, c0, vs, hk, rfl, rfl, hc0, hB', hl, hf', hI, hZ, hbw⟩ := hrel
    by_cases hlt : k < n
    · have cu := hB'.out.cell (i := k) (by rw [hl.out]; omega)
      have fu := hB'.out.free k
      have bu := hf' k
      have bm : dg vs k * s ≤ 4294967295 * 1000000000 := Nat.mul_le_mul (by omega) hs
      have bm2 : c0 + dg vs k * s < 4294967296 * s := by
        have := Nat.mul_le_mul_right s (show dg vs k + 1 ≤ 4294967296 by omega)
        rw [Nat.add_mul] at this
        omega
      go_wp2
      go_roundw
      case rel =>
        refine ⟨k + 1, (c0 + dg vs k * s) / 4294967296, vs.set k ((c0 + dg vs k * s) % 4294967296), by omega, by go_num, val_int (by omega), by omega, hid (hB'.out.set k _ _ (by omega) (by omega)), hid (by rw [List.length_set]; exact hl.out), hf'.set _ _ (by omega),
          hid (grow_step (by rw [hl.out]; omega) hI.out (hZ.out k (Nat.le_refl _)) rfl), hid (fun j hj => ?_), hid (hbw.out.setCell (by exact hK) _)⟩
        rw [dg_set_ne _ _ _ _ (by omega)]
        exact hZ.out j (by omega)
      case measure => simp [intOf]; omega
    · obtain rfl : k = n := by omega
      have hv : val vs + c0 * B ^ k = val xs * s + m := by
        have h := hI.out
        rwa [val_take_all vs _ (by rw [hl.out]; exact Nat.le_refl _), val_take_all xs _ (by rw [HN.out]; exact Nat.le_refl _)] at h
      have HV := hid hv
      have hown := hB'.out.owns hK (by rw [hl.out]; exact hnc) (by unfold maxLen; omega)
      rw [hl.out] at hown
      have HO := hid hown
      clear hv hown
      by_cases hc : c0 = 0
      · subst hc
        go_wp2
        go_ret
        exact ⟨_, vs, rfl, ⟨hf', b, c, by rw [hl.out]; rfl, hK, hB'.out, by rw [hl.out]; exact hnc, by unfold maxLen; omega⟩, by have := HV.out; omega, by rw [hl.out]; omega, hbw.out, fun ht => trim_grown ht hf' (by rw [hl.out, HN.out]) hmm (by have := HV.out; omega)⟩
      · have hc' : 0 < c0 := by omega
        go_wp2_with (at_builtin; refine wpList_append_own _ rfl _ _ 45 rfl K 95 i0 (.int .u32 0) 1 4 Try.underlying45 hi hz0 hz1 hz2 rfl (by decide) _ _ _ rfl (HO.out.alloc _) ⟨wr.heap.size, 0, none⟩ 1 1 [.int .u32 c0] rfl rfl ?c1 ?c2 ?c3 ?c4 ?c5 ?_)
        case c1 =>
          intro j u hj
          match j, hj with
          | 0, hj => simp at hj; subst hj; simp [Addr.add]
        case c2 => intro u hu; simp at hu; subst hu; rfl
        case c3 => unfold maxLen; omega
        case c4 => omega
        case c5 => have := hB'.out.lt; simp; omega
        intro v' w1 hown' hgrow _
        have hz : c0 < 4294967296 := by omega
        have hown2 : w1.ownsRow K 95 1 v' (k + 1) ((vs ++ [c0]).map V32) := by rw [List.map_append]; exact hown'
        obtain ⟨b', c', rfl, hK', hR', hn', hm'⟩ := RowK.ofOwns hown2 (by omega)
        have HR' := hid hR'
        have hb2 : Below K w w1 := (hbw.out.alloc (by have := hB'.out.lt; omega) _).grown hgrow (by have := hB'.out.lt; simp; omega) (fun g hg => by simp [Value.ownBlock] at hg; omega)
        clear hown' hown2 hgrow hR'
        go_wp2
        go_ret
        exact ⟨_, vs ++ [c0], rfl, ⟨hf'.append (Fits.single hz), b', c', rfl, hK', HR'.out, hn', hm'⟩, by rw [val_append_one, hl.out]; exact HV.out, by rw [List.length_append, hl.out]; simp, hb2, fun _ => trim_snoc _ hc'⟩

end Go.Proofs.Ytokojbgpboccnaa

namespace Go.Proofs.Ytokojbgpboccnaa
open Go.RowKit
open Num
set_option linter.unusedVariables false
set_option maxRecDepth 100000
set_option linter.unusedSimpArgs false

def lenStr : Value → Nat | .string s => s.size | _ => 0
theorem Blk.own {w : World} {b m : Nat} (h : Blk w b (List.replicate m 0)) (hm : m ≤ maxLen) : Own w b (.slice (some ⟨b, 0, none⟩) 0 m) [] :=
  ⟨Fits.nil, b, m, rfl, Nat.le_refl _, ⟨_, h, by rw [size_cellsOf, List.length_replicate], fun i hi => by simp at hi⟩, Nat.zero_le _, hm⟩

theorem extract_end (t : ByteArray) (a : Nat) : (t.extract a t.size).data.toList = t.data.toList.drop a := by
  rw [ByteArray.data_extract, Array.toList_extract, List.extract]
  rw [List.take_of_length_le]
  simp
theorem size_extract_end (t : ByteArray) (a : Nat) : (t.extract a t.size).size = t.size - a := by
  rw [ByteArray.size_extract]; omega

set_option maxHeartbeats 400000 in
theorem parse_no (s : ByteArray) (w : World) (hs : s.size ≤ maxLen) (hn : isNat s.data.toList = false) :
    Calls Try.prog 50 #[.string s] w fun e w' => e = .returned (.tuple #[.slice none 0 0, errno 1]) ∧ w = w' := by
  have HC := hid (isNat_any s w hs false hn)
  clear hn
  go_enter Try.func50, Try.ntmps50
  go_wp2_with fail
  refine HC.out.mono ?_
  rintro e w' ⟨rfl, rfl⟩
  go_wp2_with fail
  go_ret2
  exact ⟨rfl, rfl⟩

set_option maxHeartbeats 1000000 in
theorem parse_trim (s : ByteArray) (w : World) (hs : s.size ≤ 1099511627776) (hn : isNat s.data.toList = true) :
    Calls Try.prog 50 #[.string s] w fun e w' => ∃ v xs, e = .returned (.tuple #[v, .nilIface]) ∧ Own w' w.heap.size v xs ∧ val xs = dval s.data.toList ∧ xs.length ≤ s.size ∧ Trim xs ∧ Below w.heap.size w w' := by
  obtain ⟨i0, hi, hz0, hz1, hz2⟩ := info_parts infoU32
  have HC := hid (isNat_any s w (by unfold maxLen; omega) true hn)
  have HA := hid (isNat_all hn)
  clear hn
  go_enter Try.func50, Try.ntmps50
  go_wp2_with fail
  refine HC.out.mono ?_
  rintro e w' ⟨rfl, rfl⟩
  go_wp2_with (refine wpList_make_limbs _ rfl _ _ 45 rfl i0 Try.underlying45 hi hz0 hz1 hz2 _ _ 0 (s.size / 9 + 1) rfl rfl ?cL ?cC (Nat.zero_le _) ?cb ?_)
  case cL => rfl
  case cC => omega
  case cb => omega
  intro w1 hblk hbelow hsz
  have HO := hid (hblk.own (by unfold maxLen; omega))
  clear hblk
  go_wp2
  go_loopw [0, 4] (fun a x wr => ∃ (t : ByteArray) (k : Nat) (xs : List Nat), a = .string t ∧ Hid (t.data.toList = s.data.toList.drop k) ∧ Hid (Own wr w.heap.size x xs) ∧ Hid (val xs = dval (s.data.toList.take k)) ∧ xs.length ≤ k ∧ Hid (k + t.size = s.size) ∧ Hid (Trim xs) ∧ Hid (Below w.heap.size w wr)) (fun a _ _ => lenStr a)
  case atStart => exact ⟨s, 0, [], rfl, hid rfl, HO, hid rfl, Nat.le_refl _, hid (by omega), hid (.inl rfl), hbelow⟩
  case round =>
    obtain ⟨t, k, xs, rfl, ht, hO, hv, hlen, hk, htr, hbw⟩ := hrel
    have hts : t.size ≤ 1099511627776 := by have := hk.out; omega
    have hta : t.data.toList.all isDig = true := by rw [ht.out]; exact all_drop HA.out k
    have HTA := hid hta
    clear hta
    by_cases h0 : t.size = 0
    · have hp : ¬ 0 < t.size := by omega
      have hfin : val xs = dval s.data.toList := by
        rw [hv.out, List.take_of_length_le]
        have := hk.out
        simp; omega
      have HF := hid hfin
      clear hfin h0
      go_wp2
      go_ret2
      exact ⟨_, xs, rfl, hO.out, HF.out, by have := hk.out; omega, htr.out, hbw.out⟩
    · have hp : 0 < t.size := by omega
      clear h0
      obtain ⟨n, hn, hn1, hn2, hmin⟩ : ∃ n : Nat, 0 < n ∧ n ≤ 9 ∧ n ≤ t.size ∧ ((t.size ≤ 9 ∧ n = t.size) ∨ (9 < t.size ∧ n = 9)) := by
        by_cases h : t.size ≤ 9
        · exact ⟨t.size, hp, h, Nat.le_refl _, .inl ⟨h, rfl⟩⟩
        · exact ⟨9, by omega, by omega, by omega, .inr ⟨by omega, rfl⟩⟩
      have hall : ∀ i, i < t.size → ∃ h : i < t.size, 48 ≤ (t[i].toNat : Int) ∧ (t[i].toNat : Int) ≤ 57 := by
        intro i hi
        refine ⟨hi, ?_⟩
        have h2 := HTA.out
        rw [List.all_eq_true] at h2
        have := h2 t[i] (List.mem_of_getElem? (toList_at t i hi))
        simp [isDig] at this
        omega
      have HALL := hid hall
      clear hall
      rcases hmin with ⟨h9, rfl⟩ | ⟨h9, rfl⟩ <;>
      ( go_wp2
        go_loop [6, 7, 25] (fun c sc i => ∃ (j c0 s0 : Nat), Hid (j ≤ t.size) ∧ j ≤ 9 ∧ j ≤ t.size ∧ i = .int .i64 j ∧ c = .int .u64 c0 ∧ sc = .int .u64 s0 ∧ c0 < s0 ∧ s0 ≤ 1000000000 ∧ Hid (c0 = dval (t.data.toList.take j)) ∧ Hid (s0 = 10 ^ j)) (fun _ _ i => 9 - (intOf i).toNat)
        case atStart => exact ⟨0, 0, 1, hid (by omega), by omega, by omega, rfl, rfl, rfl, by omega, by omega, hid rfl, hid rfl⟩
        case round =>
          obtain ⟨j, c0, s0, hj0, hj9, hjt, rfl, rfl, rfl, hcs, hs9, hc, hs0⟩ := hrel
          by_cases hlt : j < 9 ∧ j < t.size
          · obtain ⟨hl1, hl2⟩ := hlt
            obtain ⟨_, hd1, hd2⟩ := HALL.out j hl2
            have hs8 : s0 ≤ 100000000 := by
              rw [hs0.out]
              exact Nat.le_trans (Nat.pow_le_pow_right (by omega) (show j ≤ 8 by omega)) (by omega)
            go_wp2
            go_round
            case rel =>
              refine ⟨j + 1, 10 * c0 + (t[j].toNat - 48), 10 * s0, hid (by omega), by omega, by omega, by go_num, val_int (by omega), val_int (by omega), by omega, by omega, ?_, ?_⟩
              · show _ = _
                rw [take_snoc t j hl2, dval_snoc, hc.out]
              · show _ = _
                rw [hs0.out, Nat.pow_succ, Nat.mul_comm]
            case measure => simp [intOf]; omega
          · first
            | (have hge : t.size ≤ j := by omega)
            | (have hge : 9 ≤ j := by omega)
            clear hlt
            have HCall := hid (grow_own w.heap.size u4 s0 c0 xs wr hO.out (by have := hk.out; omega) hs9 hcs)
            go_wp2_with fail
            refine HCall.out.mono ?_
            rintro e w' ⟨v', zs, rfl, hO', hv', hl', hb', ht'⟩
            have HO' := hid hO'
            have HV' := hid hv'
            have HB' := hid (hbw.out.trans hb')
            have HT' := hid (ht' htr.out)
            clear hO' hv' hb' ht' HCall
            go_wp2_with fail
            go_roundw
            case rel =>
              refine ⟨_, k + j, zs, rfl, ?_, HO', ?_, by omega, ?_, HT', HB'⟩
              · show _ = _
                have h1 : s.data.toList.length = s.size := rfl
                have h2 := hk.out
                first
                | (rw [extract_end, ht.out, List.drop_drop]; congr 1; omega)
                | (rw [List.drop_of_length_le (by omega)]; rfl)
              · show _ = _
                rw [HV'.out, hv.out, hc.out, hs0.out, ht.out, List.take_add, dval_append]
                congr 1
                rw [List.length_take, List.length_drop]
                have h1 : s.data.toList.length = s.size := rfl
                have h2 := hk.out
                rw [h1, Nat.min_eq_left (by omega)]
              · show _ = _
                have h2 := hk.out
                first
                | (rw [size_extract_end]; omega)
                | (show k + j + 0 = _; omega)
            case measure =>
              first
              | (simp only [lenStr, size_extract_end]; omega)
              | (show 0 < t.size; omega))

end Go.Proofs.Ytokojbgpboccnaa

namespace Go.Proofs.Ytokojbgpboccnaa
open Go.RowKit
open Num
set_option linter.unusedVariables false
set_option maxRecDepth 100000
set_option linter.unusedSimpArgs false

theorem grownBy_setCell {w w' : World} {b : Nat} (h : w.grownBy w' (some b)) (i : Nat) (u : Value) : w.grownBy (w'.setCell ⟨b, i, none⟩ u) (some b) :=
  ⟨h.os, h.tape, h.output, by have := h.size; simpa [World.setCell] using this, fun k hk hne => by rw [Below.heap_setCell _ _ _ _ (by simpa using hne)]; exact h.block k hk hne⟩

theorem eql_slice_nil {P : Program} (t e : TypeId) (h : P.underlying t = some (.slice e)) (a : Option Addr) (l c : Nat) (w : World) : (binOp .eql t (.slice a l c) (.slice none 0 0)).run P w = .ok (.bool a.isNone) w := by
  simp [binOp, run_equal_slice_nil w t e a l c h]

/-- Two limbs side by side. -/
theorem or_limb (r x : Nat) (hr : r < 4294967296) (hx : x < 4294967296) : ∃ P : Nat, P = r * 4294967296 + x ∧ bits BinOp.or IntKind.u64 ((r : Int) * 4294967296) (x : Int) = (P : Int) := by
  refine ⟨_, rfl, ?_⟩
  rw [show ((r : Int) * 4294967296) = ((r * 4294967296 : Nat) : Int) by omega, u64_or_nat _ _ (by omega) (by omega), nat_join 32 _ _ (by omega) (by omega)]

/-- One step of the division by a limb. -/
theorem shrink_step {xs vs : List Nat} {k d r P : Nat} (hk : k < vs.length) (hl : xs.length = vs.length) (hd : 0 < d) (hI : val (vs.drop (k + 1)) * d + r = val (xs.drop (k + 1))) (hZ : dg vs k = dg xs k) (hP : P = r * 4294967296 + dg vs k) :
    val ((vs.set k (P / d)).drop k) * d + P % d = val (xs.drop k) := by
  rw [drop_dg (by rw [List.length_set]; exact hk), dg_set_self _ _ _ hk, List.drop_set_of_lt (by omega), drop_dg (l := xs) (by omega), val_cons, val_cons, ← hZ, ← hI, Nat.add_mul, Nat.mul_add]
  have h := Nat.div_add_mod P d
  rw [Nat.mul_comm d] at h
  rw [Nat.mul_assoc, B_eq]
  omega

/-- The cells of limbs, at an address. -/
theorem limbs_at {w : World} {b off : Nat} {xs : List Nat} (h : ∀ i, i < xs.length → w.cell? ⟨b, off + i, none⟩ = some (.int .u32 (dg xs i))) (o : Obj) (hb : b < w.heap.size) : ∀ (j : Nat) (u : Value), (xs.map V32)[j]? = some u → (w.alloc o).cell? ((⟨b, off, none⟩ : Addr).add j) = some u := by
  intro j u hu
  have hj : j < xs.length := by
    apply Classical.byContradiction
    intro hn
    rw [List.getElem?_eq_none (by simp; omega)] at hu
    cases hu
  rw [VK_map .u32 xs j hj] at hu
  rw [← hu, ← h j hj]
  have e : ((⟨b, off, none⟩ : Addr).add j) = ⟨b, off + j, none⟩ := by unfold Addr.add; split <;> simp_all
  rw [e]
  exact World.cell?_of_block (Below.heap_alloc _ _ _ hb)

set_option maxHeartbeats 400000 in
theorem clone_nil (w : World) :
    Calls Try.prog 63 #[.slice none 0 0] w fun e w' => e = .returned (.slice none 0 0) ∧ w = w' := by
  have hq := eql_slice_nil 45 _ Try.underlying45
  go_enter Try.func63, Try.ntmps63
  go_wp2
  go_ret
  exact ⟨rfl, rfl⟩

set_option maxHeartbeats 1000000 in
theorem clone_at (b off n c : Nat) (xs : List Nat) (w : World) (hf : Fits xs) (hN : xs.length = n) (hn : n ≤ 1099511627776) (hb : b < w.heap.size) (hcell : ∀ i, i < xs.length → w.cell? ⟨b, off + i, none⟩ = some (.int .u32 (dg xs i))) :
    Calls Try.prog 63 #[.slice (some ⟨b, off, none⟩) n c] w fun e w' => ∃ v, e = .returned v ∧ w'.ownsRow w.heap.size 95 1 v n (xs.map V32) ∧ Below w.heap.size w w' := by
  obtain ⟨i0, hi, hz0, hz1, hz2⟩ := info_parts infoU32
  have HN := hid hN
  have hnews := limbs_at hcell (.cells #[] 95) hb
  have HNEWS := hid hnews
  have hown := World.ownsRow_made (base := w.heap.size) (e := 95) (size := 1) w #[] 0 (Nat.le_refl _) (by unfold maxLen; omega) rfl
  have HO := hid hown
  clear hcell hnews hown hN
  have hq := eql_slice_nil 45 _ Try.underlying45
  go_enter Try.func63, Try.ntmps63
  go_wp2_with (at_builtin; refine wpList_append_own _ rfl _ _ 45 rfl w.heap.size 95 i0 (.int .u32 0) 1 4 Try.underlying45 hi hz0 hz1 hz2 rfl (by decide) _ _ _ rfl HO.out ⟨b, off, none⟩ n c (xs.map V32) rfl ?c0 ?c1 ?c2 ?c3 ?c4 ?c5 ?_)
  case c0 => rw [List.length_map, HN.out, Nat.mul_one]
  case c1 => exact HNEWS.out
  case c2 =>
    intro u hu
    rw [List.mem_map] at hu
    obtain ⟨x, _, rfl⟩ := hu
    rfl
  case c3 => unfold maxLen; omega
  case c4 => omega
  case c5 => simp
  intro v' w1 hown' hgrow _
  have HO' := hid hown'
  have hb2 : Below w.heap.size w w1 := ((Below.refl _ _).alloc (Nat.le_refl _) _).grown hgrow (by simp) (fun g hg => by simp [Value.ownBlock] at hg; omega)
  clear hown' hgrow
  go_wp2
  go_ret
  exact ⟨_, rfl, HO'.out, hb2⟩

/-- A copy: the limbs again, in memory of its own. -/
theorem clone_lim {w : World} {v : Value} {xs : List Nat} (h : Lim w v xs) (hn : xs.length ≤ 1099511627776) :
    Calls Try.prog 63 #[v] w fun e w' => ∃ v', e = .returned v' ∧ Lim w' v' xs ∧ (xs ≠ [] → Own w' w.heap.size v' xs) ∧ Below w.heap.size w w' := by
  obtain ⟨p, c, rfl, hf, hc, hm, ha⟩ := lim_parts h
  rcases ha with ⟨rfl, rfl⟩ | ⟨b, off, rfl, hb, hcell⟩
  · have : xs = [] := List.length_eq_zero_iff.1 (by omega)
    subst this
    refine (clone_nil w).mono ?_
    rintro e w' ⟨rfl, rfl⟩
    exact ⟨_, rfl, Lim.nil w, fun h => absurd rfl h, Below.refl _ _⟩
  · refine (clone_at b off _ c xs w hf rfl hn hb hcell).mono ?_
    rintro e w' ⟨v', rfl, ho, hbw⟩
    by_cases hx : xs = []
    · subst hx
      refine ⟨v', rfl, ?_, fun h => absurd rfl h, hbw⟩
      rcases ho.2 with ⟨rfl, _⟩ | ⟨g, cap, cur, rfl, hK, h1, h2, h3, h4, h5⟩
      · exact Lim.nil _
      · exact ⟨Fits.nil, _, cap, rfl, by simp, h3, .inr ⟨g, 0, rfl, (Array.getElem?_eq_some_iff.1 h1).1, fun i hi => by simp at hi⟩⟩
    · obtain ⟨b', c', rfl, hK', hR', hn', hm'⟩ := RowK.ofOwns ho (List.length_pos_iff.2 hx)
      have hO : Own w' w.heap.size (.slice (some ⟨b', 0, none⟩) xs.length c') xs := ⟨hf, b', c', rfl, hK', hR', hn', hm'⟩
      exact ⟨_, rfl, hO.lim, fun _ => hO, hbw⟩

set_option maxHeartbeats 400000 in
theorem shrink_own (K b n c : Nat) (d : Nat) (xs : List Nat) (w : World) (hR : Row w b c xs) (hN : xs.length = n) (hf : Fits xs) (hnc : n ≤ c) (hmax : c ≤ maxLen) (hn : n ≤ 1099511627776) (hd : 0 < d) (hd2 : d < 4294967296) :
    Calls Try.prog 65 #[.slice (some ⟨b, 0, none⟩) n c, .int .u32 d] w fun e w' => ∃ (r : Nat) (zs : List Nat), e = .returned (.int .u32 r) ∧ r < d ∧ Row w' b c zs ∧ Fits zs ∧ zs.length = n ∧ val zs * d + r = val xs ∧ w.grownBy w' (some b) := by
  have HN := hid hN
  have HR := hid hR
  clear hN hR
  unfold maxLen at hmax
  go_enter Try.func65, Try.ntmps65
  go_wp2
  go_loopw [5, 6] (fun r i wr => ∃ (z : Int) (r0 : Nat) (vs : List Nat), -1 ≤ z ∧ z < n ∧ i = .int .i64 z ∧ r = .int .u64 r0 ∧ r0 < d ∧ Hid (Row wr b c vs) ∧ Hid (vs.length = n) ∧ Fits vs ∧
      Hid (val (vs.drop (z + 1).toNat) * d + r0 = val (xs.drop (z + 1).toNat)) ∧ Hid (∀ j, j < (z + 1).toNat → dg vs j = dg xs j) ∧ Hid (w.grownBy wr (some b))) (fun _ i _ => (intOf i + 1).toNat)
  case atStart =>
    refine ⟨(n : Int) - 1, 0, xs, by omega, by omega, rfl, rfl, hd, HR, HN, hf, ?_, hid (fun j _ => rfl), World.grownBy.refl _ _⟩
    show _ = _
    rw [show ((n : Int) - 1 + 1).toNat = n by omega, List.drop_of_length_le (by rw [HN.out]; exact Nat.le_refl _)]
    simp [val_nil]
  case round =>
    obtain ⟨z, r0, vs, hz1, hz2, rfl, rfl, hr0, hB, hl, hf', hI, hZ, hg⟩ := hrel
    by_cases h0 : z = -1
    · subst h0
      go_wp2
      go_ret
      exact ⟨r0, vs, rfl, hr0, hB.out, hf', hl.out, hI.out, hg.out⟩
    · obtain ⟨k, rfl⟩ := Int.eq_ofNat_of_zero_le (show 0 ≤ z by omega)
      have cu := hB.out.cell (i := k) (by rw [hl.out]; omega)
      have fu := hB.out.free k
      have bu := hf' k
      obtain ⟨P, hP, hor⟩ := or_limb r0 (dg vs k) (by omega) bu
      have hq : P / d < 4294967296 := by
        rw [Nat.div_lt_iff_lt_mul hd]
        have := Nat.mul_le_mul_right 4294967296 (show r0 + 1 ≤ d by omega)
        rw [Nat.add_mul] at this
        omega
      have hPb : P < 18446744073709551616 := by omega
      have hq0 : (0 : Int) ≤ (P : Int) / (d : Int) := Int.ediv_nonneg (by omega) (by omega)
      have HP := hid hP
      clear hP
      go_wp2
      go_roundw
      case rel =>
        refine ⟨(k : Int) - 1, P % d, vs.set k (P / d), by omega, by omega, by go_num, val_int (by omega), Nat.mod_lt _ hd, hid (hB.out.set k _ _ (by omega) (by omega)), hid (by rw [List.length_set]; exact hl.out), hf'.set _ _ hq, ?_, hid (fun j hj => ?_), ?_⟩
        · show _ = _
          have h1 := hI.out
          rw [show ((k : Int) + 1).toNat = k + 1 by omega] at h1
          rw [show ((k : Int) - 1 + 1).toNat = k by omega]
          exact shrink_step (by rw [hl.out]; omega) (by rw [hl.out]; exact HN.out) hd h1 (hZ.out k (by omega)) HP.out
        · rw [dg_set_ne _ _ _ _ (by omega)]
          exact hZ.out j (by omega)
        · exact grownBy_setCell hg.out _ _
      case measure => simp [intOf]

end Go.Proofs.Ytokojbgpboccnaa

namespace Go.Proofs.Ytokojbgpboccnaa
open Go.RowKit
open Num
set_option linter.unusedVariables false
set_option maxRecDepth 100000
set_option linter.unusedSimpArgs false

set_option maxHeartbeats 1000000 in
theorem reverse_row (b n c : Nat) (xs : List Nat) (w : World) (hR : Row8 w b c xs) (hN : xs.length = n) (hnc : n ≤ c) (hn : n ≤ 1099511627776) :
    Calls Try.prog 66 #[.slice (some ⟨b, 0, none⟩) n c] w fun e w' => e = .returned (.tuple #[]) ∧ Row8 w' b c xs.reverse ∧ w.grownBy w' (some b) := by
  have HN := hid hN
  have HR := hid hR
  clear hN hR
  go_enter Try.func66, Try.ntmps66
  go_wp2
  go_loopw [2, 3] (fun i j wr => ∃ (k : Nat) (z : Int) (vs : List Nat), 2 * k ≤ n + 1 ∧ i = .int .i64 k ∧ j = .int .i64 z ∧ z = n - 1 - k ∧ Hid (Row8 wr b c vs) ∧ Hid (vs.length = n) ∧
      Hid (∀ t, t < n → dg vs t = if t < k ∨ n ≤ t + k then dg xs (n - 1 - t) else dg xs t) ∧ Hid (w.grownBy wr (some b))) (fun i _ _ => n - (intOf i).toNat)
  case atStart => exact ⟨0, (n : Int) - 1, xs, by omega, rfl, rfl, by omega, HR, HN, hid (fun t ht => by rw [if_neg (by omega)]), World.grownBy.refl _ _⟩
  case round =>
    obtain ⟨k, z, vs, hk, rfl, rfl, hz, hB, hl, hI, hg⟩ := hrel
    have HZ := hid hz
    by_cases hlt : (k : Int) < z
    · obtain ⟨j, hj⟩ := Int.eq_ofNat_of_zero_le (show 0 ≤ z by omega)
      subst hj
      have hj2 : j < n := by omega
      have hk2 : k < n := by omega
      have ci := hB.out.cell (i := k) (by rw [hl.out]; omega)
      have cj := hB.out.cell (i := j) (by rw [hl.out]; omega)
      have fi := hB.out.free k
      have fj := hB.out.free j
      clear hz
      go_wp2
      go_region
      all_goals go_wp2
      go_roundw
      case rel =>
        refine ⟨k + 1, (j : Int) - 1, (vs.set k (dg vs j)).set j (dg vs k), by have := HZ.out; omega, by go_num, rfl, by have := HZ.out; omega, hid (RowK.drewN ((hB.out.set k _ _ rfl (by omega)).set j _ _ rfl (by omega)) 1), hid (by rw [List.length_set, List.length_set]; exact hl.out), hid (fun t ht => ?_), ?_⟩
        · have hz := HZ.out
          have h1 := hI.out t ht
          have h2 := hI.out k hk2
          have h3 := hI.out j hj2
          have hlen := hl.out
          by_cases e1 : t = j
          · subst e1
            rw [dg_set_self _ _ _ (by rw [List.length_set]; omega), if_pos (by omega), h2, if_neg (by omega)]
            congr 1; omega
          · rw [dg_set_ne _ _ _ _ e1]
            by_cases e2 : t = k
            · subst e2
              rw [dg_set_self _ _ _ (by omega), if_pos (by omega), h3, if_neg (by omega)]
              congr 1; omega
            · rw [dg_set_ne _ _ _ _ e2, h1]
              by_cases e3 : t < k ∨ n ≤ t + k
              · rw [if_pos e3, if_pos (by omega)]
              · rw [if_neg e3, if_neg (by omega)]
        · have h := grownBy_setCell (grownBy_setCell hg.out k (.int .u8 (dg vs j))) j (.int .u8 (dg vs k))
          exact ⟨h.os, h.tape, h.output, h.size, h.block⟩
      case measure => simp [intOf]; omega
    · have he : vs = xs.reverse := by
        refine ext_dg (by rw [List.length_reverse, hl.out, HN.out]) (fun t ht => ?_)
        rw [hl.out] at ht
        have h1 := hI.out t ht
        rw [h1, dg_reverse (by rw [HN.out]; exact ht), HN.out]
        by_cases e : t < k ∨ n ≤ t + k
        · rw [if_pos e]
        · rw [if_neg e]; congr 1; omega
      have HE := hid he
      clear he hz
      go_wp2
      go_end0
      exact ⟨rfl, by rw [← HE.out]; exact hB.out, hg.out⟩

/-- A digit's byte. -/
def D8 (ds : List Nat) : List Nat := ds.map (48 + ·)
theorem length_D8 (ds : List Nat) : (D8 ds).length = ds.length := by simp [D8]
theorem dg_D8 {ds : List Nat} {i : Nat} (h : i < ds.length) : dg (D8 ds) i = 48 + dg ds i := by simp [dg, D8, h]
theorem D8_snoc (ds : List Nat) (d : Nat) : (D8 ds).map V8 ++ [.int .u8 ((48 + d : Nat) : Int)] = (D8 (ds ++ [d])).map V8 := by simp [D8, VK]
theorem D8_snoc' (ds : List Nat) (ch : Nat) : (D8 ds).map V8 ++ [.int .u8 (48 + (ch : Int) % 10)] = (D8 (ds ++ [ch % 10])).map V8 := by
  rw [← D8_snoc]
  rw [show ((48 + ch % 10 : Nat) : Int) = 48 + (ch : Int) % 10 by omega]
theorem D8_take (ds : List Nat) (k : Nat) : (D8 ds).take k = D8 (ds.take k) := by simp [D8, List.map_take]

/-- Bytes of digits turned round are the digits' text. -/
theorem D8_back {w : World} {g cap k : Nat} {ds : List Nat} (hr : Row8 w g cap (D8 ds).reverse) (hk : ds.length = k) (hl : Low ds) :
    (convert 97 9 (.slice (some ⟨g, 0, none⟩) k cap)).run Try.prog w = .ok (.string ⟨(rtext ds).toArray⟩) w := by
  have hlen : (rtext ds).length = k := by rw [rtext, List.length_map, List.length_reverse, hk]
  rw [← hlen]
  refine run_convert_bytes_back w _ _ _ ⟨g, 0, none⟩ cap (rtext ds) Try.underlying97 Try.underlying5 Try.underlying9 (fun j hj => ?_)
  have hj2 : j < ds.length := by omega
  have hlr : (D8 ds).reverse.length = ds.length := by rw [List.length_reverse, length_D8]
  have e : ((⟨g, 0, none⟩ : Addr).add j) = ⟨g, j, none⟩ := by unfold Addr.add; split <;> simp_all
  rw [e, hr.cell (i := j) (by omega)]
  congr 2
  rw [dg_reverse (by rw [length_D8]; exact hj2), length_D8, dg_D8 (by omega)]
  have h9 := hl (ds.length - 1 - j)
  have e2 : (rtext ds)[j] = dch (dg ds (ds.length - 1 - j)) := by
    simp only [rtext, List.getElem_map, List.getElem_reverse]
    rw [dg_lt (by omega)]
  rw [e2, toNat_dig h9]

def lenSl : Value → Nat | .slice _ n _ => n | _ => 0

def txt (n : Nat) : ByteArray := ⟨(dtext n).toArray⟩
theorem txt_list (n : Nat) : (txt n).data.toList = dtext n := by simp [txt]

set_option maxHeartbeats 1000000 in
theorem string_zero {w : World} {v : Value} {xs : List Nat} (h : Lim w v xs) (hz : val xs = 0) (hn : xs.length ≤ 1099511627776) :
    Calls Try.prog 47 #[v] w fun e w' => e = .returned (.string (txt 0)) ∧ Below w.heap.size w w' := by
  have h0 : trimL xs = [] := (trim_trimL xs).zero_iff.1 (by rw [val_trimL]; exact hz)
  have HT := hid (trim_lim h)
  clear h hz
  go_enter Try.func47, Try.ntmps47
  go_wp2_with fail
  refine HT.out.mono ?_
  rintro e w' ⟨v1, rfl, hL1, rfl⟩
  rw [h0] at hL1
  have HC := hid (clone_lim hL1 (by simp))
  clear hL1 h0
  go_wp2_with fail
  refine HC.out.mono ?_
  rintro e w' ⟨v2, rfl, hL2, _, hb2⟩
  obtain ⟨_, p, c, rfl, _⟩ := hL2
  go_wp2_with fail
  go_ret
  refine ⟨?_, hb2⟩
  rw [show txt 0 = ⟨#[48]⟩ by rw [txt, dtext_zero]]
  rfl

end Go.Proofs.Ytokojbgpboccnaa

/-
  A REGION THAT DRAWS ITS ORDER, BY WHAT HOLDS WHATEVER HAS COME UP: each operation is looked at once.
-/
namespace Go.Proofs.Ytokojbgpboccnaa
open Go.RowKit
set_option linter.unusedVariables false
set_option linter.unusedSimpArgs false

/-- Each edge that binds leads back. -/
def backB (ops : Array Oper) : Bool := (List.range ops.size).all fun j => match ops[j]? with | some o => o.after.toList.all fun e => !Region.binds .any e || decide (e.on < j) | none => true
/-- One more has come up. -/
def more (f : Nat → Bool) (j : Nat) : Nat → Bool := fun k => k == j || f k
def open_ (f : Nat → Bool) (n : Nat) : Nat := (List.range n).countP fun k => !f k
theorem open_more (f : Nat → Bool) (j : Nat) (hj : f j = false) : ∀ n, (j < n → open_ (more f j) n + 1 ≤ open_ f n) ∧ (n ≤ j → open_ (more f j) n = open_ f n) := by
  intro n
  induction n with
  | zero => exact ⟨fun h => by omega, fun _ => rfl⟩
  | succ n ih =>
    have e : ∀ g : Nat → Bool, open_ g (n + 1) = open_ g n + (if g n = true then 0 else 1) := by
      intro g
      unfold open_
      rw [List.range_succ, List.countP_append]
      cases hg : g n <;> simp [hg]
    constructor
    · intro h
      rw [e, e]
      by_cases hn : n = j
      · subst hn
        have := ih.2 (Nat.le_refl _)
        have m1 : more f n n = true := by simp [more]
        rw [this, m1, hj]
        simp
      · have := ih.1 (by omega)
        have m1 : more f j n = f n := by simp [more, hn]
        rw [m1]
        omega
    · intro h
      rw [e, e, ih.2 (by omega)]
      have m1 : more f j n = f n := by
        have : n ≠ j := by omega
        simp [more, this]
      rw [m1]
theorem open_pos {f : Nat → Bool} {n j : Nat} (hj : j < n) (h : f j = false) : 1 ≤ open_ f n := List.countP_pos_iff.2 ⟨j, by simpa using hj, by simp [h]⟩

theorem all_come {ops : Array Oper} (hb : backB ops = true) {listed : Array Bool} {f : Nat → Bool} (hf : ∀ j, j < ops.size → listed.getD j true = f j) (hs : listed.size = ops.size) (hr : Region.ready .any ops listed = []) : ∀ j, j < ops.size → f j = true := by
  intro j
  induction j using Nat.strongRecOn with
  | _ j ih =>
    intro hj
    cases h : f j with
    | true => rfl
    | false =>
      exfalso
      have ho : ops[j]? = some ops[j] := Array.getElem?_eq_getElem hj
      have hm : j ∈ Region.ready .any ops listed := by
        refine mem_ready.2 ⟨by rw [hf j hj]; exact h, _, ho, fun e he hbd => ?_⟩
        have hback := List.all_eq_true.1 hb j (by simpa using hj)
        rw [ho] at hback
        have := List.all_eq_true.1 hback e (by simpa using he)
        rw [hbd] at this
        have hlt : e.on < j := by simpa using this
        have h1 := ih e.on hlt (by omega)
        rw [← hf e.on (by omega)] at h1
        have hls : e.on < listed.size := by omega
        simp [hls] at h1 ⊢
        exact h1
      rw [hr] at hm
      cases hm

theorem any_inv {P : Program} {ops : Array Oper} {Q : Exit → Act → World → Prop} (hb : backB ops = true) (J : (Nat → Bool) → Act → World → Prop)
    (hstep : ∀ f a w j o, J f a w → ops[j]? = some o → f j = false → (∀ e ∈ o.after.toList, Region.binds .any e = true → f e.on = true) → ∀ K : Act → World → Prop, (∀ a' w', J (more f j) a' w' → K a' w') →
      if Region.wanted o (yielded ops a.tmps) = true then Oper.wp P o a w K Q else K (a.put o.dst undef) w)
    (hend : ∀ f a w, J f a w → (∀ j, j < ops.size → f j = true) → Q .normal a w) :
    ∀ (fuel : Nat) (listed : Array Bool) (f : Nat → Bool) (a : Act) (w : World), listed.size = ops.size → (∀ j, j < ops.size → listed.getD j true = f j) → open_ f ops.size ≤ fuel → J f a w → wpAny P .any ops Q fuel listed a w := by
  intro fuel
  induction fuel with
  | zero =>
    intro listed f a w hs hf hc hJ
    have hr : Region.ready .any ops listed = [] := by
      apply List.eq_nil_iff_forall_not_mem.2
      intro j hj
      obtain ⟨h1, o, ho, _⟩ := mem_ready.1 hj
      have hlt : j < ops.size := (Array.getElem?_eq_some_iff.1 ho).1
      rw [hf j hlt] at h1
      have := open_pos hlt h1
      omega
    exact ⟨hr, hend f a w hJ (all_come hb hf hs hr)⟩
  | succ fuel ih =>
    intro listed f a w hs hf hc hJ
    refine ⟨fun hr => hend f a w hJ (all_come hb hf hs hr), fun i hi => ?_⟩
    obtain ⟨h1, o, ho, hall⟩ := mem_ready.1 hi
    have hlt : i < ops.size := (Array.getElem?_eq_some_iff.1 ho).1
    have h1' := h1
    rw [hf i hlt] at h1
    refine wpOp_step ho fun K hK => hstep f a w i o hJ ho h1 (fun e he hbd => ?_) K (fun a' w' hJ' => hK a' w' ?_)
    · have h2 := hall e (by simpa using he) hbd
      have hls : e.on < listed.size := by
        rcases Nat.lt_or_ge e.on listed.size with h | h
        · exact h
        · simp [Array.getElem?_eq_none h] at h2
      rw [← hf e.on (by omega)]
      simp [hls] at h2 ⊢
      exact h2
    · refine ih _ (more f i) a' w' (by simpa using hs) (fun j hj => ?_) (by have := (open_more f i h1 ops.size).1 hlt; omega) hJ'
      by_cases hji : j = i
      · subst hji
        have hls : j < listed.size := by omega
        simp [more, hls]
      · have := hf j hj
        have hls : j < listed.size := by omega
        have hne : (j == i) = false := by simpa using hji
        simp [more, hls, Array.getElem_setIfInBounds, Ne.symm hji] at this ⊢
        rw [hne, Bool.false_or]
        exact this
/-- **A region that draws its order**: what holds at its head, and goes on holding whichever operation comes up, holds at its end. -/
theorem region_inv {P : Program} {id : Nat} {ops : Array Oper} {Q : Exit → Act → World → Prop} {a : Act} {w : World} (hm : P.follows .mixedOrders = true) (hb : backB ops = true) (J : (Nat → Bool) → Act → World → Prop) (h0 : J (fun _ => false) a w.drew)
    (hstep : ∀ f a w j o, J f a w → ops[j]? = some o → f j = false → (∀ e ∈ o.after.toList, Region.binds .any e = true → f e.on = true) → ∀ K : Act → World → Prop, (∀ a' w', J (more f j) a' w' → K a' w') →
      if Region.wanted o (yielded ops a.tmps) = true then Oper.wp P o a w K Q else K (a.put o.dst undef) w)
    (hend : ∀ f a w, J f a w → (∀ j, j < ops.size → f j = true) → Q .normal a w) : (Code.region id ops true).wp P Q a w := by
  refine wp_region_any hm ?_
  refine any_inv hb J hstep hend ops.size _ (fun _ => false) a _ (by simp) (fun j hj => by simp [hj]) ?_ h0
  exact Nat.le_trans List.countP_le_length (by simp)

/-- A condition on each operation, by its place. -/
def steps (step : Nat → Oper → Prop) : List Oper → Nat → Prop
  | [], _ => True
  | o :: l, j => step j o ∧ steps step l (j + 1)
theorem steps_at {step : Nat → Oper → Prop} : ∀ (l : List Oper) (i : Nat), steps step l i → ∀ j o, l[j]? = some o → step (i + j) o := by
  intro l
  induction l with
  | nil => intro i _ j o h; simp at h
  | cons x l ih =>
    intro i h j o ho
    cases j with
    | zero => simp at ho; subst ho; exact h.1
    | succ j => rw [show i + (j + 1) = i + 1 + j by omega]; exact ih (i + 1) h.2 j o (by simpa using ho)
/-- The same, an operation a goal; what holds is told of the act at the region's head. -/
theorem region_ops {P : Program} {id : Nat} {ops : List Oper} {Q : Exit → Act → World → Prop} {a : Act} {w : World} (hm : P.follows .mixedOrders = true) (hb : backB ops.toArray = true) (J : Act → (Nat → Bool) → Act → World → Prop) (h0 : J a (fun _ => false) a w.drew)
    (hstep : steps (fun j o => ∀ f a' w', J a f a' w' → f j = false → (∀ e ∈ o.after.toList, Region.binds .any e = true → f e.on = true) → ∀ K : Act → World → Prop, (∀ a' w', J a (more f j) a' w' → K a' w') →
      if Region.wanted o (yielded ops.toArray a'.tmps) = true then Oper.wp P o a' w' K Q else K (a'.put o.dst undef) w') ops 0)
    (hend : ∀ f a' w', J a f a' w' → (∀ j, j < ops.length → f j = true) → Q .normal a' w') : (Code.region id ops.toArray true).wp P Q a w := by
  refine region_inv hm hb (J a) h0 (fun f a' w' j o hJ ho h1 hd K hK => ?_) (fun f a' w' hJ h => hend f a' w' hJ (by simpa using h))
  have := steps_at ops 0 hstep j o (by simpa using ho)
  rw [Nat.zero_add] at this
  exact this f a' w' hJ h1 hd K hK

end Go.Proofs.Ytokojbgpboccnaa

/-
  append, as it runs.
-/
namespace Go.Proofs.Ytokojbgpboccnaa
open Go.RowKit
open Num
set_option linter.unusedVariables false
set_option maxRecDepth 100000
set_option linter.unusedSimpArgs false

theorem wpList_append_run {P : Program} {w w' : World} {ops : Array Oper} {rest : List Oper} {o : Oper} {a : Act} {Q : Exit → Act → World → Prop} (hgd : o.guard = none) (s x : Operand) (t : TypeId)
    (ho : o.op = .call { callee := .builtin .append, args := #[s, x], argTypes := #[t, t] }) (v u r : Value) (hs : a.eval s = v) (hx : a.eval x = u)
    (hr : (Builtin.append_ #[t, t] o.type #[v, u]).run P w = .ok r w') (h : wpList P ops Q rest (a.put o.dst r) w') : wpList P ops Q (o :: rest) a w :=
  wpList_plain hgd fun K hK => by
    unfold Oper.wp execOp
    simp only [ho, resolve, invoke, builtin, Sem.run_bind, Sem.run_pure, Result.andThen_ok, List.map_toArray, List.map_cons, List.map_nil, hs, hx, hr]
    exact hK _ _ h

end Go.Proofs.Ytokojbgpboccnaa

/-
  A copy of a list of texts; every text of one's own list overwritten.
-/
namespace Go.Proofs.Ytokojbgpboccnaa
open Go.RowKit
open Num
set_option linter.unusedVariables false
set_option maxRecDepth 100000
set_option linter.unusedSimpArgs false

theorem run_append_none (w : World) (ty : TypeId) (b0 : Addr) (p : Option Addr) (c : Nat) :
    (Builtin.append_ #[22, 22] ty #[.slice (some b0) 0 0, .slice p 0 c]).run Try.prog w = .ok (.slice (some b0) 0 0) w := by
  obtain ⟨i, hi, _⟩ := info_parts infoStr
  cases p <;> simp [Builtin.append_, run_underlying Try.underlying22, sizeOf, typeInfo, hi, Builtin.lenOf, Builtin.firstCells, loadCells, loadCellsFrom, storeCells]
set_option maxHeartbeats 1000000 in
/-- Two lists without texts are the same. -/
theorem same_empty (w : World) (p p' : Option Addr) (c c' : Nat) :
    Calls Try.prog 9 #[.slice p 0 c, .slice p' 0 c'] w fun e w' => e = .returned (.bool true) ∧ Below w.heap.size w w' := by
  go_enter Try.func9, Try.ntmps9
  go_wp2_with fail
  go_loopw [5] (fun i wr => i = .int .i64 0 ∧ ∃ j, wr = w.drewN j) (fun i _ => 0)
  case atStart => exact ⟨rfl, 0, rfl⟩
  case round =>
    obtain ⟨rfl, j, rfl⟩ := hrel
    go_wp2_with fail
    go_ret
    exact ⟨rfl, below_drewN (Below.refl _ _) _⟩
theorem same_w {w : World} {v u : Value} {ss : List ByteArray} (h : Txs w v ss) (h' : TxsW w u ss) :
    Calls Try.prog 9 #[v, u] w fun e w' => e = .returned (.bool true) ∧ Below w.heap.size w w' := by
  rcases Nat.eq_zero_or_pos ss.length with h0 | h0
  · obtain ⟨p, c, rfl, _⟩ := h
    obtain ⟨p', c', rfl, _⟩ := h'
    rw [h0]
    exact same_empty w p p' c c'
  · have hc := same_texts h (h'.full h0)
    rw [decide_eq_true rfl] at hc
    exact hc

set_option maxHeartbeats 1000000 in
/-- A copy of a list of texts. -/
theorem copied_any {w : World} {v : Value} {ss : List ByteArray} (h : TxsW w v ss) (hr : ss.length * 16 ≤ 140737488355328) :
    Calls Try.prog 4 #[v] w fun e w' => ∃ u, e = .returned u ∧ OwnT w' w.heap.size u ss ∧ Below w.heap.size w w' := by
  obtain ⟨i0, hi, hz0, hz1, hz2⟩ := info_parts infoStr
  have hx := h
  obtain ⟨p, c, rfl, hn, hc, hp⟩ := h
  have HA := hid hp
  have hb0 := (Below.refl w.heap.size w).alloc (Nat.le_refl _) (.cells #[] 9)
  have HO : OwnT (w.alloc (.cells #[] 9)) w.heap.size (.slice (some ⟨w.heap.size, 0, none⟩) 0 0) [] := OwnT.new w w.heap.size (Nat.le_refl _) [] (by decide)
  have HO := hid HO
  have B := hid hb0
  obtain ⟨n, hN⟩ : ∃ n, ss.length = n := ⟨_, rfl⟩
  have HN := hid hN
  rw [hN] at hr ⊢
  clear hb0 hx hn hN
  by_cases hz : n = 0
  · subst hz
    obtain rfl : ss = [] := List.length_eq_zero_iff.1 HN.out
    have hrun := run_append_none (w.alloc (.cells #[] 9)) 22 ⟨w.heap.size, 0, none⟩ p c
    clear hp
    go_enter Try.func4, Try.ntmps4
    go_wp2_with (at_builtin; refine wpList_append_run rfl _ _ 22 rfl _ _ _ rfl rfl hrun ?_)
    go_ret
    exact ⟨_, rfl, HO.out, B.out⟩
  · obtain ⟨b, off, rfl, hb, _⟩ := HA.out 0 (by rw [HN.out]; omega)
    have HC : ∀ j u, (ss.map Value.string)[j]? = some u → w.cell? (Addr.add ⟨b, off, none⟩ j) = some u := by
      intro j u hj
      rw [List.getElem?_map] at hj
      obtain ⟨s, hs, rfl⟩ := Option.map_eq_some_iff.1 hj
      obtain ⟨hjl, hje⟩ := List.getElem?_eq_some_iff.1 hs
      obtain ⟨b', off', e, _, h3⟩ := HA.out j hjl
      cases e
      rw [tx_lt hjl, hje] at h3
      rw [Go.WideShapes.add_plain]
      exact h3
    have HC2 : ∀ j u, (ss.map Value.string)[j]? = some u → (w.alloc (.cells #[] 9)).cell? (Addr.add ⟨b, off, none⟩ j) = some u := by
      intro j u hj
      rw [World.cell?_alloc_lt _ _ _ (by rw [Go.WideShapes.add_plain]; exact hb)]
      exact HC j u hj
    have HC := hid HC2
    clear HC2 hp
    go_enter Try.func4, Try.ntmps4
    go_wp2_with (at_builtin; refine wpList_append_own _ rfl _ _ 22 rfl w.heap.size 9 i0 (.string ⟨#[]⟩) 1 16 Try.underlying22 hi hz0 hz1 hz2 rfl (by decide) _ _ _ rfl HO.out ⟨b, off, none⟩ n c (ss.map Value.string) rfl ?c0 ?c1 ?c2 ?c3 ?c4 ?c5 ?_)
    case c0 => simp [HN.out]
    case c1 => exact HC.out
    case c2 =>
      intro u hu
      obtain ⟨s, _, rfl⟩ := List.mem_map.1 hu
      rfl
    case c3 =>
      show 0 + n ≤ maxLen
      unfold maxLen; omega
    case c4 =>
      show (0 + n) * 16 ≤ _
      omega
    case c5 => simp
    rintro v' w' ho hg _
    go_wp2_with fail
    go_ret
    refine ⟨_, rfl, ?_, ?_⟩
    · show World.ownsRow _ _ _ _ _ _ _
      rw [HN.out]
      simpa using ho
    · exact B.out.grown hg (by simp) fun g hgg => by
        simp [Value.ownBlock] at hgg
        omega

theorem grownBy_set {w wr : World} {g : Nat} (h : w.grownBy wr (some g)) (i : Nat) (u : Value) : w.grownBy (wr.setCell ⟨g, i, none⟩ u) (some g) := by
  have h2 := grown_set wr g i u
  exact ⟨h2.os.trans h.os, h2.tape.trans h.tape, h2.output.trans h.output, Nat.le_trans h.size h2.size, fun k hk hne => (h2.block k (Nat.lt_of_lt_of_le hk h.size) hne).trans (h.block k hk hne)⟩

set_option maxHeartbeats 1000000 in
/-- Every text of a list of one's own overwritten. -/
theorem spoil_any {w : World} {K : Nat} {v : Value} {ss : List ByteArray} (h : OwnT w K v ss) (x : ByteArray) :
    Calls Try.prog 6 #[v, .string x] w fun e w' => e = .returned (.tuple #[]) ∧ w.grownBy w' v.ownBlock := by
  obtain ⟨_, h⟩ := h
  rcases h with ⟨rfl, h0⟩ | ⟨g, cap, cur, rfl, hK, h1, h2, h3, h4, h5⟩
  · go_enter Try.func6, Try.ntmps6
    go_wp2_with fail
    go_loopw [4] (fun i wr => i = .int .i64 0 ∧ ∃ j, wr = w.drewN j) (fun i _ => 0)
    case atStart => exact ⟨rfl, 0, rfl⟩
    case round =>
      obtain ⟨rfl, j, rfl⟩ := hrel
      go_wp2_with fail
      go_end0
      exact ⟨rfl, rfl, rfl, rfl, Nat.le_refl _, fun _ _ _ => rfl⟩
  · obtain ⟨n, hN⟩ : ∃ n, ss.length = n := ⟨_, rfl⟩
    rw [hN] at h2 ⊢
    have hs : n ≤ cur.size := by omega
    have hm : n ≤ 9223372036854775807 := by unfold maxLen at h3; omega
    clear h5 hN
    go_enter Try.func6, Try.ntmps6
    go_wp2_with fail
    go_loopw [4] (fun i wr => ∃ k : Nat, k ≤ n ∧ i = .int .i64 k ∧ w.grownBy wr (some g) ∧ ∃ cur', wr.heap[g]? = some (.cells cur' 9) ∧ n ≤ cur'.size) (fun i _ => n - (intOf i).toNat)
    case atStart => exact ⟨0, by omega, rfl, ⟨rfl, rfl, rfl, Nat.le_refl _, fun _ _ _ => rfl⟩, cur, h1, hs⟩
    case round =>
      obtain ⟨k, hk, rfl, hg, cur', hc, hs'⟩ := hrel
      by_cases hlt : k < n
      · have cc : wr.cell? ⟨g, k, none⟩ = some cur'[k] := by simp [World.cell?, hc]
        have cf : wr.frozen? ⟨g, k, none⟩ = false := by simp [World.frozen?, hc]
        have HG := hid hg
        have HC := hid hc
        clear hg hc h1
        go_wp2_with fail
        go_roundw
        case rel =>
          refine ⟨k + 1, by omega, by go_num, grownBy_set HG.out k _, _, heap_setCell_same _ _ _ _ _ _ HC.out, by simpa using hs'⟩
        case measure => simp [intOf]; omega
      · obtain rfl : k = n := by omega
        have HG := hid hg
        clear hg hc h1
        go_wp2_with fail
        go_end0
        exact ⟨rfl, HG.out⟩
end Go.Proofs.Ytokojbgpboccnaa

/-
  How long a slice is.
-/
namespace Go.Proofs.Ytokojbgpboccnaa
open Go.RowKit
open Num
set_option linter.unusedVariables false
set_option maxRecDepth 100000
set_option linter.unusedSimpArgs false
end Go.Proofs.Ytokojbgpboccnaa
