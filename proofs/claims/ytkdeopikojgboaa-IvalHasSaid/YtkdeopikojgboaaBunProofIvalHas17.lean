import Derived.Test.YtkdeopikojgboaaBunProofIvalHas15
import Derived.Test.YtkdeopikojgboaaBunProofIvalHas12
import Derived.Test.YtkdeopikojgboaaBunProofIvalHas1
import Derived.Test.YtkdeopikojgboaaBunProofIvalHas8
import Derived.Test.YtkdeopikojgboaaBunProofIvalHas14
import Derived.Test.YtkdeopikojgboaaBunProofIvalHas11
import Derived.Test.YtkdeopikojgboaaBunProofIvalHas13
/-
  PACKAGE cf: collapse.
-/
namespace Go.Proofs.Ytkdeopikojgboaa
open Go.RowKit Go.Shelf
open Num
set_option linter.unusedVariables false
set_option maxRecDepth 100000
set_option linter.unusedSimpArgs false
attribute [local go_sem] Oper.semAt_some

/-- A turn of what is no cells changes no number. -/
theorem Lim.turned {w w' : World} {v : Value} {xs : List Nat} {row : Option Nat} (h : Lim w v xs) (hg : w.grownBy w' row) (hr : ∀ r, row = some r → ∃ o : Obj, w.heap[r]? = some o ∧ o.isCells = false) : Lim w' v xs := by
  obtain ⟨h1, p, c, h2, h3, h4, h5⟩ := h
  refine ⟨h1, p, c, h2, h3, h4, ?_⟩
  rcases h5 with h5 | ⟨b, off, h6, h7, h8⟩
  · exact .inl h5
  · refine .inr ⟨b, off, h6, Nat.lt_of_lt_of_le h7 hg.size, fun i hi => ?_⟩
    have h9 := h8 i hi
    by_cases hb : row = some b
    · exfalso
      obtain ⟨o, ho, hc⟩ := hr b hb
      simp only [World.cell?, ho] at h9
      cases o <;> simp_all [Obj.isCells]
    · rw [← h9]
      exact World.cell?_of_block (hg.block b h7 (fun e => hb e.symm))
theorem Whl.turned {w w' : World} {v : Value} {z : Int} {k : Nat} {row : Option Nat} (h : Whl w v z k) (hg : w.grownBy w' row) (hr : ∀ r, row = some r → ∃ o : Obj, w.heap[r]? = some o ∧ o.isCells = false) : Whl w' v z k := by
  obtain ⟨s, sv, xs, h1, h2, h3⟩ := h
  exact ⟨s, sv, xs, h1, h2.turned hg hr, h3⟩
theorem Box.turned {w w' : World} {g : Nat} {s : Bool} {sv : Value} {row : Option Nat} (h : Box w g s sv) (hg : w.grownBy w' row) (hr : ∀ r, row = some r → ∃ o : Obj, w.heap[r]? = some o ∧ o.isCells = false) : Box w' g s sv := by
  refine ⟨(hg.block g h.lt (fun e => ?_)).trans h.1, h.2⟩
  obtain ⟨o, ho, hc⟩ := hr g e.symm
  rw [h.1] at ho
  cases ho
  cases hc
theorem Nbx.turned {w w' : World} {g : Nat} {s s' : Bool} {sv sv' : Value} {row : Option Nat} (h : Nbx w g s sv s' sv') (hg : w.grownBy w' row) (hr : ∀ r, row = some r → ∃ o : Obj, w.heap[r]? = some o ∧ o.isCells = false) : Nbx w' g s sv s' sv' := by
  refine (hg.block g h.lt (fun e => ?_)).trans h
  obtain ⟨o, ho, hc⟩ := hr g e.symm
  rw [show w.heap[g]? = _ from h] at ho
  cases ho
  cases hc

/-- The places that have come, folded. -/
def cac (zf : Nat → Int) (pre : List Nat) : Int × Int := pre.foldl (fun p x => (zf x * p.1 + p.2, p.1)) (1, 0)
theorem cac_snoc (zf : Nat → Int) (pre : List Nat) (x : Nat) : cac zf (pre ++ [x]) = (zf x * (cac zf pre).1 + (cac zf pre).2, (cac zf pre).1) := by simp [cac]

theorem KB.on {n₀ Bs : Nat} {W A A' : World} (h : KB n₀ Bs W A) (hb : Below A.heap.size A A') (h1 : n₀ ≤ A.heap.size) (h2 : Bs < A.heap.size) : KB n₀ Bs W A' := ⟨h.1.trans (hb.mono h1), (hb.block Bs h2).trans h.2⟩
theorem KB.set {n₀ Bs g : Nat} {W A : World} (h : KB n₀ Bs W A) (h1 : n₀ ≤ g) (h2 : Bs ≠ g) (i : Nat) (u : Value) : KB n₀ Bs W (A.setCell ⟨g, i, none⟩ u) := ⟨h.1.setCell (p := ⟨g, i, none⟩) h1 _, (Below.heap_setCell _ _ _ _ (by exact h2)).trans h.2⟩
theorem KeepsOthers.of_below {W W' : World} (h : Below W.heap.size W W') : KeepsOthers W W' := ⟨h.size, fun k o hk _ => (h.block k (Array.getElem?_eq_some_iff.1 hk).1).trans hk⟩

/-- What holds between two rounds. -/
def CI (w : World) (G : Nat) (vs : List Zr) (zf : Nat → Int) (pre : List Nat) (W : World) : Prop :=
  (∃ s1 p1 n1 c1 s2 p2 n2 c2, Box W G s1 (.slice p1 n1 c1) ∧ Box W (G + 1) s2 (.slice p2 n2 c2) ∧ Whl W (.agg #[.bool s1, .slice p1 n1 c1]) (cac zf pre).1 (101 * pre.length + 1) ∧ Whl W (.agg #[.bool s2, .slice p2 n2 c2]) (cac zf pre).2 (101 * pre.length + 1)) ∧
  (∀ i, Whl W (zag (zat vs i)) (zf i) 100) ∧ Nbx W w.heap.size false (.slice none 0 0) false (.slice none 0 0) ∧ Below w.heap.size w W ∧ G + 1 + 1 < W.heap.size
theorem CI.own {w : World} {G : Nat} {vs : List Zr} {zf : Nat → Int} {K : Nat} (hK : w.heap.size ≤ K) : OwnFrom K (CI w G vs zf) := by
  rintro s W W' row ⟨⟨s1, p1, n1, c1, s2, p2, n2, c2, h1, h2, h3, h4⟩, h5, h6, h7, h8⟩ hg hr
  have hr' := fun r e => (hr r e).2
  exact ⟨⟨s1, p1, n1, c1, s2, p2, n2, c2, h1.turned hg hr', h2.turned hg hr', h3.turned hg hr', h4.turned hg hr'⟩, fun i => (h5 i).turned hg hr', h6.turned hg hr', h7.grown hg h7.size (fun g e => Nat.le_trans hK (hr g e).1), Nat.lt_of_lt_of_le h8 hg.size⟩
theorem CI.size {w : World} {G : Nat} {vs : List Zr} {zf : Nat → Int} {pre : List Nat} {W : World} (h : CI w G vs zf pre W) : G + 1 + 1 < W.heap.size := h.2.2.2.2
theorem CI.on {w : World} {G : Nat} {vs : List Zr} {zf : Nat → Int} {pre : List Nat} {W W' : World} (h : CI w G vs zf pre W) (hb : Below W.heap.size W W') : CI w G vs zf pre W' := by
  obtain ⟨⟨s1, p1, n1, c1, s2, p2, n2, c2, h1, h2, h3, h4⟩, h5, h6, h7, h8⟩ := h
  exact ⟨⟨s1, p1, n1, c1, s2, p2, n2, c2, h1.below hb h1.lt, h2.below hb h2.lt, h3.on hb, h4.on hb⟩, fun i => (h5 i).on hb, h6.below hb h6.lt, h7.trans (hb.mono h7.size), Nat.lt_of_lt_of_le h8 hb.size⟩
theorem CI.alloc {w : World} {G : Nat} {vs : List Zr} {zf : Nat → Int} {pre : List Nat} {W : World} (h : CI w G vs zf pre W) (o : Obj) : CI w G vs zf pre (W.alloc o) := h.on ((Below.refl _ _).alloc (Nat.le_refl _) o)
theorem CI.store {w : World} {G : Nat} {vs : List Zr} {zf : Nat → Int} {pre : List Nat} {W : World} (h : CI w G vs zf pre W) {g : Nat} {s : Bool} {sv : Value} (hX : Box W g s sv) (i : Nat) (u : Value) (hg : G + 1 < g) (hw : w.heap.size < g) : CI w G vs zf pre (W.setCell ⟨g, i, none⟩ u) := by
  obtain ⟨⟨s1, p1, n1, c1, s2, p2, n2, c2, h1, h2, h3, h4⟩, h5, h6, h7, h8⟩ := h
  exact ⟨⟨s1, p1, n1, c1, s2, p2, n2, c2, h1.other (by omega) _ _, h2.other (by omega) _ _, h3.box hX _ _, h4.box hX _ _⟩, fun i => (h5 i).box hX _ _, h6.other (by omega) _ _, h7.setCell (p := ⟨g, i, none⟩) (Nat.le_of_lt hw) _, by simpa [World.setCell] using h8⟩

end Go.Proofs.Ytkdeopikojgboaa

/-
  PACKAGE cf: Back.
-/
namespace Go.Proofs.Ytkdeopikojgboaa
open Go.RowKit
open Num
set_option linter.unusedVariables false
set_option maxRecDepth 100000
set_option linter.unusedSimpArgs false

/-- The fraction of numbers. -/
def cfback (l : List Int) : Rat := Rat.divInt (cfb l).1 (cfb l).2
theorem dwn_map {α : Type} (f : Nat → α) : ∀ (n : Nat), (dwn n n).map f = ((List.range n).map f).reverse := by
  intro n
  rw [dwn, ← List.map_reverse, List.map_map]
  apply List.ext_getElem
  · simp
  · intro i h1 h2
    simp at h1
    simp
theorem cac_map (zf : Nat → Int) (n : Nat) : cac zf (dwn n n) = cfb ((List.range n).map zf) := by
  unfold cac cfb
  rw [List.foldr_eq_foldl_reverse, ← dwn_map, List.foldl_map]
theorem cfb_pos : ∀ (l : List Int), (∀ z ∈ l, 1 ≤ z) → 1 ≤ (cfb l).1 ∧ 0 ≤ (cfb l).2 := by
  intro l
  induction l with
  | nil => intro _; simp [cfb]
  | cons z l ih =>
    intro h
    obtain ⟨h1, h2⟩ := ih (fun x hx => h x (by simp [hx]))
    have hz := h z (by simp)
    rw [cfb_cons]
    have := Int.mul_le_mul_of_nonneg_right hz (show (0 : Int) ≤ (cfb l).1 by omega)
    omega
theorem cfb_two {z : Int} {l : List Int} (h : ∀ x ∈ l, 1 ≤ x) : 1 ≤ (cfb (z :: l)).2 := by
  rw [cfb_cons]; exact (cfb_pos l h).1
/-- What a list of texts reads as. -/
def zlist (ss : List ByteArray) : List Int := ss.map znum
theorem zlist_range (ss : List ByteArray) : (List.range ss.length).map (fun i => if i < ss.length then znum (tx ss i) else 0) = zlist ss := by
  apply List.ext_getElem
  · simp [zlist]
  · intro i h1 h2
    simp [zlist] at h2
    simp [zlist, h2, tx]
/-- Lists that have a fraction. -/
def GoodL (ss : List ByteArray) : Prop := AllZ ss ∧ 1 ≤ ss.length ∧ ss.length ≤ 30 ∧ ∀ i, 1 ≤ i → i < ss.length → 1 ≤ znum (tx ss i)
/-- What is wrong with a list. -/
def BadL (ss : List ByteArray) (k : Int) : Prop :=
  (∃ i, i < ss.length ∧ (∀ j, j < i → GoodZ (tx ss j)) ∧ BadZ (tx ss i) k) ∨ (AllZ ss ∧ ss.length = 0 ∧ k = 3) ∨ (AllZ ss ∧ 30 < ss.length ∧ k = 4) ∨
  (AllZ ss ∧ 1 ≤ ss.length ∧ ss.length ≤ 30 ∧ (∃ i, 1 ≤ i ∧ i < ss.length ∧ znum (tx ss i) ≤ 0) ∧ k = 2)
theorem BadL.ne {ss : List ByteArray} {k : Int} (h : BadL ss k) : k ≠ 0 := by
  rcases h with ⟨i, _, _, h⟩ | ⟨_, _, rfl⟩ | ⟨_, _, rfl⟩ | ⟨_, _, _, _, rfl⟩
  · exact h.ne
  all_goals decide
theorem BadL.not {ss : List ByteArray} {k : Int} (h : BadL ss k) : ¬ GoodL ss := by
  rintro ⟨g1, g2, g3, g4⟩
  rcases h with ⟨i, hi, _, h⟩ | ⟨_, h, _⟩ | ⟨_, h, _⟩ | ⟨_, _, _, ⟨i, h1, h2, h3⟩, _⟩
  · have := g1 i hi
    obtain ⟨a1, a2⟩ := this
    rcases h with ⟨h, _⟩ | ⟨_, h, _⟩
    · omega
    · rw [h] at a2; cases a2
  · omega
  · omega
  · have := g4 i h1 h2; omega
theorem GoodL.den {ss : List ByteArray} (h : GoodL ss) : 1 ≤ (cfb (zlist ss)).2 := by
  obtain ⟨h1, h2, h3, h4⟩ := h
  match ss, h2, h4 with
  | s :: ss, _, h4 =>
    refine cfb_two fun x hx => ?_
    obtain ⟨s', hs', rfl⟩ := List.mem_map.1 hx
    obtain ⟨i, hi, rfl⟩ := List.mem_iff_getElem.1 hs'
    have := h4 (i + 1) (by omega) (by simpa using hi)
    rw [tx_lt (by simpa using hi)] at this
    simpa using this
theorem cells_whl_zero (w : World) (k : Nat) : Whl w (.agg #[.bool false, .slice none 0 0]) 0 k := ⟨false, _, [], rfl, Lim.nil w, .inl rfl, Nat.zero_le _, by simp, rfl⟩
theorem zat_ge {vs : List Zr} {i : Nat} (h : vs.length ≤ i) : zat vs i = (false, none, 0, 0) := by simp [zat, h]

theorem BadZ.uniq {s : ByteArray} {k l : Int} (h : BadZ s k) (h' : BadZ s l) : k = l := by
  rcases h with ⟨h1, rfl⟩ | ⟨h1, h2, rfl⟩ <;> rcases h' with ⟨k1, rfl⟩ | ⟨k1, k2, rfl⟩ <;> first | rfl | omega
theorem GoodZ.notBad {s : ByteArray} {k : Int} (h : GoodZ s) (h' : BadZ s k) : False := by
  obtain ⟨a1, a2⟩ := h
  rcases h' with ⟨h, _⟩ | ⟨_, h, _⟩
  · omega
  · rw [h] at a2; cases a2
theorem BadL.uniq {ss : List ByteArray} {k l : Int} (h : BadL ss k) (h' : BadL ss l) : k = l := by
  have first : ∀ i j (k l : Int), i < ss.length → (∀ j, j < i → GoodZ (tx ss j)) → BadZ (tx ss i) k → j < ss.length → (∀ i, i < j → GoodZ (tx ss i)) → BadZ (tx ss j) l → k = l := by
    intro i j k l h1 h2 h3 g1 g2 g3
    rcases Nat.lt_trichotomy i j with h | h | h
    · exact absurd h3 (g2 i h).notBad
    · subst h; exact h3.uniq g3
    · exact absurd g3 (h2 j h).notBad
  rcases h with ⟨i, h1, h2, h3⟩ | ⟨h1, h2, rfl⟩ | ⟨h1, h2, rfl⟩ | ⟨h1, h2, h3, h4, rfl⟩ <;> rcases h' with ⟨j, g1, g2, g3⟩ | ⟨g1, g2, rfl⟩ | ⟨g1, g2, rfl⟩ | ⟨g1, g2, g3, g4, rfl⟩
  · exact first i j k l h1 h2 h3 g1 g2 g3
  any_goals rfl
  any_goals omega
  all_goals first | exact absurd h3 (g1 i h1).notBad | exact absurd g3 (h1 j g1).notBad
theorem readq_errno {w w' : World} {ss : List ByteArray} {k : Int} {e : Ending} (hk : BadL ss k) (h : (ReadQ w ss e w')) : e = .returned (.tuple #[.slice none 0 0, errno k]) := by
  obtain ⟨h, _⟩ := h
  rcases h with ⟨l, i, h1, h2, h3, rfl⟩ | ⟨h1, h2, rfl⟩ | ⟨h1, h2, rfl⟩ | ⟨h1, h2, h3, h4, rfl⟩ | ⟨h1, h2, h3, h4, _⟩
  · rw [hk.uniq (.inl ⟨i, h1, h2, h3⟩)]
  · rw [hk.uniq (.inr (.inl ⟨h1, h2, rfl⟩))]
  · rw [hk.uniq (.inr (.inr (.inl ⟨h1, h2, rfl⟩)))]
  · rw [hk.uniq (.inr (.inr (.inr ⟨h1, h2, h3, h4, rfl⟩)))]
  · exact absurd ⟨h1, h2, h3, h4⟩ hk.not

theorem goodL_or_bad (ss : List ByteArray) : GoodL ss ∨ ∃ k, BadL ss k := by
  by_cases hz : AllZ ss
  · by_cases h0 : ss.length = 0
    · exact .inr ⟨3, .inr (.inl ⟨hz, h0, rfl⟩)⟩
    by_cases h30 : 30 < ss.length
    · exact .inr ⟨4, .inr (.inr (.inl ⟨hz, h30, rfl⟩))⟩
    by_cases hp : ∀ i, 1 ≤ i → i < ss.length → 1 ≤ znum (tx ss i)
    · exact .inl ⟨hz, by omega, by omega, hp⟩
    · refine .inr ⟨2, .inr (.inr (.inr ⟨hz, by omega, by omega, ?_, rfl⟩))⟩
      apply Classical.byContradiction
      intro hn
      exact hp fun i h1 h2 => by
        apply Classical.byContradiction
        intro h3
        exact hn ⟨i, h1, h2, by omega⟩
  · right
    have first : ∀ n, n ≤ ss.length → (∀ i, i < n → GoodZ (tx ss i)) ∨ ∃ i k, i < ss.length ∧ (∀ j, j < i → GoodZ (tx ss j)) ∧ BadZ (tx ss i) k := by
      intro n
      induction n with
      | zero => intro _; exact .inl fun i hi => by omega
      | succ n ih =>
        intro hn
        rcases ih (by omega) with h | h
        · rcases goodZ_or_bad (tx ss n) with hg | ⟨k, hk⟩
          · exact .inl fun i hi => if h' : i < n then h i h' else (show n = i by omega) ▸ hg
          · exact .inr ⟨n, k, by omega, h, hk⟩
        · exact .inr h
    rcases first ss.length (Nat.le_refl _) with h | ⟨i, k, h1, h2, h3⟩
    · exact absurd h hz
    · exact ⟨k, .inl ⟨i, h1, h2, h3⟩⟩
/-- What cf.Back tells. -/
def BackTells (ss : List ByteArray) (s : ByteArray) (k : Int) : Prop := (k = 0 ∧ GoodL ss ∧ s = qtxt (cfback (zlist ss))) ∨ (k ≠ 0 ∧ BadL ss k ∧ s = ⟨#[]⟩)
end Go.Proofs.Ytkdeopikojgboaa

/-
  PACKAGE rat: Whole.
-/
namespace Go.Proofs.Ytkdeopikojgboaa
open Go.RowKit
open Num
set_option linter.unusedVariables false
set_option maxRecDepth 100000
set_option linter.unusedSimpArgs false

set_option maxHeartbeats 400000 in
theorem wholeq {w : World} {v : Value} {z : Int} {k : Nat} (h : Whl w v z k) :
    Calls Try.prog 40 #[v] w fun e w' => ∃ v, e = .returned v ∧ Rtl w' v (z : Rat) k ∧ Below w.heap.size w w' := by
  obtain ⟨s1, p1, n1, c1, rfl⟩ := h.opened
  have B := hid (Below.refl w.heap.size w)
  have HZ := hid h
  have hb1 := (Below.refl _ _).alloc (Nat.le_refl w.heap.size) (.cells #[.bool s1, .slice p1 n1 c1] 38)
  have hx2 := Box.new w s1 p1 n1 c1
  replace HZ := wl HZ hb1
  replace B := bb B hb1
  have X1 := hid hx2
  have hs3 : (w.alloc (.cells #[.bool s1, .slice p1 n1 c1] 38)).heap.size = w.heap.size + 1 := by simp
  clear hb1 hx2
  have hb4 := (Below.refl _ _).alloc (Nat.le_refl (w.alloc (.cells #[.bool s1, .slice p1 n1 c1] 38)).heap.size) (.cells #[.bool s1, .slice p1 n1 c1, .bool false, .slice none 0 0] 40)
  have hx5 := Nbx.new (w.alloc (.cells #[.bool s1, .slice p1 n1 c1] 38)) s1 false (.slice p1 n1 c1) (.slice none 0 0)
  rw [hs3] at hx5
  replace X1 := bx X1 hb4
  replace HZ := wl HZ hb4
  replace B := bb B hb4
  have XQ := hid hx5
  have hs6 : ((w.alloc (.cells #[.bool s1, .slice p1 n1 c1] 38)).alloc (.cells #[.bool s1, .slice p1 n1 c1, .bool false, .slice none 0 0] 40)).heap.size = w.heap.size + 1 + 1 := by simp [hs3]
  clear hb4 hx5
  clear hs6 h
  go_enter Try.func40, Try.ntmps40
  obtain ⟨cc7a, cc7b⟩ := X1.out.both
  obtain ⟨cc8a, cc8b, cc8c, cc8d⟩ := XQ.out.cells
  go_wp2_with fail
  refine bodyPost_ret (res_num rfl rfl XQ.out) rfl ?_
  exact ⟨_, rfl, Rtl.mk2 (by rw [Rat.num_intCast]; exact HZ.out) (cells_whl_zero _ k) (.inr ⟨rfl, Rat.den_intCast z⟩), B.out⟩

end Go.Proofs.Ytkdeopikojgboaa

/-
  PACKAGE ival: div.
-/
namespace Go.Proofs.Ytkdeopikojgboaa
open Go.RowKit
open Num
set_option linter.unusedVariables false
set_option maxRecDepth 100000
set_option linter.unusedSimpArgs false

theorem rtl_zero (w : World) (k : Nat) : Rtl w (.agg #[.bool false, .slice none 0 0, .bool false, .slice none 0 0]) 0 k := Rtl.mk2 (cells_whl_zero _ k) (cells_whl_zero _ k) (.inr ⟨rfl, rfl⟩)

set_option maxHeartbeats 8000000 in
theorem quo_zero {w : World} {v u : Value} {p q r s : Rat} {k : Nat} (h : Ivl w v p q k) (h' : Ivl w u r s k) (hk1 : 1 ≤ k) (hk : k ≤ 268435456) (h0 : r ≤ 0 ∧ 0 ≤ s) :
    Calls Try.prog 28 #[v, u] w fun e w' => e = .returned (.tuple #[.agg #[.bool false, .slice none 0 0, .bool false, .slice none 0 0, .bool false, .slice none 0 0, .bool false, .slice none 0 0], errno 5]) ∧ Below w.heap.size w w' := by
  have HK := hid hk
  have HK1 := hid hk1
  have HA := hid (show decide (r ≤ 0 ∧ (0 : Rat) ≤ s) = true from decide_eq_true h0)
  obtain ⟨s1a, p1a, n1a, c1a, s1b, p1b, n1b, c1b, s1c, p1c, n1c, c1c, s1d, p1d, n1d, c1d, rfl⟩ := h.opened
  obtain ⟨hl1, hh1⟩ := h.two
  obtain ⟨ht1l, d1l, hu1l, hd1l⟩ := hl1.two
  have HD1l := hid hd1l
  obtain ⟨ht1h, d1h, hu1h, hd1h⟩ := hh1.two
  have HD1h := hid hd1h
  obtain ⟨s2a, p2a, n2a, c2a, s2b, p2b, n2b, c2b, s2c, p2c, n2c, c2c, s2d, p2d, n2d, c2d, rfl⟩ := h'.opened
  obtain ⟨hl2, hh2⟩ := h'.two
  obtain ⟨ht2l, d2l, hu2l, hd2l⟩ := hl2.two
  have HD2l := hid hd2l
  obtain ⟨ht2h, d2h, hu2h, hd2h⟩ := hh2.two
  have HD2h := hid hd2h
  have B := hid (Below.refl w.heap.size w)
  have HT1l := hid ht1l
  have HU1l := hid hu1l
  have HT1h := hid ht1h
  have HU1h := hid hu1h
  have HT2l := hid ht2l
  have HU2l := hid hu2l
  have HT2h := hid ht2h
  have HU2h := hid hu2h
  have hb1 := (Below.refl _ _).alloc (Nat.le_refl w.heap.size) (.cells #[.bool s1a, .slice p1a n1a c1a, .bool s1b, .slice p1b n1b c1b, .bool s1c, .slice p1c n1c c1c, .bool s1d, .slice p1d n1d c1d] 42)
  have hx2 := Ibx.new w s1a p1a n1a c1a s1b p1b n1b c1b s1c p1c n1c c1c s1d p1d n1d c1d
  replace HT2l := wl HT2l hb1
  replace HU2l := wl HU2l hb1
  replace HT2h := wl HT2h hb1
  replace HU2h := wl HU2h hb1
  replace B := bb B hb1
  have X1 := hid hx2
  have hs3 : (w.alloc (.cells #[.bool s1a, .slice p1a n1a c1a, .bool s1b, .slice p1b n1b c1b, .bool s1c, .slice p1c n1c c1c, .bool s1d, .slice p1d n1d c1d] 42)).heap.size = w.heap.size + 1 := by simp
  clear hb1 hx2
  have hb4 := (Below.refl _ _).alloc (Nat.le_refl (w.alloc (.cells #[.bool s1a, .slice p1a n1a c1a, .bool s1b, .slice p1b n1b c1b, .bool s1c, .slice p1c n1c c1c, .bool s1d, .slice p1d n1d c1d] 42)).heap.size) (.cells #[.bool s2a, .slice p2a n2a c2a, .bool s2b, .slice p2b n2b c2b, .bool s2c, .slice p2c n2c c2c, .bool s2d, .slice p2d n2d c2d] 42)
  have hx5 := Ibx.new (w.alloc (.cells #[.bool s1a, .slice p1a n1a c1a, .bool s1b, .slice p1b n1b c1b, .bool s1c, .slice p1c n1c c1c, .bool s1d, .slice p1d n1d c1d] 42)) s2a p2a n2a c2a s2b p2b n2b c2b s2c p2c n2c c2c s2d p2d n2d c2d
  rw [hs3] at hx5
  replace X1 := ix X1 hb4
  replace HT2l := wl HT2l hb4
  replace HU2l := wl HU2l hb4
  replace HT2h := wl HT2h hb4
  replace HU2h := wl HU2h hb4
  replace B := bb B hb4
  have X2 := hid hx5
  have hs6 : ((w.alloc (.cells #[.bool s1a, .slice p1a n1a c1a, .bool s1b, .slice p1b n1b c1b, .bool s1c, .slice p1c n1c c1c, .bool s1d, .slice p1d n1d c1d] 42)).alloc (.cells #[.bool s2a, .slice p2a n2a c2a, .bool s2b, .slice p2b n2b c2b, .bool s2c, .slice p2c n2c c2c, .bool s2d, .slice p2d n2d c2d] 42)).heap.size = w.heap.size + 1 + 1 := by simp [hs3]
  clear hb4 hx5
  have hb7 := (Below.refl _ _).alloc (Nat.le_refl ((w.alloc (.cells #[.bool s1a, .slice p1a n1a c1a, .bool s1b, .slice p1b n1b c1b, .bool s1c, .slice p1c n1c c1c, .bool s1d, .slice p1d n1d c1d] 42)).alloc (.cells #[.bool s2a, .slice p2a n2a c2a, .bool s2b, .slice p2b n2b c2b, .bool s2c, .slice p2c n2c c2c, .bool s2d, .slice p2d n2d c2d] 42)).heap.size) (.cells #[.bool false, .slice none 0 0, .bool false, .slice none 0 0, .bool false, .slice none 0 0, .bool false, .slice none 0 0] 42)
  have hx8 := Ibx.new ((w.alloc (.cells #[.bool s1a, .slice p1a n1a c1a, .bool s1b, .slice p1b n1b c1b, .bool s1c, .slice p1c n1c c1c, .bool s1d, .slice p1d n1d c1d] 42)).alloc (.cells #[.bool s2a, .slice p2a n2a c2a, .bool s2b, .slice p2b n2b c2b, .bool s2c, .slice p2c n2c c2c, .bool s2d, .slice p2d n2d c2d] 42)) false none 0 0 false none 0 0 false none 0 0 false none 0 0
  rw [hs6] at hx8
  replace X1 := ix X1 hb7
  replace X2 := ix X2 hb7
  replace HT2l := wl HT2l hb7
  replace HU2l := wl HU2l hb7
  replace HT2h := wl HT2h hb7
  replace HU2h := wl HU2h hb7
  replace B := bb B hb7
  have XV := hid hx8
  have hs9 : (((w.alloc (.cells #[.bool s1a, .slice p1a n1a c1a, .bool s1b, .slice p1b n1b c1b, .bool s1c, .slice p1c n1c c1c, .bool s1d, .slice p1d n1d c1d] 42)).alloc (.cells #[.bool s2a, .slice p2a n2a c2a, .bool s2b, .slice p2b n2b c2b, .bool s2c, .slice p2c n2c c2c, .bool s2d, .slice p2d n2d c2d] 42)).alloc (.cells #[.bool false, .slice none 0 0, .bool false, .slice none 0 0, .bool false, .slice none 0 0, .bool false, .slice none 0 0] 42)).heap.size = w.heap.size + 1 + 1 + 1 := by simp [hs6]
  clear hb7 hx8
  clear hs9 hk hk1 h0 h hl1 hh1 ht1l hu1l hd1l ht1h hu1h hd1h h' hl2 hh2 ht2l hu2l hd2l ht2h hu2h hd2h
  go_enter Try.func28, Try.ntmps28
  obtain ⟨cc10a, cc10b, cc10c, cc10d, cc10e, cc10f, cc10g, cc10h⟩ := X1.out.cells
  obtain ⟨cc11a, cc11b, cc11c, cc11d, cc11e, cc11f, cc11g, cc11h⟩ := X2.out.cells
  obtain ⟨cc12a, cc12b, cc12c, cc12d, cc12e, cc12f, cc12g, cc12h⟩ := XV.out.cells
  go_wp2_with fail
  generalize hW : ((w.alloc (.cells #[.bool s1a, .slice p1a n1a c1a, .bool s1b, .slice p1b n1b c1b, .bool s1c, .slice p1c n1c c1c, .bool s1d, .slice p1d n1d c1d] 42)).alloc (.cells #[.bool s2a, .slice p2a n2a c2a, .bool s2b, .slice p2b n2b c2b, .bool s2c, .slice p2c n2c c2c, .bool s2d, .slice p2d n2d c2d] 42)).alloc (.cells #[.bool false, .slice none 0 0, .bool false, .slice none 0 0, .bool false, .slice none 0 0, .bool false, .slice none 0 0] 42) = W13 at *
  clear hW
  refine (has_ivl (Ivl.mk2 (Rtl.mk2 HT2l.out HU2l.out HD2l.out) (Rtl.mk2 HT2h.out HU2h.out HD2h.out)) (rtl_zero _ k) HK1.out (by have := HK.out; omega)).mono ?_
  rintro e w14 ⟨rfl, hb⟩
  replace X1 := ix X1 hb
  replace X2 := ix X2 hb
  replace XV := ix XV hb
  replace B := bb B hb
  clear cc10a cc10b cc10c cc10d cc10e cc10f cc10g cc10h cc11a cc11b cc11c cc11d cc11e cc11f cc11g cc11h cc12a cc12b cc12c cc12d cc12e cc12f cc12g cc12h
  clear hb 
  rw [HA.out]
  obtain ⟨cc15a, cc15b, cc15c, cc15d, cc15e, cc15f, cc15g, cc15h⟩ := X1.out.cells
  obtain ⟨cc16a, cc16b, cc16c, cc16d, cc16e, cc16f, cc16g, cc16h⟩ := X2.out.cells
  obtain ⟨cc17a, cc17b, cc17c, cc17d, cc17e, cc17f, cc17g, cc17h⟩ := XV.out.cells
  obtain ⟨⟨cc18a, cc18b⟩, ⟨cc18c, cc18d⟩, ⟨cc18e, cc18f⟩, ⟨cc18g, cc18h⟩, ⟨cc18i, cc18j⟩, ⟨cc18k, cc18l⟩, ⟨cc18m, cc18n⟩, cc18o, cc18p⟩ := XV.out.stores
  obtain ⟨r19a, r19b, r19c⟩ := XV.out.last B.out (by omega) false none 0 0 false none 0 0 false none 0 0 false none 0 0
  replace XV := hid r19a
  replace B := hid r19b
  clear r19a r19b r19c
  go_wp2_with fail
  refine bodyPost_ret (res_ivl_tmp rfl rfl rfl XV.out) rfl ?_
  exact ⟨rfl, B.out⟩

set_option maxHeartbeats 8000000 in
theorem quo_ivl {w : World} {v u : Value} {p q r s : Rat} {k : Nat} (h : Ivl w v p q k) (h' : Ivl w u r s k) (hk1 : 1 ≤ k) (hk : k ≤ 268435456) (hrs : r ≤ s) (h0 : ¬ (r ≤ 0 ∧ 0 ≤ s)) :
    Calls Try.prog 28 #[v, u] w fun e w' => ∃ v, e = .returned (.tuple #[v, .nilIface]) ∧ Ivl w' v (lo4 (p / r) (p / s) (q / r) (q / s)) (hi4 (p / r) (p / s) (q / r) (q / s)) (k + k + 1 + (k + k + 1) + 1) ∧ Below w.heap.size w w' := by
  have HK := hid hk
  have HK1 := hid hk1
  have HA := hid (show decide (r ≤ 0 ∧ (0 : Rat) ≤ s) = false from decide_eq_false h0)
  have HR0 := hid (show r ≠ 0 by grind)
  have HS0 := hid (show s ≠ 0 by grind)
  obtain ⟨s1a, p1a, n1a, c1a, s1b, p1b, n1b, c1b, s1c, p1c, n1c, c1c, s1d, p1d, n1d, c1d, rfl⟩ := h.opened
  obtain ⟨hl1, hh1⟩ := h.two
  obtain ⟨ht1l, d1l, hu1l, hd1l⟩ := hl1.two
  have HD1l := hid hd1l
  obtain ⟨ht1h, d1h, hu1h, hd1h⟩ := hh1.two
  have HD1h := hid hd1h
  obtain ⟨s2a, p2a, n2a, c2a, s2b, p2b, n2b, c2b, s2c, p2c, n2c, c2c, s2d, p2d, n2d, c2d, rfl⟩ := h'.opened
  obtain ⟨hl2, hh2⟩ := h'.two
  obtain ⟨ht2l, d2l, hu2l, hd2l⟩ := hl2.two
  have HD2l := hid hd2l
  obtain ⟨ht2h, d2h, hu2h, hd2h⟩ := hh2.two
  have HD2h := hid hd2h
  have B := hid (Below.refl w.heap.size w)
  have HT1l := hid ht1l
  have HU1l := hid hu1l
  have HT1h := hid ht1h
  have HU1h := hid hu1h
  have HT2l := hid ht2l
  have HU2l := hid hu2l
  have HT2h := hid ht2h
  have HU2h := hid hu2h
  have hb1 := (Below.refl _ _).alloc (Nat.le_refl w.heap.size) (.cells #[.bool s1a, .slice p1a n1a c1a, .bool s1b, .slice p1b n1b c1b, .bool s1c, .slice p1c n1c c1c, .bool s1d, .slice p1d n1d c1d] 42)
  have hx2 := Ibx.new w s1a p1a n1a c1a s1b p1b n1b c1b s1c p1c n1c c1c s1d p1d n1d c1d
  replace HT1l := wl HT1l hb1
  replace HU1l := wl HU1l hb1
  replace HT1h := wl HT1h hb1
  replace HU1h := wl HU1h hb1
  replace HT2l := wl HT2l hb1
  replace HU2l := wl HU2l hb1
  replace HT2h := wl HT2h hb1
  replace HU2h := wl HU2h hb1
  replace B := bb B hb1
  have X1 := hid hx2
  have hs3 : (w.alloc (.cells #[.bool s1a, .slice p1a n1a c1a, .bool s1b, .slice p1b n1b c1b, .bool s1c, .slice p1c n1c c1c, .bool s1d, .slice p1d n1d c1d] 42)).heap.size = w.heap.size + 1 := by simp
  clear hb1 hx2
  have hb4 := (Below.refl _ _).alloc (Nat.le_refl (w.alloc (.cells #[.bool s1a, .slice p1a n1a c1a, .bool s1b, .slice p1b n1b c1b, .bool s1c, .slice p1c n1c c1c, .bool s1d, .slice p1d n1d c1d] 42)).heap.size) (.cells #[.bool s2a, .slice p2a n2a c2a, .bool s2b, .slice p2b n2b c2b, .bool s2c, .slice p2c n2c c2c, .bool s2d, .slice p2d n2d c2d] 42)
  have hx5 := Ibx.new (w.alloc (.cells #[.bool s1a, .slice p1a n1a c1a, .bool s1b, .slice p1b n1b c1b, .bool s1c, .slice p1c n1c c1c, .bool s1d, .slice p1d n1d c1d] 42)) s2a p2a n2a c2a s2b p2b n2b c2b s2c p2c n2c c2c s2d p2d n2d c2d
  rw [hs3] at hx5
  replace X1 := ix X1 hb4
  replace HT1l := wl HT1l hb4
  replace HU1l := wl HU1l hb4
  replace HT1h := wl HT1h hb4
  replace HU1h := wl HU1h hb4
  replace HT2l := wl HT2l hb4
  replace HU2l := wl HU2l hb4
  replace HT2h := wl HT2h hb4
  replace HU2h := wl HU2h hb4
  replace B := bb B hb4
  have X2 := hid hx5
  have hs6 : ((w.alloc (.cells #[.bool s1a, .slice p1a n1a c1a, .bool s1b, .slice p1b n1b c1b, .bool s1c, .slice p1c n1c c1c, .bool s1d, .slice p1d n1d c1d] 42)).alloc (.cells #[.bool s2a, .slice p2a n2a c2a, .bool s2b, .slice p2b n2b c2b, .bool s2c, .slice p2c n2c c2c, .bool s2d, .slice p2d n2d c2d] 42)).heap.size = w.heap.size + 1 + 1 := by simp [hs3]
  clear hb4 hx5
  have hb7 := (Below.refl _ _).alloc (Nat.le_refl ((w.alloc (.cells #[.bool s1a, .slice p1a n1a c1a, .bool s1b, .slice p1b n1b c1b, .bool s1c, .slice p1c n1c c1c, .bool s1d, .slice p1d n1d c1d] 42)).alloc (.cells #[.bool s2a, .slice p2a n2a c2a, .bool s2b, .slice p2b n2b c2b, .bool s2c, .slice p2c n2c c2c, .bool s2d, .slice p2d n2d c2d] 42)).heap.size) (.cells #[.bool false, .slice none 0 0, .bool false, .slice none 0 0, .bool false, .slice none 0 0, .bool false, .slice none 0 0] 42)
  have hx8 := Ibx.new ((w.alloc (.cells #[.bool s1a, .slice p1a n1a c1a, .bool s1b, .slice p1b n1b c1b, .bool s1c, .slice p1c n1c c1c, .bool s1d, .slice p1d n1d c1d] 42)).alloc (.cells #[.bool s2a, .slice p2a n2a c2a, .bool s2b, .slice p2b n2b c2b, .bool s2c, .slice p2c n2c c2c, .bool s2d, .slice p2d n2d c2d] 42)) false none 0 0 false none 0 0 false none 0 0 false none 0 0
  rw [hs6] at hx8
  replace X1 := ix X1 hb7
  replace X2 := ix X2 hb7
  replace HT1l := wl HT1l hb7
  replace HU1l := wl HU1l hb7
  replace HT1h := wl HT1h hb7
  replace HU1h := wl HU1h hb7
  replace HT2l := wl HT2l hb7
  replace HU2l := wl HU2l hb7
  replace HT2h := wl HT2h hb7
  replace HU2h := wl HU2h hb7
  replace B := bb B hb7
  have XV := hid hx8
  have hs9 : (((w.alloc (.cells #[.bool s1a, .slice p1a n1a c1a, .bool s1b, .slice p1b n1b c1b, .bool s1c, .slice p1c n1c c1c, .bool s1d, .slice p1d n1d c1d] 42)).alloc (.cells #[.bool s2a, .slice p2a n2a c2a, .bool s2b, .slice p2b n2b c2b, .bool s2c, .slice p2c n2c c2c, .bool s2d, .slice p2d n2d c2d] 42)).alloc (.cells #[.bool false, .slice none 0 0, .bool false, .slice none 0 0, .bool false, .slice none 0 0, .bool false, .slice none 0 0] 42)).heap.size = w.heap.size + 1 + 1 + 1 := by simp [hs6]
  clear hb7 hx8
  clear hs9 hk hk1 h0 hrs h hl1 hh1 ht1l hu1l hd1l ht1h hu1h hd1h h' hl2 hh2 ht2l hu2l hd2l ht2h hu2h hd2h
  go_enter Try.func28, Try.ntmps28
  obtain ⟨cc10a, cc10b, cc10c, cc10d, cc10e, cc10f, cc10g, cc10h⟩ := X1.out.cells
  obtain ⟨cc11a, cc11b, cc11c, cc11d, cc11e, cc11f, cc11g, cc11h⟩ := X2.out.cells
  obtain ⟨cc12a, cc12b, cc12c, cc12d, cc12e, cc12f, cc12g, cc12h⟩ := XV.out.cells
  go_wp2_with fail
  generalize hW : ((w.alloc (.cells #[.bool s1a, .slice p1a n1a c1a, .bool s1b, .slice p1b n1b c1b, .bool s1c, .slice p1c n1c c1c, .bool s1d, .slice p1d n1d c1d] 42)).alloc (.cells #[.bool s2a, .slice p2a n2a c2a, .bool s2b, .slice p2b n2b c2b, .bool s2c, .slice p2c n2c c2c, .bool s2d, .slice p2d n2d c2d] 42)).alloc (.cells #[.bool false, .slice none 0 0, .bool false, .slice none 0 0, .bool false, .slice none 0 0, .bool false, .slice none 0 0] 42) = W13 at *
  clear hW
  refine (has_ivl (Ivl.mk2 (Rtl.mk2 HT2l.out HU2l.out HD2l.out) (Rtl.mk2 HT2h.out HU2h.out HD2h.out)) (rtl_zero _ k) HK1.out (by have := HK.out; omega)).mono ?_
  rintro e w14 ⟨rfl, hb⟩
  replace X1 := ix X1 hb
  replace X2 := ix X2 hb
  replace XV := ix XV hb
  replace HT1l := wl HT1l hb
  replace HU1l := wl HU1l hb
  replace HT1h := wl HT1h hb
  replace HU1h := wl HU1h hb
  replace HT2l := wl HT2l hb
  replace HU2l := wl HU2l hb
  replace HT2h := wl HT2h hb
  replace HU2h := wl HU2h hb
  replace B := bb B hb
  clear cc10a cc10b cc10c cc10d cc10e cc10f cc10g cc10h cc11a cc11b cc11c cc11d cc11e cc11f cc11g cc11h cc12a cc12b cc12c cc12d cc12e cc12f cc12g cc12h
  clear hb 
  rw [HA.out]
  obtain ⟨cc15a, cc15b, cc15c, cc15d, cc15e, cc15f, cc15g, cc15h⟩ := X1.out.cells
  obtain ⟨cc16a, cc16b, cc16c, cc16d, cc16e, cc16f, cc16g, cc16h⟩ := X2.out.cells
  obtain ⟨cc17a, cc17b, cc17c, cc17d, cc17e, cc17f, cc17g, cc17h⟩ := XV.out.cells
  go_wp2_with fail
  refine (of_small 1 (by decide) _).mono ?_
  rintro e w18 ⟨v, rfl, hv, hb⟩
  obtain ⟨s3, p3, n3, c3, rfl⟩ := hv.opened
  replace X1 := ix X1 hb
  replace X2 := ix X2 hb
  replace XV := ix XV hb
  replace HT1l := wl HT1l hb
  replace HU1l := wl HU1l hb
  replace HT1h := wl HT1h hb
  replace HU1h := wl HU1h hb
  replace HT2l := wl HT2l hb
  replace HU2l := wl HU2l hb
  replace HT2h := wl HT2h hb
  replace HU2h := wl HU2h hb
  replace B := bb B hb
  clear cc15a cc15b cc15c cc15d cc15e cc15f cc15g cc15h cc16a cc16b cc16c cc16d cc16e cc16f cc16g cc16h cc17a cc17b cc17c cc17d cc17e cc17f cc17g cc17h
  have H3 := hid hv
  clear hb hv
  obtain ⟨cc19a, cc19b, cc19c, cc19d, cc19e, cc19f, cc19g, cc19h⟩ := X1.out.cells
  obtain ⟨cc20a, cc20b, cc20c, cc20d, cc20e, cc20f, cc20g, cc20h⟩ := X2.out.cells
  obtain ⟨cc21a, cc21b, cc21c, cc21d, cc21e, cc21f, cc21g, cc21h⟩ := XV.out.cells
  go_wp2_with fail
  refine (wholeq H3.out).mono ?_
  rintro e w22 ⟨v, rfl, hv, hb⟩
  replace hv : Rtl _ _ (1 : Rat) k := hv.mono HK1.out
  obtain ⟨s4a, p4a, n4a, c4a, s4b, p4b, n4b, c4b, rfl⟩ := hv.opened
  obtain ⟨ht4, d4, hu4, hd4⟩ := hv.two
  have HD4 := hid hd4
  replace X1 := ix X1 hb
  replace X2 := ix X2 hb
  replace XV := ix XV hb
  replace HT1l := wl HT1l hb
  replace HU1l := wl HU1l hb
  replace HT1h := wl HT1h hb
  replace HU1h := wl HU1h hb
  replace HT2l := wl HT2l hb
  replace HU2l := wl HU2l hb
  replace HT2h := wl HT2h hb
  replace HU2h := wl HU2h hb
  replace B := bb B hb
  clear cc19a cc19b cc19c cc19d cc19e cc19f cc19g cc19h cc20a cc20b cc20c cc20d cc20e cc20f cc20g cc20h cc21a cc21b cc21c cc21d cc21e cc21f cc21g cc21h
  have HT4 := hid ht4
  have HU4 := hid hu4
  clear hb hv ht4 hu4 hd4
  have hb23 := (Below.refl _ _).alloc (Nat.le_refl w22.heap.size) (.cells #[.bool s4a, .slice p4a n4a c4a, .bool s4b, .slice p4b n4b c4b] 40)
  have hx24 := Nbx.new w22 s4a s4b (.slice p4a n4a c4a) (.slice p4b n4b c4b)
  have L0 := hid XV.out.lt
  replace X1 := ix X1 hb23
  replace X2 := ix X2 hb23
  replace XV := ix XV hb23
  replace HT1l := wl HT1l hb23
  replace HU1l := wl HU1l hb23
  replace HT1h := wl HT1h hb23
  replace HU1h := wl HU1h hb23
  replace HT2l := wl HT2l hb23
  replace HU2l := wl HU2l hb23
  replace HT2h := wl HT2h hb23
  replace HU2h := wl HU2h hb23
  replace HT4 := wl HT4 hb23
  replace HU4 := wl HU4 hb23
  replace B := bb B hb23
  have X4 := hid hx24
  have hs25 : (w22.alloc (.cells #[.bool s4a, .slice p4a n4a c4a, .bool s4b, .slice p4b n4b c4b] 40)).heap.size = w22.heap.size + 1 := by simp
  clear hb23 hx24
  obtain ⟨cc26a, cc26b, cc26c, cc26d, cc26e, cc26f, cc26g, cc26h⟩ := X1.out.cells
  obtain ⟨cc27a, cc27b, cc27c, cc27d, cc27e, cc27f, cc27g, cc27h⟩ := X2.out.cells
  obtain ⟨cc28a, cc28b, cc28c, cc28d, cc28e, cc28f, cc28g, cc28h⟩ := XV.out.cells
  obtain ⟨cc29a, cc29b, cc29c, cc29d⟩ := X4.out.cells
  go_wp2_with fail
  generalize hW : w22.alloc (.cells #[.bool s4a, .slice p4a n4a c4a, .bool s4b, .slice p4b n4b c4b] 40) = W30 at *
  clear hW
  refine (divq_some (Rtl.mk2 HT4.out HU4.out HD4.out) (Rtl.mk2 HT2l.out HU2l.out HD2l.out) HR0.out HK1.out (by have := HK.out; omega)).mono ?_
  rintro e w31 ⟨v, rfl, hv, hb⟩
  obtain ⟨s5a, p5a, n5a, c5a, s5b, p5b, n5b, c5b, rfl⟩ := hv.opened
  obtain ⟨ht5, d5, hu5, hd5⟩ := hv.two
  have HD5 := hid hd5
  replace X1 := ix X1 hb
  replace X2 := ix X2 hb
  replace XV := ix XV hb
  replace X4 := nx X4 hb
  replace HT1l := wl HT1l hb
  replace HU1l := wl HU1l hb
  replace HT1h := wl HT1h hb
  replace HU1h := wl HU1h hb
  replace HT2h := wl HT2h hb
  replace HU2h := wl HU2h hb
  replace HT4 := wl HT4 hb
  replace HU4 := wl HU4 hb
  replace B := bb B hb
  clear cc26a cc26b cc26c cc26d cc26e cc26f cc26g cc26h cc27a cc27b cc27c cc27d cc27e cc27f cc27g cc27h cc28a cc28b cc28c cc28d cc28e cc28f cc28g cc28h cc29a cc29b cc29c cc29d
  have HT5 := hid ht5
  have HU5 := hid hu5
  clear hb hv ht5 hu5 hd5
  have hb32 := (Below.refl _ _).alloc (Nat.le_refl w31.heap.size) (.cells #[.bool s5a, .slice p5a n5a c5a, .bool s5b, .slice p5b n5b c5b] 40)
  have hx33 := Nbx.new w31 s5a s5b (.slice p5a n5a c5a) (.slice p5b n5b c5b)
  have L1 := hid X4.out.lt
  replace X1 := ix X1 hb32
  replace X2 := ix X2 hb32
  replace XV := ix XV hb32
  replace X4 := nx X4 hb32
  replace HT1l := wl HT1l hb32
  replace HU1l := wl HU1l hb32
  replace HT1h := wl HT1h hb32
  replace HU1h := wl HU1h hb32
  replace HT2h := wl HT2h hb32
  replace HU2h := wl HU2h hb32
  replace HT4 := wl HT4 hb32
  replace HU4 := wl HU4 hb32
  replace HT5 := wl HT5 hb32
  replace HU5 := wl HU5 hb32
  replace B := bb B hb32
  have X5 := hid hx33
  have hs34 : (w31.alloc (.cells #[.bool s5a, .slice p5a n5a c5a, .bool s5b, .slice p5b n5b c5b] 40)).heap.size = w31.heap.size + 1 := by simp
  clear hb32 hx33
  obtain ⟨cc35a, cc35b, cc35c, cc35d, cc35e, cc35f, cc35g, cc35h⟩ := X1.out.cells
  obtain ⟨cc36a, cc36b, cc36c, cc36d, cc36e, cc36f, cc36g, cc36h⟩ := X2.out.cells
  obtain ⟨cc37a, cc37b, cc37c, cc37d, cc37e, cc37f, cc37g, cc37h⟩ := XV.out.cells
  obtain ⟨cc38a, cc38b, cc38c, cc38d⟩ := X4.out.cells
  obtain ⟨cc39a, cc39b, cc39c, cc39d⟩ := X5.out.cells
  go_wp2_with fail
  generalize hW : w31.alloc (.cells #[.bool s5a, .slice p5a n5a c5a, .bool s5b, .slice p5b n5b c5b] 40) = W40 at *
  clear hW
  refine (divq_some (Rtl.mk2 HT4.out HU4.out HD4.out) (Rtl.mk2 HT2h.out HU2h.out HD2h.out) HS0.out HK1.out (by have := HK.out; omega)).mono ?_
  rintro e w41 ⟨v, rfl, hv, hb⟩
  obtain ⟨s6a, p6a, n6a, c6a, s6b, p6b, n6b, c6b, rfl⟩ := hv.opened
  obtain ⟨ht6, d6, hu6, hd6⟩ := hv.two
  have HD6 := hid hd6
  replace X1 := ix X1 hb
  replace XV := ix XV hb
  replace X5 := nx X5 hb
  replace HT1l := wl HT1l hb
  replace HU1l := wl HU1l hb
  replace HT1h := wl HT1h hb
  replace HU1h := wl HU1h hb
  replace HT5 := wl HT5 hb
  replace HU5 := wl HU5 hb
  replace B := bb B hb
  clear cc35a cc35b cc35c cc35d cc35e cc35f cc35g cc35h cc36a cc36b cc36c cc36d cc36e cc36f cc36g cc36h cc37a cc37b cc37c cc37d cc37e cc37f cc37g cc37h cc38a cc38b cc38c cc38d cc39a cc39b cc39c cc39d
  have HT6 := hid ht6
  have HU6 := hid hu6
  clear hb hv ht6 hu6 hd6
  have hb42 := (Below.refl _ _).alloc (Nat.le_refl w41.heap.size) (.cells #[.bool s6a, .slice p6a n6a c6a, .bool s6b, .slice p6b n6b c6b] 40)
  have hx43 := Nbx.new w41 s6a s6b (.slice p6a n6a c6a) (.slice p6b n6b c6b)
  have L2 := hid X5.out.lt
  replace X1 := ix X1 hb42
  replace XV := ix XV hb42
  replace X5 := nx X5 hb42
  replace HT1l := wl HT1l hb42
  replace HU1l := wl HU1l hb42
  replace HT1h := wl HT1h hb42
  replace HU1h := wl HU1h hb42
  replace HT5 := wl HT5 hb42
  replace HU5 := wl HU5 hb42
  replace HT6 := wl HT6 hb42
  replace HU6 := wl HU6 hb42
  replace B := bb B hb42
  have X6 := hid hx43
  have hs44 : (w41.alloc (.cells #[.bool s6a, .slice p6a n6a c6a, .bool s6b, .slice p6b n6b c6b] 40)).heap.size = w41.heap.size + 1 := by simp
  clear hb42 hx43
  obtain ⟨cc45a, cc45b, cc45c, cc45d, cc45e, cc45f, cc45g, cc45h⟩ := X1.out.cells
  obtain ⟨cc46a, cc46b, cc46c, cc46d, cc46e, cc46f, cc46g, cc46h⟩ := XV.out.cells
  obtain ⟨cc47a, cc47b, cc47c, cc47d⟩ := X5.out.cells
  obtain ⟨cc48a, cc48b, cc48c, cc48d⟩ := X6.out.cells
  go_wp2_with fail
  generalize hW : w41.alloc (.cells #[.bool s6a, .slice p6a n6a c6a, .bool s6b, .slice p6b n6b c6b] 40) = W49 at *
  clear hW
  clear hs44
  have hb50 := (Below.refl _ _).alloc (Nat.le_refl W49.heap.size) (.cells #[.bool s5a, .slice p5a n5a c5a, .bool s5b, .slice p5b n5b c5b, .bool s6a, .slice p6a n6a c6a, .bool s6b, .slice p6b n6b c6b] 40)
  have hx51 := row_new2 (w := W49) (Rtl.mk2 HT5.out HU5.out HD5.out) (Rtl.mk2 HT6.out HU6.out HD6.out)
  replace X1 := ix X1 hb50
  replace XV := ix XV hb50
  replace X5 := nx X5 hb50
  replace X6 := nx X6 hb50
  replace HT1l := wl HT1l hb50
  replace HU1l := wl HU1l hb50
  replace HT1h := wl HT1h hb50
  replace HU1h := wl HU1h hb50
  replace HT5 := wl HT5 hb50
  replace HU5 := wl HU5 hb50
  replace HT6 := wl HT6 hb50
  replace HU6 := wl HU6 hb50
  replace B := bb B hb50
  have HR := hid hx51
  clear hb50 hx51
  obtain ⟨cc52a, cc52b, cc52c, cc52d, cc52e, cc52f, cc52g, cc52h⟩ := X1.out.cells
  obtain ⟨cc53a, cc53b, cc53c, cc53d⟩ := X5.out.cells
  obtain ⟨cc54a, cc54b, cc54c, cc54d⟩ := X6.out.cells
  replace X1 := hid X1.out.dr
  replace XV := hid XV.out.dr
  replace X5 := hid X5.out.dr
  replace X6 := hid X6.out.dr
  replace HT1l := hid HT1l.out.drew
  replace HU1l := hid HU1l.out.drew
  replace HT1h := hid HT1h.out.drew
  replace HU1h := hid HU1h.out.drew
  replace HT5 := hid HT5.out.drew
  replace HU5 := hid HU5.out.drew
  replace HT6 := hid HT6.out.drew
  replace HU6 := hid HU6.out.drew
  replace B := hid (Below.drew B.out)
  replace HR := hid (HR.out.on (Below.drew (Below.refl _ _)))
  obtain ⟨cc55a, cc55b, cc55c, cc55d, cc55e, cc55f, cc55g, cc55h⟩ := X1.out.cells
  obtain ⟨cc56a, cc56b, cc56c, cc56d⟩ := X5.out.cells
  obtain ⟨cc57a, cc57b, cc57c, cc57d⟩ := X6.out.cells
  go_region_held3 (fun w' => w'.cell? ⟨w.heap.size, 0, none⟩ = some (.bool s1a) ∧ w'.cell? ⟨w.heap.size, 1, none⟩ = some (.slice p1a n1a c1a) ∧ w'.cell? ⟨w.heap.size, 2, none⟩ = some (.bool s1b) ∧ w'.cell? ⟨w.heap.size, 3, none⟩ = some (.slice p1b n1b c1b) ∧ w'.cell? ⟨w.heap.size, 4, none⟩ = some (.bool s1c) ∧ w'.cell? ⟨w.heap.size, 5, none⟩ = some (.slice p1c n1c c1c) ∧ w'.cell? ⟨w.heap.size, 6, none⟩ = some (.bool s1d) ∧ w'.cell? ⟨w.heap.size, 7, none⟩ = some (.slice p1d n1d c1d) ∧ w'.cell? ⟨w31.heap.size, 0, none⟩ = some (.bool s5a) ∧ w'.cell? ⟨w31.heap.size, 1, none⟩ = some (.slice p5a n5a c5a) ∧ w'.cell? ⟨w31.heap.size, 2, none⟩ = some (.bool s5b) ∧ w'.cell? ⟨w31.heap.size, 3, none⟩ = some (.slice p5b n5b c5b) ∧ w'.cell? ⟨w41.heap.size, 0, none⟩ = some (.bool s6a) ∧ w'.cell? ⟨w41.heap.size, 1, none⟩ = some (.slice p6a n6a c6a) ∧ w'.cell? ⟨w41.heap.size, 2, none⟩ = some (.bool s6b) ∧ w'.cell? ⟨w41.heap.size, 3, none⟩ = some (.slice p6b n6b c6b)) (go_keep) (first
    | (have hm := mk58_0; clear hm; go_at_call 25; refine (mul_ivl ((Ivl.mk2 (Rtl.mk2 HT1l.out HU1l.out HD1l.out) (Rtl.mk2 HT1h.out HU1h.out HD1h.out)).mono (show k ≤ k + k + 1 by omega)) (Ivl.mk2 (Rtl.mk2 HT7l.out HU7l.out HD7l.out) (Rtl.mk2 HT7h.out HU7h.out HD7h.out)) (by omega) (by have := HK.out; omega)).mono ?_; rintro e w63 ⟨v, rfl, hv, hb⟩; rw [(div_ends p q r s).1, (div_ends p q r s).2] at hv; obtain ⟨s8a, p8a, n8a, c8a, s8b, p8b, n8b, c8b, s8c, p8c, n8c, c8c, s8d, p8d, n8d, c8d, rfl⟩ := hv.opened; obtain ⟨hl8, hh8⟩ := hv.two; obtain ⟨ht8l, d8l, hu8l, hd8l⟩ := hl8.two; have HD8l := hid hd8l; obtain ⟨ht8h, d8h, hu8h, hd8h⟩ := hh8.two; have HD8h := hid hd8h; replace X1 := ix X1 hb; replace XV := ix XV hb; replace X5 := nx X5 hb; replace X6 := nx X6 hb; replace HT1l := wl HT1l hb; replace HU1l := wl HU1l hb; replace HT1h := wl HT1h hb; replace HU1h := wl HU1h hb; replace HT5 := wl HT5 hb; replace HU5 := wl HU5 hb; replace HT6 := wl HT6 hb; replace HU6 := wl HU6 hb; replace HT7l := wl HT7l hb; replace HU7l := wl HU7l hb; replace HT7h := wl HT7h hb; replace HU7h := wl HU7h hb; replace B := bb B hb; clear cc60a cc60b cc60c cc60d cc60e cc60f cc60g cc60h cc61a cc61b cc61c cc61d cc62a cc62b cc62c cc62d; have HT8l := hid ht8l; have HU8l := hid hu8l; have HT8h := hid ht8h; have HU8h := hid hu8h; clear hb hv hl8 hh8 ht8l hu8l hd8l ht8h hu8h hd8h; obtain ⟨cc64a, cc64b, cc64c, cc64d, cc64e, cc64f, cc64g, cc64h⟩ := X1.out.cells; obtain ⟨cc65a, cc65b, cc65c, cc65d⟩ := X5.out.cells; obtain ⟨cc66a, cc66b, cc66c, cc66d⟩ := X6.out.cells; obtain ⟨⟨cc67a, cc67b⟩, ⟨cc67c, cc67d⟩, ⟨cc67e, cc67f⟩, ⟨cc67g, cc67h⟩, ⟨cc67i, cc67j⟩, ⟨cc67k, cc67l⟩, ⟨cc67m, cc67n⟩, cc67o, cc67p⟩ := XV.out.stores; obtain ⟨r68a, r68b, r68c⟩ := XV.out.last B.out (by have := L0.out; have := L1.out; have := L2.out; omega) s8a p8a n8a c8a s8b p8b n8b c8b s8c p8c n8c c8c s8d p8d n8d c8d; replace X1 := hid ((((((((X1.out.other (g2 := w.heap.size + 1 + 1) (by have := L0.out; have := L1.out; have := L2.out; omega) 0 (.bool s8a)).other (g2 := w.heap.size + 1 + 1) (by have := L0.out; have := L1.out; have := L2.out; omega) 1 (.slice p8a n8a c8a)).other (g2 := w.heap.size + 1 + 1) (by have := L0.out; have := L1.out; have := L2.out; omega) 2 (.bool s8b)).other (g2 := w.heap.size + 1 + 1) (by have := L0.out; have := L1.out; have := L2.out; omega) 3 (.slice p8b n8b c8b)).other (g2 := w.heap.size + 1 + 1) (by have := L0.out; have := L1.out; have := L2.out; omega) 4 (.bool s8c)).other (g2 := w.heap.size + 1 + 1) (by have := L0.out; have := L1.out; have := L2.out; omega) 5 (.slice p8c n8c c8c)).other (g2 := w.heap.size + 1 + 1) (by have := L0.out; have := L1.out; have := L2.out; omega) 6 (.bool s8d)).other (g2 := w.heap.size + 1 + 1) (by have := L0.out; have := L1.out; have := L2.out; omega) 7 (.slice p8d n8d c8d)); replace X5 := hid ((((((((X5.out.other (g2 := w.heap.size + 1 + 1) (by have := L0.out; have := L1.out; have := L2.out; omega) 0 (.bool s8a)).other (g2 := w.heap.size + 1 + 1) (by have := L0.out; have := L1.out; have := L2.out; omega) 1 (.slice p8a n8a c8a)).other (g2 := w.heap.size + 1 + 1) (by have := L0.out; have := L1.out; have := L2.out; omega) 2 (.bool s8b)).other (g2 := w.heap.size + 1 + 1) (by have := L0.out; have := L1.out; have := L2.out; omega) 3 (.slice p8b n8b c8b)).other (g2 := w.heap.size + 1 + 1) (by have := L0.out; have := L1.out; have := L2.out; omega) 4 (.bool s8c)).other (g2 := w.heap.size + 1 + 1) (by have := L0.out; have := L1.out; have := L2.out; omega) 5 (.slice p8c n8c c8c)).other (g2 := w.heap.size + 1 + 1) (by have := L0.out; have := L1.out; have := L2.out; omega) 6 (.bool s8d)).other (g2 := w.heap.size + 1 + 1) (by have := L0.out; have := L1.out; have := L2.out; omega) 7 (.slice p8d n8d c8d)); replace X6 := hid ((((((((X6.out.other (g2 := w.heap.size + 1 + 1) (by have := L0.out; have := L1.out; have := L2.out; omega) 0 (.bool s8a)).other (g2 := w.heap.size + 1 + 1) (by have := L0.out; have := L1.out; have := L2.out; omega) 1 (.slice p8a n8a c8a)).other (g2 := w.heap.size + 1 + 1) (by have := L0.out; have := L1.out; have := L2.out; omega) 2 (.bool s8b)).other (g2 := w.heap.size + 1 + 1) (by have := L0.out; have := L1.out; have := L2.out; omega) 3 (.slice p8b n8b c8b)).other (g2 := w.heap.size + 1 + 1) (by have := L0.out; have := L1.out; have := L2.out; omega) 4 (.bool s8c)).other (g2 := w.heap.size + 1 + 1) (by have := L0.out; have := L1.out; have := L2.out; omega) 5 (.slice p8c n8c c8c)).other (g2 := w.heap.size + 1 + 1) (by have := L0.out; have := L1.out; have := L2.out; omega) 6 (.bool s8d)).other (g2 := w.heap.size + 1 + 1) (by have := L0.out; have := L1.out; have := L2.out; omega) 7 (.slice p8d n8d c8d)); replace HT1l := hid (r68c HT1l.out); replace HU1l := hid (r68c HU1l.out); replace HT1h := hid (r68c HT1h.out); replace HU1h := hid (r68c HU1h.out); replace HT5 := hid (r68c HT5.out); replace HU5 := hid (r68c HU5.out); replace HT6 := hid (r68c HT6.out); replace HU6 := hid (r68c HU6.out); replace HT7l := hid (r68c HT7l.out); replace HU7l := hid (r68c HU7l.out); replace HT7h := hid (r68c HT7h.out); replace HU7h := hid (r68c HU7h.out); replace HT8l := hid (r68c HT8l.out); replace HU8l := hid (r68c HU8l.out); replace HT8h := hid (r68c HT8h.out); replace HU8h := hid (r68c HU8h.out); replace XV := hid r68a; replace B := hid r68b; clear r68a r68b r68c; obtain ⟨cc69a, cc69b, cc69c, cc69d, cc69e, cc69f, cc69g, cc69h⟩ := X1.out.cells; obtain ⟨cc70a, cc70b, cc70c, cc70d⟩ := X5.out.cells; obtain ⟨cc71a, cc71b, cc71c, cc71d⟩ := X6.out.cells; have mk58_1 := hid True.intro)
    | (go_at_call 39; refine (span_ivl HR.out (by decide) (by decide) (show 1 ≤ k + k + 1 by omega) (by have := HK.out; omega)).mono ?_; rintro e w59 ⟨v, rfl, hv, hb⟩; replace hv : Ivl _ _ (mn (1 / r) (1 / s)) (mx (1 / r) (1 / s)) _ := hv; obtain ⟨s7a, p7a, n7a, c7a, s7b, p7b, n7b, c7b, s7c, p7c, n7c, c7c, s7d, p7d, n7d, c7d, rfl⟩ := hv.opened; obtain ⟨hl7, hh7⟩ := hv.two; obtain ⟨ht7l, d7l, hu7l, hd7l⟩ := hl7.two; have HD7l := hid hd7l; obtain ⟨ht7h, d7h, hu7h, hd7h⟩ := hh7.two; have HD7h := hid hd7h; replace X1 := ix X1 hb; replace XV := ix XV hb; replace X5 := nx X5 hb; replace X6 := nx X6 hb; replace HT1l := wl HT1l hb; replace HU1l := wl HU1l hb; replace HT1h := wl HT1h hb; replace HU1h := wl HU1h hb; replace HT5 := wl HT5 hb; replace HU5 := wl HU5 hb; replace HT6 := wl HT6 hb; replace HU6 := wl HU6 hb; replace B := bb B hb; clear cc45a cc45b cc45c cc45d cc45e cc45f cc45g cc45h cc46a cc46b cc46c cc46d cc46e cc46f cc46g cc46h cc47a cc47b cc47c cc47d cc48a cc48b cc48c cc48d cc52a cc52b cc52c cc52d cc52e cc52f cc52g cc52h cc53a cc53b cc53c cc53d cc54a cc54b cc54c cc54d cc55a cc55b cc55c cc55d cc55e cc55f cc55g cc55h cc56a cc56b cc56c cc56d cc57a cc57b cc57c cc57d; have HT7l := hid ht7l; have HU7l := hid hu7l; have HT7h := hid ht7h; have HU7h := hid hu7h; clear hb hv hl7 hh7 ht7l hu7l hd7l ht7h hu7h hd7h HR; obtain ⟨cc60a, cc60b, cc60c, cc60d, cc60e, cc60f, cc60g, cc60h⟩ := X1.out.cells; obtain ⟨cc61a, cc61b, cc61c, cc61d⟩ := X5.out.cells; obtain ⟨cc62a, cc62b, cc62c, cc62d⟩ := X6.out.cells; have mk58_0 := hid True.intro))
  go_wp2_with fail
  refine bodyPost_ret (res_ivl_tmp rfl rfl rfl XV.out) rfl ?_
  exact ⟨_, rfl, (Ivl.mk2 (Rtl.mk2 HT8l.out HU8l.out HD8l.out) (Rtl.mk2 HT8h.out HU8h.out HD8h.out)), B.out⟩

end Go.Proofs.Ytkdeopikojgboaa

/-
  PACKAGE ival: Div.
-/
namespace Go.Proofs.Ytkdeopikojgboaa
open Go.RowKit
open Num
set_option linter.unusedVariables false
set_option maxRecDepth 100000
set_option linter.unusedSimpArgs false

set_option maxHeartbeats 4000000 in
theorem idiv_bad {a b c d : ByteArray} {k : Int} (h : WrongI a b c d k) (ha : a.size ≤ maxLen) (hb0 : b.size ≤ maxLen) (hc0 : c.size ≤ maxLen) (hd0 : d.size ≤ maxLen) (w : World) :
    Calls Try.prog 13 #[.agg #[.string a, .string b], .agg #[.string c, .string d]] w fun e w' => e = .returned (.tuple #[.agg #[.string ⟨#[]⟩, .string ⟨#[]⟩], errno k]) ∧ Below w.heap.size w w' := by
  have hne := errv_neq
  have hgd := errv_guard
  have hkk := errv_some h.ne
  have H1 := hid (fun w => iboth_bad h ha hb0 hc0 hd0 w)
  have B := hid (Below.refl w.heap.size w)
  have hb1 := (Below.refl _ _).alloc (Nat.le_refl w.heap.size) (.cells #[.string a, .string b] 23)
  have hx2 := Vbx.new w a b
  replace B := bb B hb1
  have X1 := hid hx2
  have hs3 : (w.alloc (.cells #[.string a, .string b] 23)).heap.size = w.heap.size + 1 := by simp
  clear hb1 hx2
  have hb4 := (Below.refl _ _).alloc (Nat.le_refl (w.alloc (.cells #[.string a, .string b] 23)).heap.size) (.cells #[.string c, .string d] 23)
  have hx5 := Vbx.new (w.alloc (.cells #[.string a, .string b] 23)) c d
  rw [hs3] at hx5
  replace X1 := vx X1 hb4
  replace B := bb B hb4
  have X2 := hid hx5
  have hs6 : ((w.alloc (.cells #[.string a, .string b] 23)).alloc (.cells #[.string c, .string d] 23)).heap.size = w.heap.size + 1 + 1 := by simp [hs3]
  clear hb4 hx5
  have hb7 := (Below.refl _ _).alloc (Nat.le_refl ((w.alloc (.cells #[.string a, .string b] 23)).alloc (.cells #[.string c, .string d] 23)).heap.size) (.cells #[.string ⟨#[]⟩, .string ⟨#[]⟩] 23)
  have hx8 := Vbx.new ((w.alloc (.cells #[.string a, .string b] 23)).alloc (.cells #[.string c, .string d] 23)) ⟨#[]⟩ ⟨#[]⟩
  rw [hs6] at hx8
  replace X1 := vx X1 hb7
  replace X2 := vx X2 hb7
  replace B := bb B hb7
  have XV := hid hx8
  have hs9 : (((w.alloc (.cells #[.string a, .string b] 23)).alloc (.cells #[.string c, .string d] 23)).alloc (.cells #[.string ⟨#[]⟩, .string ⟨#[]⟩] 23)).heap.size = w.heap.size + 1 + 1 + 1 := by simp [hs6]
  clear hb7 hx8
  clear hs9 h
  go_enter Try.func13, Try.ntmps13
  obtain ⟨cc10a, cc10b⟩ := X1.out.both
  obtain ⟨cc11a, cc11b⟩ := X2.out.both
  obtain ⟨cc12a, cc12b⟩ := XV.out.both
  go_wp2_with fail
  generalize hW : ((w.alloc (.cells #[.string a, .string b] 23)).alloc (.cells #[.string c, .string d] 23)).alloc (.cells #[.string ⟨#[]⟩, .string ⟨#[]⟩] 23) = W13 at *
  clear hW
  refine (H1.out _).mono ?_
  rintro e w14 ⟨rfl, hb⟩
  replace XV := vx XV hb
  replace B := bb B hb
  clear cc10a cc10b cc11a cc11b cc12a cc12b
  clear hb H1
  have hb15 := (Below.refl _ _).alloc (Nat.le_refl w14.heap.size) (.cells #[.bool false, .slice none 0 0, .bool false, .slice none 0 0, .bool false, .slice none 0 0, .bool false, .slice none 0 0] 42)
  have hx16 := Ibx.new w14 false none 0 0 false none 0 0 false none 0 0 false none 0 0
  have L0 := hid XV.out.lt
  replace XV := vx XV hb15
  replace B := bb B hb15
  have X5 := hid hx16
  have hs17 : (w14.alloc (.cells #[.bool false, .slice none 0 0, .bool false, .slice none 0 0, .bool false, .slice none 0 0, .bool false, .slice none 0 0] 42)).heap.size = w14.heap.size + 1 := by simp
  clear hb15 hx16
  have hb18 := (Below.refl _ _).alloc (Nat.le_refl (w14.alloc (.cells #[.bool false, .slice none 0 0, .bool false, .slice none 0 0, .bool false, .slice none 0 0, .bool false, .slice none 0 0] 42)).heap.size) (.cells #[.bool false, .slice none 0 0, .bool false, .slice none 0 0, .bool false, .slice none 0 0, .bool false, .slice none 0 0] 42)
  have hx19 := Ibx.new (w14.alloc (.cells #[.bool false, .slice none 0 0, .bool false, .slice none 0 0, .bool false, .slice none 0 0, .bool false, .slice none 0 0] 42)) false none 0 0 false none 0 0 false none 0 0 false none 0 0
  rw [hs17] at hx19
  replace XV := vx XV hb18
  replace X5 := ix X5 hb18
  replace B := bb B hb18
  have X6 := hid hx19
  have hs20 : ((w14.alloc (.cells #[.bool false, .slice none 0 0, .bool false, .slice none 0 0, .bool false, .slice none 0 0, .bool false, .slice none 0 0] 42)).alloc (.cells #[.bool false, .slice none 0 0, .bool false, .slice none 0 0, .bool false, .slice none 0 0, .bool false, .slice none 0 0] 42)).heap.size = w14.heap.size + 1 + 1 := by simp [hs17]
  clear hb18 hx19
  obtain ⟨cc21a, cc21b⟩ := XV.out.both
  obtain ⟨cc22a, cc22b, cc22c, cc22d, cc22e, cc22f, cc22g, cc22h⟩ := X5.out.cells
  obtain ⟨cc23a, cc23b, cc23c, cc23d, cc23e, cc23f, cc23g, cc23h⟩ := X6.out.cells
  obtain ⟨cc24a, cc24b, cc24c, cc24d⟩ := XV.out.stores
  obtain ⟨r25a, r25b, r25c⟩ := XV.out.last B.out (by have := L0.out; omega) ⟨#[]⟩ ⟨#[]⟩
  replace X5 := hid ((X5.out.other (g2 := w.heap.size + 1 + 1) (by have := L0.out; omega) 0 (.string ⟨#[]⟩)).other (g2 := w.heap.size + 1 + 1) (by have := L0.out; omega) 1 (.string ⟨#[]⟩))
  replace X6 := hid ((X6.out.other (g2 := w.heap.size + 1 + 1) (by have := L0.out; omega) 0 (.string ⟨#[]⟩)).other (g2 := w.heap.size + 1 + 1) (by have := L0.out; omega) 1 (.string ⟨#[]⟩))
  replace XV := hid r25a
  replace B := hid r25b
  clear r25a r25b r25c
  obtain ⟨cc26a, cc26b⟩ := XV.out.both
  obtain ⟨cc27a, cc27b, cc27c, cc27d, cc27e, cc27f, cc27g, cc27h⟩ := X5.out.cells
  obtain ⟨cc28a, cc28b, cc28c, cc28d, cc28e, cc28f, cc28g, cc28h⟩ := X6.out.cells
  go_wp2_with fail
  refine bodyPost_ret (res_ival_tmp rfl rfl rfl XV.out) rfl ?_
  exact ⟨rfl, B.out⟩

set_option maxHeartbeats 4000000 in
theorem idiv_zero {a b c d : ByteArray} (h1 : GoodI a b) (h2 : GoodI c d) (h0 : qnum c ≤ 0 ∧ 0 ≤ qnum d) (w : World) :
    Calls Try.prog 13 #[.agg #[.string a, .string b], .agg #[.string c, .string d]] w fun e w' => e = .returned (.tuple #[.agg #[.string ⟨#[]⟩, .string ⟨#[]⟩], errno 5]) ∧ Below w.heap.size w w' := by
  have hne := errv_neq
  have hgd := errv_guard
  have H1 := hid (fun w => iboth_3 h1 h2 w)
  have H0 := hid h0
  have HRS := hid h2.2.2
  have hkk := errv_some (show (5 : Int) ≠ 0 by decide)
  have B := hid (Below.refl w.heap.size w)
  have hb1 := (Below.refl _ _).alloc (Nat.le_refl w.heap.size) (.cells #[.string a, .string b] 23)
  have hx2 := Vbx.new w a b
  replace B := bb B hb1
  have X1 := hid hx2
  have hs3 : (w.alloc (.cells #[.string a, .string b] 23)).heap.size = w.heap.size + 1 := by simp
  clear hb1 hx2
  have hb4 := (Below.refl _ _).alloc (Nat.le_refl (w.alloc (.cells #[.string a, .string b] 23)).heap.size) (.cells #[.string c, .string d] 23)
  have hx5 := Vbx.new (w.alloc (.cells #[.string a, .string b] 23)) c d
  rw [hs3] at hx5
  replace X1 := vx X1 hb4
  replace B := bb B hb4
  have X2 := hid hx5
  have hs6 : ((w.alloc (.cells #[.string a, .string b] 23)).alloc (.cells #[.string c, .string d] 23)).heap.size = w.heap.size + 1 + 1 := by simp [hs3]
  clear hb4 hx5
  have hb7 := (Below.refl _ _).alloc (Nat.le_refl ((w.alloc (.cells #[.string a, .string b] 23)).alloc (.cells #[.string c, .string d] 23)).heap.size) (.cells #[.string ⟨#[]⟩, .string ⟨#[]⟩] 23)
  have hx8 := Vbx.new ((w.alloc (.cells #[.string a, .string b] 23)).alloc (.cells #[.string c, .string d] 23)) ⟨#[]⟩ ⟨#[]⟩
  rw [hs6] at hx8
  replace X1 := vx X1 hb7
  replace X2 := vx X2 hb7
  replace B := bb B hb7
  have XV := hid hx8
  have hs9 : (((w.alloc (.cells #[.string a, .string b] 23)).alloc (.cells #[.string c, .string d] 23)).alloc (.cells #[.string ⟨#[]⟩, .string ⟨#[]⟩] 23)).heap.size = w.heap.size + 1 + 1 + 1 := by simp [hs6]
  clear hb7 hx8
  clear hs9 h1 h2 h0
  go_enter Try.func13, Try.ntmps13
  obtain ⟨cc10a, cc10b⟩ := X1.out.both
  obtain ⟨cc11a, cc11b⟩ := X2.out.both
  obtain ⟨cc12a, cc12b⟩ := XV.out.both
  go_wp2_with fail
  generalize hW : ((w.alloc (.cells #[.string a, .string b] 23)).alloc (.cells #[.string c, .string d] 23)).alloc (.cells #[.string ⟨#[]⟩, .string ⟨#[]⟩] 23) = W13 at *
  clear hW
  refine (H1.out _).mono ?_
  rintro e w14 ⟨v, u, rfl, hv, hu, hb⟩
  obtain ⟨s5a, p5a, n5a, c5a, s5b, p5b, n5b, c5b, s5c, p5c, n5c, c5c, s5d, p5d, n5d, c5d, rfl⟩ := hv.opened
  obtain ⟨hl5, hh5⟩ := hv.two
  obtain ⟨ht5l, d5l, hu5l, hd5l⟩ := hl5.two
  have HD5l := hid hd5l
  obtain ⟨ht5h, d5h, hu5h, hd5h⟩ := hh5.two
  have HD5h := hid hd5h
  obtain ⟨s6a, p6a, n6a, c6a, s6b, p6b, n6b, c6b, s6c, p6c, n6c, c6c, s6d, p6d, n6d, c6d, rfl⟩ := hu.opened
  obtain ⟨hl6, hh6⟩ := hu.two
  obtain ⟨ht6l, d6l, hu6l, hd6l⟩ := hl6.two
  have HD6l := hid hd6l
  obtain ⟨ht6h, d6h, hu6h, hd6h⟩ := hh6.two
  have HD6h := hid hd6h
  replace XV := vx XV hb
  replace B := bb B hb
  clear cc10a cc10b cc11a cc11b cc12a cc12b
  have HT5l := hid ht5l
  have HU5l := hid hu5l
  have HT5h := hid ht5h
  have HU5h := hid hu5h
  have HT6l := hid ht6l
  have HU6l := hid hu6l
  have HT6h := hid ht6h
  have HU6h := hid hu6h
  clear hb hv hl5 hh5 ht5l hu5l hd5l ht5h hu5h hd5h hu hl6 hh6 ht6l hu6l hd6l ht6h hu6h hd6h H1
  have hb15 := (Below.refl _ _).alloc (Nat.le_refl w14.heap.size) (.cells #[.bool s5a, .slice p5a n5a c5a, .bool s5b, .slice p5b n5b c5b, .bool s5c, .slice p5c n5c c5c, .bool s5d, .slice p5d n5d c5d] 42)
  have hx16 := Ibx.new w14 s5a p5a n5a c5a s5b p5b n5b c5b s5c p5c n5c c5c s5d p5d n5d c5d
  have L0 := hid XV.out.lt
  replace XV := vx XV hb15
  replace HT5l := wl HT5l hb15
  replace HU5l := wl HU5l hb15
  replace HT5h := wl HT5h hb15
  replace HU5h := wl HU5h hb15
  replace HT6l := wl HT6l hb15
  replace HU6l := wl HU6l hb15
  replace HT6h := wl HT6h hb15
  replace HU6h := wl HU6h hb15
  replace B := bb B hb15
  have X5 := hid hx16
  have hs17 : (w14.alloc (.cells #[.bool s5a, .slice p5a n5a c5a, .bool s5b, .slice p5b n5b c5b, .bool s5c, .slice p5c n5c c5c, .bool s5d, .slice p5d n5d c5d] 42)).heap.size = w14.heap.size + 1 := by simp
  clear hb15 hx16
  have hb18 := (Below.refl _ _).alloc (Nat.le_refl (w14.alloc (.cells #[.bool s5a, .slice p5a n5a c5a, .bool s5b, .slice p5b n5b c5b, .bool s5c, .slice p5c n5c c5c, .bool s5d, .slice p5d n5d c5d] 42)).heap.size) (.cells #[.bool s6a, .slice p6a n6a c6a, .bool s6b, .slice p6b n6b c6b, .bool s6c, .slice p6c n6c c6c, .bool s6d, .slice p6d n6d c6d] 42)
  have hx19 := Ibx.new (w14.alloc (.cells #[.bool s5a, .slice p5a n5a c5a, .bool s5b, .slice p5b n5b c5b, .bool s5c, .slice p5c n5c c5c, .bool s5d, .slice p5d n5d c5d] 42)) s6a p6a n6a c6a s6b p6b n6b c6b s6c p6c n6c c6c s6d p6d n6d c6d
  rw [hs17] at hx19
  replace XV := vx XV hb18
  replace X5 := ix X5 hb18
  replace HT5l := wl HT5l hb18
  replace HU5l := wl HU5l hb18
  replace HT5h := wl HT5h hb18
  replace HU5h := wl HU5h hb18
  replace HT6l := wl HT6l hb18
  replace HU6l := wl HU6l hb18
  replace HT6h := wl HT6h hb18
  replace HU6h := wl HU6h hb18
  replace B := bb B hb18
  have X6 := hid hx19
  have hs20 : ((w14.alloc (.cells #[.bool s5a, .slice p5a n5a c5a, .bool s5b, .slice p5b n5b c5b, .bool s5c, .slice p5c n5c c5c, .bool s5d, .slice p5d n5d c5d] 42)).alloc (.cells #[.bool s6a, .slice p6a n6a c6a, .bool s6b, .slice p6b n6b c6b, .bool s6c, .slice p6c n6c c6c, .bool s6d, .slice p6d n6d c6d] 42)).heap.size = w14.heap.size + 1 + 1 := by simp [hs17]
  clear hb18 hx19
  obtain ⟨cc21a, cc21b⟩ := XV.out.both
  obtain ⟨cc22a, cc22b, cc22c, cc22d, cc22e, cc22f, cc22g, cc22h⟩ := X5.out.cells
  obtain ⟨cc23a, cc23b, cc23c, cc23d, cc23e, cc23f, cc23g, cc23h⟩ := X6.out.cells
  go_wp2_with fail
  generalize hW : (w14.alloc (.cells #[.bool s5a, .slice p5a n5a c5a, .bool s5b, .slice p5b n5b c5b, .bool s5c, .slice p5c n5c c5c, .bool s5d, .slice p5d n5d c5d] 42)).alloc (.cells #[.bool s6a, .slice p6a n6a c6a, .bool s6b, .slice p6b n6b c6b, .bool s6c, .slice p6c n6c c6c, .bool s6d, .slice p6d n6d c6d] 42) = W24 at *
  clear hW
  refine (quo_zero (Ivl.mk2 (Rtl.mk2 HT5l.out HU5l.out HD5l.out) (Rtl.mk2 HT5h.out HU5h.out HD5h.out)) (Ivl.mk2 (Rtl.mk2 HT6l.out HU6l.out HD6l.out) (Rtl.mk2 HT6h.out HU6h.out HD6h.out)) (by decide) (by decide) H0.out).mono ?_
  rintro e w25 ⟨rfl, hb⟩
  replace XV := vx XV hb
  replace X5 := ix X5 hb
  replace X6 := ix X6 hb
  replace HT5l := wl HT5l hb
  replace HU5l := wl HU5l hb
  replace HT5h := wl HT5h hb
  replace HU5h := wl HU5h hb
  replace HT6l := wl HT6l hb
  replace HU6l := wl HU6l hb
  replace HT6h := wl HT6h hb
  replace HU6h := wl HU6h hb
  replace B := bb B hb
  clear cc21a cc21b cc22a cc22b cc22c cc22d cc22e cc22f cc22g cc22h cc23a cc23b cc23c cc23d cc23e cc23f cc23g cc23h
  clear hb 
  have hb26 := (Below.refl _ _).alloc (Nat.le_refl w25.heap.size) (.cells #[.bool false, .slice none 0 0, .bool false, .slice none 0 0, .bool false, .slice none 0 0, .bool false, .slice none 0 0] 42)
  have hx27 := Ibx.new w25 false none 0 0 false none 0 0 false none 0 0 false none 0 0
  have L1 := hid XV.out.lt
  replace XV := vx XV hb26
  replace HT5l := wl HT5l hb26
  replace HU5l := wl HU5l hb26
  replace HT5h := wl HT5h hb26
  replace HU5h := wl HU5h hb26
  replace HT6l := wl HT6l hb26
  replace HU6l := wl HU6l hb26
  replace HT6h := wl HT6h hb26
  replace HU6h := wl HU6h hb26
  replace B := bb B hb26
  have X7 := hid hx27
  have hs28 : (w25.alloc (.cells #[.bool false, .slice none 0 0, .bool false, .slice none 0 0, .bool false, .slice none 0 0, .bool false, .slice none 0 0] 42)).heap.size = w25.heap.size + 1 := by simp
  clear hb26 hx27
  obtain ⟨cc29a, cc29b⟩ := XV.out.both
  obtain ⟨cc30a, cc30b, cc30c, cc30d, cc30e, cc30f, cc30g, cc30h⟩ := X7.out.cells
  obtain ⟨cc31a, cc31b, cc31c, cc31d⟩ := XV.out.stores
  obtain ⟨r32a, r32b, r32c⟩ := XV.out.last B.out (by have := L0.out; have := L1.out; omega) ⟨#[]⟩ ⟨#[]⟩
  replace X7 := hid ((X7.out.other (g2 := w.heap.size + 1 + 1) (by have := L0.out; have := L1.out; omega) 0 (.string ⟨#[]⟩)).other (g2 := w.heap.size + 1 + 1) (by have := L0.out; have := L1.out; omega) 1 (.string ⟨#[]⟩))
  replace HT5l := hid (r32c HT5l.out)
  replace HU5l := hid (r32c HU5l.out)
  replace HT5h := hid (r32c HT5h.out)
  replace HU5h := hid (r32c HU5h.out)
  replace HT6l := hid (r32c HT6l.out)
  replace HU6l := hid (r32c HU6l.out)
  replace HT6h := hid (r32c HT6h.out)
  replace HU6h := hid (r32c HU6h.out)
  replace XV := hid r32a
  replace B := hid r32b
  clear r32a r32b r32c
  obtain ⟨cc33a, cc33b⟩ := XV.out.both
  obtain ⟨cc34a, cc34b, cc34c, cc34d, cc34e, cc34f, cc34g, cc34h⟩ := X7.out.cells
  go_wp2_with fail
  refine bodyPost_ret (res_ival_tmp rfl rfl rfl XV.out) rfl ?_
  exact ⟨rfl, B.out⟩

set_option maxHeartbeats 4000000 in
theorem idiv_good {a b c d : ByteArray} (h1 : GoodI a b) (h2 : GoodI c d) (h0 : ¬ (qnum c ≤ 0 ∧ 0 ≤ qnum d)) (w : World) :
    Calls Try.prog 13 #[.agg #[.string a, .string b], .agg #[.string c, .string d]] w fun e w' => e = .returned (.tuple #[.agg #[.string (qtxt (lo4 ((qnum a) / (qnum c)) ((qnum a) / (qnum d)) ((qnum b) / (qnum c)) ((qnum b) / (qnum d)))), .string (qtxt (hi4 ((qnum a) / (qnum c)) ((qnum a) / (qnum d)) ((qnum b) / (qnum c)) ((qnum b) / (qnum d))))], .nilIface]) ∧ Below w.heap.size w w' := by
  have hne := errv_neq
  have hgd := errv_guard
  have H1 := hid (fun w => iboth_3 h1 h2 w)
  have H0 := hid h0
  have HRS := hid h2.2.2
  have B := hid (Below.refl w.heap.size w)
  have hb1 := (Below.refl _ _).alloc (Nat.le_refl w.heap.size) (.cells #[.string a, .string b] 23)
  have hx2 := Vbx.new w a b
  replace B := bb B hb1
  have X1 := hid hx2
  have hs3 : (w.alloc (.cells #[.string a, .string b] 23)).heap.size = w.heap.size + 1 := by simp
  clear hb1 hx2
  have hb4 := (Below.refl _ _).alloc (Nat.le_refl (w.alloc (.cells #[.string a, .string b] 23)).heap.size) (.cells #[.string c, .string d] 23)
  have hx5 := Vbx.new (w.alloc (.cells #[.string a, .string b] 23)) c d
  rw [hs3] at hx5
  replace X1 := vx X1 hb4
  replace B := bb B hb4
  have X2 := hid hx5
  have hs6 : ((w.alloc (.cells #[.string a, .string b] 23)).alloc (.cells #[.string c, .string d] 23)).heap.size = w.heap.size + 1 + 1 := by simp [hs3]
  clear hb4 hx5
  have hb7 := (Below.refl _ _).alloc (Nat.le_refl ((w.alloc (.cells #[.string a, .string b] 23)).alloc (.cells #[.string c, .string d] 23)).heap.size) (.cells #[.string ⟨#[]⟩, .string ⟨#[]⟩] 23)
  have hx8 := Vbx.new ((w.alloc (.cells #[.string a, .string b] 23)).alloc (.cells #[.string c, .string d] 23)) ⟨#[]⟩ ⟨#[]⟩
  rw [hs6] at hx8
  replace X1 := vx X1 hb7
  replace X2 := vx X2 hb7
  replace B := bb B hb7
  have XV := hid hx8
  have hs9 : (((w.alloc (.cells #[.string a, .string b] 23)).alloc (.cells #[.string c, .string d] 23)).alloc (.cells #[.string ⟨#[]⟩, .string ⟨#[]⟩] 23)).heap.size = w.heap.size + 1 + 1 + 1 := by simp [hs6]
  clear hb7 hx8
  clear hs9 h1 h2 h0
  go_enter Try.func13, Try.ntmps13
  obtain ⟨cc10a, cc10b⟩ := X1.out.both
  obtain ⟨cc11a, cc11b⟩ := X2.out.both
  obtain ⟨cc12a, cc12b⟩ := XV.out.both
  go_wp2_with fail
  generalize hW : ((w.alloc (.cells #[.string a, .string b] 23)).alloc (.cells #[.string c, .string d] 23)).alloc (.cells #[.string ⟨#[]⟩, .string ⟨#[]⟩] 23) = W13 at *
  clear hW
  refine (H1.out _).mono ?_
  rintro e w14 ⟨v, u, rfl, hv, hu, hb⟩
  obtain ⟨s5a, p5a, n5a, c5a, s5b, p5b, n5b, c5b, s5c, p5c, n5c, c5c, s5d, p5d, n5d, c5d, rfl⟩ := hv.opened
  obtain ⟨hl5, hh5⟩ := hv.two
  obtain ⟨ht5l, d5l, hu5l, hd5l⟩ := hl5.two
  have HD5l := hid hd5l
  obtain ⟨ht5h, d5h, hu5h, hd5h⟩ := hh5.two
  have HD5h := hid hd5h
  obtain ⟨s6a, p6a, n6a, c6a, s6b, p6b, n6b, c6b, s6c, p6c, n6c, c6c, s6d, p6d, n6d, c6d, rfl⟩ := hu.opened
  obtain ⟨hl6, hh6⟩ := hu.two
  obtain ⟨ht6l, d6l, hu6l, hd6l⟩ := hl6.two
  have HD6l := hid hd6l
  obtain ⟨ht6h, d6h, hu6h, hd6h⟩ := hh6.two
  have HD6h := hid hd6h
  replace XV := vx XV hb
  replace B := bb B hb
  clear cc10a cc10b cc11a cc11b cc12a cc12b
  have HT5l := hid ht5l
  have HU5l := hid hu5l
  have HT5h := hid ht5h
  have HU5h := hid hu5h
  have HT6l := hid ht6l
  have HU6l := hid hu6l
  have HT6h := hid ht6h
  have HU6h := hid hu6h
  clear hb hv hl5 hh5 ht5l hu5l hd5l ht5h hu5h hd5h hu hl6 hh6 ht6l hu6l hd6l ht6h hu6h hd6h H1
  have hb15 := (Below.refl _ _).alloc (Nat.le_refl w14.heap.size) (.cells #[.bool s5a, .slice p5a n5a c5a, .bool s5b, .slice p5b n5b c5b, .bool s5c, .slice p5c n5c c5c, .bool s5d, .slice p5d n5d c5d] 42)
  have hx16 := Ibx.new w14 s5a p5a n5a c5a s5b p5b n5b c5b s5c p5c n5c c5c s5d p5d n5d c5d
  have L0 := hid XV.out.lt
  replace XV := vx XV hb15
  replace HT5l := wl HT5l hb15
  replace HU5l := wl HU5l hb15
  replace HT5h := wl HT5h hb15
  replace HU5h := wl HU5h hb15
  replace HT6l := wl HT6l hb15
  replace HU6l := wl HU6l hb15
  replace HT6h := wl HT6h hb15
  replace HU6h := wl HU6h hb15
  replace B := bb B hb15
  have X5 := hid hx16
  have hs17 : (w14.alloc (.cells #[.bool s5a, .slice p5a n5a c5a, .bool s5b, .slice p5b n5b c5b, .bool s5c, .slice p5c n5c c5c, .bool s5d, .slice p5d n5d c5d] 42)).heap.size = w14.heap.size + 1 := by simp
  clear hb15 hx16
  have hb18 := (Below.refl _ _).alloc (Nat.le_refl (w14.alloc (.cells #[.bool s5a, .slice p5a n5a c5a, .bool s5b, .slice p5b n5b c5b, .bool s5c, .slice p5c n5c c5c, .bool s5d, .slice p5d n5d c5d] 42)).heap.size) (.cells #[.bool s6a, .slice p6a n6a c6a, .bool s6b, .slice p6b n6b c6b, .bool s6c, .slice p6c n6c c6c, .bool s6d, .slice p6d n6d c6d] 42)
  have hx19 := Ibx.new (w14.alloc (.cells #[.bool s5a, .slice p5a n5a c5a, .bool s5b, .slice p5b n5b c5b, .bool s5c, .slice p5c n5c c5c, .bool s5d, .slice p5d n5d c5d] 42)) s6a p6a n6a c6a s6b p6b n6b c6b s6c p6c n6c c6c s6d p6d n6d c6d
  rw [hs17] at hx19
  replace XV := vx XV hb18
  replace X5 := ix X5 hb18
  replace HT5l := wl HT5l hb18
  replace HU5l := wl HU5l hb18
  replace HT5h := wl HT5h hb18
  replace HU5h := wl HU5h hb18
  replace HT6l := wl HT6l hb18
  replace HU6l := wl HU6l hb18
  replace HT6h := wl HT6h hb18
  replace HU6h := wl HU6h hb18
  replace B := bb B hb18
  have X6 := hid hx19
  have hs20 : ((w14.alloc (.cells #[.bool s5a, .slice p5a n5a c5a, .bool s5b, .slice p5b n5b c5b, .bool s5c, .slice p5c n5c c5c, .bool s5d, .slice p5d n5d c5d] 42)).alloc (.cells #[.bool s6a, .slice p6a n6a c6a, .bool s6b, .slice p6b n6b c6b, .bool s6c, .slice p6c n6c c6c, .bool s6d, .slice p6d n6d c6d] 42)).heap.size = w14.heap.size + 1 + 1 := by simp [hs17]
  clear hb18 hx19
  obtain ⟨cc21a, cc21b⟩ := XV.out.both
  obtain ⟨cc22a, cc22b, cc22c, cc22d, cc22e, cc22f, cc22g, cc22h⟩ := X5.out.cells
  obtain ⟨cc23a, cc23b, cc23c, cc23d, cc23e, cc23f, cc23g, cc23h⟩ := X6.out.cells
  go_wp2_with fail
  generalize hW : (w14.alloc (.cells #[.bool s5a, .slice p5a n5a c5a, .bool s5b, .slice p5b n5b c5b, .bool s5c, .slice p5c n5c c5c, .bool s5d, .slice p5d n5d c5d] 42)).alloc (.cells #[.bool s6a, .slice p6a n6a c6a, .bool s6b, .slice p6b n6b c6b, .bool s6c, .slice p6c n6c c6c, .bool s6d, .slice p6d n6d c6d] 42) = W24 at *
  clear hW
  refine (quo_ivl (Ivl.mk2 (Rtl.mk2 HT5l.out HU5l.out HD5l.out) (Rtl.mk2 HT5h.out HU5h.out HD5h.out)) (Ivl.mk2 (Rtl.mk2 HT6l.out HU6l.out HD6l.out) (Rtl.mk2 HT6h.out HU6h.out HD6h.out)) (by decide) (by decide) HRS.out H0.out).mono ?_
  rintro e w25 ⟨v, rfl, hv, hb⟩
  obtain ⟨s7a, p7a, n7a, c7a, s7b, p7b, n7b, c7b, s7c, p7c, n7c, c7c, s7d, p7d, n7d, c7d, rfl⟩ := hv.opened
  obtain ⟨hl7, hh7⟩ := hv.two
  obtain ⟨ht7l, d7l, hu7l, hd7l⟩ := hl7.two
  have HD7l := hid hd7l
  obtain ⟨ht7h, d7h, hu7h, hd7h⟩ := hh7.two
  have HD7h := hid hd7h
  replace XV := vx XV hb
  replace X5 := ix X5 hb
  replace X6 := ix X6 hb
  replace HT5l := wl HT5l hb
  replace HU5l := wl HU5l hb
  replace HT5h := wl HT5h hb
  replace HU5h := wl HU5h hb
  replace HT6l := wl HT6l hb
  replace HU6l := wl HU6l hb
  replace HT6h := wl HT6h hb
  replace HU6h := wl HU6h hb
  replace B := bb B hb
  clear cc21a cc21b cc22a cc22b cc22c cc22d cc22e cc22f cc22g cc22h cc23a cc23b cc23c cc23d cc23e cc23f cc23g cc23h
  have HT7l := hid ht7l
  have HU7l := hid hu7l
  have HT7h := hid ht7h
  have HU7h := hid hu7h
  clear hb hv hl7 hh7 ht7l hu7l hd7l ht7h hu7h hd7h
  have hb26 := (Below.refl _ _).alloc (Nat.le_refl w25.heap.size) (.cells #[.bool s7a, .slice p7a n7a c7a, .bool s7b, .slice p7b n7b c7b, .bool s7c, .slice p7c n7c c7c, .bool s7d, .slice p7d n7d c7d] 42)
  have hx27 := Ibx.new w25 s7a p7a n7a c7a s7b p7b n7b c7b s7c p7c n7c c7c s7d p7d n7d c7d
  have L1 := hid XV.out.lt
  replace XV := vx XV hb26
  replace HT5l := wl HT5l hb26
  replace HU5l := wl HU5l hb26
  replace HT5h := wl HT5h hb26
  replace HU5h := wl HU5h hb26
  replace HT6l := wl HT6l hb26
  replace HU6l := wl HU6l hb26
  replace HT6h := wl HT6h hb26
  replace HU6h := wl HU6h hb26
  replace HT7l := wl HT7l hb26
  replace HU7l := wl HU7l hb26
  replace HT7h := wl HT7h hb26
  replace HU7h := wl HU7h hb26
  replace B := bb B hb26
  have X7 := hid hx27
  have hs28 : (w25.alloc (.cells #[.bool s7a, .slice p7a n7a c7a, .bool s7b, .slice p7b n7b c7b, .bool s7c, .slice p7c n7c c7c, .bool s7d, .slice p7d n7d c7d] 42)).heap.size = w25.heap.size + 1 := by simp
  clear hb26 hx27
  obtain ⟨cc29a, cc29b⟩ := XV.out.both
  obtain ⟨cc30a, cc30b, cc30c, cc30d, cc30e, cc30f, cc30g, cc30h⟩ := X7.out.cells
  go_wp2_with fail
  generalize hW : w25.alloc (.cells #[.bool s7a, .slice p7a n7a c7a, .bool s7b, .slice p7b n7b c7b, .bool s7c, .slice p7c n7c c7c, .bool s7d, .slice p7d n7d c7d] 42) = W31 at *
  clear hW
  refine (texts_ivl (Ivl.mk2 (Rtl.mk2 HT7l.out HU7l.out HD7l.out) (Rtl.mk2 HT7h.out HU7h.out HD7h.out)) (by decide)).mono ?_
  rintro e w32 ⟨rfl, hb⟩
  replace XV := vx XV hb
  replace X7 := ix X7 hb
  replace HT5l := wl HT5l hb
  replace HU5l := wl HU5l hb
  replace HT5h := wl HT5h hb
  replace HU5h := wl HU5h hb
  replace HT6l := wl HT6l hb
  replace HU6l := wl HU6l hb
  replace HT6h := wl HT6h hb
  replace HU6h := wl HU6h hb
  replace HT7l := wl HT7l hb
  replace HU7l := wl HU7l hb
  replace HT7h := wl HT7h hb
  replace HU7h := wl HU7h hb
  replace B := bb B hb
  clear cc29a cc29b cc30a cc30b cc30c cc30d cc30e cc30f cc30g cc30h
  clear hb 
  obtain ⟨cc33a, cc33b⟩ := XV.out.both
  obtain ⟨cc34a, cc34b, cc34c, cc34d⟩ := XV.out.stores
  obtain ⟨r35a, r35b, r35c⟩ := XV.out.last B.out (by have := L0.out; have := L1.out; omega) (qtxt (lo4 ((qnum a) / (qnum c)) ((qnum a) / (qnum d)) ((qnum b) / (qnum c)) ((qnum b) / (qnum d)))) (qtxt (hi4 ((qnum a) / (qnum c)) ((qnum a) / (qnum d)) ((qnum b) / (qnum c)) ((qnum b) / (qnum d))))
  replace HT5l := hid (r35c HT5l.out)
  replace HU5l := hid (r35c HU5l.out)
  replace HT5h := hid (r35c HT5h.out)
  replace HU5h := hid (r35c HU5h.out)
  replace HT6l := hid (r35c HT6l.out)
  replace HU6l := hid (r35c HU6l.out)
  replace HT6h := hid (r35c HT6h.out)
  replace HU6h := hid (r35c HU6h.out)
  replace HT7l := hid (r35c HT7l.out)
  replace HU7l := hid (r35c HU7l.out)
  replace HT7h := hid (r35c HT7h.out)
  replace HU7h := hid (r35c HU7h.out)
  replace XV := hid r35a
  replace B := hid r35b
  clear r35a r35b r35c
  obtain ⟨cc36a, cc36b⟩ := XV.out.both
  go_wp2_with fail
  refine bodyPost_ret (res_ival_tmp rfl rfl rfl XV.out) rfl ?_
  exact ⟨rfl, B.out⟩

end Go.Proofs.Ytkdeopikojgboaa

/-
  PACKAGE ival: Div at whatever texts.
-/
namespace Go.Proofs.Ytkdeopikojgboaa
open Go.RowKit
open Num
set_option linter.unusedVariables false
set_option maxRecDepth 100000
set_option linter.unusedSimpArgs false

-- @needs{abacist/ival.Div}@
theorem idiv_any (a b c d : ByteArray) (ha : a.size ≤ maxLen) (hb0 : b.size ≤ maxLen) (hc0 : c.size ≤ maxLen) (hd0 : d.size ≤ maxLen) (w : World) :
    Calls Try.prog 13 #[.agg #[.string a, .string b], .agg #[.string c, .string d]] w fun e w' => ∃ x y k, e = .returned (.tuple #[.agg #[.string x, .string y], errv k]) ∧ IDivs a b c d x y k ∧ x.size ≤ maxLen ∧ y.size ≤ maxLen ∧ Below w.heap.size w w' := by
  rcases rightI_or_wrong a b c d with ⟨h1, h2⟩ | ⟨k, h⟩
  · by_cases h0 : qnum c ≤ 0 ∧ 0 ≤ qnum d
    · refine (idiv_zero h1 h2 h0 w).mono ?_
      rintro e w' ⟨rfl, hb⟩
      exact ⟨_, _, 5, by rw [errv_some (by decide)], .inr (by decide), Nat.zero_le _, Nat.zero_le _, hb⟩
    · refine (idiv_good h1 h2 h0 w).mono ?_
      rintro e w' ⟨rfl, hb⟩
      exact ⟨_, _, 0, rfl, .inl ⟨rfl, h1, h2, h0, qnum_qtxt _, qnum_qtxt _⟩, size_or (lo4_or _ _ _ _) (size_div h1.1 h2.1) (size_div h1.1 h2.2.1) (size_div h1.2.1 h2.1) (size_div h1.2.1 h2.2.1), size_or (hi4_or _ _ _ _) (size_div h1.1 h2.1) (size_div h1.1 h2.2.1) (size_div h1.2.1 h2.1) (size_div h1.2.1 h2.2.1), hb⟩
  · refine (idiv_bad h ha hb0 hc0 hd0 w).mono ?_
    rintro e w' ⟨rfl, hb⟩
    exact ⟨_, _, k, by rw [errv_some h.ne], .inr h.ne, Nat.zero_le _, Nat.zero_le _, hb⟩

end Go.Proofs.Ytkdeopikojgboaa

/-
  THE LAW IvalHas's WALK.
-/
namespace Go.Proofs.Ytkdeopikojgboaa
open Go.RowKit
open Num
set_option linter.unusedVariables false
set_option maxRecDepth 100000
set_option linter.unusedSimpArgs false

theorem in_true {t : Bool} (h : ((0 : Int) = 0 ∧ t = true) ∨ (((0 : Int) != 0) = true)) : t = true := by
  rcases h with ⟨_, h⟩ | h
  · exact h
  · simp at h
theorem good_or {p : Rat} {a b c d : ByteArray} (h : p = qnum a ∨ p = qnum b ∨ p = qnum c ∨ p = qnum d) (ha : GoodQ a) (hb : GoodQ b) (hc : GoodQ c) (hd : GoodQ d) : GoodQ (qtxt p) := by
  rcases h with e | e | e | e <;> rw [e, qtxt_good (by assumption)] <;> assumption
theorem hull_good {a b c d x y : ByteArray} (t : ITells hullF a b c d x y 0) : GoodI x y := by
  rcases t with ⟨_, h1, h2, h3, h4⟩ | ⟨h, _⟩
  · simp only [hullF] at h3 h4
    have hl := good_or (lo4_or (qnum a) (qnum b) (qnum c) (qnum d)) h1.1 h1.2.1 h2.1 h2.2.1
    have hh := good_or (hi4_or (qnum a) (qnum b) (qnum c) (qnum d)) h1.1 h1.2.1 h2.1 h2.2.1
    rw [← h3] at hl
    rw [← h4] at hh
    exact ⟨hl, hh, by rw [h3, h4, qnum_qtxt, qnum_qtxt]; exact lo_le_hi _ _ _ _⟩
  · exact absurd rfl h

/-- IvalHas: what is together, times, and in the hull. -/
theorem has_both {al ah bl bh x y s m il ih ml mh hl hh : ByteArray} (t1 : IHas al ah x true 0) (t2 : IHas bl bh y true 0) (t3 : QTells (· + ·) x y s 0) (t4 : QTells (· * ·) x y m 0) (t5 : ITells addF al ah bl bh il ih 0) (t6 : ITells mulF al ah bl bh ml mh 0) (t7 : ITells hullF al ah bl bh hl hh 0) :
    (qnum il ≤ qnum s ∧ qnum s ≤ qnum ih) ∧ (qnum ml ≤ qnum m ∧ qnum m ≤ qnum mh) ∧ (qnum hl ≤ qnum x ∧ qnum x ≤ qnum hh) ∧ GoodI hl hh := by
  obtain ⟨_, _, a1, a2⟩ := t1.yes rfl rfl
  obtain ⟨_, _, b1, b2⟩ := t2.yes rfl rfl
  have hs := (t3.yes rfl).2.2
  have hm := (t4.yes rfl).2.2
  have hg := hull_good t7
  obtain ⟨g1, g2, e1, e2⟩ := t5.yes rfl
  obtain ⟨_, _, e3, e4⟩ := t6.yes rfl
  obtain ⟨_, _, e5, e6⟩ := t7.yes rfl
  simp only [addF, mulF, hullF] at e1 e2 e3 e4 e5 e6
  have c1 := g1.2.2
  have c2 := g2.2.2
  rw [mn_first (by grind)] at e1
  rw [mx_second (by grind)] at e2
  have hi := mul_in a1 a2 b1 b2
  have hL := lo4_le (qnum al) (qnum ah) (qnum bl) (qnum bh)
  have hH := le_hi4 (qnum al) (qnum ah) (qnum bl) (qnum bh)
  rw [← e3, ← e4] at hi
  rw [← e5] at hL
  rw [← e6] at hH
  have ns : qnum s = qnum x + qnum y := by rw [hs, qnum_qtxt]
  have nm : qnum m = qnum x * qnum y := by rw [hm, qnum_qtxt]
  refine ⟨⟨by grind, by grind⟩, ⟨by grind, by grind⟩, ⟨by grind, by grind⟩, hg⟩

/-- IvalHas: what is divided. -/
theorem has_quot {al ah bl bh x y n dl dh : ByteArray} {k : Int} (t1 : IHas al ah x true 0) (t2 : IHas bl bh y true 0) (t3 : IDivs al ah bl bh dl dh 0) (t4 : QDivs x y n k) : k = 0 ∧ qnum dl ≤ qnum n ∧ qnum n ≤ qnum dh := by
  obtain ⟨_, gx, a1, a2⟩ := t1.yes rfl rfl
  obtain ⟨_, gy, b1, b2⟩ := t2.yes rfl rfl
  rcases t3 with ⟨_, g1, g2, h0, e1, e2⟩ | h
  · have hy : qnum y ≠ 0 := by grind
    have hk := t4.zero gx gy hy
    have hn := (t4.yes hk).2.2.2
    have nn : qnum n = qnum x / qnum y := by rw [hn, qnum_qtxt]
    simp only [divF] at e1 e2
    have hi := div_in a1 a2 b1 b2 (by grind)
    rw [← e1, ← e2, ← nn] at hi
    exact ⟨hk, hi⟩
  · exact absurd rfl h
theorem ihas_cases {a b x : ByteArray} {t : Bool} {k : Int} (h : IHas a b x t k) : (k = 0 ∧ t = true) ∨ ((k != 0) = true) ∨ (k = 0 ∧ t = false) := by
  by_cases hk : k = 0
  · cases t
    · exact .inr (.inr ⟨hk, rfl⟩)
    · exact .inl ⟨hk, rfl⟩
  · exact .inr (.inl (by simpa using hk))

set_option maxHeartbeats 16000000 in
theorem ihas_walk (al ah bl bh x y : ByteArray) (hal : al.size ≤ maxLen) (hah : ah.size ≤ maxLen) (hbl : bl.size ≤ maxLen) (hbh : bh.size ≤ maxLen) (hx : x.size ≤ maxLen) (hy : y.size ≤ maxLen) (w : World) :
    Calls Try.prog 3 #[.agg #[.string al, .string ah], .agg #[.string bl, .string bh], .string x, .string y] w fun e w' => e = .returned (.bool true) ∧ Below w.heap.size w w' := by
  have hne := errv_neq
  have heq := errv_eql
  have hgd := errv_guard
  have B := hid (Below.refl w.heap.size w)
  have hb1 := (Below.refl _ _).alloc (Nat.le_refl w.heap.size) (.cells #[.string al, .string ah] 23)
  have hx2 := Vbx.new w al ah
  replace B := bb B hb1
  have Xa := hid hx2
  have hs3 : (w.alloc (.cells #[.string al, .string ah] 23)).heap.size = w.heap.size + 1 := by simp
  clear hb1 hx2
  have hb4 := (Below.refl _ _).alloc (Nat.le_refl (w.alloc (.cells #[.string al, .string ah] 23)).heap.size) (.cells #[.string bl, .string bh] 23)
  have hx5 := Vbx.new (w.alloc (.cells #[.string al, .string ah] 23)) bl bh
  rw [hs3] at hx5
  replace Xa := vx Xa hb4
  replace B := bb B hb4
  have Xb := hid hx5
  have hs6 : ((w.alloc (.cells #[.string al, .string ah] 23)).alloc (.cells #[.string bl, .string bh] 23)).heap.size = w.heap.size + 1 + 1 := by simp [hs3]
  clear hb4 hx5
  clear hs6 
  go_enter Try.func3, Try.ntmps3
  obtain ⟨cc7a, cc7b⟩ := Xa.out.both
  obtain ⟨cc8a, cc8b⟩ := Xb.out.both
  go_wp2_with fail
  generalize hW : (w.alloc (.cells #[.string al, .string ah] 23)).alloc (.cells #[.string bl, .string bh] 23) = W9 at *
  clear hW
  refine (spanned_true W9).mono ?_
  rintro e w10 ⟨rfl, hb⟩
  replace Xa := vx Xa hb
  replace Xb := vx Xb hb
  replace B := bb B hb
  clear cc7a cc7b cc8a cc8b
  clear hb 
  obtain ⟨cc11a, cc11b⟩ := Xa.out.both
  obtain ⟨cc12a, cc12b⟩ := Xb.out.both
  go_wp2_with fail
  refine (ihas_any al ah x hal hah hx w10).mono ?_
  rintro e w13 ⟨p, k1, rfl, t1, hb⟩
  have T1 := hid t1
  replace Xa := vx Xa hb
  replace Xb := vx Xb hb
  replace B := bb B hb
  clear cc11a cc11b cc12a cc12b
  clear hb t1
  obtain ⟨cc14a, cc14b⟩ := Xa.out.both
  obtain ⟨cc15a, cc15b⟩ := Xb.out.both
  go_wp2_with fail
  refine (ihas_any bl bh y hbl hbh hy w13).mono ?_
  rintro e w16 ⟨q, k2, rfl, t2, hb⟩
  have T2 := hid t2
  replace Xa := vx Xa hb
  replace Xb := vx Xb hb
  replace B := bb B hb
  clear cc14a cc14b cc15a cc15b
  clear hb t2
  obtain ⟨cc17a, cc17b⟩ := Xa.out.both
  obtain ⟨cc18a, cc18b⟩ := Xb.out.both
  have C1 := ihas_cases T1.out
  have C2 := ihas_cases T2.out
  have C : (k1 = 0 ∧ p = true ∧ k2 = 0 ∧ q = true) ∨ ((k1 != 0) = true) ∨ (k1 = 0 ∧ (k2 != 0) = true) ∨ (k1 = 0 ∧ k2 = 0 ∧ p = false) ∨ (k1 = 0 ∧ k2 = 0 ∧ p = true ∧ q = false) := by
    rcases C1 with ⟨h1, h2⟩ | h1 | ⟨h1, h2⟩ <;> rcases C2 with ⟨h3, h4⟩ | h3 | ⟨h3, h4⟩ <;> simp_all
  clear C1 C2
  rcases C with ⟨rfl, rfl, rfl, rfl⟩ | c | ⟨rfl, c⟩ | ⟨rfl, rfl, rfl⟩ | ⟨rfl, rfl, rfl, rfl⟩
  · have GA := hid (T1.out.yes rfl rfl).1
    have GX := hid (T1.out.yes rfl rfl).2.1
    have GB := hid (T2.out.yes rfl rfl).1
    have GY := hid (T2.out.yes rfl rfl).2.1
    go_wp2_with fail
    refine (qadd_any x y hx hy w16).mono ?_
    rintro e w19 ⟨s, k3, rfl, t3, z3, hb⟩
    have T3 := hid t3
    replace Xa := vx Xa hb
    replace Xb := vx Xb hb
    replace B := bb B hb
    clear cc17a cc17b cc18a cc18b
    clear hb t3
    obtain ⟨cc20a, cc20b⟩ := Xa.out.both
    obtain ⟨cc21a, cc21b⟩ := Xb.out.both
    go_wp2_with fail
    have e3 : k3 = 0 := T3.out.zero GX.out GY.out
    subst e3
    refine (qmul_any x y hx hy w19).mono ?_
    rintro e w22 ⟨m, k4, rfl, t4, z4, hb⟩
    have T4 := hid t4
    replace Xa := vx Xa hb
    replace Xb := vx Xb hb
    replace B := bb B hb
    clear cc20a cc20b cc21a cc21b
    clear hb t4
    obtain ⟨cc23a, cc23b⟩ := Xa.out.both
    obtain ⟨cc24a, cc24b⟩ := Xb.out.both
    go_wp2_with fail
    have e4 : k4 = 0 := T4.out.zero GX.out GY.out
    subst e4
    refine (iadd_any al ah bl bh hal hah hbl hbh w22).mono ?_
    rintro e w25 ⟨il, ih, k5, rfl, t5, zl5, zh5, hb⟩
    have T5 := hid t5
    replace Xa := vx Xa hb
    replace Xb := vx Xb hb
    replace B := bb B hb
    clear cc23a cc23b cc24a cc24b
    clear hb t5
    have hb26 := (Below.refl _ _).alloc (Nat.le_refl w25.heap.size) (.cells #[.string il, .string ih] 23)
    have hx27 := Vbx.new w25 il ih
    have L0 := hid Xb.out.lt
    replace Xa := vx Xa hb26
    replace Xb := vx Xb hb26
    replace B := bb B hb26
    have Xi := hid hx27
    have hs28 : (w25.alloc (.cells #[.string il, .string ih] 23)).heap.size = w25.heap.size + 1 := by simp
    clear hb26 hx27
    obtain ⟨cc29a, cc29b⟩ := Xa.out.both
    obtain ⟨cc30a, cc30b⟩ := Xb.out.both
    obtain ⟨cc31a, cc31b⟩ := Xi.out.both
    have e5 : k5 = 0 := T5.out.zero GA.out GB.out
    subst e5
    go_wp2_with fail
    generalize hW : w25.alloc (.cells #[.string il, .string ih] 23) = W32 at *
    clear hW
    refine (imul_any al ah bl bh hal hah hbl hbh W32).mono ?_
    rintro e w33 ⟨kl, kh, k6, rfl, t6, zl6, zh6, hb⟩
    have T6 := hid t6
    replace Xa := vx Xa hb
    replace Xb := vx Xb hb
    replace Xi := vx Xi hb
    replace B := bb B hb
    clear cc29a cc29b cc30a cc30b cc31a cc31b
    clear hb t6
    have hb34 := (Below.refl _ _).alloc (Nat.le_refl w33.heap.size) (.cells #[.string kl, .string kh] 23)
    have hx35 := Vbx.new w33 kl kh
    have L1 := hid Xi.out.lt
    replace Xa := vx Xa hb34
    replace Xb := vx Xb hb34
    replace Xi := vx Xi hb34
    replace B := bb B hb34
    have Xk := hid hx35
    have hs36 : (w33.alloc (.cells #[.string kl, .string kh] 23)).heap.size = w33.heap.size + 1 := by simp
    clear hb34 hx35
    obtain ⟨cc37a, cc37b⟩ := Xa.out.both
    obtain ⟨cc38a, cc38b⟩ := Xb.out.both
    obtain ⟨cc39a, cc39b⟩ := Xi.out.both
    obtain ⟨cc40a, cc40b⟩ := Xk.out.both
    have e6 : k6 = 0 := T6.out.zero GA.out GB.out
    subst e6
    go_wp2_with fail
    generalize hW : w33.alloc (.cells #[.string kl, .string kh] 23) = W41 at *
    clear hW
    refine (ihull_any al ah bl bh hal hah hbl hbh W41).mono ?_
    rintro e w42 ⟨hl, hh, k7, rfl, t7, zl7, zh7, hb⟩
    have T7 := hid t7
    replace Xa := vx Xa hb
    replace Xb := vx Xb hb
    replace Xi := vx Xi hb
    replace Xk := vx Xk hb
    replace B := bb B hb
    clear cc37a cc37b cc38a cc38b cc39a cc39b cc40a cc40b
    clear hb t7
    have hb43 := (Below.refl _ _).alloc (Nat.le_refl w42.heap.size) (.cells #[.string hl, .string hh] 23)
    have hx44 := Vbx.new w42 hl hh
    have L2 := hid Xk.out.lt
    replace Xa := vx Xa hb43
    replace Xb := vx Xb hb43
    replace Xi := vx Xi hb43
    replace Xk := vx Xk hb43
    replace B := bb B hb43
    have Xh := hid hx44
    have hs45 : (w42.alloc (.cells #[.string hl, .string hh] 23)).heap.size = w42.heap.size + 1 := by simp
    clear hb43 hx44
    obtain ⟨cc46a, cc46b⟩ := Xa.out.both
    obtain ⟨cc47a, cc47b⟩ := Xb.out.both
    obtain ⟨cc48a, cc48b⟩ := Xi.out.both
    obtain ⟨cc49a, cc49b⟩ := Xk.out.both
    obtain ⟨cc50a, cc50b⟩ := Xh.out.both
    have e7 : k7 = 0 := T7.out.zero GA.out GB.out
    subst e7
    go_wp2_with fail
    generalize hW : w42.alloc (.cells #[.string hl, .string hh] 23) = W51 at *
    clear hW
    have HF := hid (has_both T1.out T2.out T3.out T4.out T5.out T6.out T7.out)
    refine (ihas_any il ih s zl5 zh5 z3 W51).mono ?_
    rintro e w52 ⟨u, k8, rfl, t8, hb⟩
    have T8 := hid t8
    replace Xa := vx Xa hb
    replace Xb := vx Xb hb
    replace Xi := vx Xi hb
    replace Xk := vx Xk hb
    replace Xh := vx Xh hb
    replace B := bb B hb
    clear cc46a cc46b cc47a cc47b cc48a cc48b cc49a cc49b cc50a cc50b
    clear hb t8
    obtain ⟨cc53a, cc53b⟩ := Xa.out.both
    obtain ⟨cc54a, cc54b⟩ := Xb.out.both
    obtain ⟨cc55a, cc55b⟩ := Xi.out.both
    obtain ⟨cc56a, cc56b⟩ := Xk.out.both
    obtain ⟨cc57a, cc57b⟩ := Xh.out.both
    go_wp2_with fail
    have C8 := T8.out.inside HF.out.1.1 HF.out.1.2
    refine (ihas_any kl kh m zl6 zh6 z4 w52).mono ?_
    rintro e w58 ⟨v, k9, rfl, t9, hb⟩
    have T9 := hid t9
    replace Xa := vx Xa hb
    replace Xb := vx Xb hb
    replace Xk := vx Xk hb
    replace Xh := vx Xh hb
    replace B := bb B hb
    clear cc53a cc53b cc54a cc54b cc55a cc55b cc56a cc56b cc57a cc57b
    clear hb t9
    obtain ⟨cc59a, cc59b⟩ := Xa.out.both
    obtain ⟨cc60a, cc60b⟩ := Xb.out.both
    obtain ⟨cc61a, cc61b⟩ := Xk.out.both
    obtain ⟨cc62a, cc62b⟩ := Xh.out.both
    go_wp2_with fail
    have C9 := T9.out.inside HF.out.2.1.1 HF.out.2.1.2
    refine (ihas_any hl hh x zl7 zh7 hx w58).mono ?_
    rintro e w63 ⟨t, k10, rfl, t10, hb⟩
    have T10 := hid t10
    replace Xa := vx Xa hb
    replace Xb := vx Xb hb
    replace Xh := vx Xh hb
    replace B := bb B hb
    clear cc59a cc59b cc60a cc60b cc61a cc61b cc62a cc62b
    clear hb t10
    obtain ⟨cc64a, cc64b⟩ := Xa.out.both
    obtain ⟨cc65a, cc65b⟩ := Xb.out.both
    obtain ⟨cc66a, cc66b⟩ := Xh.out.both
    have C10 := T10.out.inside HF.out.2.2.1.1 HF.out.2.2.1.2
    have e10 : k10 = 0 := T10.out.zero HF.out.2.2.2 GX.out
    subst e10
    obtain rfl := in_true C10
    clear C10 T3 T4 T5 T6 T7 T8 T9 T10 HF
    rcases C8 with ⟨rfl, rfl⟩ | c8 <;> rcases C9 with ⟨rfl, rfl⟩ | c9
    all_goals
      try (have d8 : (k8 == 0) = false := by simpa using c8)
      try (have d9 : (k9 == 0) = false := by simpa using c9)
      go_wp2_with fail
      refine (idiv_any al ah bl bh hal hah hbl hbh w63).mono ?_
      rintro e w67 ⟨dl, dh, k11, rfl, t11, zl11, zh11, hb⟩
      have T11 := hid t11
      replace Xa := vx Xa hb
      replace Xb := vx Xb hb
      replace B := bb B hb
      clear cc64a cc64b cc65a cc65b cc66a cc66b
      clear hb t11
      have hb68 := (Below.refl _ _).alloc (Nat.le_refl w67.heap.size) (.cells #[.string dl, .string dh] 23)
      have hx69 := Vbx.new w67 dl dh
      have L3 := hid Xb.out.lt
      replace Xa := vx Xa hb68
      replace Xb := vx Xb hb68
      replace B := bb B hb68
      have Xd := hid hx69
      have hs70 : (w67.alloc (.cells #[.string dl, .string dh] 23)).heap.size = w67.heap.size + 1 := by simp
      clear hb68 hx69
      obtain ⟨cc71a, cc71b⟩ := Xa.out.both
      obtain ⟨cc72a, cc72b⟩ := Xb.out.both
      obtain ⟨cc73a, cc73b⟩ := Xd.out.both
      go_wp2_with fail
      generalize hW : w67.alloc (.cells #[.string dl, .string dh] 23) = W74 at *
      clear hW
      refine (qdiv_any x y hx hy W74).mono ?_
      rintro e w75 ⟨n, k12, rfl, t12, z12, hb⟩
      have T12 := hid t12
      replace Xd := vx Xd hb
      replace B := bb B hb
      clear cc71a cc71b cc72a cc72b cc73a cc73b
      clear hb t12
      obtain ⟨cc76a, cc76b⟩ := Xd.out.both
      have C : k11 = 0 ∨ ((k11 != 0) = true) := by
        by_cases hk : k11 = 0
        · exact .inl hk
        · exact .inr (by simpa using hk)
      rcases C with rfl | c11
      · have HQ := hid (has_quot T1.out T2.out T11.out T12.out)
        obtain rfl := HQ.out.1
        go_wp2_with fail
        refine (ihas_any dl dh n zl11 zh11 z12 w75).mono ?_
        rintro e w77 ⟨z, k13, rfl, t13, hb⟩
        have T13 := hid t13
        replace Xd := vx Xd hb
        replace B := bb B hb
        clear cc76a cc76b
        clear hb t13
        obtain ⟨cc78a, cc78b⟩ := Xd.out.both
        have C13 := T13.out.inside HQ.out.2.1 HQ.out.2.2
        clear HQ T1 T2 T11 T12 T13 GA GB GX GY
        rcases C13 with ⟨rfl, rfl⟩ | cC13
        all_goals
          go_wp2_with fail
          go_ret
          exact ⟨rfl, B.out⟩
      · go_wp2_with fail
        go_ret
        exact ⟨rfl, B.out⟩
  · go_wp2_with fail
    go_ret
    exact ⟨rfl, B.out⟩
  · go_wp2_with fail
    go_ret
    exact ⟨rfl, B.out⟩
  · go_wp2_with fail
    go_ret
    exact ⟨rfl, B.out⟩
  · go_wp2_with fail
    go_ret
    exact ⟨rfl, B.out⟩

end Go.Proofs.Ytkdeopikojgboaa
