import Derived.Test.YteephnbfdblgeaaBunProofFareyBetween15
import Derived.Test.YteephnbfdblgeaaBunProofFareyBetween13
import Derived.Test.YteephnbfdblgeaaBunProofFareyBetween1
import Derived.Test.YteephnbfdblgeaaBunProofFareyBetween8
import Derived.Test.YteephnbfdblgeaaBunProofFareyBetween4
import Derived.Deep.LoopGhost
import Derived.Test.YteephnbfdblgeaaBunProofFareyBetween14
import Derived.SizedLaws
/-
  PACKAGE cf: collapse.
-/
namespace Go.Proofs.Yteephnbfdblgeaa
open Go.RowKit Go.Shelf
open Num
set_option linter.unusedVariables false
set_option maxRecDepth 100000
set_option linter.unusedSimpArgs false
attribute [local go_sem] Oper.semAt_some

/-- A turn of what is no cells changes no number. -/
theorem Lim.turned {w w' : World} {v : Value} {xs : List Nat} {row : Option Nat} (h : Lim w v xs) (hg : w.grownBy w' row) (hr : ∀ r, row = some r → ∃ o : Obj, w.heap[r]? = some o ∧ o.isCells = false) : Lim w' v xs := by
  obtain ⟨h1, p, c, h2, h3, h4, h5⟩ := h
  refine ⟨h1, p, c, h2, h3, h4, ?_⟩
  rcases h5 with h5 | ⟨b, off, h6, h7, h8⟩
  · exact .inl h5
  · refine .inr ⟨b, off, h6, Nat.lt_of_lt_of_le h7 hg.size, fun i hi => ?_⟩
    have h9 := h8 i hi
    by_cases hb : row = some b
    · exfalso
      obtain ⟨o, ho, hc⟩ := hr b hb
      simp only [World.cell?, ho] at h9
      cases o <;> simp_all [Obj.isCells]
    · rw [← h9]
      exact World.cell?_of_block (hg.block b h7 (fun e => hb e.symm))
theorem Whl.turned {w w' : World} {v : Value} {z : Int} {k : Nat} {row : Option Nat} (h : Whl w v z k) (hg : w.grownBy w' row) (hr : ∀ r, row = some r → ∃ o : Obj, w.heap[r]? = some o ∧ o.isCells = false) : Whl w' v z k := by
  obtain ⟨s, sv, xs, h1, h2, h3⟩ := h
  exact ⟨s, sv, xs, h1, h2.turned hg hr, h3⟩
theorem Box.turned {w w' : World} {g : Nat} {s : Bool} {sv : Value} {row : Option Nat} (h : Box w g s sv) (hg : w.grownBy w' row) (hr : ∀ r, row = some r → ∃ o : Obj, w.heap[r]? = some o ∧ o.isCells = false) : Box w' g s sv := by
  refine ⟨(hg.block g h.lt (fun e => ?_)).trans h.1, h.2⟩
  obtain ⟨o, ho, hc⟩ := hr g e.symm
  rw [h.1] at ho
  cases ho
  cases hc
theorem Nbx.turned {w w' : World} {g : Nat} {s s' : Bool} {sv sv' : Value} {row : Option Nat} (h : Nbx w g s sv s' sv') (hg : w.grownBy w' row) (hr : ∀ r, row = some r → ∃ o : Obj, w.heap[r]? = some o ∧ o.isCells = false) : Nbx w' g s sv s' sv' := by
  refine (hg.block g h.lt (fun e => ?_)).trans h
  obtain ⟨o, ho, hc⟩ := hr g e.symm
  rw [show w.heap[g]? = _ from h] at ho
  cases ho
  cases hc

/-- The places that have come, folded. -/
def cac (zf : Nat → Int) (pre : List Nat) : Int × Int := pre.foldl (fun p x => (zf x * p.1 + p.2, p.1)) (1, 0)
theorem cac_snoc (zf : Nat → Int) (pre : List Nat) (x : Nat) : cac zf (pre ++ [x]) = (zf x * (cac zf pre).1 + (cac zf pre).2, (cac zf pre).1) := by simp [cac]

theorem KB.on {n₀ Bs : Nat} {W A A' : World} (h : KB n₀ Bs W A) (hb : Below A.heap.size A A') (h1 : n₀ ≤ A.heap.size) (h2 : Bs < A.heap.size) : KB n₀ Bs W A' := ⟨h.1.trans (hb.mono h1), (hb.block Bs h2).trans h.2⟩
theorem KB.set {n₀ Bs g : Nat} {W A : World} (h : KB n₀ Bs W A) (h1 : n₀ ≤ g) (h2 : Bs ≠ g) (i : Nat) (u : Value) : KB n₀ Bs W (A.setCell ⟨g, i, none⟩ u) := ⟨h.1.setCell (p := ⟨g, i, none⟩) h1 _, (Below.heap_setCell _ _ _ _ (by exact h2)).trans h.2⟩
theorem KeepsOthers.of_below {W W' : World} (h : Below W.heap.size W W') : KeepsOthers W W' := ⟨h.size, fun k o hk _ => (h.block k (Array.getElem?_eq_some_iff.1 hk).1).trans hk⟩

/-- What holds between two rounds. -/
def CI (w : World) (G : Nat) (vs : List Zr) (zf : Nat → Int) (pre : List Nat) (W : World) : Prop :=
  (∃ s1 p1 n1 c1 s2 p2 n2 c2, Box W G s1 (.slice p1 n1 c1) ∧ Box W (G + 1) s2 (.slice p2 n2 c2) ∧ Whl W (.agg #[.bool s1, .slice p1 n1 c1]) (cac zf pre).1 (101 * pre.length + 1) ∧ Whl W (.agg #[.bool s2, .slice p2 n2 c2]) (cac zf pre).2 (101 * pre.length + 1)) ∧
  (∀ i, Whl W (zag (zat vs i)) (zf i) 100) ∧ Nbx W w.heap.size false (.slice none 0 0) false (.slice none 0 0) ∧ Below w.heap.size w W ∧ G + 1 + 1 < W.heap.size
theorem CI.own {w : World} {G : Nat} {vs : List Zr} {zf : Nat → Int} {K : Nat} (hK : w.heap.size ≤ K) : OwnFrom K (CI w G vs zf) := by
  rintro s W W' row ⟨⟨s1, p1, n1, c1, s2, p2, n2, c2, h1, h2, h3, h4⟩, h5, h6, h7, h8⟩ hg hr
  have hr' := fun r e => (hr r e).2
  exact ⟨⟨s1, p1, n1, c1, s2, p2, n2, c2, h1.turned hg hr', h2.turned hg hr', h3.turned hg hr', h4.turned hg hr'⟩, fun i => (h5 i).turned hg hr', h6.turned hg hr', h7.grown hg h7.size (fun g e => Nat.le_trans hK (hr g e).1), Nat.lt_of_lt_of_le h8 hg.size⟩
theorem CI.size {w : World} {G : Nat} {vs : List Zr} {zf : Nat → Int} {pre : List Nat} {W : World} (h : CI w G vs zf pre W) : G + 1 + 1 < W.heap.size := h.2.2.2.2
theorem CI.on {w : World} {G : Nat} {vs : List Zr} {zf : Nat → Int} {pre : List Nat} {W W' : World} (h : CI w G vs zf pre W) (hb : Below W.heap.size W W') : CI w G vs zf pre W' := by
  obtain ⟨⟨s1, p1, n1, c1, s2, p2, n2, c2, h1, h2, h3, h4⟩, h5, h6, h7, h8⟩ := h
  exact ⟨⟨s1, p1, n1, c1, s2, p2, n2, c2, h1.below hb h1.lt, h2.below hb h2.lt, h3.on hb, h4.on hb⟩, fun i => (h5 i).on hb, h6.below hb h6.lt, h7.trans (hb.mono h7.size), Nat.lt_of_lt_of_le h8 hb.size⟩
theorem CI.alloc {w : World} {G : Nat} {vs : List Zr} {zf : Nat → Int} {pre : List Nat} {W : World} (h : CI w G vs zf pre W) (o : Obj) : CI w G vs zf pre (W.alloc o) := h.on ((Below.refl _ _).alloc (Nat.le_refl _) o)
theorem CI.store {w : World} {G : Nat} {vs : List Zr} {zf : Nat → Int} {pre : List Nat} {W : World} (h : CI w G vs zf pre W) {g : Nat} {s : Bool} {sv : Value} (hX : Box W g s sv) (i : Nat) (u : Value) (hg : G + 1 < g) (hw : w.heap.size < g) : CI w G vs zf pre (W.setCell ⟨g, i, none⟩ u) := by
  obtain ⟨⟨s1, p1, n1, c1, s2, p2, n2, c2, h1, h2, h3, h4⟩, h5, h6, h7, h8⟩ := h
  exact ⟨⟨s1, p1, n1, c1, s2, p2, n2, c2, h1.other (by omega) _ _, h2.other (by omega) _ _, h3.box hX _ _, h4.box hX _ _⟩, fun i => (h5 i).box hX _ _, h6.other (by omega) _ _, h7.setCell (p := ⟨g, i, none⟩) (Nat.le_of_lt hw) _, by simpa [World.setCell] using h8⟩

end Go.Proofs.Yteephnbfdblgeaa

/-
  PACKAGE cf: Back.
-/
namespace Go.Proofs.Yteephnbfdblgeaa
open Go.RowKit
open Num
set_option linter.unusedVariables false
set_option maxRecDepth 100000
set_option linter.unusedSimpArgs false

/-- The fraction of numbers. -/
def cfback (l : List Int) : Rat := Rat.divInt (cfb l).1 (cfb l).2
theorem dwn_map {α : Type} (f : Nat → α) : ∀ (n : Nat), (dwn n n).map f = ((List.range n).map f).reverse := by
  intro n
  rw [dwn, ← List.map_reverse, List.map_map]
  apply List.ext_getElem
  · simp
  · intro i h1 h2
    simp at h1
    simp
theorem cac_map (zf : Nat → Int) (n : Nat) : cac zf (dwn n n) = cfb ((List.range n).map zf) := by
  unfold cac cfb
  rw [List.foldr_eq_foldl_reverse, ← dwn_map, List.foldl_map]
theorem cfb_pos : ∀ (l : List Int), (∀ z ∈ l, 1 ≤ z) → 1 ≤ (cfb l).1 ∧ 0 ≤ (cfb l).2 := by
  intro l
  induction l with
  | nil => intro _; simp [cfb]
  | cons z l ih =>
    intro h
    obtain ⟨h1, h2⟩ := ih (fun x hx => h x (by simp [hx]))
    have hz := h z (by simp)
    rw [cfb_cons]
    have := Int.mul_le_mul_of_nonneg_right hz (show (0 : Int) ≤ (cfb l).1 by omega)
    omega
theorem cfb_two {z : Int} {l : List Int} (h : ∀ x ∈ l, 1 ≤ x) : 1 ≤ (cfb (z :: l)).2 := by
  rw [cfb_cons]; exact (cfb_pos l h).1
/-- What a list of texts reads as. -/
def zlist (ss : List ByteArray) : List Int := ss.map znum
theorem zlist_range (ss : List ByteArray) : (List.range ss.length).map (fun i => if i < ss.length then znum (tx ss i) else 0) = zlist ss := by
  apply List.ext_getElem
  · simp [zlist]
  · intro i h1 h2
    simp [zlist] at h2
    simp [zlist, h2, tx]
/-- Lists that have a fraction. -/
def GoodL (ss : List ByteArray) : Prop := AllZ ss ∧ 1 ≤ ss.length ∧ ss.length ≤ 30 ∧ ∀ i, 1 ≤ i → i < ss.length → 1 ≤ znum (tx ss i)
/-- What is wrong with a list. -/
def BadL (ss : List ByteArray) (k : Int) : Prop :=
  (∃ i, i < ss.length ∧ (∀ j, j < i → GoodZ (tx ss j)) ∧ BadZ (tx ss i) k) ∨ (AllZ ss ∧ ss.length = 0 ∧ k = 3) ∨ (AllZ ss ∧ 30 < ss.length ∧ k = 4) ∨
  (AllZ ss ∧ 1 ≤ ss.length ∧ ss.length ≤ 30 ∧ (∃ i, 1 ≤ i ∧ i < ss.length ∧ znum (tx ss i) ≤ 0) ∧ k = 2)
theorem BadL.ne {ss : List ByteArray} {k : Int} (h : BadL ss k) : k ≠ 0 := by
  rcases h with ⟨i, _, _, h⟩ | ⟨_, _, rfl⟩ | ⟨_, _, rfl⟩ | ⟨_, _, _, _, rfl⟩
  · exact h.ne
  all_goals decide
theorem BadL.not {ss : List ByteArray} {k : Int} (h : BadL ss k) : ¬ GoodL ss := by
  rintro ⟨g1, g2, g3, g4⟩
  rcases h with ⟨i, hi, _, h⟩ | ⟨_, h, _⟩ | ⟨_, h, _⟩ | ⟨_, _, _, ⟨i, h1, h2, h3⟩, _⟩
  · have := g1 i hi
    obtain ⟨a1, a2⟩ := this
    rcases h with ⟨h, _⟩ | ⟨_, h, _⟩
    · omega
    · rw [h] at a2; cases a2
  · omega
  · omega
  · have := g4 i h1 h2; omega
theorem GoodL.den {ss : List ByteArray} (h : GoodL ss) : 1 ≤ (cfb (zlist ss)).2 := by
  obtain ⟨h1, h2, h3, h4⟩ := h
  match ss, h2, h4 with
  | s :: ss, _, h4 =>
    refine cfb_two fun x hx => ?_
    obtain ⟨s', hs', rfl⟩ := List.mem_map.1 hx
    obtain ⟨i, hi, rfl⟩ := List.mem_iff_getElem.1 hs'
    have := h4 (i + 1) (by omega) (by simpa using hi)
    rw [tx_lt (by simpa using hi)] at this
    simpa using this
theorem cells_whl_zero (w : World) (k : Nat) : Whl w (.agg #[.bool false, .slice none 0 0]) 0 k := ⟨false, _, [], rfl, Lim.nil w, .inl rfl, Nat.zero_le _, by simp, rfl⟩
theorem zat_ge {vs : List Zr} {i : Nat} (h : vs.length ≤ i) : zat vs i = (false, none, 0, 0) := by simp [zat, h]

theorem BadZ.uniq {s : ByteArray} {k l : Int} (h : BadZ s k) (h' : BadZ s l) : k = l := by
  rcases h with ⟨h1, rfl⟩ | ⟨h1, h2, rfl⟩ <;> rcases h' with ⟨k1, rfl⟩ | ⟨k1, k2, rfl⟩ <;> first | rfl | omega
theorem GoodZ.notBad {s : ByteArray} {k : Int} (h : GoodZ s) (h' : BadZ s k) : False := by
  obtain ⟨a1, a2⟩ := h
  rcases h' with ⟨h, _⟩ | ⟨_, h, _⟩
  · omega
  · rw [h] at a2; cases a2
theorem BadL.uniq {ss : List ByteArray} {k l : Int} (h : BadL ss k) (h' : BadL ss l) : k = l := by
  have first : ∀ i j (k l : Int), i < ss.length → (∀ j, j < i → GoodZ (tx ss j)) → BadZ (tx ss i) k → j < ss.length → (∀ i, i < j → GoodZ (tx ss i)) → BadZ (tx ss j) l → k = l := by
    intro i j k l h1 h2 h3 g1 g2 g3
    rcases Nat.lt_trichotomy i j with h | h | h
    · exact absurd h3 (g2 i h).notBad
    · subst h; exact h3.uniq g3
    · exact absurd g3 (h2 j h).notBad
  rcases h with ⟨i, h1, h2, h3⟩ | ⟨h1, h2, rfl⟩ | ⟨h1, h2, rfl⟩ | ⟨h1, h2, h3, h4, rfl⟩ <;> rcases h' with ⟨j, g1, g2, g3⟩ | ⟨g1, g2, rfl⟩ | ⟨g1, g2, rfl⟩ | ⟨g1, g2, g3, g4, rfl⟩
  · exact first i j k l h1 h2 h3 g1 g2 g3
  any_goals rfl
  any_goals omega
  all_goals first | exact absurd h3 (g1 i h1).notBad | exact absurd g3 (h1 j g1).notBad
theorem readq_errno {w w' : World} {ss : List ByteArray} {k : Int} {e : Ending} (hk : BadL ss k) (h : (ReadQ w ss e w')) : e = .returned (.tuple #[.slice none 0 0, errno k]) := by
  obtain ⟨h, _⟩ := h
  rcases h with ⟨l, i, h1, h2, h3, rfl⟩ | ⟨h1, h2, rfl⟩ | ⟨h1, h2, rfl⟩ | ⟨h1, h2, h3, h4, rfl⟩ | ⟨h1, h2, h3, h4, _⟩
  · rw [hk.uniq (.inl ⟨i, h1, h2, h3⟩)]
  · rw [hk.uniq (.inr (.inl ⟨h1, h2, rfl⟩))]
  · rw [hk.uniq (.inr (.inr (.inl ⟨h1, h2, rfl⟩)))]
  · rw [hk.uniq (.inr (.inr (.inr ⟨h1, h2, h3, h4, rfl⟩)))]
  · exact absurd ⟨h1, h2, h3, h4⟩ hk.not

theorem goodL_or_bad (ss : List ByteArray) : GoodL ss ∨ ∃ k, BadL ss k := by
  by_cases hz : AllZ ss
  · by_cases h0 : ss.length = 0
    · exact .inr ⟨3, .inr (.inl ⟨hz, h0, rfl⟩)⟩
    by_cases h30 : 30 < ss.length
    · exact .inr ⟨4, .inr (.inr (.inl ⟨hz, h30, rfl⟩))⟩
    by_cases hp : ∀ i, 1 ≤ i → i < ss.length → 1 ≤ znum (tx ss i)
    · exact .inl ⟨hz, by omega, by omega, hp⟩
    · refine .inr ⟨2, .inr (.inr (.inr ⟨hz, by omega, by omega, ?_, rfl⟩))⟩
      apply Classical.byContradiction
      intro hn
      exact hp fun i h1 h2 => by
        apply Classical.byContradiction
        intro h3
        exact hn ⟨i, h1, h2, by omega⟩
  · right
    have first : ∀ n, n ≤ ss.length → (∀ i, i < n → GoodZ (tx ss i)) ∨ ∃ i k, i < ss.length ∧ (∀ j, j < i → GoodZ (tx ss j)) ∧ BadZ (tx ss i) k := by
      intro n
      induction n with
      | zero => intro _; exact .inl fun i hi => by omega
      | succ n ih =>
        intro hn
        rcases ih (by omega) with h | h
        · rcases goodZ_or_bad (tx ss n) with hg | ⟨k, hk⟩
          · exact .inl fun i hi => if h' : i < n then h i h' else (show n = i by omega) ▸ hg
          · exact .inr ⟨n, k, by omega, h, hk⟩
        · exact .inr h
    rcases first ss.length (Nat.le_refl _) with h | ⟨i, k, h1, h2, h3⟩
    · exact absurd h hz
    · exact ⟨k, .inl ⟨i, h1, h2, h3⟩⟩
/-- What cf.Back tells. -/
def BackTells (ss : List ByteArray) (s : ByteArray) (k : Int) : Prop := (k = 0 ∧ GoodL ss ∧ s = qtxt (cfback (zlist ss))) ∨ (k ≠ 0 ∧ BadL ss k ∧ s = ⟨#[]⟩)
end Go.Proofs.Yteephnbfdblgeaa

/-
  PACKAGE cf: mediant.
-/
namespace Go.Proofs.Yteephnbfdblgeaa
open Go.RowKit
open Num
set_option linter.unusedVariables false
set_option maxRecDepth 100000
set_option linter.unusedSimpArgs false


theorem below_next {a c d : World} (h : Below a.heap.size a c) (hb : Below c.heap.size c d) : Below a.heap.size a d := h.trans (hb.mono h.size)
/-- A Number's box that the region has made. -/
def NewN (w0 w : World) (u : Value) (b : Bool) (v : Value) : Prop := ∃ g, u = .pointer (some ⟨g, 0, none⟩) ∧ w0.heap.size ≤ g ∧ (b = false → Nbx w g false (.slice none 0 0) false (.slice none 0 0)) ∧ (b = true → ∃ s p n c s' p' n' c', v = .agg #[.bool s, .slice p n c, .bool s', .slice p' n' c'] ∧ Nbx w g s (.slice p n c) s' (.slice p' n' c'))
theorem NewN.free {w0 w : World} {u v v' : Value} {b : Bool} (h : NewN w0 w u b v) (hb : b = false) : NewN w0 w u b v' := by
  obtain ⟨g, h1, h2, h3, h4⟩ := h
  exact ⟨g, h1, h2, h3, fun e => absurd (hb.symm.trans e) (by decide)⟩
theorem NewN.on {w0 w w' : World} {u v : Value} {b : Bool} (h : NewN w0 w u b v) (hb : Below w.heap.size w w') : NewN w0 w' u b v := by
  obtain ⟨g, h1, h2, h3, h4⟩ := h
  refine ⟨g, h1, h2, fun e => (h3 e).below hb (h3 e).lt, fun e => ?_⟩
  obtain ⟨s, p, n, c, s', p', n', c', e1, e2⟩ := h4 e
  exact ⟨s, p, n, c, s', p', n', c', e1, e2.below hb e2.lt⟩

end Go.Proofs.Yteephnbfdblgeaa

/-
  PACKAGE cf: nearer.
-/
namespace Go.Proofs.Yteephnbfdblgeaa
open Go.RowKit
open Num
set_option linter.unusedVariables false
set_option maxRecDepth 100000
set_option linter.unusedSimpArgs false

theorem NewN.lt {w0 w : World} {u v : Value} {b : Bool} (h : NewN w0 w u b v) : ∃ g, u = .pointer (some ⟨g, 0, none⟩) ∧ g < w.heap.size := by
  obtain ⟨g, h1, h2, h3, h4⟩ := h
  refine ⟨g, h1, ?_⟩
  cases b with
  | false => exact (h3 rfl).lt
  | true => obtain ⟨_, _, _, _, _, _, _, _, _, h⟩ := h4 rfl; exact h.lt
theorem NewN.set {w0 w : World} {u v : Value} {b : Bool} {g : Nat} (h : NewN w0 w u b v) (hne : u ≠ .pointer (some ⟨g, 0, none⟩)) (a1 a2 a3 a4 : Value) : NewN w0 ((((w.setCell ⟨g, 0, none⟩ a1).setCell ⟨g, 1, none⟩ a2).setCell ⟨g, 2, none⟩ a3).setCell ⟨g, 3, none⟩ a4) u b v := by
  obtain ⟨g', rfl, h2, h3, h4⟩ := h
  have hg : g' ≠ g := fun e => hne (by rw [e])
  refine ⟨g', rfl, h2, fun e => ((((h3 e).other hg _ _).other hg _ _).other hg _ _).other hg _ _, fun e => ?_⟩
  obtain ⟨s, p, n, c, s', p', n', c', e1, e2⟩ := h4 e
  exact ⟨s, p, n, c, s', p', n', c', e1, (((e2.other hg _ _).other hg _ _).other hg _ _).other hg _ _⟩
theorem Rtl.moved {w w' : World} {v : Value} {q : Rat} {k : Nat} (h : Rtl w v q k) (hm : ∀ v z k, Whl w v z k → Whl w' v z k) : Rtl w' v q k := by
  obtain ⟨s, p, n, c, s', p', n', c', h1, h2, d, h3, h4⟩ := h
  exact ⟨s, p, n, c, s', p', n', c', h1, hm _ _ _ h2, d, hm _ _ _ h3, h4⟩

end Go.Proofs.Yteephnbfdblgeaa

/-
  PACKAGE rat: Whole.
-/
namespace Go.Proofs.Yteephnbfdblgeaa
open Go.RowKit
open Num
set_option linter.unusedVariables false
set_option maxRecDepth 100000
set_option linter.unusedSimpArgs false

end Go.Proofs.Yteephnbfdblgeaa

/-
  PACKAGE cf: neighbours.
-/
namespace Go.Proofs.Yteephnbfdblgeaa
open Go.RowKit
open Num
set_option linter.unusedVariables false
set_option maxRecDepth 100000
set_option linter.unusedSimpArgs false

theorem res_nn {fn : Func} {t t' : Tmp} {tmps : Array Value} {w : World} {g g' : Nat} {s s' a a' : Bool} {sv sv' av av' : Value} (hf : fn.results = #[.cell t 44, .cell t' 44]) (ht : tmps.getD t undef = .pointer (some ⟨g, 0, none⟩)) (ht' : tmps.getD t' undef = .pointer (some ⟨g', 0, none⟩)) (h2 : Nbx w g s sv s' sv') (h2' : Nbx w g' a av a' av') :
    (results fn tmps).run Try.prog w = .ok (.tuple #[.agg #[.bool s, sv, .bool s', sv'], .agg #[.bool a, av, .bool a', av']]) w := by
  have h1 := at_addr (P := Try.prog) (w := w) ht
  have h1' := at_addr (P := Try.prog) (w := w) ht'
  have h3 := load_num h2
  have h3' := load_num h2'
  simp only [Array.getD_eq_getD_getElem?] at h1 h1'
  simp [results, hf, Sem.run_bind, h1, h3, h1', h3']

theorem Rtl.fit {w : World} {v : Value} {q : Rat} {k : Nat} (m : Nat) (h : Rtl w v q k) (hn : q.num.natAbs < B ^ m) (hd : q.den < B ^ m) : Rtl w v q m := by
  obtain ⟨s, p, n, c, s', p', n', c', h1, h2, d, h3, h4⟩ := h
  refine ⟨s, p, n, c, s', p', n', c', h1, h2.fit m hn, d, h3.fit m ?_, h4⟩
  rcases h4 with rfl | ⟨rfl, _⟩
  · simpa using hd
  · exact Nat.lt_of_le_of_lt (Nat.zero_le _) hd
theorem Rtl.num_lt {w : World} {v : Value} {q : Rat} {k : Nat} (h : Rtl w v q k) : q.num.natAbs < B ^ k := by
  obtain ⟨s, p, n, c, s', p', n', c', h1, h2, _⟩ := h
  exact h2.lt
/-- What lies near x, with a denominator of m or less, has few limbs. -/
theorem near_fits {x r : Rat} {k m : Nat} (hx : x.floor.natAbs < B ^ (k + 1)) (h1 : (x.floor : Rat) ≤ r) (h2 : r ≤ (x.floor : Rat) + 1) (hd : r.den ≤ m) (hm : m ≤ 2000) : r.num.natAbs < B ^ (k + 2) ∧ r.den < B ^ (k + 2) := by
  have h3 := num_between h1 h2
  have h4 : (x.floor.natAbs + 1) * r.den ≤ B ^ (k + 1) * 2000 := Nat.mul_le_mul (by omega) (by omega)
  have h5 : 1 ≤ B ^ (k + 1) := Nat.pow_pos B_pos
  have h6 : B ^ (k + 1) * 2000 < B ^ (k + 2) := by
    rw [show k + 2 = k + 1 + 1 by omega, Nat.pow_succ B (k + 1)]
    exact Nat.mul_lt_mul_of_pos_left (by decide) h5
  omega

theorem near_fit_one {w : World} {v : Value} {x : Rat} {k : Nat} (hx : x.floor.natAbs < B ^ (k + 1)) (h : Rtl w v ((x.floor : Rat) + (1 : Int)) (k + 1 + (k + 1) + 1)) : Rtl w v ((x.floor : Rat) + 1) (k + 2) := by
  have e : (x.floor : Rat) + ((1 : Int) : Rat) = (x.floor : Rat) + 1 := by simp
  rw [e] at h
  have h2 := near_fits hx (show (x.floor : Rat) ≤ (x.floor : Rat) + 1 by grind) Rat.le_refl (m := 1) (by rw [(Adj.start x.floor).2.2]; omega) (by omega)
  exact h.fit _ h2.1 h2.2

end Go.Proofs.Yteephnbfdblgeaa

/-
  PACKAGE cf: readLimit.
-/
namespace Go.Proofs.Yteephnbfdblgeaa
open Go.RowKit
open Num
set_option linter.unusedVariables false
set_option maxRecDepth 100000
set_option linter.unusedSimpArgs false

theorem good_whole {s : ByteArray} (h : Good s) : GoodZ s ∧ znum s = (num s : Int) := by
  have h1 : txt (num s) = s := txt_num h
  have h2 : ztxt (num s : Int) = s := by rw [ztxt, if_neg (by omega)]; simpa using h1
  refine ⟨⟨h.1, by rw [← h2]; exact isWhl_ztxt _⟩, ?_⟩
  conv => lhs; rw [← h2]
  exact znum_ztxt _

end Go.Proofs.Yteephnbfdblgeaa

/-
  PACKAGE cf: Near.
-/
namespace Go.Proofs.Yteephnbfdblgeaa
open Go.RowKit
open Num
set_option linter.unusedVariables false
set_option maxRecDepth 100000
set_option linter.unusedSimpArgs false

/-- What is wrong with a bound. -/
def NearBad (a d : ByteArray) (k : Int) : Prop := BadQ a k ∨ (GoodQ a ∧ Bad d k) ∨ (GoodQ a ∧ Good d ∧ ¬ (1 ≤ num d ∧ num d ≤ 1000) ∧ k = 2)
theorem NearBad.ne {a d : ByteArray} {k : Int} (h : NearBad a d k) : k ≠ 0 := by
  rcases h with h | ⟨_, h⟩ | ⟨_, _, _, rfl⟩
  · exact h.ne
  · exact h.ne
  · decide
def NearTells (a d s : ByteArray) (k : Int) : Prop :=
  (k = 0 ∧ GoodQ a ∧ Good d ∧ (1 ≤ num d ∧ num d ≤ 1000) ∧ ∃ p, Bst (qnum a) (num d) p ∧ s = qtxt p) ∨ (k ≠ 0 ∧ NearBad a d k ∧ s = ⟨#[]⟩)
theorem Rtl.size {w : World} {v : Value} {q : Rat} {k : Nat} (h : Rtl w v q k) (hk : 1 ≤ k) : (qtxt q).size ≤ 20 * k + 5 := by
  have h1 := size_ztxt_k (z := q.num) h.num_lt
  have h2 := size_ztxt_k (z := (q.den : Int)) (k := k) (by have := h.den_lt hk; simpa using this)
  rw [qtxt]
  split
  · omega
  · rw [ByteArray.size_append, ByteArray.size_append]
    have : (⟨#[47]⟩ : ByteArray).size = 1 := rfl
    omega

end Go.Proofs.Yteephnbfdblgeaa

/-
  off.
-/
namespace Go.Proofs.Yteephnbfdblgeaa
open Go.RowKit
open Num
set_option linter.unusedVariables false
set_option maxRecDepth 100000
set_option linter.unusedSimpArgs false

/-- The first byte of a fraction's text; what is behind a minus. -/
theorem qtxt_sign (q : Rat) : 0 < (qtxt q).size ∧ (q < 0 → (qtxt q).data.toList.head? = some 45 ∧ (qtxt q).data.toList.tail = (qtxt (-q)).data.toList) ∧ (¬ q < 0 → (qtxt q).data.toList.head? ≠ some 45) := by
  have hz : ∀ z : Int, (ztxt z).data.toList ≠ [] := by
    intro z
    rw [ztxt_list]
    split
    · simp
    · exact Num.isNat_ne (isNat_dtext _)
  have hl : (qtxt q).data.toList = (ztxt q.num).data.toList ++ (if q.den = 1 then [] else 47 :: (ztxt q.den).data.toList) := by
    by_cases hd : q.den = 1
    · rw [qtxt_one hd, if_pos hd, List.append_nil]
    · rw [qtxt_two hd, if_neg hd]
  have hl2 : (qtxt (-q)).data.toList = (ztxt (-q.num)).data.toList ++ (if q.den = 1 then [] else 47 :: (ztxt q.den).data.toList) := by
    have e1 : (-q).num = -q.num := Rat.neg_num q
    have e2 : (-q).den = q.den := Rat.neg_den q
    by_cases hd : q.den = 1
    · rw [qtxt_one (by rw [e2]; exact hd), if_pos hd, List.append_nil, e1]
    · rw [qtxt_two (by rw [e2]; exact hd), if_neg hd, e1, e2]
  have hn : q < 0 ↔ q.num < 0 := by
    have := Rat.num_nonneg (q := q)
    rw [← Rat.not_le, ← this]
    omega
  refine ⟨?_, fun h => ?_, fun h => ?_⟩
  · apply Nat.pos_of_ne_zero
    intro e
    have h1 : (qtxt q).data.toList.length = 0 := by simpa using e
    rw [hl, List.length_append] at h1
    exact hz q.num (List.eq_nil_of_length_eq_zero (by omega))
  · have hq := hn.1 h
    have hm : (ztxt (-q.num)).data.toList = dtext q.num.natAbs := by
      rw [ztxt_list, if_neg (by omega), show (-q.num).natAbs = q.num.natAbs by omega]
    rw [hl, hl2, hm, ztxt_list, if_pos hq]
    exact ⟨rfl, rfl⟩
  · have hq : ¬ q.num < 0 := fun e => h (hn.2 e)
    rw [hl, ztxt_list, if_neg hq]
    intro e
    have h1 := head_dig (dtext_all q.num.natAbs)
    have h2 : dtext q.num.natAbs ≠ [] := Num.isNat_ne (isNat_dtext _)
    cases hd : dtext q.num.natAbs with
    | nil => exact h2 hd
    | cons c l =>
      rw [hd] at e h1
      simp at e h1
      exact h1 e
theorem qcheck_any (a : ByteArray) (ha : a.size ≤ maxLen) (w : World) :
    Calls Try.prog 11 #[.string a] w fun e w' => ∃ k, e = .returned (errv k) ∧ (k = 0 → GoodQ a) ∧ (k ≠ 0 → ¬ GoodQ a) ∧ Below w.heap.size w w' := by
  rcases goodQ_or_bad a with h | ⟨k, h⟩
  · refine (qcheck_good h w).mono ?_
    rintro e w' ⟨rfl, hb⟩
    exact ⟨0, rfl, fun _ => h, fun e => absurd rfl e, hb⟩
  · have hk : k ≠ 0 := by rcases h with ⟨_, h⟩ | ⟨_, _, h⟩ <;> omega
    have hn : ¬ GoodQ a := by
      rintro ⟨h1, h2⟩
      rcases h with ⟨h, _⟩ | ⟨_, h, _⟩
      · omega
      · rw [h2] at h; cases h
    refine (qcheck_bad h ha w).mono ?_
    rintro e w' ⟨rfl, hb⟩
    exact ⟨k, by rw [errv_some hk], fun e => absurd e hk, fun _ => hn, hb⟩
/-- What 'off' tells. -/
def OffTells (a b s : ByteArray) (t : Bool) : Prop := t = true → GoodQ a ∧ GoodQ b ∧ GoodQ s ∧ qnum s = siz (qnum a - qnum b)

end Go.Proofs.Yteephnbfdblgeaa

namespace Go.Proofs.Yteephnbfdblgeaa
open Go.RowKit
open Num
set_option linter.unusedVariables false
set_option maxRecDepth 100000
set_option linter.unusedSimpArgs false

set_option maxHeartbeats 32000000 in
theorem fbetween_walk (a b way : ByteArray) (za : a.size ≤ 140737488351232) (zb : b.size ≤ 140737488351232) (zway : way.size ≤ 140737488351232) (w : World) :
    Calls Try.prog 4 #[.string a, .string b, .string way] w fun e w' => e = .returned (.bool true) ∧ Below w.heap.size w w' := by
  have ha : a.size ≤ maxLen := by unfold maxLen; omega
  have hb : b.size ≤ maxLen := by unfold maxLen; omega
  have hway : way.size ≤ maxLen := by unfold maxLen; omega
  have hj1 : ¬ 9223372036854775807 < way.size + 1 := by omega
  have hwl : (way ++ ⟨#[76]⟩).size ≤ maxLen := by rw [ByteArray.size_append]; show way.size + 1 ≤ _; unfold maxLen; omega
  have hwr : (way ++ ⟨#[82]⟩).size ≤ maxLen := by rw [ByteArray.size_append]; show way.size + 1 ≤ _; unfold maxLen; omega
  have hne := errv_neq
  have heq := errv_eql
  have hgd := errv_guard
  go_enter Try.func4, Try.ntmps4
  go_wp2_with fail
  refine (middle_true w).mono ?_
  rintro e w1 ⟨rfl, b1⟩
  have B1 := hid b1
  clear b1
  go_wp2_with fail
  refine (qmed_any a b ha hb w1).mono ?_
  rintro e w2 ⟨m, k2, rfl, t2, z2, b2⟩
  have T2 := hid t2
  have B2 := hid (B1.out.trans (b2.mono B1.out.size))
  clear b2
  clear t2
  go_wp2_with fail
  refine (qless_any a b ha hb w2).mono ?_
  rintro e w3 ⟨less, k3, rfl, t3, b3⟩
  have T3 := hid t3
  have B3 := hid (B2.out.trans (b3.mono B2.out.size))
  clear b3
  clear t3
  by_cases hgood : GoodQ a ∧ GoodQ b
  · have e1 : k2 = 0 := T2.out.zero hgood.1 hgood.2
    have e2 : k3 = 0 := T3.out.zero hgood.1 hgood.2
    subst e1 e2
    have HG := hid hgood
    clear hgood
    cases less with
    | false =>
        go_wp2_with fail
        refine (at_any way hway w3).mono ?_
        rintro e w4 ⟨n, k4, rfl, t4, z4, b4⟩
        have T4 := hid t4
        have B4 := hid (B3.out.trans (b4.mono B3.out.size))
        clear b4
        clear t4
        go_wp2_with fail
        generalize hWL : way ++ ⟨#[76]⟩ = wl at *
        replace hWL := hid hWL
        refine (at_any wl hwl w4).mono ?_
        rintro e w5 ⟨l, k5, rfl, t5, z5, b5⟩
        have T5 := hid t5
        have B5 := hid (B4.out.trans (b5.mono B4.out.size))
        clear b5
        clear t5
        go_wp2_with fail
        generalize hWR : way ++ ⟨#[82]⟩ = wr at *
        replace hWR := hid hWR
        refine (at_any wr hwr w5).mono ?_
        rintro e w6 ⟨r, k6, rfl, t6, z6, b6⟩
        have T6 := hid t6
        have B6 := hid (B5.out.trans (b6.mono B5.out.size))
        clear b6
        clear t6
        by_cases h1 : k4 = 0
        · subst h1
          by_cases h2 : k5 = 0
          · subst h2
            by_cases h3 : k6 = 0
            · subst h3
              go_wp2_with fail
              refine (qless_any l n z5 z4 w6).mono ?_
              rintro e w7 ⟨x, k7, rfl, t7, b7⟩
              have T7 := hid t7
              have B7 := hid (B6.out.trans (b7.mono B6.out.size))
              clear b7
              clear t7
              go_wp2_with fail
              refine (qless_any n r z4 z6 w7).mono ?_
              rintro e w8 ⟨y, k8, rfl, t8, b8⟩
              have T8 := hid t8
              have B8 := hid (B7.out.trans (b8.mono B7.out.size))
              clear b8
              clear t8
              obtain ⟨e1, e2⟩ := at_left T4.out (by rw [hWL.out]; exact T5.out) T7.out
              obtain ⟨e3, e4⟩ := at_right T4.out (by rw [hWR.out]; exact T6.out) T8.out
              clear T4 T5 T6 T7 T8
              subst e1
              subst e2
              subst e3
              subst e4
              go_wp2_with fail
              go_ret
              exact ⟨rfl, B8.out⟩
            · have f6 : (k6 != 0) = true := by simpa using h3
              have g6 : (k6 == 0) = false := by simpa using h3
              clear h3
              go_wp2_with fail
              go_ret
              exact ⟨rfl, B6.out⟩
          · have f5 : (k5 != 0) = true := by simpa using h2
            have g5 : (k5 == 0) = false := by simpa using h2
            clear h2
            go_wp2_with fail
            go_ret
            exact ⟨rfl, B6.out⟩
        · have f4 : (k4 != 0) = true := by simpa using h1
          have g4 : (k4 == 0) = false := by simpa using h1
          clear h1
          go_wp2_with fail
          go_ret
          exact ⟨rfl, B6.out⟩
    | true =>
        go_wp2_with fail
        refine (qcheck_any m z2 w3).mono ?_
        rintro e w4 ⟨k4, rfl, c4, _, b4⟩
        have C4 := hid c4
        have B4 := hid (B3.out.trans (b4.mono B3.out.size))
        clear b4
        clear c4
        by_cases h3 : k4 = 0
        · subst h3
          have HM := hid (C4.out rfl)
          clear C4
          go_wp2_with fail
          refine (qless_any a m ha z2 w4).mono ?_
          rintro e w5 ⟨x1, k5, rfl, t5, b5⟩
          have T5 := hid t5
          have B5 := hid (B4.out.trans (b5.mono B4.out.size))
          clear b5
          clear t5
          go_wp2_with fail
          refine (qless_any m b z2 hb w5).mono ?_
          rintro e w6 ⟨y1, k6, rfl, t6, b6⟩
          have T6 := hid t6
          have B6 := hid (B5.out.trans (b6.mono B5.out.size))
          clear b6
          clear t6
          have e1 : k5 = 0 := T5.out.zero HG.out.1 HM.out
          have e2 : k6 = 0 := T6.out.zero HM.out HG.out.2
          subst e1 e2
          obtain ⟨e3, e4⟩ := med_between T2.out T3.out T5.out T6.out
          clear T2 T3 T5 T6
          subst e3 e4
          go_wp2_with fail
          refine (at_any way hway w6).mono ?_
          rintro e w7 ⟨n, k7, rfl, t7, z7, b7⟩
          have T7 := hid t7
          have B7 := hid (B6.out.trans (b7.mono B6.out.size))
          clear b7
          clear t7
          go_wp2_with fail
          generalize hWL : way ++ ⟨#[76]⟩ = wl at *
          replace hWL := hid hWL
          refine (at_any wl hwl w7).mono ?_
          rintro e w8 ⟨l, k8, rfl, t8, z8, b8⟩
          have T8 := hid t8
          have B8 := hid (B7.out.trans (b8.mono B7.out.size))
          clear b8
          clear t8
          go_wp2_with fail
          generalize hWR : way ++ ⟨#[82]⟩ = wr at *
          replace hWR := hid hWR
          refine (at_any wr hwr w8).mono ?_
          rintro e w9 ⟨r, k9, rfl, t9, z9, b9⟩
          have T9 := hid t9
          have B9 := hid (B8.out.trans (b9.mono B8.out.size))
          clear b9
          clear t9
          by_cases h1 : k7 = 0
          · subst h1
            by_cases h2 : k8 = 0
            · subst h2
              by_cases h3 : k9 = 0
              · subst h3
                go_wp2_with fail
                refine (qless_any l n z8 z7 w9).mono ?_
                rintro e w10 ⟨x, k10, rfl, t10, b10⟩
                have T10 := hid t10
                have B10 := hid (B9.out.trans (b10.mono B9.out.size))
                clear b10
                clear t10
                go_wp2_with fail
                refine (qless_any n r z7 z9 w10).mono ?_
                rintro e w11 ⟨y, k11, rfl, t11, b11⟩
                have T11 := hid t11
                have B11 := hid (B10.out.trans (b11.mono B10.out.size))
                clear b11
                clear t11
                obtain ⟨e1, e2⟩ := at_left T7.out (by rw [hWL.out]; exact T8.out) T10.out
                obtain ⟨e3, e4⟩ := at_right T7.out (by rw [hWR.out]; exact T9.out) T11.out
                clear T7 T8 T9 T10 T11
                subst e1
                subst e2
                subst e3
                subst e4
                go_wp2_with fail
                go_ret
                exact ⟨rfl, B11.out⟩
              · have f9 : (k9 != 0) = true := by simpa using h3
                have g9 : (k9 == 0) = false := by simpa using h3
                clear h3
                go_wp2_with fail
                go_ret
                exact ⟨rfl, B9.out⟩
            · have f8 : (k8 != 0) = true := by simpa using h2
              have g8 : (k8 == 0) = false := by simpa using h2
              clear h2
              go_wp2_with fail
              go_ret
              exact ⟨rfl, B9.out⟩
          · have f7 : (k7 != 0) = true := by simpa using h1
            have g7 : (k7 == 0) = false := by simpa using h1
            clear h1
            go_wp2_with fail
            go_ret
            exact ⟨rfl, B9.out⟩
        · have f4 : (k4 != 0) = true := by simpa using h3
          have g4 : (k4 == 0) = false := by simpa using h3
          clear h3 C4
          go_wp2_with fail
          refine (at_any way hway w4).mono ?_
          rintro e w5 ⟨n, k5, rfl, t5, z5, b5⟩
          have T5 := hid t5
          have B5 := hid (B4.out.trans (b5.mono B4.out.size))
          clear b5
          clear t5
          go_wp2_with fail
          generalize hWL : way ++ ⟨#[76]⟩ = wl at *
          replace hWL := hid hWL
          refine (at_any wl hwl w5).mono ?_
          rintro e w6 ⟨l, k6, rfl, t6, z6, b6⟩
          have T6 := hid t6
          have B6 := hid (B5.out.trans (b6.mono B5.out.size))
          clear b6
          clear t6
          go_wp2_with fail
          generalize hWR : way ++ ⟨#[82]⟩ = wr at *
          replace hWR := hid hWR
          refine (at_any wr hwr w6).mono ?_
          rintro e w7 ⟨r, k7, rfl, t7, z7, b7⟩
          have T7 := hid t7
          have B7 := hid (B6.out.trans (b7.mono B6.out.size))
          clear b7
          clear t7
          by_cases h1 : k5 = 0
          · subst h1
            by_cases h2 : k6 = 0
            · subst h2
              by_cases h3 : k7 = 0
              · subst h3
                go_wp2_with fail
                refine (qless_any l n z6 z5 w7).mono ?_
                rintro e w8 ⟨x, k8, rfl, t8, b8⟩
                have T8 := hid t8
                have B8 := hid (B7.out.trans (b8.mono B7.out.size))
                clear b8
                clear t8
                go_wp2_with fail
                refine (qless_any n r z5 z7 w8).mono ?_
                rintro e w9 ⟨y, k9, rfl, t9, b9⟩
                have T9 := hid t9
                have B9 := hid (B8.out.trans (b9.mono B8.out.size))
                clear b9
                clear t9
                obtain ⟨e1, e2⟩ := at_left T5.out (by rw [hWL.out]; exact T6.out) T8.out
                obtain ⟨e3, e4⟩ := at_right T5.out (by rw [hWR.out]; exact T7.out) T9.out
                clear T5 T6 T7 T8 T9
                subst e1
                subst e2
                subst e3
                subst e4
                go_wp2_with fail
                go_ret
                exact ⟨rfl, B9.out⟩
              · have f7 : (k7 != 0) = true := by simpa using h3
                have g7 : (k7 == 0) = false := by simpa using h3
                clear h3
                go_wp2_with fail
                go_ret
                exact ⟨rfl, B7.out⟩
            · have f6 : (k6 != 0) = true := by simpa using h2
              have g6 : (k6 == 0) = false := by simpa using h2
              clear h2
              go_wp2_with fail
              go_ret
              exact ⟨rfl, B7.out⟩
          · have f5 : (k5 != 0) = true := by simpa using h1
            have g5 : (k5 == 0) = false := by simpa using h1
            clear h1
            go_wp2_with fail
            go_ret
            exact ⟨rfl, B7.out⟩
  · obtain ⟨n2, v2⟩ := T2.out.no hgood
    have f2 : (k2 != 0) = true := by simpa using n2
    have g2 : (k2 == 0) = false := by simpa using n2
    obtain ⟨n3, v3⟩ := T3.out.no hgood
    have f3 : (k3 != 0) = true := by simpa using n3
    have g3 : (k3 == 0) = false := by simpa using n3
    subst v2 v3
    clear hgood n2 n3 T2 T3
    go_wp2_with fail
    refine (at_any way hway w3).mono ?_
    rintro e w4 ⟨n, k4, rfl, t4, z4, b4⟩
    have T4 := hid t4
    have B4 := hid (B3.out.trans (b4.mono B3.out.size))
    clear b4
    clear t4
    go_wp2_with fail
    generalize hWL : way ++ ⟨#[76]⟩ = wl at *
    replace hWL := hid hWL
    refine (at_any wl hwl w4).mono ?_
    rintro e w5 ⟨l, k5, rfl, t5, z5, b5⟩
    have T5 := hid t5
    have B5 := hid (B4.out.trans (b5.mono B4.out.size))
    clear b5
    clear t5
    go_wp2_with fail
    generalize hWR : way ++ ⟨#[82]⟩ = wr at *
    replace hWR := hid hWR
    refine (at_any wr hwr w5).mono ?_
    rintro e w6 ⟨r, k6, rfl, t6, z6, b6⟩
    have T6 := hid t6
    have B6 := hid (B5.out.trans (b6.mono B5.out.size))
    clear b6
    clear t6
    by_cases h1 : k4 = 0
    · subst h1
      by_cases h2 : k5 = 0
      · subst h2
        by_cases h3 : k6 = 0
        · subst h3
          go_wp2_with fail
          refine (qless_any l n z5 z4 w6).mono ?_
          rintro e w7 ⟨x, k7, rfl, t7, b7⟩
          have T7 := hid t7
          have B7 := hid (B6.out.trans (b7.mono B6.out.size))
          clear b7
          clear t7
          go_wp2_with fail
          refine (qless_any n r z4 z6 w7).mono ?_
          rintro e w8 ⟨y, k8, rfl, t8, b8⟩
          have T8 := hid t8
          have B8 := hid (B7.out.trans (b8.mono B7.out.size))
          clear b8
          clear t8
          obtain ⟨e1, e2⟩ := at_left T4.out (by rw [hWL.out]; exact T5.out) T7.out
          obtain ⟨e3, e4⟩ := at_right T4.out (by rw [hWR.out]; exact T6.out) T8.out
          clear T4 T5 T6 T7 T8
          subst e1
          subst e2
          subst e3
          subst e4
          go_wp2_with fail
          go_ret
          exact ⟨rfl, B8.out⟩
        · have f6 : (k6 != 0) = true := by simpa using h3
          have g6 : (k6 == 0) = false := by simpa using h3
          clear h3
          go_wp2_with fail
          go_ret
          exact ⟨rfl, B6.out⟩
      · have f5 : (k5 != 0) = true := by simpa using h2
        have g5 : (k5 == 0) = false := by simpa using h2
        clear h2
        go_wp2_with fail
        go_ret
        exact ⟨rfl, B6.out⟩
    · have f4 : (k4 != 0) = true := by simpa using h1
      have g4 : (k4 == 0) = false := by simpa using h1
      clear h1
      go_wp2_with fail
      go_ret
      exact ⟨rfl, B6.out⟩

end Go.Proofs.Yteephnbfdblgeaa

/-
  The law FareyBetween of package abacistlaw1: whatever texts come in, the call returns true, and they read behind it as they did before. No condition.
-/
namespace Go.Proofs.Yteephnbfdblgeaa.fareyBetween
open Go.ChangeShapes Go.WideShapes Go.ChangeAt Go.RowKit
open Go.ChangeMaps (open_string shut_string)
set_option linter.unusedVariables false

theorem own : ownKnob Try.prog.godebug = none := by kernel_rfl

set_option maxRecDepth 100000 in
theorem lifted (os : Os) (started : os.Started) (H : Type) (enc : TypeId × Value → H) :
    ReturnsInHanded {} Try.checked os 4 .any (Rows.fareyBetweenSpec.pre6 enc Try.prog Try.f4 Rows.fareyBetweenRow.domain false) (Rows.fareyBetweenSpec.post enc Try.prog Try.f4 false true false false) := by
  refine returnsInHanded_of_change_sized (C := Try.checked) own started (by kernel_rfl) Try.func4
    (ChangeSpec.witness6 (enc := enc) (C := Try.checked) false ⟨#[], #[.string ByteArray.empty, .string ByteArray.empty, .string ByteArray.empty], []⟩ 8 (by kernel_rfl) (by kernel_rfl) (by kernel_rfl) (by kernel_rfl)) ?_
  intro W base args ds gs before hval0 hW hcnd hsz0 _
  have hval : ∀ (j : Nat) t v, Try.f4.params[j]? = some t → args[j]? = some v → Value.okWide Try.prog W .any base t v := hval0
  have hW' := hW
  obtain ⟨p, q, hA0, hV, rfl, hfz, hnd⟩ := hW
  have hA : DataW.TrodAll enc Try.prog W 0 (fun _ => true) true Try.f4.params.toList args.toList ds p := hA0
  rw [Try.params4] at hA hval
  have hsz : (DataW.weightsEach Try.prog (Try.f4.params.toList ++ Rows.fareyBetweenSpec.plain.varTypes Try.prog) (ds ++ gs)).all (· ≤ reachBytes) = true := hsz0
  rw [Try.params4] at hsz
  obtain ⟨v0, vs0, d0, ds0, p0, q0, hargs, rfl, rfl, h0, r0⟩ := trodAll_cons hA
  obtain ⟨v1, vs1, d1, ds1, p1, q1, rfl, rfl, rfl, h1, r1⟩ := trodAll_cons r0
  obtain ⟨v2, vs2, d2, ds2, p2, q2, rfl, rfl, rfl, h2, r2⟩ := trodAll_cons r1
  obtain ⟨rfl, rfl, rfl⟩ := trodAll_nil r2
  obtain rfl : args = #[v0, v1, v2] := by cases args; simp_all
  obtain ⟨rfl, rfl⟩ := trodVars_none hV
  obtain ⟨a0, rfl, rfl, rfl, w0⟩ := open_string Try.underlying9 (hval 0 9 v0 rfl rfl) h0
  obtain ⟨a1, rfl, rfl, rfl, w1⟩ := open_string Try.underlying9 (hval 1 9 v1 rfl rfl) h1
  obtain ⟨a2, rfl, rfl, rfl, w2⟩ := open_string Try.underlying9 (hval 2 9 v2 rfl rfl) h2
  have z0 : a0.size ≤ 140737488351232 := by
    have := sized_string hsz (j := 0) (t := 9) rfl rfl
    simpa [reachBytes] using this
  have z1 : a1.size ≤ 140737488351232 := by
    have := sized_string hsz (j := 1) (t := 9) rfl rfl
    simpa [reachBytes] using this
  have z2 : a2.size ≤ 140737488351232 := by
    have := sized_string hsz (j := 2) (t := 9) rfl rfl
    simpa [reachBytes] using this
  clear hA0 hval0
  simp only [List.append_nil] at hW'
  refine (fbetween_walk a0 a1 a2 z0 z1 z2 W).mono fun e W' ⟨he, hg⟩ => ?_
  subst he
  exact ⟨_, rfl, post_plain hW' (fun _ _ _ => (trodAll_cons_mk (shut_bool Try.underlying4 _) trodAll_mk0)) (fun sp => (trodAll_cons_mk (shut_string Try.underlying9 w0) (trodAll_cons_mk (shut_string Try.underlying9 w1) (trodAll_cons_mk (shut_string Try.underlying9 w2) trodAll_mk0)))) (fun _ => rfl)
    hg (ok_one (by kernel_rfl) rfl (okWide_bool_mk Try.underlying4 _))⟩

/-- The law FareyBetween: every input. -/
theorem proved : Rows.FareyBetweenSaid :=
  OpenClaim.holds_of_wide 4 Try.f4 rfl rfl rfl rfl rfl rfl rfl ⟨rfl, rfl, rfl, rfl, rfl⟩ rfl rfl rfl rfl rfl (by kernel_rfl) Try.func4 (by kernel_rfl)
    (of_decide_eq_true (by kernel_rfl)) (by unfold Func.isWrapper; first | (rw [if_pos (by decide +kernel)]; kernel_rfl) | (rw [if_neg (by decide +kernel)]; exact ⟨rfl, rfl⟩))
    (fun os started H enc _ => lifted os started H enc)
#print axioms proved
end Go.Proofs.Yteephnbfdblgeaa.fareyBetween
