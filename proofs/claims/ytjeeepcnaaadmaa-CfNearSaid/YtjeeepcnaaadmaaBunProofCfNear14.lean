import Derived.Test.YtjeeepcnaaadmaaBunProofCfNear13
import Derived.Test.YtjeeepcnaaadmaaBunProofCfNear12
import Derived.Test.YtjeeepcnaaadmaaBunProofCfNear1
import Derived.Test.YtjeeepcnaaadmaaBunProofCfNear8
import Derived.Test.YtjeeepcnaaadmaaBunProofCfNear9
import Derived.Deep.LoopGhost
/-
  PACKAGE cf: collapse.
-/
namespace Go.Proofs.Ytjeeepcnaaadmaa
open Go.RowKit Go.Shelf
open Num
set_option linter.unusedVariables false
set_option maxRecDepth 100000
set_option linter.unusedSimpArgs false
attribute [local go_sem] Oper.semAt_some

/-- A turn of what is no cells changes no number. -/
theorem Lim.turned {w w' : World} {v : Value} {xs : List Nat} {row : Option Nat} (h : Lim w v xs) (hg : w.grownBy w' row) (hr : ∀ r, row = some r → ∃ o : Obj, w.heap[r]? = some o ∧ o.isCells = false) : Lim w' v xs := by
  obtain ⟨h1, p, c, h2, h3, h4, h5⟩ := h
  refine ⟨h1, p, c, h2, h3, h4, ?_⟩
  rcases h5 with h5 | ⟨b, off, h6, h7, h8⟩
  · exact .inl h5
  · refine .inr ⟨b, off, h6, Nat.lt_of_lt_of_le h7 hg.size, fun i hi => ?_⟩
    have h9 := h8 i hi
    by_cases hb : row = some b
    · exfalso
      obtain ⟨o, ho, hc⟩ := hr b hb
      simp only [World.cell?, ho] at h9
      cases o <;> simp_all [Obj.isCells]
    · rw [← h9]
      exact World.cell?_of_block (hg.block b h7 (fun e => hb e.symm))
theorem Whl.turned {w w' : World} {v : Value} {z : Int} {k : Nat} {row : Option Nat} (h : Whl w v z k) (hg : w.grownBy w' row) (hr : ∀ r, row = some r → ∃ o : Obj, w.heap[r]? = some o ∧ o.isCells = false) : Whl w' v z k := by
  obtain ⟨s, sv, xs, h1, h2, h3⟩ := h
  exact ⟨s, sv, xs, h1, h2.turned hg hr, h3⟩
theorem Box.turned {w w' : World} {g : Nat} {s : Bool} {sv : Value} {row : Option Nat} (h : Box w g s sv) (hg : w.grownBy w' row) (hr : ∀ r, row = some r → ∃ o : Obj, w.heap[r]? = some o ∧ o.isCells = false) : Box w' g s sv := by
  refine ⟨(hg.block g h.lt (fun e => ?_)).trans h.1, h.2⟩
  obtain ⟨o, ho, hc⟩ := hr g e.symm
  rw [h.1] at ho
  cases ho
  cases hc
theorem Nbx.turned {w w' : World} {g : Nat} {s s' : Bool} {sv sv' : Value} {row : Option Nat} (h : Nbx w g s sv s' sv') (hg : w.grownBy w' row) (hr : ∀ r, row = some r → ∃ o : Obj, w.heap[r]? = some o ∧ o.isCells = false) : Nbx w' g s sv s' sv' := by
  refine (hg.block g h.lt (fun e => ?_)).trans h
  obtain ⟨o, ho, hc⟩ := hr g e.symm
  rw [show w.heap[g]? = _ from h] at ho
  cases ho
  cases hc

/-- The places that have come, folded. -/
def cac (zf : Nat → Int) (pre : List Nat) : Int × Int := pre.foldl (fun p x => (zf x * p.1 + p.2, p.1)) (1, 0)
theorem cac_snoc (zf : Nat → Int) (pre : List Nat) (x : Nat) : cac zf (pre ++ [x]) = (zf x * (cac zf pre).1 + (cac zf pre).2, (cac zf pre).1) := by simp [cac]

theorem KB.on {n₀ Bs : Nat} {W A A' : World} (h : KB n₀ Bs W A) (hb : Below A.heap.size A A') (h1 : n₀ ≤ A.heap.size) (h2 : Bs < A.heap.size) : KB n₀ Bs W A' := ⟨h.1.trans (hb.mono h1), (hb.block Bs h2).trans h.2⟩
theorem KB.set {n₀ Bs g : Nat} {W A : World} (h : KB n₀ Bs W A) (h1 : n₀ ≤ g) (h2 : Bs ≠ g) (i : Nat) (u : Value) : KB n₀ Bs W (A.setCell ⟨g, i, none⟩ u) := ⟨h.1.setCell (p := ⟨g, i, none⟩) h1 _, (Below.heap_setCell _ _ _ _ (by exact h2)).trans h.2⟩
theorem KeepsOthers.of_below {W W' : World} (h : Below W.heap.size W W') : KeepsOthers W W' := ⟨h.size, fun k o hk _ => (h.block k (Array.getElem?_eq_some_iff.1 hk).1).trans hk⟩

/-- What holds between two rounds. -/
def CI (w : World) (G : Nat) (vs : List Zr) (zf : Nat → Int) (pre : List Nat) (W : World) : Prop :=
  (∃ s1 p1 n1 c1 s2 p2 n2 c2, Box W G s1 (.slice p1 n1 c1) ∧ Box W (G + 1) s2 (.slice p2 n2 c2) ∧ Whl W (.agg #[.bool s1, .slice p1 n1 c1]) (cac zf pre).1 (101 * pre.length + 1) ∧ Whl W (.agg #[.bool s2, .slice p2 n2 c2]) (cac zf pre).2 (101 * pre.length + 1)) ∧
  (∀ i, Whl W (zag (zat vs i)) (zf i) 100) ∧ Nbx W w.heap.size false (.slice none 0 0) false (.slice none 0 0) ∧ Below w.heap.size w W ∧ G + 1 + 1 < W.heap.size
theorem CI.own {w : World} {G : Nat} {vs : List Zr} {zf : Nat → Int} {K : Nat} (hK : w.heap.size ≤ K) : OwnFrom K (CI w G vs zf) := by
  rintro s W W' row ⟨⟨s1, p1, n1, c1, s2, p2, n2, c2, h1, h2, h3, h4⟩, h5, h6, h7, h8⟩ hg hr
  have hr' := fun r e => (hr r e).2
  exact ⟨⟨s1, p1, n1, c1, s2, p2, n2, c2, h1.turned hg hr', h2.turned hg hr', h3.turned hg hr', h4.turned hg hr'⟩, fun i => (h5 i).turned hg hr', h6.turned hg hr', h7.grown hg h7.size (fun g e => Nat.le_trans hK (hr g e).1), Nat.lt_of_lt_of_le h8 hg.size⟩
theorem CI.size {w : World} {G : Nat} {vs : List Zr} {zf : Nat → Int} {pre : List Nat} {W : World} (h : CI w G vs zf pre W) : G + 1 + 1 < W.heap.size := h.2.2.2.2
theorem CI.on {w : World} {G : Nat} {vs : List Zr} {zf : Nat → Int} {pre : List Nat} {W W' : World} (h : CI w G vs zf pre W) (hb : Below W.heap.size W W') : CI w G vs zf pre W' := by
  obtain ⟨⟨s1, p1, n1, c1, s2, p2, n2, c2, h1, h2, h3, h4⟩, h5, h6, h7, h8⟩ := h
  exact ⟨⟨s1, p1, n1, c1, s2, p2, n2, c2, h1.below hb h1.lt, h2.below hb h2.lt, h3.on hb, h4.on hb⟩, fun i => (h5 i).on hb, h6.below hb h6.lt, h7.trans (hb.mono h7.size), Nat.lt_of_lt_of_le h8 hb.size⟩
theorem CI.alloc {w : World} {G : Nat} {vs : List Zr} {zf : Nat → Int} {pre : List Nat} {W : World} (h : CI w G vs zf pre W) (o : Obj) : CI w G vs zf pre (W.alloc o) := h.on ((Below.refl _ _).alloc (Nat.le_refl _) o)
theorem CI.store {w : World} {G : Nat} {vs : List Zr} {zf : Nat → Int} {pre : List Nat} {W : World} (h : CI w G vs zf pre W) {g : Nat} {s : Bool} {sv : Value} (hX : Box W g s sv) (i : Nat) (u : Value) (hg : G + 1 < g) (hw : w.heap.size < g) : CI w G vs zf pre (W.setCell ⟨g, i, none⟩ u) := by
  obtain ⟨⟨s1, p1, n1, c1, s2, p2, n2, c2, h1, h2, h3, h4⟩, h5, h6, h7, h8⟩ := h
  exact ⟨⟨s1, p1, n1, c1, s2, p2, n2, c2, h1.other (by omega) _ _, h2.other (by omega) _ _, h3.box hX _ _, h4.box hX _ _⟩, fun i => (h5 i).box hX _ _, h6.other (by omega) _ _, h7.setCell (p := ⟨g, i, none⟩) (Nat.le_of_lt hw) _, by simpa [World.setCell] using h8⟩

end Go.Proofs.Ytjeeepcnaaadmaa

/-
  PACKAGE cf: Back.
-/
namespace Go.Proofs.Ytjeeepcnaaadmaa
open Go.RowKit
open Num
set_option linter.unusedVariables false
set_option maxRecDepth 100000
set_option linter.unusedSimpArgs false

/-- The fraction of numbers. -/
def cfback (l : List Int) : Rat := Rat.divInt (cfb l).1 (cfb l).2
theorem dwn_map {α : Type} (f : Nat → α) : ∀ (n : Nat), (dwn n n).map f = ((List.range n).map f).reverse := by
  intro n
  rw [dwn, ← List.map_reverse, List.map_map]
  apply List.ext_getElem
  · simp
  · intro i h1 h2
    simp at h1
    simp
theorem cac_map (zf : Nat → Int) (n : Nat) : cac zf (dwn n n) = cfb ((List.range n).map zf) := by
  unfold cac cfb
  rw [List.foldr_eq_foldl_reverse, ← dwn_map, List.foldl_map]
theorem cfb_pos : ∀ (l : List Int), (∀ z ∈ l, 1 ≤ z) → 1 ≤ (cfb l).1 ∧ 0 ≤ (cfb l).2 := by
  intro l
  induction l with
  | nil => intro _; simp [cfb]
  | cons z l ih =>
    intro h
    obtain ⟨h1, h2⟩ := ih (fun x hx => h x (by simp [hx]))
    have hz := h z (by simp)
    rw [cfb_cons]
    have := Int.mul_le_mul_of_nonneg_right hz (show (0 : Int) ≤ (cfb l).1 by omega)
    omega
theorem cfb_two {z : Int} {l : List Int} (h : ∀ x ∈ l, 1 ≤ x) : 1 ≤ (cfb (z :: l)).2 := by
  rw [cfb_cons]; exact (cfb_pos l h).1
/-- What a list of texts reads as. -/
def zlist (ss : List ByteArray) : List Int := ss.map znum
theorem zlist_range (ss : List ByteArray) : (List.range ss.length).map (fun i => if i < ss.length then znum (tx ss i) else 0) = zlist ss := by
  apply List.ext_getElem
  · simp [zlist]
  · intro i h1 h2
    simp [zlist] at h2
    simp [zlist, h2, tx]
/-- Lists that have a fraction. -/
def GoodL (ss : List ByteArray) : Prop := AllZ ss ∧ 1 ≤ ss.length ∧ ss.length ≤ 30 ∧ ∀ i, 1 ≤ i → i < ss.length → 1 ≤ znum (tx ss i)
/-- What is wrong with a list. -/
def BadL (ss : List ByteArray) (k : Int) : Prop :=
  (∃ i, i < ss.length ∧ (∀ j, j < i → GoodZ (tx ss j)) ∧ BadZ (tx ss i) k) ∨ (AllZ ss ∧ ss.length = 0 ∧ k = 3) ∨ (AllZ ss ∧ 30 < ss.length ∧ k = 4) ∨
  (AllZ ss ∧ 1 ≤ ss.length ∧ ss.length ≤ 30 ∧ (∃ i, 1 ≤ i ∧ i < ss.length ∧ znum (tx ss i) ≤ 0) ∧ k = 2)
theorem BadL.ne {ss : List ByteArray} {k : Int} (h : BadL ss k) : k ≠ 0 := by
  rcases h with ⟨i, _, _, h⟩ | ⟨_, _, rfl⟩ | ⟨_, _, rfl⟩ | ⟨_, _, _, _, rfl⟩
  · exact h.ne
  all_goals decide
theorem BadL.not {ss : List ByteArray} {k : Int} (h : BadL ss k) : ¬ GoodL ss := by
  rintro ⟨g1, g2, g3, g4⟩
  rcases h with ⟨i, hi, _, h⟩ | ⟨_, h, _⟩ | ⟨_, h, _⟩ | ⟨_, _, _, ⟨i, h1, h2, h3⟩, _⟩
  · have := g1 i hi
    obtain ⟨a1, a2⟩ := this
    rcases h with ⟨h, _⟩ | ⟨_, h, _⟩
    · omega
    · rw [h] at a2; cases a2
  · omega
  · omega
  · have := g4 i h1 h2; omega
theorem GoodL.den {ss : List ByteArray} (h : GoodL ss) : 1 ≤ (cfb (zlist ss)).2 := by
  obtain ⟨h1, h2, h3, h4⟩ := h
  match ss, h2, h4 with
  | s :: ss, _, h4 =>
    refine cfb_two fun x hx => ?_
    obtain ⟨s', hs', rfl⟩ := List.mem_map.1 hx
    obtain ⟨i, hi, rfl⟩ := List.mem_iff_getElem.1 hs'
    have := h4 (i + 1) (by omega) (by simpa using hi)
    rw [tx_lt (by simpa using hi)] at this
    simpa using this
theorem cells_whl_zero (w : World) (k : Nat) : Whl w (.agg #[.bool false, .slice none 0 0]) 0 k := ⟨false, _, [], rfl, Lim.nil w, .inl rfl, Nat.zero_le _, by simp, rfl⟩
theorem zat_ge {vs : List Zr} {i : Nat} (h : vs.length ≤ i) : zat vs i = (false, none, 0, 0) := by simp [zat, h]

theorem BadZ.uniq {s : ByteArray} {k l : Int} (h : BadZ s k) (h' : BadZ s l) : k = l := by
  rcases h with ⟨h1, rfl⟩ | ⟨h1, h2, rfl⟩ <;> rcases h' with ⟨k1, rfl⟩ | ⟨k1, k2, rfl⟩ <;> first | rfl | omega
theorem GoodZ.notBad {s : ByteArray} {k : Int} (h : GoodZ s) (h' : BadZ s k) : False := by
  obtain ⟨a1, a2⟩ := h
  rcases h' with ⟨h, _⟩ | ⟨_, h, _⟩
  · omega
  · rw [h] at a2; cases a2
theorem BadL.uniq {ss : List ByteArray} {k l : Int} (h : BadL ss k) (h' : BadL ss l) : k = l := by
  have first : ∀ i j (k l : Int), i < ss.length → (∀ j, j < i → GoodZ (tx ss j)) → BadZ (tx ss i) k → j < ss.length → (∀ i, i < j → GoodZ (tx ss i)) → BadZ (tx ss j) l → k = l := by
    intro i j k l h1 h2 h3 g1 g2 g3
    rcases Nat.lt_trichotomy i j with h | h | h
    · exact absurd h3 (g2 i h).notBad
    · subst h; exact h3.uniq g3
    · exact absurd g3 (h2 j h).notBad
  rcases h with ⟨i, h1, h2, h3⟩ | ⟨h1, h2, rfl⟩ | ⟨h1, h2, rfl⟩ | ⟨h1, h2, h3, h4, rfl⟩ <;> rcases h' with ⟨j, g1, g2, g3⟩ | ⟨g1, g2, rfl⟩ | ⟨g1, g2, rfl⟩ | ⟨g1, g2, g3, g4, rfl⟩
  · exact first i j k l h1 h2 h3 g1 g2 g3
  any_goals rfl
  any_goals omega
  all_goals first | exact absurd h3 (g1 i h1).notBad | exact absurd g3 (h1 j g1).notBad
theorem readq_errno {w w' : World} {ss : List ByteArray} {k : Int} {e : Ending} (hk : BadL ss k) (h : (ReadQ w ss e w')) : e = .returned (.tuple #[.slice none 0 0, errno k]) := by
  obtain ⟨h, _⟩ := h
  rcases h with ⟨l, i, h1, h2, h3, rfl⟩ | ⟨h1, h2, rfl⟩ | ⟨h1, h2, rfl⟩ | ⟨h1, h2, h3, h4, rfl⟩ | ⟨h1, h2, h3, h4, _⟩
  · rw [hk.uniq (.inl ⟨i, h1, h2, h3⟩)]
  · rw [hk.uniq (.inr (.inl ⟨h1, h2, rfl⟩))]
  · rw [hk.uniq (.inr (.inr (.inl ⟨h1, h2, rfl⟩)))]
  · rw [hk.uniq (.inr (.inr (.inr ⟨h1, h2, h3, h4, rfl⟩)))]
  · exact absurd ⟨h1, h2, h3, h4⟩ hk.not

theorem goodL_or_bad (ss : List ByteArray) : GoodL ss ∨ ∃ k, BadL ss k := by
  by_cases hz : AllZ ss
  · by_cases h0 : ss.length = 0
    · exact .inr ⟨3, .inr (.inl ⟨hz, h0, rfl⟩)⟩
    by_cases h30 : 30 < ss.length
    · exact .inr ⟨4, .inr (.inr (.inl ⟨hz, h30, rfl⟩))⟩
    by_cases hp : ∀ i, 1 ≤ i → i < ss.length → 1 ≤ znum (tx ss i)
    · exact .inl ⟨hz, by omega, by omega, hp⟩
    · refine .inr ⟨2, .inr (.inr (.inr ⟨hz, by omega, by omega, ?_, rfl⟩))⟩
      apply Classical.byContradiction
      intro hn
      exact hp fun i h1 h2 => by
        apply Classical.byContradiction
        intro h3
        exact hn ⟨i, h1, h2, by omega⟩
  · right
    have first : ∀ n, n ≤ ss.length → (∀ i, i < n → GoodZ (tx ss i)) ∨ ∃ i k, i < ss.length ∧ (∀ j, j < i → GoodZ (tx ss j)) ∧ BadZ (tx ss i) k := by
      intro n
      induction n with
      | zero => intro _; exact .inl fun i hi => by omega
      | succ n ih =>
        intro hn
        rcases ih (by omega) with h | h
        · rcases goodZ_or_bad (tx ss n) with hg | ⟨k, hk⟩
          · exact .inl fun i hi => if h' : i < n then h i h' else (show n = i by omega) ▸ hg
          · exact .inr ⟨n, k, by omega, h, hk⟩
        · exact .inr h
    rcases first ss.length (Nat.le_refl _) with h | ⟨i, k, h1, h2, h3⟩
    · exact absurd h hz
    · exact ⟨k, .inl ⟨i, h1, h2, h3⟩⟩
/-- What cf.Back tells. -/
def BackTells (ss : List ByteArray) (s : ByteArray) (k : Int) : Prop := (k = 0 ∧ GoodL ss ∧ s = qtxt (cfback (zlist ss))) ∨ (k ≠ 0 ∧ BadL ss k ∧ s = ⟨#[]⟩)
end Go.Proofs.Ytjeeepcnaaadmaa

/-
  PACKAGE cf: mediant.
-/
namespace Go.Proofs.Ytjeeepcnaaadmaa
open Go.RowKit
open Num
set_option linter.unusedVariables false
set_option maxRecDepth 100000
set_option linter.unusedSimpArgs false

set_option maxHeartbeats 4000000 in
theorem mediant_rtl {w : World} {v u : Value} {q r : Rat} {k : Nat} (h : Rtl w v q k) (h' : Rtl w u r k) (hk1 : 1 ≤ k) (hk : k ≤ 68719476736) :
    Calls Try.prog 73 #[v, u] w fun e w' => ∃ v, e = .returned v ∧ Rtl w' v (med q r) (k + 1) ∧ Below w.heap.size w w' := by
  obtain ⟨s1a, p1a, n1a, c1a, s1b, p1b, n1b, c1b, rfl⟩ := h.opened
  obtain ⟨ht1, d1, hu1, hd1⟩ := h.two
  have HD1 := hid hd1
  obtain ⟨s2a, p2a, n2a, c2a, s2b, p2b, n2b, c2b, rfl⟩ := h'.opened
  obtain ⟨ht2, d2, hu2, hd2⟩ := h'.two
  have HD2 := hid hd2
  have HK := hid hk
  have HK1 := hid hk1
  have B := hid (Below.refl w.heap.size w)
  have HT1 := hid ht1
  have HU1 := hid hu1
  have HT2 := hid ht2
  have HU2 := hid hu2
  have hb1 := (Below.refl _ _).alloc (Nat.le_refl w.heap.size) (.cells #[.bool s1a, .slice p1a n1a c1a, .bool s1b, .slice p1b n1b c1b] 51)
  have hx2 := Nbx.new w s1a s1b (.slice p1a n1a c1a) (.slice p1b n1b c1b)
  replace HT1 := wl HT1 hb1
  replace HU1 := wl HU1 hb1
  replace HT2 := wl HT2 hb1
  replace HU2 := wl HU2 hb1
  replace B := bb B hb1
  have X1 := hid hx2
  have hs3 : (w.alloc (.cells #[.bool s1a, .slice p1a n1a c1a, .bool s1b, .slice p1b n1b c1b] 51)).heap.size = w.heap.size + 1 := by simp
  clear hb1 hx2
  have hb4 := (Below.refl _ _).alloc (Nat.le_refl (w.alloc (.cells #[.bool s1a, .slice p1a n1a c1a, .bool s1b, .slice p1b n1b c1b] 51)).heap.size) (.cells #[.bool s2a, .slice p2a n2a c2a, .bool s2b, .slice p2b n2b c2b] 51)
  have hx5 := Nbx.new (w.alloc (.cells #[.bool s1a, .slice p1a n1a c1a, .bool s1b, .slice p1b n1b c1b] 51)) s2a s2b (.slice p2a n2a c2a) (.slice p2b n2b c2b)
  rw [hs3] at hx5
  replace X1 := nx X1 hb4
  replace HT1 := wl HT1 hb4
  replace HU1 := wl HU1 hb4
  replace HT2 := wl HT2 hb4
  replace HU2 := wl HU2 hb4
  replace B := bb B hb4
  have X2 := hid hx5
  have hs6 : ((w.alloc (.cells #[.bool s1a, .slice p1a n1a c1a, .bool s1b, .slice p1b n1b c1b] 51)).alloc (.cells #[.bool s2a, .slice p2a n2a c2a, .bool s2b, .slice p2b n2b c2b] 51)).heap.size = w.heap.size + 1 + 1 := by simp [hs3]
  clear hb4 hx5
  have hb7 := (Below.refl _ _).alloc (Nat.le_refl ((w.alloc (.cells #[.bool s1a, .slice p1a n1a c1a, .bool s1b, .slice p1b n1b c1b] 51)).alloc (.cells #[.bool s2a, .slice p2a n2a c2a, .bool s2b, .slice p2b n2b c2b] 51)).heap.size) (.cells #[.bool false, .slice none 0 0, .bool false, .slice none 0 0] 51)
  have hx8 := Nbx.new ((w.alloc (.cells #[.bool s1a, .slice p1a n1a c1a, .bool s1b, .slice p1b n1b c1b] 51)).alloc (.cells #[.bool s2a, .slice p2a n2a c2a, .bool s2b, .slice p2b n2b c2b] 51)) false false (.slice none 0 0) (.slice none 0 0)
  rw [hs6] at hx8
  replace X1 := nx X1 hb7
  replace X2 := nx X2 hb7
  replace HT1 := wl HT1 hb7
  replace HU1 := wl HU1 hb7
  replace HT2 := wl HT2 hb7
  replace HU2 := wl HU2 hb7
  replace B := bb B hb7
  have XR := hid hx8
  have hs9 : (((w.alloc (.cells #[.bool s1a, .slice p1a n1a c1a, .bool s1b, .slice p1b n1b c1b] 51)).alloc (.cells #[.bool s2a, .slice p2a n2a c2a, .bool s2b, .slice p2b n2b c2b] 51)).alloc (.cells #[.bool false, .slice none 0 0, .bool false, .slice none 0 0] 51)).heap.size = w.heap.size + 1 + 1 + 1 := by simp [hs6]
  clear hb7 hx8
  clear hs9 h h' ht1 hu1 ht2 hu2 hd1 hd2 hk hk1
  go_enter Try.func73, Try.ntmps73
  obtain ⟨cc10a, cc10b, cc10c, cc10d⟩ := X1.out.cells
  obtain ⟨cc11a, cc11b, cc11c, cc11d⟩ := X2.out.cells
  obtain ⟨cc12a, cc12b, cc12c, cc12d⟩ := XR.out.cells
  go_wp2_with fail
  generalize hW : ((w.alloc (.cells #[.bool s1a, .slice p1a n1a c1a, .bool s1b, .slice p1b n1b c1b] 51)).alloc (.cells #[.bool s2a, .slice p2a n2a c2a, .bool s2b, .slice p2b n2b c2b] 51)).alloc (.cells #[.bool false, .slice none 0 0, .bool false, .slice none 0 0] 51) = W13 at *
  clear hW
  refine (parts_rtl (Rtl.mk2 HT1.out HU1.out HD1.out) HK1.out).mono ?_
  rintro e w14 ⟨v, u, rfl, hv, hu, hb⟩
  obtain ⟨s3, p3, n3, c3, rfl⟩ := hv.opened
  obtain ⟨s4, p4, n4, c4, rfl⟩ := hu.opened
  replace X2 := nx X2 hb
  replace XR := nx XR hb
  replace HT2 := wl HT2 hb
  replace HU2 := wl HU2 hb
  replace B := bb B hb
  clear cc10a cc10b cc10c cc10d cc11a cc11b cc11c cc11d cc12a cc12b cc12c cc12d
  have HA := hid hv
  have HB := hid hu
  clear hb hv hu
  have hb15 := (Below.refl _ _).alloc (Nat.le_refl w14.heap.size) (.cells #[.bool s3, .slice p3 n3 c3] 49)
  have hx16 := Box.new w14 s3 p3 n3 c3
  have L0 := hid XR.out.lt
  replace X2 := nx X2 hb15
  replace XR := nx XR hb15
  replace HT2 := wl HT2 hb15
  replace HU2 := wl HU2 hb15
  replace HA := wl HA hb15
  replace HB := wl HB hb15
  replace B := bb B hb15
  have XA := hid hx16
  have hs17 : (w14.alloc (.cells #[.bool s3, .slice p3 n3 c3] 49)).heap.size = w14.heap.size + 1 := by simp
  clear hb15 hx16
  have hb18 := (Below.refl _ _).alloc (Nat.le_refl (w14.alloc (.cells #[.bool s3, .slice p3 n3 c3] 49)).heap.size) (.cells #[.bool s4, .slice p4 n4 c4] 49)
  have hx19 := Box.new (w14.alloc (.cells #[.bool s3, .slice p3 n3 c3] 49)) s4 p4 n4 c4
  rw [hs17] at hx19
  replace X2 := nx X2 hb18
  replace XR := nx XR hb18
  replace XA := bx XA hb18
  replace HT2 := wl HT2 hb18
  replace HU2 := wl HU2 hb18
  replace HA := wl HA hb18
  replace HB := wl HB hb18
  replace B := bb B hb18
  have XB := hid hx19
  have hs20 : ((w14.alloc (.cells #[.bool s3, .slice p3 n3 c3] 49)).alloc (.cells #[.bool s4, .slice p4 n4 c4] 49)).heap.size = w14.heap.size + 1 + 1 := by simp [hs17]
  clear hb18 hx19
  obtain ⟨cc21a, cc21b, cc21c, cc21d⟩ := X2.out.cells
  obtain ⟨cc22a, cc22b, cc22c, cc22d⟩ := XR.out.cells
  obtain ⟨cc23a, cc23b⟩ := XA.out.both
  obtain ⟨cc24a, cc24b⟩ := XB.out.both
  go_wp2_with fail
  generalize hW : (w14.alloc (.cells #[.bool s3, .slice p3 n3 c3] 49)).alloc (.cells #[.bool s4, .slice p4 n4 c4] 49) = W25 at *
  clear hW
  refine (parts_rtl (Rtl.mk2 HT2.out HU2.out HD2.out) HK1.out).mono ?_
  rintro e w26 ⟨v, u, rfl, hv, hu, hb⟩
  obtain ⟨s5, p5, n5, c5, rfl⟩ := hv.opened
  obtain ⟨s6, p6, n6, c6, rfl⟩ := hu.opened
  replace XR := nx XR hb
  replace XA := bx XA hb
  replace XB := bx XB hb
  replace HA := wl HA hb
  replace HB := wl HB hb
  replace B := bb B hb
  clear cc21a cc21b cc21c cc21d cc22a cc22b cc22c cc22d cc23a cc23b cc24a cc24b
  have HC := hid hv
  have HE := hid hu
  clear hb hv hu
  have hb27 := (Below.refl _ _).alloc (Nat.le_refl w26.heap.size) (.cells #[.bool s5, .slice p5 n5 c5] 49)
  have hx28 := Box.new w26 s5 p5 n5 c5
  have L1 := hid XB.out.lt
  replace XR := nx XR hb27
  replace XA := bx XA hb27
  replace XB := bx XB hb27
  replace HA := wl HA hb27
  replace HB := wl HB hb27
  replace HC := wl HC hb27
  replace HE := wl HE hb27
  replace B := bb B hb27
  have XC := hid hx28
  have hs29 : (w26.alloc (.cells #[.bool s5, .slice p5 n5 c5] 49)).heap.size = w26.heap.size + 1 := by simp
  clear hb27 hx28
  have hb30 := (Below.refl _ _).alloc (Nat.le_refl (w26.alloc (.cells #[.bool s5, .slice p5 n5 c5] 49)).heap.size) (.cells #[.bool s6, .slice p6 n6 c6] 49)
  have hx31 := Box.new (w26.alloc (.cells #[.bool s5, .slice p5 n5 c5] 49)) s6 p6 n6 c6
  rw [hs29] at hx31
  replace XR := nx XR hb30
  replace XA := bx XA hb30
  replace XB := bx XB hb30
  replace XC := bx XC hb30
  replace HA := wl HA hb30
  replace HB := wl HB hb30
  replace HC := wl HC hb30
  replace HE := wl HE hb30
  replace B := bb B hb30
  have XD := hid hx31
  have hs32 : ((w26.alloc (.cells #[.bool s5, .slice p5 n5 c5] 49)).alloc (.cells #[.bool s6, .slice p6 n6 c6] 49)).heap.size = w26.heap.size + 1 + 1 := by simp [hs29]
  clear hb30 hx31
  obtain ⟨cc33a, cc33b, cc33c, cc33d⟩ := XR.out.cells
  obtain ⟨cc34a, cc34b⟩ := XA.out.both
  obtain ⟨cc35a, cc35b⟩ := XB.out.both
  obtain ⟨cc36a, cc36b⟩ := XC.out.both
  obtain ⟨cc37a, cc37b⟩ := XD.out.both
  go_wp2_with fail
  generalize hW : (w26.alloc (.cells #[.bool s5, .slice p5 n5 c5] 49)).alloc (.cells #[.bool s6, .slice p6 n6 c6] 49) = W38 at *
  clear hW
  clear cc33a cc33b cc33c cc33d cc34a cc34b cc35a cc35b cc36a cc36b cc37a cc37b
  clear HT1 HU1 HT2 HU2 X1 X2
  refine region_ops (by kernel_rfl) (by kernel_rfl) (fun a f a' w' => ∃ u9 u10 u21 u22 u23 u24 u25 u26 u27 u28 u29 u30 v9 : Value, a' = { tmps := ((((((((((((a.tmps.setIfInBounds 9 u9).setIfInBounds 10 u10).setIfInBounds 21 u21).setIfInBounds 22 u22).setIfInBounds 23 u23).setIfInBounds 24 u24).setIfInBounds 25 u25).setIfInBounds 26 u26).setIfInBounds 27 u27).setIfInBounds 28 u28).setIfInBounds 29 u29).setIfInBounds 30 u30), defers := a.defers } ∧ Hid (Below W38.heap.size W38 w') ∧ Hid (f 0 = true → u22 = (.agg #[.bool s3, .slice p3 n3 c3])) ∧ Hid (f 1 = true → u23 = (.agg #[.bool s5, .slice p5 n5 c5])) ∧ Hid (f 2 = true → Whl w' u24 (q.num + r.num) (k + 1)) ∧ Hid (f 3 = true → u25 = (.agg #[.bool s4, .slice p4 n4 c4])) ∧ Hid (f 4 = true → u26 = (.agg #[.bool s6, .slice p6 n6 c6])) ∧ Hid (f 5 = true → Whl w' u27 ((q.den : Int) + r.den) (k + 1)) ∧ Hid (f 6 = true → (u28 = .tuple #[v9, .nilIface] ∧ Rtl w' v9 (med q r) (k + 1))) ∧ Hid (f 7 = true → u21 = .tuple #[v9, .nilIface]) ∧ Hid (f 8 = true → u29 = v9) ∧ Hid (f 9 = true → u30 = .nilIface) ∧ Hid (f 10 = true → NewN W38 w' u9 (f 11) v9) ∧ Hid (f 12 = true → u10 = .nilIface) ∧ (f 7 = true → f 6 = true) ∧ (f 8 = true → f 7 = true) ∧ (f 9 = true → f 7 = true) ∧ (f 11 = true → f 10 = true) ∧ (f 11 = true → f 8 = true)) ?h0 ⟨?s0, ?s1, ?s2, ?s3, ?s4, ?s5, ?s6, ?s7, ?s8, ?s9, ?s10, ?s11, ?s12, trivial⟩ ?hend
  case h0 =>
    simp only [List.setIfInBounds_toArray, List.set_cons_zero, List.set_cons_succ]
    exact ⟨_, _, _, _, _, _, _, _, _, _, _, _, .nilIface, rfl, hid (Below.drew (Below.refl _ _)), hid (fun h => by cases h), hid (fun h => by cases h), hid (fun h => by cases h), hid (fun h => by cases h), hid (fun h => by cases h), hid (fun h => by cases h), hid (fun h => by cases h), hid (fun h => by cases h), hid (fun h => by cases h), hid (fun h => by cases h), hid (fun h => by cases h), hid (fun h => by cases h), fun h => h, fun h => h, fun h => h, fun h => h, fun h => h⟩
  case s0 =>
    rintro f a1 w1 ⟨u9, u10, u21, u22, u23, u24, u25, u26, u27, u28, u29, u30, v9, rfl, HBW, h0, h1, h2, h3, h4, h5, h6, h7, h8, h9, h10, h12, o7_6, o8_7, o9_7, o11_10, o11_8⟩ hf hd K hK
    simp only [List.setIfInBounds_toArray, List.set_cons_zero, List.set_cons_succ] at hK ⊢
    replace hK := hid hK
    obtain ⟨c1, c2⟩ := (XA.out.below HBW.out XA.out.lt).both
    go_simp
    exact hK.out _ _ ⟨_, _, _, _, _, _, _, _, _, _, _, _, v9, rfl, HBW, hid (fun h => rfl), hid (fun h => h1.out h), hid (fun h => h2.out h), hid (fun h => h3.out h), hid (fun h => h4.out h), hid (fun h => h5.out h), hid (fun h => h6.out h), hid (fun h => h7.out h), hid (fun h => h8.out h), hid (fun h => h9.out h), hid (fun h => h10.out h), hid (fun h => h12.out h), fun h => o7_6 h, fun h => o8_7 h, fun h => o9_7 h, fun h => o11_10 h, fun h => o11_8 h⟩
  case s1 =>
    rintro f a1 w1 ⟨u9, u10, u21, u22, u23, u24, u25, u26, u27, u28, u29, u30, v9, rfl, HBW, h0, h1, h2, h3, h4, h5, h6, h7, h8, h9, h10, h12, o7_6, o8_7, o9_7, o11_10, o11_8⟩ hf hd K hK
    simp only [List.setIfInBounds_toArray, List.set_cons_zero, List.set_cons_succ] at hK ⊢
    replace hK := hid hK
    obtain ⟨c1, c2⟩ := (XC.out.below HBW.out XC.out.lt).both
    go_simp
    exact hK.out _ _ ⟨_, _, _, _, _, _, _, _, _, _, _, _, v9, rfl, HBW, hid (fun h => h0.out h), hid (fun h => rfl), hid (fun h => h2.out h), hid (fun h => h3.out h), hid (fun h => h4.out h), hid (fun h => h5.out h), hid (fun h => h6.out h), hid (fun h => h7.out h), hid (fun h => h8.out h), hid (fun h => h9.out h), hid (fun h => h10.out h), hid (fun h => h12.out h), fun h => o7_6 h, fun h => o8_7 h, fun h => o9_7 h, fun h => o11_10 h, fun h => o11_8 h⟩
  case s2 =>
    rintro f a1 w1 ⟨u9, u10, u21, u22, u23, u24, u25, u26, u27, u28, u29, u30, v9, rfl, HBW, h0, h1, h2, h3, h4, h5, h6, h7, h8, h9, h10, h12, o7_6, o8_7, o9_7, o11_10, o11_8⟩ hf hd K hK
    simp only [List.setIfInBounds_toArray, List.set_cons_zero, List.set_cons_succ] at hK ⊢
    replace hK := hid hK
    simp [Region.binds] at hd
    obtain rfl := h0.out hd.1
    obtain rfl := h1.out hd.2
    go_simp
    refine (add_whl (HA.out.below HBW.out (Nat.le_refl _)) (HC.out.below HBW.out (Nat.le_refl _)) (by have := HK.out; omega) (by have := HK.out; omega)).mono ?_
    rintro e w2 ⟨v, rfl, hv, hb⟩
    go_wp2_with fail
    exact hK.out _ _ ⟨_, _, _, _, _, _, _, _, _, _, _, _, v9, rfl, hid (below_next HBW.out hb), hid (fun h => rfl), hid (fun h => rfl), hid (fun h => by simpa using hv), hid (fun h => h3.out h), hid (fun h => h4.out h), hid (fun h => (h5.out h).on hb), hid (fun h => ⟨(h6.out h).1, (h6.out h).2.on hb⟩), hid (fun h => h7.out h), hid (fun h => h8.out h), hid (fun h => h9.out h), hid (fun h => (h10.out h).on hb), hid (fun h => h12.out h), fun h => o7_6 h, fun h => o8_7 h, fun h => o9_7 h, fun h => o11_10 h, fun h => o11_8 h⟩
  case s3 =>
    rintro f a1 w1 ⟨u9, u10, u21, u22, u23, u24, u25, u26, u27, u28, u29, u30, v9, rfl, HBW, h0, h1, h2, h3, h4, h5, h6, h7, h8, h9, h10, h12, o7_6, o8_7, o9_7, o11_10, o11_8⟩ hf hd K hK
    simp only [List.setIfInBounds_toArray, List.set_cons_zero, List.set_cons_succ] at hK ⊢
    replace hK := hid hK
    obtain ⟨c1, c2⟩ := (XB.out.below HBW.out XB.out.lt).both
    go_simp
    exact hK.out _ _ ⟨_, _, _, _, _, _, _, _, _, _, _, _, v9, rfl, HBW, hid (fun h => h0.out h), hid (fun h => h1.out h), hid (fun h => h2.out h), hid (fun h => rfl), hid (fun h => h4.out h), hid (fun h => h5.out h), hid (fun h => h6.out h), hid (fun h => h7.out h), hid (fun h => h8.out h), hid (fun h => h9.out h), hid (fun h => h10.out h), hid (fun h => h12.out h), fun h => o7_6 h, fun h => o8_7 h, fun h => o9_7 h, fun h => o11_10 h, fun h => o11_8 h⟩
  case s4 =>
    rintro f a1 w1 ⟨u9, u10, u21, u22, u23, u24, u25, u26, u27, u28, u29, u30, v9, rfl, HBW, h0, h1, h2, h3, h4, h5, h6, h7, h8, h9, h10, h12, o7_6, o8_7, o9_7, o11_10, o11_8⟩ hf hd K hK
    simp only [List.setIfInBounds_toArray, List.set_cons_zero, List.set_cons_succ] at hK ⊢
    replace hK := hid hK
    obtain ⟨c1, c2⟩ := (XD.out.below HBW.out XD.out.lt).both
    go_simp
    exact hK.out _ _ ⟨_, _, _, _, _, _, _, _, _, _, _, _, v9, rfl, HBW, hid (fun h => h0.out h), hid (fun h => h1.out h), hid (fun h => h2.out h), hid (fun h => h3.out h), hid (fun h => rfl), hid (fun h => h5.out h), hid (fun h => h6.out h), hid (fun h => h7.out h), hid (fun h => h8.out h), hid (fun h => h9.out h), hid (fun h => h10.out h), hid (fun h => h12.out h), fun h => o7_6 h, fun h => o8_7 h, fun h => o9_7 h, fun h => o11_10 h, fun h => o11_8 h⟩
  case s5 =>
    rintro f a1 w1 ⟨u9, u10, u21, u22, u23, u24, u25, u26, u27, u28, u29, u30, v9, rfl, HBW, h0, h1, h2, h3, h4, h5, h6, h7, h8, h9, h10, h12, o7_6, o8_7, o9_7, o11_10, o11_8⟩ hf hd K hK
    simp only [List.setIfInBounds_toArray, List.set_cons_zero, List.set_cons_succ] at hK ⊢
    replace hK := hid hK
    simp [Region.binds] at hd
    obtain rfl := h3.out hd.1
    obtain rfl := h4.out hd.2.1
    go_simp
    refine (add_whl (HB.out.below HBW.out (Nat.le_refl _)) (HE.out.below HBW.out (Nat.le_refl _)) (by have := HK.out; omega) (by have := HK.out; omega)).mono ?_
    rintro e w2 ⟨v, rfl, hv, hb⟩
    go_wp2_with fail
    exact hK.out _ _ ⟨_, _, _, _, _, _, _, _, _, _, _, _, v9, rfl, hid (below_next HBW.out hb), hid (fun h => h0.out h), hid (fun h => h1.out h), hid (fun h => (h2.out h).on hb), hid (fun h => rfl), hid (fun h => rfl), hid (fun h => by simpa using hv), hid (fun h => ⟨(h6.out h).1, (h6.out h).2.on hb⟩), hid (fun h => h7.out h), hid (fun h => h8.out h), hid (fun h => h9.out h), hid (fun h => (h10.out h).on hb), hid (fun h => h12.out h), fun h => o7_6 h, fun h => o8_7 h, fun h => o9_7 h, fun h => o11_10 h, fun h => o11_8 h⟩
  case s6 =>
    rintro f a1 w1 ⟨u9, u10, u21, u22, u23, u24, u25, u26, u27, u28, u29, u30, v9, rfl, HBW, h0, h1, h2, h3, h4, h5, h6, h7, h8, h9, h10, h12, o7_6, o8_7, o9_7, o11_10, o11_8⟩ hf hd K hK
    simp only [List.setIfInBounds_toArray, List.set_cons_zero, List.set_cons_succ] at hK ⊢
    replace hK := hid hK
    simp [Region.binds] at hd
    go_simp
    refine (quot_some (h2.out hd.1) (h5.out hd.2) (by have := q.den_pos; omega) (by have := HK.out; omega)).mono ?_
    rintro e w2 ⟨v, rfl, hv, hb⟩
    go_wp2_with fail
    exact hK.out _ _ ⟨_, _, _, _, _, _, _, _, _, _, _, _, v, rfl, hid (below_next HBW.out hb), hid (fun h => h0.out h), hid (fun h => h1.out h), hid (fun h => (h2.out h).on hb), hid (fun h => h3.out h), hid (fun h => h4.out h), hid (fun h => (h5.out h).on hb), hid (fun h => ⟨rfl, hv⟩), hid (fun h => absurd (o7_6 h) (by rw [hf]; decide)), hid (fun h => absurd (o7_6 (o8_7 h)) (by rw [hf]; decide)), hid (fun h => h9.out h), hid (fun h => ((h10.out h).on hb).free (by cases e : f 11 with | false => rfl | true => exact absurd (o7_6 (o8_7 (o11_8 e))) (by rw [hf]; decide))), hid (fun h => h12.out h), fun _ => rfl, fun h => o8_7 h, fun h => o9_7 h, fun h => o11_10 h, fun h => o11_8 h⟩
  case s7 =>
    rintro f a1 w1 ⟨u9, u10, u21, u22, u23, u24, u25, u26, u27, u28, u29, u30, v9, rfl, HBW, h0, h1, h2, h3, h4, h5, h6, h7, h8, h9, h10, h12, o7_6, o8_7, o9_7, o11_10, o11_8⟩ hf hd K hK
    simp only [List.setIfInBounds_toArray, List.set_cons_zero, List.set_cons_succ] at hK ⊢
    replace hK := hid hK
    simp [Region.binds] at hd
    obtain ⟨rfl, e2⟩ := h6.out hd
    go_simp
    exact hK.out _ _ ⟨_, _, _, _, _, _, _, _, _, _, _, _, v9, rfl, HBW, hid (fun h => h0.out h), hid (fun h => h1.out h), hid (fun h => h2.out h), hid (fun h => h3.out h), hid (fun h => h4.out h), hid (fun h => h5.out h), hid (fun h => ⟨rfl, e2⟩), hid (fun h => rfl), hid (fun h => h8.out h), hid (fun h => h9.out h), hid (fun h => h10.out h), hid (fun h => h12.out h), fun _ => hd, fun _ => rfl, fun _ => rfl, fun h => o11_10 h, fun h => o11_8 h⟩
  case s8 =>
    rintro f a1 w1 ⟨u9, u10, u21, u22, u23, u24, u25, u26, u27, u28, u29, u30, v9, rfl, HBW, h0, h1, h2, h3, h4, h5, h6, h7, h8, h9, h10, h12, o7_6, o8_7, o9_7, o11_10, o11_8⟩ hf hd K hK
    simp only [List.setIfInBounds_toArray, List.set_cons_zero, List.set_cons_succ] at hK ⊢
    replace hK := hid hK
    simp [Region.binds] at hd
    have e1 := h7.out hd
    subst e1
    go_simp
    exact hK.out _ _ ⟨_, _, _, _, _, _, _, _, _, _, _, _, v9, rfl, HBW, hid (fun h => h0.out h), hid (fun h => h1.out h), hid (fun h => h2.out h), hid (fun h => h3.out h), hid (fun h => h4.out h), hid (fun h => h5.out h), hid (fun h => h6.out h), hid (fun h => h7.out h), hid (fun h => rfl), hid (fun h => h9.out h), hid (fun h => h10.out h), hid (fun h => h12.out h), fun h => o7_6 h, fun _ => hd, fun h => o9_7 h, fun h => o11_10 h, fun _ => rfl⟩
  case s9 =>
    rintro f a1 w1 ⟨u9, u10, u21, u22, u23, u24, u25, u26, u27, u28, u29, u30, v9, rfl, HBW, h0, h1, h2, h3, h4, h5, h6, h7, h8, h9, h10, h12, o7_6, o8_7, o9_7, o11_10, o11_8⟩ hf hd K hK
    simp only [List.setIfInBounds_toArray, List.set_cons_zero, List.set_cons_succ] at hK ⊢
    replace hK := hid hK
    simp [Region.binds] at hd
    have e1 := h7.out hd
    subst e1
    go_simp
    exact hK.out _ _ ⟨_, _, _, _, _, _, _, _, _, _, _, _, v9, rfl, HBW, hid (fun h => h0.out h), hid (fun h => h1.out h), hid (fun h => h2.out h), hid (fun h => h3.out h), hid (fun h => h4.out h), hid (fun h => h5.out h), hid (fun h => h6.out h), hid (fun h => h7.out h), hid (fun h => h8.out h), hid (fun h => rfl), hid (fun h => h10.out h), hid (fun h => h12.out h), fun h => o7_6 h, fun h => o8_7 h, fun _ => hd, fun h => o11_10 h, fun h => o11_8 h⟩
  case s10 =>
    rintro f a1 w1 ⟨u9, u10, u21, u22, u23, u24, u25, u26, u27, u28, u29, u30, v9, rfl, HBW, h0, h1, h2, h3, h4, h5, h6, h7, h8, h9, h10, h12, o7_6, o8_7, o9_7, o11_10, o11_8⟩ hf hd K hK
    simp only [List.setIfInBounds_toArray, List.set_cons_zero, List.set_cons_succ] at hK ⊢
    replace hK := hid hK
    go_simp
    exact hK.out _ _ ⟨_, _, _, _, _, _, _, _, _, _, _, _, v9, rfl, hid (below_next HBW.out ((Below.refl _ _).alloc (Nat.le_refl _) _)), hid (fun h => h0.out h), hid (fun h => h1.out h), hid (fun h => (h2.out h).on ((Below.refl _ _).alloc (Nat.le_refl _) _)), hid (fun h => h3.out h), hid (fun h => h4.out h), hid (fun h => (h5.out h).on ((Below.refl _ _).alloc (Nat.le_refl _) _)), hid (fun h => ⟨(h6.out h).1, (h6.out h).2.on ((Below.refl _ _).alloc (Nat.le_refl _) _)⟩), hid (fun h => h7.out h), hid (fun h => h8.out h), hid (fun h => h9.out h), hid (fun h => ⟨w1.heap.size, rfl, HBW.out.size, fun _ => Nbx.new w1 false false _ _, fun e => absurd (o11_10 e) (by rw [hf]; decide)⟩), hid (fun h => h12.out h), fun h => o7_6 h, fun h => o8_7 h, fun h => o9_7 h, fun _ => rfl, fun h => o11_8 h⟩
  case s11 =>
    rintro f a1 w1 ⟨u9, u10, u21, u22, u23, u24, u25, u26, u27, u28, u29, u30, v9, rfl, HBW, h0, h1, h2, h3, h4, h5, h6, h7, h8, h9, h10, h12, o7_6, o8_7, o9_7, o11_10, o11_8⟩ hf hd K hK
    simp only [List.setIfInBounds_toArray, List.set_cons_zero, List.set_cons_succ] at hK ⊢
    replace hK := hid hK
    simp [Region.binds] at hd
    have e8 := h8.out hd.2.1
    subst e8
    obtain ⟨g, rfl, hg, hn, _⟩ := h10.out hd.1
    replace hn := hn hf
    have hv9 := (h6.out hd.2.2.1).2
    obtain ⟨s9a, p9a, n9a, c9a, s9b, p9b, n9b, c9b, rfl⟩ := hv9.opened
    obtain ⟨t1, d9, t2, hd9⟩ := hv9.two
    obtain ⟨⟨c1, c2⟩, ⟨c3, c4⟩, ⟨c5, c6⟩, c7, c8⟩ := hn.stores
    obtain ⟨n1, n2, n3⟩ := hn.last HBW.out hg s9a s9b p9a p9b n9a n9b c9a c9b
    have HN := hid (And.intro n1 n2)
    have HV := hid (fun v z k h => @n3 v z k h)
    have H9 := hid (Rtl.mk2 (n3 t1) (n3 t2) hd9)
    clear n1 n2 n3
    go_simp
    exact hK.out _ _ ⟨_, _, _, _, _, _, _, _, _, _, _, _, _, rfl, hid HN.out.2, hid (fun h => h0.out h), hid (fun h => h1.out h), hid (fun h => HV.out _ _ _ (h2.out h)), hid (fun h => h3.out h), hid (fun h => h4.out h), hid (fun h => HV.out _ _ _ (h5.out h)), hid (fun h => ⟨(h6.out h).1, H9.out⟩), hid (fun h => h7.out h), hid (fun h => h8.out h), hid (fun h => h9.out h), hid (fun h => ⟨g, rfl, hg, fun e => by simp [more] at e, fun _ => ⟨_, _, _, _, _, _, _, _, rfl, HN.out.1⟩⟩), hid (fun h => h12.out h), fun h => o7_6 h, fun h => o8_7 h, fun h => o9_7 h, fun _ => hd.1, fun _ => hd.2.1⟩
  case s12 =>
    rintro f a1 w1 ⟨u9, u10, u21, u22, u23, u24, u25, u26, u27, u28, u29, u30, v9, rfl, HBW, h0, h1, h2, h3, h4, h5, h6, h7, h8, h9, h10, h12, o7_6, o8_7, o9_7, o11_10, o11_8⟩ hf hd K hK
    simp only [List.setIfInBounds_toArray, List.set_cons_zero, List.set_cons_succ] at hK ⊢
    replace hK := hid hK
    simp [Region.binds] at hd
    have e1 := h9.out hd.1
    subst e1
    go_simp
    exact hK.out _ _ ⟨_, _, _, _, _, _, _, _, _, _, _, _, v9, rfl, HBW, hid (fun h => h0.out h), hid (fun h => h1.out h), hid (fun h => h2.out h), hid (fun h => h3.out h), hid (fun h => h4.out h), hid (fun h => h5.out h), hid (fun h => h6.out h), hid (fun h => h7.out h), hid (fun h => h8.out h), hid (fun h => h9.out h), hid (fun h => h10.out h), hid (fun h => rfl), fun h => o7_6 h, fun h => o8_7 h, fun h => o9_7 h, fun h => o11_10 h, fun h => o11_8 h⟩
  case hend =>
    rintro f a1 w1 ⟨u9, u10, u21, u22, u23, u24, u25, u26, u27, u28, u29, u30, v9, rfl, HBW, h0, h1, h2, h3, h4, h5, h6, h7, h8, h9, h10, h12, _⟩ hall
    simp only [List.setIfInBounds_toArray, List.set_cons_zero, List.set_cons_succ]
    have hv9 := (h6.out (hall 6 (by decide))).2
    obtain ⟨g, rfl, hg, _, hn⟩ := h10.out (hall 10 (by decide))
    obtain ⟨s9a, p9a, n9a, c9a, s9b, p9b, n9b, c9b, rfl, hn2⟩ := hn (hall 11 (by decide))
    obtain ⟨ht9, d9, hu9, hd9⟩ := hv9.two
    replace XR := nx XR HBW.out
    replace B := bb B HBW.out
    have XN := hid hn2
    have LN := hid hg
    have HT9 := hid ht9
    have HU9 := hid hu9
    have HD9 := hid hd9
    have LR := hid (show w.heap.size + 1 + 1 < W38.heap.size from (by have := L0.out; have := L1.out; omega))
    clear h0 h1 h2 h3 h4 h5 h6 h7 h8 h9 h10 h12 hall hn hn2 hg ht9 hu9 hd9 hv9 HBW
    obtain ⟨cc901a, cc901b, cc901c, cc901d⟩ := XN.out.cells
    obtain ⟨cc902a, cc902b, cc902c, cc902d⟩ := XR.out.cells
    obtain ⟨⟨cc903a, cc903b⟩, ⟨cc903c, cc903d⟩, ⟨cc903e, cc903f⟩, cc903g, cc903h⟩ := XR.out.stores
    obtain ⟨r904a, r904b, r904c⟩ := XR.out.last B.out (by have := LR.out; have := LN.out; omega) s9a s9b p9a p9b n9a n9b c9a c9b
    replace XN := hid ((((XN.out.other (g2 := w.heap.size + 1 + 1) (by have := LR.out; have := LN.out; omega) 0 (.bool s9a)).other (g2 := w.heap.size + 1 + 1) (by have := LR.out; have := LN.out; omega) 1 (.slice p9a n9a c9a)).other (g2 := w.heap.size + 1 + 1) (by have := LR.out; have := LN.out; omega) 2 (.bool s9b)).other (g2 := w.heap.size + 1 + 1) (by have := LR.out; have := LN.out; omega) 3 (.slice p9b n9b c9b))
    replace HT9 := hid (r904c HT9.out)
    replace HU9 := hid (r904c HU9.out)
    replace XR := hid r904a
    replace B := hid r904b
    clear r904a r904b r904c
    go_wp2_with fail
    refine bodyPost_ret (res_num rfl rfl XR.out) rfl ?_
    exact ⟨_, rfl, Rtl.mk2 HT9.out HU9.out HD9.out, B.out⟩

end Go.Proofs.Ytjeeepcnaaadmaa

/-
  PACKAGE cf: nearer.
-/
namespace Go.Proofs.Ytjeeepcnaaadmaa
open Go.RowKit
open Num
set_option linter.unusedVariables false
set_option maxRecDepth 100000
set_option linter.unusedSimpArgs false

set_option maxHeartbeats 8000000 in
theorem nearer_rtl {w : World} {v u t : Value} {x l r : Rat} {k : Nat} (h1 : Rtl w v x k) (h2 : Rtl w u l k) (h3 : Rtl w t r k) (hk1 : 1 ≤ k) (hk : k ≤ 4294967296) :
    Calls Try.prog 43 #[v, u, t] w fun e w' => ∃ v, e = .returned v ∧ Rtl w' v (nrq x l r) k ∧ Below w.heap.size w w' := by
  obtain ⟨s1a, p1a, n1a, c1a, s1b, p1b, n1b, c1b, rfl⟩ := h1.opened
  obtain ⟨ht1, d1, hu1, hd1⟩ := h1.two
  have HD1 := hid hd1
  obtain ⟨s2a, p2a, n2a, c2a, s2b, p2b, n2b, c2b, rfl⟩ := h2.opened
  obtain ⟨ht2, d2, hu2, hd2⟩ := h2.two
  have HD2 := hid hd2
  obtain ⟨s3a, p3a, n3a, c3a, s3b, p3b, n3b, c3b, rfl⟩ := h3.opened
  obtain ⟨ht3, d3, hu3, hd3⟩ := h3.two
  have HD3 := hid hd3
  have HK := hid hk
  have HK1 := hid hk1
  have B := hid (Below.refl w.heap.size w)
  have HT1 := hid ht1
  have HU1 := hid hu1
  have HT2 := hid ht2
  have HU2 := hid hu2
  have HT3 := hid ht3
  have HU3 := hid hu3
  have hb1 := (Below.refl _ _).alloc (Nat.le_refl w.heap.size) (.cells #[.bool s1a, .slice p1a n1a c1a, .bool s1b, .slice p1b n1b c1b] 51)
  have hx2 := Nbx.new w s1a s1b (.slice p1a n1a c1a) (.slice p1b n1b c1b)
  replace HT1 := wl HT1 hb1
  replace HU1 := wl HU1 hb1
  replace HT2 := wl HT2 hb1
  replace HU2 := wl HU2 hb1
  replace HT3 := wl HT3 hb1
  replace HU3 := wl HU3 hb1
  replace B := bb B hb1
  have X1 := hid hx2
  have hs3 : (w.alloc (.cells #[.bool s1a, .slice p1a n1a c1a, .bool s1b, .slice p1b n1b c1b] 51)).heap.size = w.heap.size + 1 := by simp
  clear hb1 hx2
  have hb4 := (Below.refl _ _).alloc (Nat.le_refl (w.alloc (.cells #[.bool s1a, .slice p1a n1a c1a, .bool s1b, .slice p1b n1b c1b] 51)).heap.size) (.cells #[.bool s2a, .slice p2a n2a c2a, .bool s2b, .slice p2b n2b c2b] 51)
  have hx5 := Nbx.new (w.alloc (.cells #[.bool s1a, .slice p1a n1a c1a, .bool s1b, .slice p1b n1b c1b] 51)) s2a s2b (.slice p2a n2a c2a) (.slice p2b n2b c2b)
  rw [hs3] at hx5
  replace X1 := nx X1 hb4
  replace HT1 := wl HT1 hb4
  replace HU1 := wl HU1 hb4
  replace HT2 := wl HT2 hb4
  replace HU2 := wl HU2 hb4
  replace HT3 := wl HT3 hb4
  replace HU3 := wl HU3 hb4
  replace B := bb B hb4
  have X2 := hid hx5
  have hs6 : ((w.alloc (.cells #[.bool s1a, .slice p1a n1a c1a, .bool s1b, .slice p1b n1b c1b] 51)).alloc (.cells #[.bool s2a, .slice p2a n2a c2a, .bool s2b, .slice p2b n2b c2b] 51)).heap.size = w.heap.size + 1 + 1 := by simp [hs3]
  clear hb4 hx5
  have hb7 := (Below.refl _ _).alloc (Nat.le_refl ((w.alloc (.cells #[.bool s1a, .slice p1a n1a c1a, .bool s1b, .slice p1b n1b c1b] 51)).alloc (.cells #[.bool s2a, .slice p2a n2a c2a, .bool s2b, .slice p2b n2b c2b] 51)).heap.size) (.cells #[.bool s3a, .slice p3a n3a c3a, .bool s3b, .slice p3b n3b c3b] 51)
  have hx8 := Nbx.new ((w.alloc (.cells #[.bool s1a, .slice p1a n1a c1a, .bool s1b, .slice p1b n1b c1b] 51)).alloc (.cells #[.bool s2a, .slice p2a n2a c2a, .bool s2b, .slice p2b n2b c2b] 51)) s3a s3b (.slice p3a n3a c3a) (.slice p3b n3b c3b)
  rw [hs6] at hx8
  replace X1 := nx X1 hb7
  replace X2 := nx X2 hb7
  replace HT1 := wl HT1 hb7
  replace HU1 := wl HU1 hb7
  replace HT2 := wl HT2 hb7
  replace HU2 := wl HU2 hb7
  replace HT3 := wl HT3 hb7
  replace HU3 := wl HU3 hb7
  replace B := bb B hb7
  have X3 := hid hx8
  have hs9 : (((w.alloc (.cells #[.bool s1a, .slice p1a n1a c1a, .bool s1b, .slice p1b n1b c1b] 51)).alloc (.cells #[.bool s2a, .slice p2a n2a c2a, .bool s2b, .slice p2b n2b c2b] 51)).alloc (.cells #[.bool s3a, .slice p3a n3a c3a, .bool s3b, .slice p3b n3b c3b] 51)).heap.size = w.heap.size + 1 + 1 + 1 := by simp [hs6]
  clear hb7 hx8
  have hb10 := (Below.refl _ _).alloc (Nat.le_refl (((w.alloc (.cells #[.bool s1a, .slice p1a n1a c1a, .bool s1b, .slice p1b n1b c1b] 51)).alloc (.cells #[.bool s2a, .slice p2a n2a c2a, .bool s2b, .slice p2b n2b c2b] 51)).alloc (.cells #[.bool s3a, .slice p3a n3a c3a, .bool s3b, .slice p3b n3b c3b] 51)).heap.size) (.cells #[.bool false, .slice none 0 0, .bool false, .slice none 0 0] 51)
  have hx11 := Nbx.new (((w.alloc (.cells #[.bool s1a, .slice p1a n1a c1a, .bool s1b, .slice p1b n1b c1b] 51)).alloc (.cells #[.bool s2a, .slice p2a n2a c2a, .bool s2b, .slice p2b n2b c2b] 51)).alloc (.cells #[.bool s3a, .slice p3a n3a c3a, .bool s3b, .slice p3b n3b c3b] 51)) false false (.slice none 0 0) (.slice none 0 0)
  rw [hs9] at hx11
  replace X1 := nx X1 hb10
  replace X2 := nx X2 hb10
  replace X3 := nx X3 hb10
  replace HT1 := wl HT1 hb10
  replace HU1 := wl HU1 hb10
  replace HT2 := wl HT2 hb10
  replace HU2 := wl HU2 hb10
  replace HT3 := wl HT3 hb10
  replace HU3 := wl HU3 hb10
  replace B := bb B hb10
  have XR := hid hx11
  have hs12 : ((((w.alloc (.cells #[.bool s1a, .slice p1a n1a c1a, .bool s1b, .slice p1b n1b c1b] 51)).alloc (.cells #[.bool s2a, .slice p2a n2a c2a, .bool s2b, .slice p2b n2b c2b] 51)).alloc (.cells #[.bool s3a, .slice p3a n3a c3a, .bool s3b, .slice p3b n3b c3b] 51)).alloc (.cells #[.bool false, .slice none 0 0, .bool false, .slice none 0 0] 51)).heap.size = w.heap.size + 1 + 1 + 1 + 1 := by simp [hs9]
  clear hb10 hx11
  clear hs12 h1 h2 h3 ht1 hu1 ht2 hu2 ht3 hu3 hd1 hd2 hd3 hk hk1
  go_enter Try.func43, Try.ntmps43
  obtain ⟨cc13a, cc13b, cc13c, cc13d⟩ := X1.out.cells
  obtain ⟨cc14a, cc14b, cc14c, cc14d⟩ := X2.out.cells
  obtain ⟨cc15a, cc15b, cc15c, cc15d⟩ := X3.out.cells
  obtain ⟨cc16a, cc16b, cc16c, cc16d⟩ := XR.out.cells
  go_wp2_with fail
  generalize hW : (((w.alloc (.cells #[.bool s1a, .slice p1a n1a c1a, .bool s1b, .slice p1b n1b c1b] 51)).alloc (.cells #[.bool s2a, .slice p2a n2a c2a, .bool s2b, .slice p2b n2b c2b] 51)).alloc (.cells #[.bool s3a, .slice p3a n3a c3a, .bool s3b, .slice p3b n3b c3b] 51)).alloc (.cells #[.bool false, .slice none 0 0, .bool false, .slice none 0 0] 51) = W17 at *
  clear hW
  refine (parts_rtl (Rtl.mk2 HT2.out HU2.out HD2.out) HK1.out).mono ?_
  rintro e w18 ⟨v, u, rfl, hv, hu, hb⟩
  obtain ⟨s4, p4, n4, c4, rfl⟩ := hv.opened
  obtain ⟨s5, p5, n5, c5, rfl⟩ := hu.opened
  replace X1 := nx X1 hb
  replace X2 := nx X2 hb
  replace X3 := nx X3 hb
  replace XR := nx XR hb
  replace HT1 := wl HT1 hb
  replace HU1 := wl HU1 hb
  replace HT2 := wl HT2 hb
  replace HU2 := wl HU2 hb
  replace HT3 := wl HT3 hb
  replace HU3 := wl HU3 hb
  replace B := bb B hb
  clear cc13a cc13b cc13c cc13d cc14a cc14b cc14c cc14d cc15a cc15b cc15c cc15d cc16a cc16b cc16c cc16d
  have HA := hid hv
  have HB := hid hu
  clear hb hv hu
  have hb19 := (Below.refl _ _).alloc (Nat.le_refl w18.heap.size) (.cells #[.bool s4, .slice p4 n4 c4] 49)
  have hx20 := Box.new w18 s4 p4 n4 c4
  have L0 := hid XR.out.lt
  replace X1 := nx X1 hb19
  replace X2 := nx X2 hb19
  replace X3 := nx X3 hb19
  replace XR := nx XR hb19
  replace HT1 := wl HT1 hb19
  replace HU1 := wl HU1 hb19
  replace HT2 := wl HT2 hb19
  replace HU2 := wl HU2 hb19
  replace HT3 := wl HT3 hb19
  replace HU3 := wl HU3 hb19
  replace HB := wl HB hb19
  replace B := bb B hb19
  have XA := hid hx20
  have hs21 : (w18.alloc (.cells #[.bool s4, .slice p4 n4 c4] 49)).heap.size = w18.heap.size + 1 := by simp
  clear hb19 hx20
  have hb22 := (Below.refl _ _).alloc (Nat.le_refl (w18.alloc (.cells #[.bool s4, .slice p4 n4 c4] 49)).heap.size) (.cells #[.bool s5, .slice p5 n5 c5] 49)
  have hx23 := Box.new (w18.alloc (.cells #[.bool s4, .slice p4 n4 c4] 49)) s5 p5 n5 c5
  rw [hs21] at hx23
  replace X1 := nx X1 hb22
  replace X2 := nx X2 hb22
  replace X3 := nx X3 hb22
  replace XR := nx XR hb22
  replace XA := bx XA hb22
  replace HT1 := wl HT1 hb22
  replace HU1 := wl HU1 hb22
  replace HT2 := wl HT2 hb22
  replace HU2 := wl HU2 hb22
  replace HT3 := wl HT3 hb22
  replace HU3 := wl HU3 hb22
  replace HB := wl HB hb22
  replace B := bb B hb22
  have XB := hid hx23
  have hs24 : ((w18.alloc (.cells #[.bool s4, .slice p4 n4 c4] 49)).alloc (.cells #[.bool s5, .slice p5 n5 c5] 49)).heap.size = w18.heap.size + 1 + 1 := by simp [hs21]
  clear hb22 hx23
  obtain ⟨cc25a, cc25b, cc25c, cc25d⟩ := X1.out.cells
  obtain ⟨cc26a, cc26b, cc26c, cc26d⟩ := X2.out.cells
  obtain ⟨cc27a, cc27b, cc27c, cc27d⟩ := X3.out.cells
  obtain ⟨cc28a, cc28b, cc28c, cc28d⟩ := XR.out.cells
  obtain ⟨cc29a, cc29b⟩ := XA.out.both
  obtain ⟨cc30a, cc30b⟩ := XB.out.both
  go_wp2_with fail
  generalize hW : (w18.alloc (.cells #[.bool s4, .slice p4 n4 c4] 49)).alloc (.cells #[.bool s5, .slice p5 n5 c5] 49) = W31 at *
  clear hW
  refine (parts_rtl (Rtl.mk2 HT3.out HU3.out HD3.out) HK1.out).mono ?_
  rintro e w32 ⟨v, u, rfl, hv, hu, hb⟩
  obtain ⟨s6, p6, n6, c6, rfl⟩ := hv.opened
  obtain ⟨s7, p7, n7, c7, rfl⟩ := hu.opened
  replace X1 := nx X1 hb
  replace X2 := nx X2 hb
  replace X3 := nx X3 hb
  replace XR := nx XR hb
  replace XB := bx XB hb
  replace HT1 := wl HT1 hb
  replace HU1 := wl HU1 hb
  replace HT2 := wl HT2 hb
  replace HU2 := wl HU2 hb
  replace HT3 := wl HT3 hb
  replace HU3 := wl HU3 hb
  replace HB := wl HB hb
  replace B := bb B hb
  clear cc25a cc25b cc25c cc25d cc26a cc26b cc26c cc26d cc27a cc27b cc27c cc27d cc28a cc28b cc28c cc28d cc29a cc29b cc30a cc30b
  have HC := hid hv
  have HD := hid hu
  clear hb hv hu
  have hb33 := (Below.refl _ _).alloc (Nat.le_refl w32.heap.size) (.cells #[.bool s6, .slice p6 n6 c6] 49)
  have hx34 := Box.new w32 s6 p6 n6 c6
  have L1 := hid XB.out.lt
  replace X1 := nx X1 hb33
  replace X2 := nx X2 hb33
  replace X3 := nx X3 hb33
  replace XR := nx XR hb33
  replace XB := bx XB hb33
  replace HT1 := wl HT1 hb33
  replace HU1 := wl HU1 hb33
  replace HT2 := wl HT2 hb33
  replace HU2 := wl HU2 hb33
  replace HT3 := wl HT3 hb33
  replace HU3 := wl HU3 hb33
  replace HB := wl HB hb33
  replace HD := wl HD hb33
  replace B := bb B hb33
  have XC := hid hx34
  have hs35 : (w32.alloc (.cells #[.bool s6, .slice p6 n6 c6] 49)).heap.size = w32.heap.size + 1 := by simp
  clear hb33 hx34
  have hb36 := (Below.refl _ _).alloc (Nat.le_refl (w32.alloc (.cells #[.bool s6, .slice p6 n6 c6] 49)).heap.size) (.cells #[.bool s7, .slice p7 n7 c7] 49)
  have hx37 := Box.new (w32.alloc (.cells #[.bool s6, .slice p6 n6 c6] 49)) s7 p7 n7 c7
  rw [hs35] at hx37
  replace X1 := nx X1 hb36
  replace X2 := nx X2 hb36
  replace X3 := nx X3 hb36
  replace XR := nx XR hb36
  replace XB := bx XB hb36
  replace XC := bx XC hb36
  replace HT1 := wl HT1 hb36
  replace HU1 := wl HU1 hb36
  replace HT2 := wl HT2 hb36
  replace HU2 := wl HU2 hb36
  replace HT3 := wl HT3 hb36
  replace HU3 := wl HU3 hb36
  replace HB := wl HB hb36
  replace HD := wl HD hb36
  replace B := bb B hb36
  have XD := hid hx37
  have hs38 : ((w32.alloc (.cells #[.bool s6, .slice p6 n6 c6] 49)).alloc (.cells #[.bool s7, .slice p7 n7 c7] 49)).heap.size = w32.heap.size + 1 + 1 := by simp [hs35]
  clear hb36 hx37
  obtain ⟨cc39a, cc39b, cc39c, cc39d⟩ := X1.out.cells
  obtain ⟨cc40a, cc40b, cc40c, cc40d⟩ := X2.out.cells
  obtain ⟨cc41a, cc41b, cc41c, cc41d⟩ := X3.out.cells
  obtain ⟨cc42a, cc42b, cc42c, cc42d⟩ := XR.out.cells
  obtain ⟨cc43a, cc43b⟩ := XB.out.both
  obtain ⟨cc44a, cc44b⟩ := XC.out.both
  obtain ⟨cc45a, cc45b⟩ := XD.out.both
  go_wp2_with fail
  generalize hW : (w32.alloc (.cells #[.bool s6, .slice p6 n6 c6] 49)).alloc (.cells #[.bool s7, .slice p7 n7 c7] 49) = W46 at *
  clear hW
  clear cc39a cc39b cc39c cc39d cc40a cc40b cc40c cc40d cc41a cc41b cc41c cc41d cc42a cc42b cc42c cc42d cc43a cc43b cc44a cc44b cc45a cc45b
  clear HA HC XA XC
  have LQ := hid XR.out.lt
  refine region_ops (by kernel_rfl) (by kernel_rfl) (fun a f a' w' => ∃ u11 u12 u23 u24 u25 u26 u27 u28 : Value, a' = { tmps := ((((((((a.tmps.setIfInBounds 11 u11).setIfInBounds 12 u12).setIfInBounds 23 u23).setIfInBounds 24 u24).setIfInBounds 25 u25).setIfInBounds 26 u26).setIfInBounds 27 u27).setIfInBounds 28 u28), defers := a.defers } ∧ Hid (Below W46.heap.size W46 w') ∧ Hid (f 0 = true → u23 = (.agg #[.bool s1a, .slice p1a n1a c1a, .bool s1b, .slice p1b n1b c1b])) ∧ Hid (f 1 = true → u24 = (.agg #[.bool s1a, .slice p1a n1a c1a, .bool s1b, .slice p1b n1b c1b])) ∧ Hid (f 2 = true → Rtl w' u25 (x + x) (k + k + 1)) ∧ Hid (f 3 = true → u26 = (.agg #[.bool s2a, .slice p2a n2a c2a, .bool s2b, .slice p2b n2b c2b])) ∧ Hid (f 4 = true → u27 = (.agg #[.bool s3a, .slice p3a n3a c3a, .bool s3b, .slice p3b n3b c3b])) ∧ Hid (f 5 = true → Rtl w' u28 (l + r) (k + k + 1)) ∧ Hid (f 6 = true → NewN W46 w' u11 (f 8) u25) ∧ Hid (f 7 = true → NewN W46 w' u12 (f 9) u28) ∧ (f 8 = true → f 6 = true) ∧ (f 8 = true → f 2 = true) ∧ (f 9 = true → f 7 = true) ∧ (f 9 = true → f 5 = true) ∧ (f 6 = true → f 7 = true → u11 ≠ u12)) ?h0 ⟨?s0, ?s1, ?s2, ?s3, ?s4, ?s5, ?s6, ?s7, ?s8, ?s9, trivial⟩ ?hend
  case h0 =>
    simp only [List.setIfInBounds_toArray, List.set_cons_zero, List.set_cons_succ]
    exact ⟨_, _, _, _, _, _, _, _, rfl, hid (Below.drew (Below.refl _ _)), hid (fun h => by cases h), hid (fun h => by cases h), hid (fun h => by cases h), hid (fun h => by cases h), hid (fun h => by cases h), hid (fun h => by cases h), hid (fun h => by cases h), hid (fun h => by cases h), fun h => h, fun h => h, fun h => h, fun h => h, fun h => by cases h⟩
  case s0 =>
    rintro f a1 w1 ⟨u11, u12, u23, u24, u25, u26, u27, u28, rfl, HBW, h0, h1, h2, h3, h4, h5, h6, h7, o8_6, o8_2, o9_7, o9_5, hne⟩ hf hd K hK
    simp only [List.setIfInBounds_toArray, List.set_cons_zero, List.set_cons_succ] at hK ⊢
    replace hK := hid hK
    obtain ⟨c1, c2, c3, c4⟩ := (X1.out.below HBW.out X1.out.lt).cells
    go_simp
    exact hK.out _ _ ⟨_, _, _, _, _, _, _, _, rfl, HBW, hid (fun h => rfl), hid (fun h => h1.out h), hid (fun h => h2.out h), hid (fun h => h3.out h), hid (fun h => h4.out h), hid (fun h => h5.out h), hid (fun h => h6.out h), hid (fun h => h7.out h), fun h => o8_6 h, fun h => o8_2 h, fun h => o9_7 h, fun h => o9_5 h, fun h => hne h⟩
  case s1 =>
    rintro f a1 w1 ⟨u11, u12, u23, u24, u25, u26, u27, u28, rfl, HBW, h0, h1, h2, h3, h4, h5, h6, h7, o8_6, o8_2, o9_7, o9_5, hne⟩ hf hd K hK
    simp only [List.setIfInBounds_toArray, List.set_cons_zero, List.set_cons_succ] at hK ⊢
    replace hK := hid hK
    obtain ⟨c1, c2, c3, c4⟩ := (X1.out.below HBW.out X1.out.lt).cells
    go_simp
    exact hK.out _ _ ⟨_, _, _, _, _, _, _, _, rfl, HBW, hid (fun h => h0.out h), hid (fun h => rfl), hid (fun h => h2.out h), hid (fun h => h3.out h), hid (fun h => h4.out h), hid (fun h => h5.out h), hid (fun h => h6.out h), hid (fun h => h7.out h), fun h => o8_6 h, fun h => o8_2 h, fun h => o9_7 h, fun h => o9_5 h, fun h => hne h⟩
  case s2 =>
    rintro f a1 w1 ⟨u11, u12, u23, u24, u25, u26, u27, u28, rfl, HBW, h0, h1, h2, h3, h4, h5, h6, h7, o8_6, o8_2, o9_7, o9_5, hne⟩ hf hd K hK
    simp only [List.setIfInBounds_toArray, List.set_cons_zero, List.set_cons_succ] at hK ⊢
    replace hK := hid hK
    simp [Region.binds] at hd
    obtain rfl := h0.out hd.1
    obtain rfl := h1.out hd.2
    go_simp
    refine (addq_rtl (Rtl.mk2 (HT1.out.below HBW.out (Nat.le_refl _)) (HU1.out.below HBW.out (Nat.le_refl _)) HD1.out) (Rtl.mk2 (HT1.out.below HBW.out (Nat.le_refl _)) (HU1.out.below HBW.out (Nat.le_refl _)) HD1.out) HK1.out (by have := HK.out; omega)).mono ?_
    rintro e w2 ⟨v, rfl, hv, hb⟩
    go_wp2_with fail
    exact hK.out _ _ ⟨_, _, _, _, _, _, _, _, rfl, hid (below_next HBW.out hb), hid (fun h => rfl), hid (fun h => rfl), hid (fun h => hv), hid (fun h => h3.out h), hid (fun h => h4.out h), hid (fun h => (h5.out h).on hb), hid (fun h => ((h6.out h).on hb).free (by cases e : f 8 with | false => rfl | true => exact absurd (o8_2 e) (by rw [hf]; decide))), hid (fun h => (h7.out h).on hb), fun h => o8_6 h, fun _ => rfl, fun h => o9_7 h, fun h => o9_5 h, fun h => hne h⟩
  case s3 =>
    rintro f a1 w1 ⟨u11, u12, u23, u24, u25, u26, u27, u28, rfl, HBW, h0, h1, h2, h3, h4, h5, h6, h7, o8_6, o8_2, o9_7, o9_5, hne⟩ hf hd K hK
    simp only [List.setIfInBounds_toArray, List.set_cons_zero, List.set_cons_succ] at hK ⊢
    replace hK := hid hK
    obtain ⟨c1, c2, c3, c4⟩ := (X2.out.below HBW.out X2.out.lt).cells
    go_simp
    exact hK.out _ _ ⟨_, _, _, _, _, _, _, _, rfl, HBW, hid (fun h => h0.out h), hid (fun h => h1.out h), hid (fun h => h2.out h), hid (fun h => rfl), hid (fun h => h4.out h), hid (fun h => h5.out h), hid (fun h => h6.out h), hid (fun h => h7.out h), fun h => o8_6 h, fun h => o8_2 h, fun h => o9_7 h, fun h => o9_5 h, fun h => hne h⟩
  case s4 =>
    rintro f a1 w1 ⟨u11, u12, u23, u24, u25, u26, u27, u28, rfl, HBW, h0, h1, h2, h3, h4, h5, h6, h7, o8_6, o8_2, o9_7, o9_5, hne⟩ hf hd K hK
    simp only [List.setIfInBounds_toArray, List.set_cons_zero, List.set_cons_succ] at hK ⊢
    replace hK := hid hK
    obtain ⟨c1, c2, c3, c4⟩ := (X3.out.below HBW.out X3.out.lt).cells
    go_simp
    exact hK.out _ _ ⟨_, _, _, _, _, _, _, _, rfl, HBW, hid (fun h => h0.out h), hid (fun h => h1.out h), hid (fun h => h2.out h), hid (fun h => h3.out h), hid (fun h => rfl), hid (fun h => h5.out h), hid (fun h => h6.out h), hid (fun h => h7.out h), fun h => o8_6 h, fun h => o8_2 h, fun h => o9_7 h, fun h => o9_5 h, fun h => hne h⟩
  case s5 =>
    rintro f a1 w1 ⟨u11, u12, u23, u24, u25, u26, u27, u28, rfl, HBW, h0, h1, h2, h3, h4, h5, h6, h7, o8_6, o8_2, o9_7, o9_5, hne⟩ hf hd K hK
    simp only [List.setIfInBounds_toArray, List.set_cons_zero, List.set_cons_succ] at hK ⊢
    replace hK := hid hK
    simp [Region.binds] at hd
    obtain rfl := h3.out hd.1
    obtain rfl := h4.out hd.2.1
    go_simp
    refine (addq_rtl (Rtl.mk2 (HT2.out.below HBW.out (Nat.le_refl _)) (HU2.out.below HBW.out (Nat.le_refl _)) HD2.out) (Rtl.mk2 (HT3.out.below HBW.out (Nat.le_refl _)) (HU3.out.below HBW.out (Nat.le_refl _)) HD3.out) HK1.out (by have := HK.out; omega)).mono ?_
    rintro e w2 ⟨v, rfl, hv, hb⟩
    go_wp2_with fail
    exact hK.out _ _ ⟨_, _, _, _, _, _, _, _, rfl, hid (below_next HBW.out hb), hid (fun h => h0.out h), hid (fun h => h1.out h), hid (fun h => (h2.out h).on hb), hid (fun h => rfl), hid (fun h => rfl), hid (fun h => hv), hid (fun h => (h6.out h).on hb), hid (fun h => ((h7.out h).on hb).free (by cases e : f 9 with | false => rfl | true => exact absurd (o9_5 e) (by rw [hf]; decide))), fun h => o8_6 h, fun h => o8_2 h, fun h => o9_7 h, fun _ => rfl, fun h => hne h⟩
  case s6 =>
    rintro f a1 w1 ⟨u11, u12, u23, u24, u25, u26, u27, u28, rfl, HBW, h0, h1, h2, h3, h4, h5, h6, h7, o8_6, o8_2, o9_7, o9_5, hne⟩ hf hd K hK
    simp only [List.setIfInBounds_toArray, List.set_cons_zero, List.set_cons_succ] at hK ⊢
    replace hK := hid hK
    go_simp
    exact hK.out _ _ ⟨_, _, _, _, _, _, _, _, rfl, hid (below_next HBW.out ((Below.refl _ _).alloc (Nat.le_refl _) _)), hid (fun h => h0.out h), hid (fun h => h1.out h), hid (fun h => (h2.out h).on ((Below.refl _ _).alloc (Nat.le_refl _) _)), hid (fun h => h3.out h), hid (fun h => h4.out h), hid (fun h => (h5.out h).on ((Below.refl _ _).alloc (Nat.le_refl _) _)), hid (fun h => ⟨w1.heap.size, rfl, HBW.out.size, fun _ => Nbx.new w1 false false _ _, fun e => absurd (o8_6 e) (by rw [hf]; decide)⟩), hid (fun h => (h7.out h).on ((Below.refl _ _).alloc (Nat.le_refl _) _)), fun _ => rfl, fun h => o8_2 h, fun h => o9_7 h, fun h => o9_5 h, fun _ a e => by obtain ⟨g, e2, hlt⟩ := (h7.out a).lt; rw [e2] at e; cases e; exact absurd hlt (Nat.lt_irrefl _)⟩
  case s7 =>
    rintro f a1 w1 ⟨u11, u12, u23, u24, u25, u26, u27, u28, rfl, HBW, h0, h1, h2, h3, h4, h5, h6, h7, o8_6, o8_2, o9_7, o9_5, hne⟩ hf hd K hK
    simp only [List.setIfInBounds_toArray, List.set_cons_zero, List.set_cons_succ] at hK ⊢
    replace hK := hid hK
    go_simp
    exact hK.out _ _ ⟨_, _, _, _, _, _, _, _, rfl, hid (below_next HBW.out ((Below.refl _ _).alloc (Nat.le_refl _) _)), hid (fun h => h0.out h), hid (fun h => h1.out h), hid (fun h => (h2.out h).on ((Below.refl _ _).alloc (Nat.le_refl _) _)), hid (fun h => h3.out h), hid (fun h => h4.out h), hid (fun h => (h5.out h).on ((Below.refl _ _).alloc (Nat.le_refl _) _)), hid (fun h => (h6.out h).on ((Below.refl _ _).alloc (Nat.le_refl _) _)), hid (fun h => ⟨w1.heap.size, rfl, HBW.out.size, fun _ => Nbx.new w1 false false _ _, fun e => absurd (o9_7 e) (by rw [hf]; decide)⟩), fun h => o8_6 h, fun h => o8_2 h, fun _ => rfl, fun h => o9_5 h, fun a _ e => by obtain ⟨g, e2, hlt⟩ := (h6.out a).lt; rw [e2] at e; cases e; exact absurd hlt (Nat.lt_irrefl _)⟩
  case s8 =>
    rintro f a1 w1 ⟨u11, u12, u23, u24, u25, u26, u27, u28, rfl, HBW, h0, h1, h2, h3, h4, h5, h6, h7, o8_6, o8_2, o9_7, o9_5, hne⟩ hf hd K hK
    simp only [List.setIfInBounds_toArray, List.set_cons_zero, List.set_cons_succ] at hK ⊢
    replace hK := hid hK
    simp [Region.binds] at hd
    have ga : f 6 = true := by simp only [hd]
    have gv : f 2 = true := by simp only [hd]
    have gb : f 7 = true := by simp only [hd]
    have hne := hne (by simp only [hd]) (by simp only [hd])
    obtain ⟨g, rfl, hg, hn, _⟩ := h6.out ga
    replace hn := hn hf
    have hv9 := h2.out gv
    obtain ⟨s9a, p9a, n9a, c9a, s9b, p9b, n9b, c9b, rfl⟩ := hv9.opened
    obtain ⟨t1, d9, t2, hd9⟩ := hv9.two
    obtain ⟨⟨c1, c2⟩, ⟨c3, c4⟩, ⟨c5, c6⟩, c7, c8⟩ := hn.stores
    obtain ⟨n1, n2, n3⟩ := hn.last HBW.out hg s9a s9b p9a p9b n9a n9b c9a c9b
    have HN := hid (And.intro n1 n2)
    have HV := hid (fun v z k h => @n3 v z k h)
    have HO := hid ((h7.out gb).set (Ne.symm hne) (.bool s9a) (.slice p9a n9a c9a) (.bool s9b) (.slice p9b n9b c9b))
    clear n1 n2 n3
    go_simp
    exact hK.out _ _ ⟨_, _, _, _, _, _, _, _, rfl, hid HN.out.2, hid (fun h => h0.out h), hid (fun h => h1.out h), hid (fun h => (h2.out h).moved HV.out), hid (fun h => h3.out h), hid (fun h => h4.out h), hid (fun h => (h5.out h).moved HV.out), hid (fun h => ⟨g, rfl, hg, fun e => by simp [more] at e, fun _ => ⟨_, _, _, _, _, _, _, _, rfl, HN.out.1⟩⟩), hid (fun h => HO.out), fun _ => ga, fun _ => gv, fun h => o9_7 h, fun h => o9_5 h, fun _ _ => hne⟩
  case s9 =>
    rintro f a1 w1 ⟨u11, u12, u23, u24, u25, u26, u27, u28, rfl, HBW, h0, h1, h2, h3, h4, h5, h6, h7, o8_6, o8_2, o9_7, o9_5, hne⟩ hf hd K hK
    simp only [List.setIfInBounds_toArray, List.set_cons_zero, List.set_cons_succ] at hK ⊢
    replace hK := hid hK
    simp [Region.binds] at hd
    have ga : f 7 = true := by simp only [hd]
    have gv : f 5 = true := by simp only [hd]
    have gb : f 6 = true := by simp only [hd]
    have hne := hne (by simp only [hd]) (by simp only [hd])
    obtain ⟨g, rfl, hg, hn, _⟩ := h7.out ga
    replace hn := hn hf
    have hv9 := h5.out gv
    obtain ⟨s9a, p9a, n9a, c9a, s9b, p9b, n9b, c9b, rfl⟩ := hv9.opened
    obtain ⟨t1, d9, t2, hd9⟩ := hv9.two
    obtain ⟨⟨c1, c2⟩, ⟨c3, c4⟩, ⟨c5, c6⟩, c7, c8⟩ := hn.stores
    obtain ⟨n1, n2, n3⟩ := hn.last HBW.out hg s9a s9b p9a p9b n9a n9b c9a c9b
    have HN := hid (And.intro n1 n2)
    have HV := hid (fun v z k h => @n3 v z k h)
    have HO := hid ((h6.out gb).set hne (.bool s9a) (.slice p9a n9a c9a) (.bool s9b) (.slice p9b n9b c9b))
    clear n1 n2 n3
    go_simp
    exact hK.out _ _ ⟨_, _, _, _, _, _, _, _, rfl, hid HN.out.2, hid (fun h => h0.out h), hid (fun h => h1.out h), hid (fun h => (h2.out h).moved HV.out), hid (fun h => h3.out h), hid (fun h => h4.out h), hid (fun h => (h5.out h).moved HV.out), hid (fun h => HO.out), hid (fun h => ⟨g, rfl, hg, fun e => by simp [more] at e, fun _ => ⟨_, _, _, _, _, _, _, _, rfl, HN.out.1⟩⟩), fun h => o8_6 h, fun h => o8_2 h, fun _ => ga, fun _ => gv, fun _ _ => hne⟩
  case hend =>
    rintro f a1 w1 ⟨u11, u12, u23, u24, u25, u26, u27, u28, rfl, HBW, h0, h1, h2, h3, h4, h5, h6, h7, _, _, _, _, hne⟩ hall
    simp only [List.setIfInBounds_toArray, List.set_cons_zero, List.set_cons_succ]
    have hne := hne (hall 6 (by decide)) (hall 7 (by decide))
    have hv8 := h2.out (hall 2 (by decide))
    have hv9 := h5.out (hall 5 (by decide))
    obtain ⟨g8, rfl, hg8, _, hn8⟩ := h6.out (hall 6 (by decide))
    obtain ⟨g9, rfl, hg9, _, hn9⟩ := h7.out (hall 7 (by decide))
    obtain ⟨s8a, p8a, n8a, c8a, s8b, p8b, n8b, c8b, rfl, hm8⟩ := hn8 (hall 8 (by decide))
    obtain ⟨s9a, p9a, n9a, c9a, s9b, p9b, n9b, c9b, rfl, hm9⟩ := hn9 (hall 9 (by decide))
    have XT := hid hm8
    have XS := hid hm9
    have HV8 := hid hv8
    have HV9 := hid hv9
    replace XR := nx XR HBW.out
    replace X2 := nx X2 HBW.out
    replace X3 := nx X3 HBW.out
    replace XB := bx XB HBW.out
    replace XD := bx XD HBW.out
    replace HT2 := wl HT2 HBW.out
    replace HU2 := wl HU2 HBW.out
    replace HT3 := wl HT3 HBW.out
    replace HU3 := wl HU3 HBW.out
    replace HB := wl HB HBW.out
    replace HD := wl HD HBW.out
    replace B := bb B HBW.out
    have LT := hid hg8
    have LS := hid hg9
    have LR := hid (show w.heap.size + 1 + 1 + 1 < W46.heap.size from LQ.out)
    clear h0 h1 h2 h3 h4 h5 h6 h7 hall hg8 hg9 hm8 hm9 hn8 hn9 hv8 hv9 HBW hne
    obtain ⟨cc901a, cc901b, cc901c, cc901d⟩ := XT.out.cells
    obtain ⟨cc902a, cc902b, cc902c, cc902d⟩ := XS.out.cells
    obtain ⟨cc903a, cc903b, cc903c, cc903d⟩ := XR.out.cells
    obtain ⟨cc904a, cc904b, cc904c, cc904d⟩ := X2.out.cells
    obtain ⟨cc905a, cc905b, cc905c, cc905d⟩ := X3.out.cells
    obtain ⟨cc906a, cc906b⟩ := XB.out.both
    obtain ⟨cc907a, cc907b⟩ := XD.out.both
    go_wp2_with fail
    have HS := lessq_rtl HV8.out HV9.out (by omega) (by have := HK.out; omega)
    by_cases hA : x + x < l + r
    · rw [decide_eq_true hA] at HS
      replace HS := hid HS
      refine (HS.out).mono ?_
      rintro e w911 ⟨rfl, hb⟩
      replace XR := nx XR hb
      replace X2 := nx X2 hb
      replace X3 := nx X3 hb
      replace HT2 := wl HT2 hb
      replace HU2 := wl HU2 hb
      replace HT3 := wl HT3 hb
      replace HU3 := wl HU3 hb
      replace B := bb B hb
      clear hb 
      clear HS
      clear cc901a cc901b cc901c cc901d cc902a cc902b cc902c cc902d cc903a cc903b cc903c cc903d cc904a cc904b cc904c cc904d cc905a cc905b cc905c cc905d cc906a cc906b cc907a cc907b
      obtain ⟨cc921a, cc921b, cc921c, cc921d⟩ := XR.out.cells
      obtain ⟨cc922a, cc922b, cc922c, cc922d⟩ := X2.out.cells
      obtain ⟨cc923a, cc923b, cc923c, cc923d⟩ := X3.out.cells
      obtain ⟨⟨cc924a, cc924b⟩, ⟨cc924c, cc924d⟩, ⟨cc924e, cc924f⟩, cc924g, cc924h⟩ := XR.out.stores
      obtain ⟨r925a, r925b, r925c⟩ := XR.out.last B.out (by have := LR.out; have := LT.out; have := LS.out; omega) s2a s2b p2a p2b n2a n2b c2a c2b
      replace X2 := hid ((((X2.out.other (g2 := w.heap.size + 1 + 1 + 1) (by have := LR.out; have := LT.out; have := LS.out; omega) 0 (.bool s2a)).other (g2 := w.heap.size + 1 + 1 + 1) (by have := LR.out; have := LT.out; have := LS.out; omega) 1 (.slice p2a n2a c2a)).other (g2 := w.heap.size + 1 + 1 + 1) (by have := LR.out; have := LT.out; have := LS.out; omega) 2 (.bool s2b)).other (g2 := w.heap.size + 1 + 1 + 1) (by have := LR.out; have := LT.out; have := LS.out; omega) 3 (.slice p2b n2b c2b))
      replace X3 := hid ((((X3.out.other (g2 := w.heap.size + 1 + 1 + 1) (by have := LR.out; have := LT.out; have := LS.out; omega) 0 (.bool s2a)).other (g2 := w.heap.size + 1 + 1 + 1) (by have := LR.out; have := LT.out; have := LS.out; omega) 1 (.slice p2a n2a c2a)).other (g2 := w.heap.size + 1 + 1 + 1) (by have := LR.out; have := LT.out; have := LS.out; omega) 2 (.bool s2b)).other (g2 := w.heap.size + 1 + 1 + 1) (by have := LR.out; have := LT.out; have := LS.out; omega) 3 (.slice p2b n2b c2b))
      replace HT2 := hid (r925c HT2.out)
      replace HU2 := hid (r925c HU2.out)
      replace HT3 := hid (r925c HT3.out)
      replace HU3 := hid (r925c HU3.out)
      replace XR := hid r925a
      replace B := hid r925b
      clear r925a r925b r925c
      go_wp2_with fail
      refine bodyPost_ret (res_num rfl rfl XR.out) rfl ?_
      rw [nrq, if_pos hA]
      exact ⟨_, rfl, Rtl.mk2 HT2.out HU2.out HD2.out, B.out⟩
    · rw [decide_eq_false hA] at HS
      replace HS := hid HS
      refine (HS.out).mono ?_
      rintro e w931 ⟨rfl, hb⟩
      replace HV8 := hid (HV8.out.on hb)
      replace HV9 := hid (HV9.out.on hb)
      replace XT := nx XT hb
      replace XS := nx XS hb
      replace XR := nx XR hb
      replace X2 := nx X2 hb
      replace X3 := nx X3 hb
      replace XB := bx XB hb
      replace XD := bx XD hb
      replace HT2 := wl HT2 hb
      replace HU2 := wl HU2 hb
      replace HT3 := wl HT3 hb
      replace HU3 := wl HU3 hb
      replace HB := wl HB hb
      replace HD := wl HD hb
      replace B := bb B hb
      clear hb 
      clear HS
      clear cc901a cc901b cc901c cc901d cc902a cc902b cc902c cc902d cc903a cc903b cc903c cc903d cc904a cc904b cc904c cc904d cc905a cc905b cc905c cc905d cc906a cc906b cc907a cc907b
      obtain ⟨cc932a, cc932b, cc932c, cc932d⟩ := XT.out.cells
      obtain ⟨cc933a, cc933b, cc933c, cc933d⟩ := XS.out.cells
      obtain ⟨cc934a, cc934b, cc934c, cc934d⟩ := XR.out.cells
      obtain ⟨cc935a, cc935b, cc935c, cc935d⟩ := X2.out.cells
      obtain ⟨cc936a, cc936b, cc936c, cc936d⟩ := X3.out.cells
      obtain ⟨cc937a, cc937b⟩ := XB.out.both
      obtain ⟨cc938a, cc938b⟩ := XD.out.both
      go_wp2_with fail
      have HS := lessq_rtl HV9.out HV8.out (by omega) (by have := HK.out; omega)
      by_cases hB : l + r < x + x
      · rw [decide_eq_true hB] at HS
        replace HS := hid HS
        refine (HS.out).mono ?_
        rintro e w941 ⟨rfl, hb⟩
        replace XR := nx XR hb
        replace X2 := nx X2 hb
        replace X3 := nx X3 hb
        replace HT2 := wl HT2 hb
        replace HU2 := wl HU2 hb
        replace HT3 := wl HT3 hb
        replace HU3 := wl HU3 hb
        replace B := bb B hb
        clear hb 
        clear HS
        clear cc932a cc932b cc932c cc932d cc933a cc933b cc933c cc933d cc934a cc934b cc934c cc934d cc935a cc935b cc935c cc935d cc936a cc936b cc936c cc936d cc937a cc937b cc938a cc938b
        obtain ⟨cc951a, cc951b, cc951c, cc951d⟩ := XR.out.cells
        obtain ⟨cc952a, cc952b, cc952c, cc952d⟩ := X2.out.cells
        obtain ⟨cc953a, cc953b, cc953c, cc953d⟩ := X3.out.cells
        obtain ⟨⟨cc954a, cc954b⟩, ⟨cc954c, cc954d⟩, ⟨cc954e, cc954f⟩, cc954g, cc954h⟩ := XR.out.stores
        obtain ⟨r955a, r955b, r955c⟩ := XR.out.last B.out (by have := LR.out; have := LT.out; have := LS.out; omega) s3a s3b p3a p3b n3a n3b c3a c3b
        replace X2 := hid ((((X2.out.other (g2 := w.heap.size + 1 + 1 + 1) (by have := LR.out; have := LT.out; have := LS.out; omega) 0 (.bool s3a)).other (g2 := w.heap.size + 1 + 1 + 1) (by have := LR.out; have := LT.out; have := LS.out; omega) 1 (.slice p3a n3a c3a)).other (g2 := w.heap.size + 1 + 1 + 1) (by have := LR.out; have := LT.out; have := LS.out; omega) 2 (.bool s3b)).other (g2 := w.heap.size + 1 + 1 + 1) (by have := LR.out; have := LT.out; have := LS.out; omega) 3 (.slice p3b n3b c3b))
        replace X3 := hid ((((X3.out.other (g2 := w.heap.size + 1 + 1 + 1) (by have := LR.out; have := LT.out; have := LS.out; omega) 0 (.bool s3a)).other (g2 := w.heap.size + 1 + 1 + 1) (by have := LR.out; have := LT.out; have := LS.out; omega) 1 (.slice p3a n3a c3a)).other (g2 := w.heap.size + 1 + 1 + 1) (by have := LR.out; have := LT.out; have := LS.out; omega) 2 (.bool s3b)).other (g2 := w.heap.size + 1 + 1 + 1) (by have := LR.out; have := LT.out; have := LS.out; omega) 3 (.slice p3b n3b c3b))
        replace HT2 := hid (r955c HT2.out)
        replace HU2 := hid (r955c HU2.out)
        replace HT3 := hid (r955c HT3.out)
        replace HU3 := hid (r955c HU3.out)
        replace XR := hid r955a
        replace B := hid r955b
        clear r955a r955b r955c
        go_wp2_with fail
        refine bodyPost_ret (res_num rfl rfl XR.out) rfl ?_
        rw [nrq, if_neg hA, if_pos hB]
        exact ⟨_, rfl, Rtl.mk2 HT3.out HU3.out HD3.out, B.out⟩
      · rw [decide_eq_false hB] at HS
        replace HS := hid HS
        refine (HS.out).mono ?_
        rintro e w961 ⟨rfl, hb⟩
        replace XT := nx XT hb
        replace XS := nx XS hb
        replace XR := nx XR hb
        replace X2 := nx X2 hb
        replace X3 := nx X3 hb
        replace XB := bx XB hb
        replace XD := bx XD hb
        replace HT2 := wl HT2 hb
        replace HU2 := wl HU2 hb
        replace HT3 := wl HT3 hb
        replace HU3 := wl HU3 hb
        replace HB := wl HB hb
        replace HD := wl HD hb
        replace B := bb B hb
        clear hb 
        clear HS
        clear cc932a cc932b cc932c cc932d cc933a cc933b cc933c cc933d cc934a cc934b cc934c cc934d cc935a cc935b cc935c cc935d cc936a cc936b cc936c cc936d cc937a cc937b cc938a cc938b
        obtain ⟨cc962a, cc962b, cc962c, cc962d⟩ := XT.out.cells
        obtain ⟨cc963a, cc963b, cc963c, cc963d⟩ := XS.out.cells
        obtain ⟨cc964a, cc964b, cc964c, cc964d⟩ := XR.out.cells
        obtain ⟨cc965a, cc965b, cc965c, cc965d⟩ := X2.out.cells
        obtain ⟨cc966a, cc966b, cc966c, cc966d⟩ := X3.out.cells
        obtain ⟨cc967a, cc967b⟩ := XB.out.both
        obtain ⟨cc968a, cc968b⟩ := XD.out.both
        go_wp2_with fail
        have HS := zless_whl HD.out HB.out (by have := HK.out; omega) (by have := HK.out; omega)
        by_cases hC : r.den < l.den
        · rw [decide_eq_true (by omega)] at HS
          replace HS := hid HS
          refine (HS.out).mono ?_
          rintro e w971 ⟨rfl, hb⟩
          replace XR := nx XR hb
          replace X2 := nx X2 hb
          replace X3 := nx X3 hb
          replace HT2 := wl HT2 hb
          replace HU2 := wl HU2 hb
          replace HT3 := wl HT3 hb
          replace HU3 := wl HU3 hb
          replace B := bb B hb
          clear hb 
          clear HS
          clear cc962a cc962b cc962c cc962d cc963a cc963b cc963c cc963d cc964a cc964b cc964c cc964d cc965a cc965b cc965c cc965d cc966a cc966b cc966c cc966d cc967a cc967b cc968a cc968b
          obtain ⟨cc991a, cc991b, cc991c, cc991d⟩ := XR.out.cells
          obtain ⟨cc992a, cc992b, cc992c, cc992d⟩ := X2.out.cells
          obtain ⟨cc993a, cc993b, cc993c, cc993d⟩ := X3.out.cells
          obtain ⟨⟨cc994a, cc994b⟩, ⟨cc994c, cc994d⟩, ⟨cc994e, cc994f⟩, cc994g, cc994h⟩ := XR.out.stores
          obtain ⟨r995a, r995b, r995c⟩ := XR.out.last B.out (by have := LR.out; have := LT.out; have := LS.out; omega) s3a s3b p3a p3b n3a n3b c3a c3b
          replace X2 := hid ((((X2.out.other (g2 := w.heap.size + 1 + 1 + 1) (by have := LR.out; have := LT.out; have := LS.out; omega) 0 (.bool s3a)).other (g2 := w.heap.size + 1 + 1 + 1) (by have := LR.out; have := LT.out; have := LS.out; omega) 1 (.slice p3a n3a c3a)).other (g2 := w.heap.size + 1 + 1 + 1) (by have := LR.out; have := LT.out; have := LS.out; omega) 2 (.bool s3b)).other (g2 := w.heap.size + 1 + 1 + 1) (by have := LR.out; have := LT.out; have := LS.out; omega) 3 (.slice p3b n3b c3b))
          replace X3 := hid ((((X3.out.other (g2 := w.heap.size + 1 + 1 + 1) (by have := LR.out; have := LT.out; have := LS.out; omega) 0 (.bool s3a)).other (g2 := w.heap.size + 1 + 1 + 1) (by have := LR.out; have := LT.out; have := LS.out; omega) 1 (.slice p3a n3a c3a)).other (g2 := w.heap.size + 1 + 1 + 1) (by have := LR.out; have := LT.out; have := LS.out; omega) 2 (.bool s3b)).other (g2 := w.heap.size + 1 + 1 + 1) (by have := LR.out; have := LT.out; have := LS.out; omega) 3 (.slice p3b n3b c3b))
          replace HT2 := hid (r995c HT2.out)
          replace HU2 := hid (r995c HU2.out)
          replace HT3 := hid (r995c HT3.out)
          replace HU3 := hid (r995c HU3.out)
          replace XR := hid r995a
          replace B := hid r995b
          clear r995a r995b r995c
          go_wp2_with fail
          refine bodyPost_ret (res_num rfl rfl XR.out) rfl ?_
          rw [nrq, if_neg hA, if_neg hB, if_pos hC]
          exact ⟨_, rfl, Rtl.mk2 HT3.out HU3.out HD3.out, B.out⟩
        · rw [decide_eq_false (by omega)] at HS
          replace HS := hid HS
          refine (HS.out).mono ?_
          rintro e w981 ⟨rfl, hb⟩
          replace XR := nx XR hb
          replace X2 := nx X2 hb
          replace X3 := nx X3 hb
          replace HT2 := wl HT2 hb
          replace HU2 := wl HU2 hb
          replace HT3 := wl HT3 hb
          replace HU3 := wl HU3 hb
          replace B := bb B hb
          clear hb 
          clear HS
          clear cc962a cc962b cc962c cc962d cc963a cc963b cc963c cc963d cc964a cc964b cc964c cc964d cc965a cc965b cc965c cc965d cc966a cc966b cc966c cc966d cc967a cc967b cc968a cc968b
          obtain ⟨cc1001a, cc1001b, cc1001c, cc1001d⟩ := XR.out.cells
          obtain ⟨cc1002a, cc1002b, cc1002c, cc1002d⟩ := X2.out.cells
          obtain ⟨cc1003a, cc1003b, cc1003c, cc1003d⟩ := X3.out.cells
          obtain ⟨⟨cc1004a, cc1004b⟩, ⟨cc1004c, cc1004d⟩, ⟨cc1004e, cc1004f⟩, cc1004g, cc1004h⟩ := XR.out.stores
          obtain ⟨r1005a, r1005b, r1005c⟩ := XR.out.last B.out (by have := LR.out; have := LT.out; have := LS.out; omega) s2a s2b p2a p2b n2a n2b c2a c2b
          replace X2 := hid ((((X2.out.other (g2 := w.heap.size + 1 + 1 + 1) (by have := LR.out; have := LT.out; have := LS.out; omega) 0 (.bool s2a)).other (g2 := w.heap.size + 1 + 1 + 1) (by have := LR.out; have := LT.out; have := LS.out; omega) 1 (.slice p2a n2a c2a)).other (g2 := w.heap.size + 1 + 1 + 1) (by have := LR.out; have := LT.out; have := LS.out; omega) 2 (.bool s2b)).other (g2 := w.heap.size + 1 + 1 + 1) (by have := LR.out; have := LT.out; have := LS.out; omega) 3 (.slice p2b n2b c2b))
          replace X3 := hid ((((X3.out.other (g2 := w.heap.size + 1 + 1 + 1) (by have := LR.out; have := LT.out; have := LS.out; omega) 0 (.bool s2a)).other (g2 := w.heap.size + 1 + 1 + 1) (by have := LR.out; have := LT.out; have := LS.out; omega) 1 (.slice p2a n2a c2a)).other (g2 := w.heap.size + 1 + 1 + 1) (by have := LR.out; have := LT.out; have := LS.out; omega) 2 (.bool s2b)).other (g2 := w.heap.size + 1 + 1 + 1) (by have := LR.out; have := LT.out; have := LS.out; omega) 3 (.slice p2b n2b c2b))
          replace HT2 := hid (r1005c HT2.out)
          replace HU2 := hid (r1005c HU2.out)
          replace HT3 := hid (r1005c HT3.out)
          replace HU3 := hid (r1005c HU3.out)
          replace XR := hid r1005a
          replace B := hid r1005b
          clear r1005a r1005b r1005c
          go_wp2_with fail
          refine bodyPost_ret (res_num rfl rfl XR.out) rfl ?_
          rw [nrq, if_neg hA, if_neg hB, if_neg hC]
          exact ⟨_, rfl, Rtl.mk2 HT2.out HU2.out HD2.out, B.out⟩

end Go.Proofs.Ytjeeepcnaaadmaa

/-
  PACKAGE rat: Whole.
-/
namespace Go.Proofs.Ytjeeepcnaaadmaa
open Go.RowKit
open Num
set_option linter.unusedVariables false
set_option maxRecDepth 100000
set_option linter.unusedSimpArgs false

set_option maxHeartbeats 400000 in
theorem wholeq {w : World} {v : Value} {z : Int} {k : Nat} (h : Whl w v z k) :
    Calls Try.prog 72 #[v] w fun e w' => ∃ v, e = .returned v ∧ Rtl w' v (z : Rat) k ∧ Below w.heap.size w w' := by
  obtain ⟨s1, p1, n1, c1, rfl⟩ := h.opened
  have B := hid (Below.refl w.heap.size w)
  have HZ := hid h
  have hb1 := (Below.refl _ _).alloc (Nat.le_refl w.heap.size) (.cells #[.bool s1, .slice p1 n1 c1] 49)
  have hx2 := Box.new w s1 p1 n1 c1
  replace HZ := wl HZ hb1
  replace B := bb B hb1
  have X1 := hid hx2
  have hs3 : (w.alloc (.cells #[.bool s1, .slice p1 n1 c1] 49)).heap.size = w.heap.size + 1 := by simp
  clear hb1 hx2
  have hb4 := (Below.refl _ _).alloc (Nat.le_refl (w.alloc (.cells #[.bool s1, .slice p1 n1 c1] 49)).heap.size) (.cells #[.bool s1, .slice p1 n1 c1, .bool false, .slice none 0 0] 51)
  have hx5 := Nbx.new (w.alloc (.cells #[.bool s1, .slice p1 n1 c1] 49)) s1 false (.slice p1 n1 c1) (.slice none 0 0)
  rw [hs3] at hx5
  replace X1 := bx X1 hb4
  replace HZ := wl HZ hb4
  replace B := bb B hb4
  have XQ := hid hx5
  have hs6 : ((w.alloc (.cells #[.bool s1, .slice p1 n1 c1] 49)).alloc (.cells #[.bool s1, .slice p1 n1 c1, .bool false, .slice none 0 0] 51)).heap.size = w.heap.size + 1 + 1 := by simp [hs3]
  clear hb4 hx5
  clear hs6 h
  go_enter Try.func72, Try.ntmps72
  obtain ⟨cc7a, cc7b⟩ := X1.out.both
  obtain ⟨cc8a, cc8b, cc8c, cc8d⟩ := XQ.out.cells
  go_wp2_with fail
  refine bodyPost_ret (res_num rfl rfl XQ.out) rfl ?_
  exact ⟨_, rfl, Rtl.mk2 (by rw [Rat.num_intCast]; exact HZ.out) (cells_whl_zero _ k) (.inr ⟨rfl, Rat.den_intCast z⟩), B.out⟩

end Go.Proofs.Ytjeeepcnaaadmaa

/-
  PACKAGE cf: neighbours.
-/
namespace Go.Proofs.Ytjeeepcnaaadmaa
open Go.RowKit
open Num
set_option linter.unusedVariables false
set_option maxRecDepth 100000
set_option linter.unusedSimpArgs false

theorem res_nn {fn : Func} {t t' : Tmp} {tmps : Array Value} {w : World} {g g' : Nat} {s s' a a' : Bool} {sv sv' av av' : Value} (hf : fn.results = #[.cell t 51, .cell t' 51]) (ht : tmps.getD t undef = .pointer (some ⟨g, 0, none⟩)) (ht' : tmps.getD t' undef = .pointer (some ⟨g', 0, none⟩)) (h2 : Nbx w g s sv s' sv') (h2' : Nbx w g' a av a' av') :
    (results fn tmps).run Try.prog w = .ok (.tuple #[.agg #[.bool s, sv, .bool s', sv'], .agg #[.bool a, av, .bool a', av']]) w := by
  have h1 := at_addr (P := Try.prog) (w := w) ht
  have h1' := at_addr (P := Try.prog) (w := w) ht'
  have h3 := load_num h2
  have h3' := load_num h2'
  simp only [Array.getD_eq_getD_getElem?] at h1 h1'
  simp [results, hf, Sem.run_bind, h1, h3, h1', h3']

theorem Rtl.fit {w : World} {v : Value} {q : Rat} {k : Nat} (m : Nat) (h : Rtl w v q k) (hn : q.num.natAbs < B ^ m) (hd : q.den < B ^ m) : Rtl w v q m := by
  obtain ⟨s, p, n, c, s', p', n', c', h1, h2, d, h3, h4⟩ := h
  refine ⟨s, p, n, c, s', p', n', c', h1, h2.fit m hn, d, h3.fit m ?_, h4⟩
  rcases h4 with rfl | ⟨rfl, _⟩
  · simpa using hd
  · exact Nat.lt_of_le_of_lt (Nat.zero_le _) hd
theorem Rtl.num_lt {w : World} {v : Value} {q : Rat} {k : Nat} (h : Rtl w v q k) : q.num.natAbs < B ^ k := by
  obtain ⟨s, p, n, c, s', p', n', c', h1, h2, _⟩ := h
  exact h2.lt
/-- What lies near x, with a denominator of m or less, has few limbs. -/
theorem near_fits {x r : Rat} {k m : Nat} (hx : x.floor.natAbs < B ^ (k + 1)) (h1 : (x.floor : Rat) ≤ r) (h2 : r ≤ (x.floor : Rat) + 1) (hd : r.den ≤ m) (hm : m ≤ 2000) : r.num.natAbs < B ^ (k + 2) ∧ r.den < B ^ (k + 2) := by
  have h3 := num_between h1 h2
  have h4 : (x.floor.natAbs + 1) * r.den ≤ B ^ (k + 1) * 2000 := Nat.mul_le_mul (by omega) (by omega)
  have h5 : 1 ≤ B ^ (k + 1) := Nat.pow_pos B_pos
  have h6 : B ^ (k + 1) * 2000 < B ^ (k + 2) := by
    rw [show k + 2 = k + 1 + 1 by omega, Nat.pow_succ B (k + 1)]
    exact Nat.mul_lt_mul_of_pos_left (by decide) h5
  omega

theorem near_fit_one {w : World} {v : Value} {x : Rat} {k : Nat} (hx : x.floor.natAbs < B ^ (k + 1)) (h : Rtl w v ((x.floor : Rat) + (1 : Int)) (k + 1 + (k + 1) + 1)) : Rtl w v ((x.floor : Rat) + 1) (k + 2) := by
  have e : (x.floor : Rat) + ((1 : Int) : Rat) = (x.floor : Rat) + 1 := by simp
  rw [e] at h
  have h2 := near_fits hx (show (x.floor : Rat) ≤ (x.floor : Rat) + 1 by grind) Rat.le_refl (m := 1) (by rw [(Adj.start x.floor).2.2]; omega) (by omega)
  exact h.fit _ h2.1 h2.2

set_option maxHeartbeats 8000000 in
theorem neighbours_rtl {w : World} {v u : Value} {x : Rat} {k m : Nat} (h : Rtl w v x k) (h' : Whl w u (m : Int) 100) (hk1 : 1 ≤ k) (hk : k ≤ 4294967296) (hm : 1 ≤ m ∧ m ≤ 1000) :
    Calls Try.prog 42 #[v, u] w fun e w' => ∃ v u l r, e = .returned (.tuple #[v, u]) ∧ Rtl w' v l (k + 2) ∧ Rtl w' u r (k + 2) ∧ (Adj l r ∧ m < l.den + r.den ∧ l.den ≤ m ∧ r.den ≤ m ∧ l ≤ x ∧ x < r) ∧ Below w.heap.size w w' := by
  obtain ⟨s1a, p1a, n1a, c1a, s1b, p1b, n1b, c1b, rfl⟩ := h.opened
  obtain ⟨ht1, d1, hu1, hd1⟩ := h.two
  have HD1 := hid hd1
  obtain ⟨s2, p2, n2, c2, rfl⟩ := h'.opened
  have HK := hid hk
  have HK1 := hid hk1
  have HM2 := hid hm
  have B := hid (Below.refl w.heap.size w)
  have HT1 := hid ht1
  have HU1 := hid hu1
  have HM := hid h'
  have hb1 := (Below.refl _ _).alloc (Nat.le_refl w.heap.size) (.cells #[.bool s1a, .slice p1a n1a c1a, .bool s1b, .slice p1b n1b c1b] 51)
  have hx2 := Nbx.new w s1a s1b (.slice p1a n1a c1a) (.slice p1b n1b c1b)
  replace HT1 := wl HT1 hb1
  replace HU1 := wl HU1 hb1
  replace HM := wl HM hb1
  replace B := bb B hb1
  have X1 := hid hx2
  have hs3 : (w.alloc (.cells #[.bool s1a, .slice p1a n1a c1a, .bool s1b, .slice p1b n1b c1b] 51)).heap.size = w.heap.size + 1 := by simp
  clear hb1 hx2
  have hb4 := (Below.refl _ _).alloc (Nat.le_refl (w.alloc (.cells #[.bool s1a, .slice p1a n1a c1a, .bool s1b, .slice p1b n1b c1b] 51)).heap.size) (.cells #[.bool s2, .slice p2 n2 c2] 49)
  have hx5 := Box.new (w.alloc (.cells #[.bool s1a, .slice p1a n1a c1a, .bool s1b, .slice p1b n1b c1b] 51)) s2 p2 n2 c2
  rw [hs3] at hx5
  replace X1 := nx X1 hb4
  replace HT1 := wl HT1 hb4
  replace HU1 := wl HU1 hb4
  replace HM := wl HM hb4
  replace B := bb B hb4
  have X2 := hid hx5
  have hs6 : ((w.alloc (.cells #[.bool s1a, .slice p1a n1a c1a, .bool s1b, .slice p1b n1b c1b] 51)).alloc (.cells #[.bool s2, .slice p2 n2 c2] 49)).heap.size = w.heap.size + 1 + 1 := by simp [hs3]
  clear hb4 hx5
  have hb7 := (Below.refl _ _).alloc (Nat.le_refl ((w.alloc (.cells #[.bool s1a, .slice p1a n1a c1a, .bool s1b, .slice p1b n1b c1b] 51)).alloc (.cells #[.bool s2, .slice p2 n2 c2] 49)).heap.size) (.cells #[.bool false, .slice none 0 0, .bool false, .slice none 0 0] 51)
  have hx8 := Nbx.new ((w.alloc (.cells #[.bool s1a, .slice p1a n1a c1a, .bool s1b, .slice p1b n1b c1b] 51)).alloc (.cells #[.bool s2, .slice p2 n2 c2] 49)) false false (.slice none 0 0) (.slice none 0 0)
  rw [hs6] at hx8
  replace X1 := nx X1 hb7
  replace X2 := bx X2 hb7
  replace HT1 := wl HT1 hb7
  replace HU1 := wl HU1 hb7
  replace HM := wl HM hb7
  replace B := bb B hb7
  have XL := hid hx8
  have hs9 : (((w.alloc (.cells #[.bool s1a, .slice p1a n1a c1a, .bool s1b, .slice p1b n1b c1b] 51)).alloc (.cells #[.bool s2, .slice p2 n2 c2] 49)).alloc (.cells #[.bool false, .slice none 0 0, .bool false, .slice none 0 0] 51)).heap.size = w.heap.size + 1 + 1 + 1 := by simp [hs6]
  clear hb7 hx8
  have hb10 := (Below.refl _ _).alloc (Nat.le_refl (((w.alloc (.cells #[.bool s1a, .slice p1a n1a c1a, .bool s1b, .slice p1b n1b c1b] 51)).alloc (.cells #[.bool s2, .slice p2 n2 c2] 49)).alloc (.cells #[.bool false, .slice none 0 0, .bool false, .slice none 0 0] 51)).heap.size) (.cells #[.bool false, .slice none 0 0, .bool false, .slice none 0 0] 51)
  have hx11 := Nbx.new (((w.alloc (.cells #[.bool s1a, .slice p1a n1a c1a, .bool s1b, .slice p1b n1b c1b] 51)).alloc (.cells #[.bool s2, .slice p2 n2 c2] 49)).alloc (.cells #[.bool false, .slice none 0 0, .bool false, .slice none 0 0] 51)) false false (.slice none 0 0) (.slice none 0 0)
  rw [hs9] at hx11
  replace X1 := nx X1 hb10
  replace X2 := bx X2 hb10
  replace XL := nx XL hb10
  replace HT1 := wl HT1 hb10
  replace HU1 := wl HU1 hb10
  replace HM := wl HM hb10
  replace B := bb B hb10
  have XH := hid hx11
  have hs12 : ((((w.alloc (.cells #[.bool s1a, .slice p1a n1a c1a, .bool s1b, .slice p1b n1b c1b] 51)).alloc (.cells #[.bool s2, .slice p2 n2 c2] 49)).alloc (.cells #[.bool false, .slice none 0 0, .bool false, .slice none 0 0] 51)).alloc (.cells #[.bool false, .slice none 0 0, .bool false, .slice none 0 0] 51)).heap.size = w.heap.size + 1 + 1 + 1 + 1 := by simp [hs9]
  clear hb10 hx11
  clear hs12 h h' ht1 hu1 hd1 hk hk1 hm
  go_enter Try.func42, Try.ntmps42
  obtain ⟨cc13a, cc13b, cc13c, cc13d⟩ := X1.out.cells
  obtain ⟨cc14a, cc14b⟩ := X2.out.both
  obtain ⟨cc15a, cc15b, cc15c, cc15d⟩ := XL.out.cells
  obtain ⟨cc16a, cc16b, cc16c, cc16d⟩ := XH.out.cells
  go_wp2_with fail
  generalize hW : (((w.alloc (.cells #[.bool s1a, .slice p1a n1a c1a, .bool s1b, .slice p1b n1b c1b] 51)).alloc (.cells #[.bool s2, .slice p2 n2 c2] 49)).alloc (.cells #[.bool false, .slice none 0 0, .bool false, .slice none 0 0] 51)).alloc (.cells #[.bool false, .slice none 0 0, .bool false, .slice none 0 0] 51) = W17 at *
  clear hW
  refine (floorq_rtl (Rtl.mk2 HT1.out HU1.out HD1.out) HK1.out (by have := HK.out; omega)).mono ?_
  rintro e w18 ⟨v, rfl, hv, hb⟩
  obtain ⟨s3, p3, n3, c3, rfl⟩ := hv.opened
  have HFL := hid hv.lt
  replace X1 := nx X1 hb
  replace X2 := bx X2 hb
  replace XL := nx XL hb
  replace XH := nx XH hb
  replace HT1 := wl HT1 hb
  replace HU1 := wl HU1 hb
  replace HM := wl HM hb
  replace B := bb B hb
  clear cc13a cc13b cc13c cc13d cc14a cc14b cc15a cc15b cc15c cc15d cc16a cc16b cc16c cc16d
  have HF := hid hv
  clear hb hv
  go_wp2_with fail
  refine (wholeq HF.out).mono ?_
  rintro e w19 ⟨v, rfl, hv, hb⟩
  obtain ⟨s4a, p4a, n4a, c4a, s4b, p4b, n4b, c4b, rfl⟩ := hv.opened
  obtain ⟨ht4, d4, hu4, hd4⟩ := hv.two
  have HD4 := hid hd4
  replace X1 := nx X1 hb
  replace X2 := bx X2 hb
  replace XL := nx XL hb
  replace XH := nx XH hb
  replace HT1 := wl HT1 hb
  replace HU1 := wl HU1 hb
  replace HM := wl HM hb
  replace B := bb B hb
  have HT4 := hid ht4
  have HU4 := hid hu4
  clear hb hv ht4 hu4 hd4
  obtain ⟨cc20a, cc20b, cc20c, cc20d⟩ := X1.out.cells
  obtain ⟨cc21a, cc21b⟩ := X2.out.both
  obtain ⟨cc22a, cc22b, cc22c, cc22d⟩ := XL.out.cells
  obtain ⟨cc23a, cc23b, cc23c, cc23d⟩ := XH.out.cells
  obtain ⟨⟨cc24a, cc24b⟩, ⟨cc24c, cc24d⟩, ⟨cc24e, cc24f⟩, cc24g, cc24h⟩ := XL.out.stores
  obtain ⟨r25a, r25b, r25c⟩ := XL.out.last B.out (by omega) s4a s4b p4a p4b n4a n4b c4a c4b
  replace X1 := hid ((((X1.out.other (g2 := w.heap.size + 1 + 1) (by omega) 0 (.bool s4a)).other (g2 := w.heap.size + 1 + 1) (by omega) 1 (.slice p4a n4a c4a)).other (g2 := w.heap.size + 1 + 1) (by omega) 2 (.bool s4b)).other (g2 := w.heap.size + 1 + 1) (by omega) 3 (.slice p4b n4b c4b))
  replace X2 := hid ((((X2.out.other (g2 := w.heap.size + 1 + 1) (by omega) 0 (.bool s4a)).other (g2 := w.heap.size + 1 + 1) (by omega) 1 (.slice p4a n4a c4a)).other (g2 := w.heap.size + 1 + 1) (by omega) 2 (.bool s4b)).other (g2 := w.heap.size + 1 + 1) (by omega) 3 (.slice p4b n4b c4b))
  replace XH := hid ((((XH.out.other (g2 := w.heap.size + 1 + 1) (by omega) 0 (.bool s4a)).other (g2 := w.heap.size + 1 + 1) (by omega) 1 (.slice p4a n4a c4a)).other (g2 := w.heap.size + 1 + 1) (by omega) 2 (.bool s4b)).other (g2 := w.heap.size + 1 + 1) (by omega) 3 (.slice p4b n4b c4b))
  replace HT1 := hid (r25c HT1.out)
  replace HU1 := hid (r25c HU1.out)
  replace HM := hid (r25c HM.out)
  replace HT4 := hid (r25c HT4.out)
  replace HU4 := hid (r25c HU4.out)
  replace XL := hid r25a
  replace B := hid r25b
  clear r25a r25b r25c
  obtain ⟨cc26a, cc26b, cc26c, cc26d⟩ := X1.out.cells
  obtain ⟨cc27a, cc27b⟩ := X2.out.both
  obtain ⟨cc28a, cc28b, cc28c, cc28d⟩ := XL.out.cells
  obtain ⟨cc29a, cc29b, cc29c, cc29d⟩ := XH.out.cells
  go_wp2_with fail
  generalize hW : (((w19.setCell ⟨w.heap.size + 1 + 1, 0, none⟩ (.bool s4a)).setCell ⟨w.heap.size + 1 + 1, 1, none⟩ (.slice p4a n4a c4a)).setCell ⟨w.heap.size + 1 + 1, 2, none⟩ (.bool s4b)).setCell ⟨w.heap.size + 1 + 1, 3, none⟩ (.slice p4b n4b c4b) = W30 at *
  clear hW
  obtain ⟨cc31a, cc31b, cc31c, cc31d⟩ := XL.out.cells
  replace X1 := hid X1.out.dr
  replace X2 := hid X2.out.dr
  replace XL := hid XL.out.dr
  replace XH := hid XH.out.dr
  replace HT1 := hid HT1.out.drew
  replace HU1 := hid HU1.out.drew
  replace HM := hid HM.out.drew
  replace HT4 := hid HT4.out.drew
  replace HU4 := hid HU4.out.drew
  replace B := hid (Below.drew B.out)
  obtain ⟨cc32a, cc32b, cc32c, cc32d⟩ := XL.out.cells
  go_region_held3 (fun w' => w'.cell? ⟨w.heap.size + 1 + 1, 0, none⟩ = some (.bool s4a) ∧ w'.cell? ⟨w.heap.size + 1 + 1, 1, none⟩ = some (.slice p4a n4a c4a) ∧ w'.cell? ⟨w.heap.size + 1 + 1, 2, none⟩ = some (.bool s4b) ∧ w'.cell? ⟨w.heap.size + 1 + 1, 3, none⟩ = some (.slice p4b n4b c4b)) (go_keep) (first
    | (have hm := mk33_1; clear hm; go_at_call 34; refine (addq_rtl (k := k + 1) (Rtl.mk2 HT4.out HU4.out HD4.out) ((Rtl.mk2 HT6.out HU6.out HD6.out).mono (by omega)) (by omega) (by have := HK.out; omega)).mono ?_; rintro e w38 ⟨v, rfl, hv, hb⟩; have hv := near_fit_one HFL.out hv; obtain ⟨s7a, p7a, n7a, c7a, s7b, p7b, n7b, c7b, rfl⟩ := hv.opened; obtain ⟨ht7, d7, hu7, hd7⟩ := hv.two; have HD7 := hid hd7; replace X1 := nx X1 hb; replace X2 := bx X2 hb; replace XL := nx XL hb; replace XH := nx XH hb; replace HT1 := wl HT1 hb; replace HU1 := wl HU1 hb; replace HM := wl HM hb; replace HT4 := wl HT4 hb; replace HU4 := wl HU4 hb; replace B := bb B hb; clear cc37a cc37b cc37c cc37d; have HT7 := hid ht7; have HU7 := hid hu7; clear hb hv ht7 hu7 hd7; obtain ⟨cc39a, cc39b, cc39c, cc39d⟩ := XL.out.cells; obtain ⟨⟨cc40a, cc40b⟩, ⟨cc40c, cc40d⟩, ⟨cc40e, cc40f⟩, cc40g, cc40h⟩ := XH.out.stores; obtain ⟨r41a, r41b, r41c⟩ := XH.out.last B.out (by omega) s7a s7b p7a p7b n7a n7b c7a c7b; replace X1 := hid ((((X1.out.other (g2 := w.heap.size + 1 + 1 + 1) (by omega) 0 (.bool s7a)).other (g2 := w.heap.size + 1 + 1 + 1) (by omega) 1 (.slice p7a n7a c7a)).other (g2 := w.heap.size + 1 + 1 + 1) (by omega) 2 (.bool s7b)).other (g2 := w.heap.size + 1 + 1 + 1) (by omega) 3 (.slice p7b n7b c7b)); replace X2 := hid ((((X2.out.other (g2 := w.heap.size + 1 + 1 + 1) (by omega) 0 (.bool s7a)).other (g2 := w.heap.size + 1 + 1 + 1) (by omega) 1 (.slice p7a n7a c7a)).other (g2 := w.heap.size + 1 + 1 + 1) (by omega) 2 (.bool s7b)).other (g2 := w.heap.size + 1 + 1 + 1) (by omega) 3 (.slice p7b n7b c7b)); replace XL := hid ((((XL.out.other (g2 := w.heap.size + 1 + 1 + 1) (by omega) 0 (.bool s7a)).other (g2 := w.heap.size + 1 + 1 + 1) (by omega) 1 (.slice p7a n7a c7a)).other (g2 := w.heap.size + 1 + 1 + 1) (by omega) 2 (.bool s7b)).other (g2 := w.heap.size + 1 + 1 + 1) (by omega) 3 (.slice p7b n7b c7b)); replace HT1 := hid (r41c HT1.out); replace HU1 := hid (r41c HU1.out); replace HM := hid (r41c HM.out); replace HT4 := hid (r41c HT4.out); replace HU4 := hid (r41c HU4.out); replace HT7 := hid (r41c HT7.out); replace HU7 := hid (r41c HU7.out); replace XH := hid r41a; replace B := hid r41b; clear r41a r41b r41c; obtain ⟨cc42a, cc42b, cc42c, cc42d⟩ := XL.out.cells; have mk33_2 := hid True.intro)
    | (have hm := mk33_0; clear hm; go_at_call 72; refine (wholeq HO.out).mono ?_; rintro e w36 ⟨v, rfl, hv, hb⟩; obtain ⟨s6a, p6a, n6a, c6a, s6b, p6b, n6b, c6b, rfl⟩ := hv.opened; obtain ⟨ht6, d6, hu6, hd6⟩ := hv.two; have HD6 := hid hd6; replace X1 := nx X1 hb; replace X2 := bx X2 hb; replace XL := nx XL hb; replace XH := nx XH hb; replace HT1 := wl HT1 hb; replace HU1 := wl HU1 hb; replace HM := wl HM hb; replace HT4 := wl HT4 hb; replace HU4 := wl HU4 hb; replace B := bb B hb; clear cc35a cc35b cc35c cc35d; have HT6 := hid ht6; have HU6 := hid hu6; clear hb hv ht6 hu6 hd6; obtain ⟨cc37a, cc37b, cc37c, cc37d⟩ := XL.out.cells; have mk33_1 := hid True.intro)
    | (go_at_call 71; refine (of_small 1 (by decide) _).mono ?_; rintro e w34 ⟨v, rfl, hv, hb⟩; obtain ⟨s5, p5, n5, c5, rfl⟩ := hv.opened; replace X1 := nx X1 hb; replace X2 := bx X2 hb; replace XL := nx XL hb; replace XH := nx XH hb; replace HT1 := wl HT1 hb; replace HU1 := wl HU1 hb; replace HM := wl HM hb; replace HT4 := wl HT4 hb; replace HU4 := wl HU4 hb; replace B := bb B hb; clear cc20a cc20b cc20c cc20d cc21a cc21b cc22a cc22b cc22c cc22d cc23a cc23b cc23c cc23d cc24a cc24b cc24c cc24d cc24e cc24f cc24g cc24h cc26a cc26b cc26c cc26d cc27a cc27b cc28a cc28b cc28c cc28d cc29a cc29b cc29c cc29d cc31a cc31b cc31c cc31d cc32a cc32b cc32c cc32d; have HO := hid hv; clear hb hv; obtain ⟨cc35a, cc35b, cc35c, cc35d⟩ := XL.out.cells; have mk33_0 := hid True.intro))
  go_wp2_with fail
  have HX := hid (show (x.floor : Rat) ≤ x ∧ x < (x.floor : Rat) + 1 from ⟨Rat.floor_le x, by simpa using Rat.lt_floor_add_one x⟩)
  go_loopg [6] (2 * m - 2) (fun gk _m wr => ∃ (l r : Rat) (dl dh : Int) (sla : Bool) (pla : Option Addr) (nla cla : Nat) (slb : Bool) (plb : Option Addr) (nlb clb : Nat) (sha : Bool) (pha : Option Addr) (nha cha : Nat) (shb : Bool) (phb : Option Addr) (nhb chb : Nat), Hid (Nbx wr w.heap.size s1a (.slice p1a n1a c1a) s1b (.slice p1b n1b c1b)) ∧ Hid (Box wr (w.heap.size + 1) s2 (.slice p2 n2 c2)) ∧ Hid (Nbx wr (w.heap.size + 1 + 1) sla (.slice pla nla cla) slb (.slice plb nlb clb)) ∧ Hid (Nbx wr (w.heap.size + 1 + 1 + 1) sha (.slice pha nha cha) shb (.slice phb nhb chb)) ∧ Hid (Whl wr (.agg #[.bool s1a, .slice p1a n1a c1a]) x.num k) ∧ Hid (Whl wr (.agg #[.bool s1b, .slice p1b n1b c1b]) d1 k) ∧ Hid (Whl wr (.agg #[.bool s2, .slice p2 n2 c2]) (m : Int) 100) ∧ Hid (Whl wr (.agg #[.bool sla, .slice pla nla cla]) l.num (k + 2)) ∧ Hid (Whl wr (.agg #[.bool slb, .slice plb nlb clb]) dl (k + 2)) ∧ Hid (dl = l.den ∨ (dl = 0 ∧ l.den = 1)) ∧ Hid (Whl wr (.agg #[.bool sha, .slice pha nha cha]) r.num (k + 2)) ∧ Hid (Whl wr (.agg #[.bool shb, .slice phb nhb chb]) dh (k + 2)) ∧ Hid (dh = r.den ∨ (dh = 0 ∧ r.den = 1)) ∧ Hid (Adj l r ∧ l.den ≤ m ∧ r.den ≤ m ∧ l ≤ x ∧ x < r ∧ (x.floor : Rat) ≤ l ∧ r ≤ (x.floor : Rat) + 1 ∧ gk + (l.den + r.den) = 2 * m) ∧ Hid (Below w.heap.size w wr))
  case atStart =>
    obtain ⟨a1, a2, a3⟩ := Adj.start x.floor
    have hm1 := HM2.out
    exact ⟨_, _, _, _, _, _, _, _, _, _, _, _, _, _, _, _, _, _, _, _, X1, X2, XL, XH, HT1, HU1, HM, hid (HT4.out.mono (by omega)), hid (HU4.out.mono (by omega)), HD4, HT7, HU7, HD7, hid ⟨a1, by omega, by omega, HX.out.1, HX.out.2, Rat.le_refl, Rat.le_refl, by omega⟩, B⟩
  case round =>
    obtain ⟨l, r, dl, dh, sla, pla, nla, cla, slb, plb, nlb, clb, sha, pha, nha, cha, shb, phb, nhb, chb, X1, X2, XL, XH, HT1, HU1, HM, HTl, HUl, HDl, HTh, HUh, HDh, HI, B⟩ := hrel
    have HAd := hid HI.out.1.med
    have HB := hid (show (x.floor : Rat) ≤ med l r ∧ med l r ≤ (x.floor : Rat) + 1 from ⟨Rat.le_trans HI.out.2.2.2.2.2.1 (Rat.le_of_lt HAd.out.2.2.1.lt), Rat.le_trans (Rat.le_of_lt HAd.out.2.2.2.lt) HI.out.2.2.2.2.2.2.1⟩)
    have HFit := hid (near_fits HFL.out HB.out.1 HB.out.2 (show (med l r).den ≤ 2 * m by rw [HAd.out.2.1]; have := HI.out.2.1; have := HI.out.2.2.1; omega) (by have := HM2.out; omega))
    obtain ⟨cc501a, cc501b, cc501c, cc501d⟩ := X1.out.cells
    obtain ⟨cc502a, cc502b⟩ := X2.out.both
    obtain ⟨cc503a, cc503b, cc503c, cc503d⟩ := XL.out.cells
    obtain ⟨cc504a, cc504b, cc504c, cc504d⟩ := XH.out.cells
    go_wp2_with fail
    refine (mediant_rtl (Rtl.mk2 HTl.out HUl.out HDl.out) (Rtl.mk2 HTh.out HUh.out HDh.out) (by omega) (by have := HK.out; omega)).mono ?_
    rintro e w505 ⟨v, rfl, hv, hb⟩
    replace hv := hv.fit (k + 2) HFit.out.1 HFit.out.2
    obtain ⟨s7a, p7a, n7a, c7a, s7b, p7b, n7b, c7b, rfl⟩ := hv.opened
    obtain ⟨ht7, d7, hu7, hd7⟩ := hv.two
    have HD7 := hid hd7
    replace X1 := nx X1 hb
    replace X2 := bx X2 hb
    replace XL := nx XL hb
    replace XH := nx XH hb
    replace HT1 := wl HT1 hb
    replace HU1 := wl HU1 hb
    replace HM := wl HM hb
    replace HTl := wl HTl hb
    replace HUl := wl HUl hb
    replace HTh := wl HTh hb
    replace HUh := wl HUh hb
    replace B := bb B hb
    clear cc501a cc501b cc501c cc501d cc502a cc502b cc503a cc503b cc503c cc503d cc504a cc504b cc504c cc504d
    have HT7 := hid ht7
    have HU7 := hid hu7
    clear hb hv ht7 hu7 hd7
    have LG := hid (show w.heap.size + 1 + 1 + 1 < w505.heap.size from XH.out.lt)
    have hb506 := (Below.refl _ _).alloc (Nat.le_refl w505.heap.size) (.cells #[.bool s7a, .slice p7a n7a c7a, .bool s7b, .slice p7b n7b c7b] 51)
    have hx507 := Nbx.new w505 s7a s7b (.slice p7a n7a c7a) (.slice p7b n7b c7b)
    have L1 := hid XH.out.lt
    replace X1 := nx X1 hb506
    replace X2 := bx X2 hb506
    replace XL := nx XL hb506
    replace XH := nx XH hb506
    replace HT1 := wl HT1 hb506
    replace HU1 := wl HU1 hb506
    replace HM := wl HM hb506
    replace HTl := wl HTl hb506
    replace HUl := wl HUl hb506
    replace HTh := wl HTh hb506
    replace HUh := wl HUh hb506
    replace HT7 := wl HT7 hb506
    replace HU7 := wl HU7 hb506
    replace B := bb B hb506
    have XM := hid hx507
    have hs508 : (w505.alloc (.cells #[.bool s7a, .slice p7a n7a c7a, .bool s7b, .slice p7b n7b c7b] 51)).heap.size = w505.heap.size + 1 := by simp
    clear hb506 hx507
    obtain ⟨cc509a, cc509b, cc509c, cc509d⟩ := X1.out.cells
    obtain ⟨cc510a, cc510b⟩ := X2.out.both
    obtain ⟨cc511a, cc511b, cc511c, cc511d⟩ := XL.out.cells
    obtain ⟨cc512a, cc512b, cc512c, cc512d⟩ := XH.out.cells
    obtain ⟨cc513a, cc513b, cc513c, cc513d⟩ := XM.out.cells
    go_wp2_with fail
    generalize hW : w505.alloc (.cells #[.bool s7a, .slice p7a n7a c7a, .bool s7b, .slice p7b n7b c7b] 51) = W514 at *
    clear hW
    refine (parts_rtl (Rtl.mk2 HT7.out HU7.out HD7.out) (by omega)).mono ?_
    rintro e w515 ⟨v, u, rfl, hv, hu, hb⟩
    obtain ⟨s8, p8, n8, c8, rfl⟩ := hv.opened
    obtain ⟨s9, p9, n9, c9, rfl⟩ := hu.opened
    replace X1 := nx X1 hb
    replace X2 := bx X2 hb
    replace XL := nx XL hb
    replace XH := nx XH hb
    replace XM := nx XM hb
    replace HT1 := wl HT1 hb
    replace HU1 := wl HU1 hb
    replace HM := wl HM hb
    replace HTl := wl HTl hb
    replace HUl := wl HUl hb
    replace HTh := wl HTh hb
    replace HUh := wl HUh hb
    replace HT7 := wl HT7 hb
    replace HU7 := wl HU7 hb
    replace B := bb B hb
    clear cc509a cc509b cc509c cc509d cc510a cc510b cc511a cc511b cc511c cc511d cc512a cc512b cc512c cc512d cc513a cc513b cc513c cc513d
    have HP8 := hid hv
    have HP9 := hid hu
    clear hb hv hu
    have hb516 := (Below.refl _ _).alloc (Nat.le_refl w515.heap.size) (.cells #[.bool s8, .slice p8 n8 c8] 49)
    have hx517 := Box.new w515 s8 p8 n8 c8
    have L2 := hid XM.out.lt
    replace X1 := nx X1 hb516
    replace X2 := bx X2 hb516
    replace XL := nx XL hb516
    replace XH := nx XH hb516
    replace XM := nx XM hb516
    replace HT1 := wl HT1 hb516
    replace HU1 := wl HU1 hb516
    replace HM := wl HM hb516
    replace HTl := wl HTl hb516
    replace HUl := wl HUl hb516
    replace HTh := wl HTh hb516
    replace HUh := wl HUh hb516
    replace HT7 := wl HT7 hb516
    replace HU7 := wl HU7 hb516
    replace HP9 := wl HP9 hb516
    replace B := bb B hb516
    have XP := hid hx517
    have hs518 : (w515.alloc (.cells #[.bool s8, .slice p8 n8 c8] 49)).heap.size = w515.heap.size + 1 := by simp
    clear hb516 hx517
    have hb519 := (Below.refl _ _).alloc (Nat.le_refl (w515.alloc (.cells #[.bool s8, .slice p8 n8 c8] 49)).heap.size) (.cells #[.bool s9, .slice p9 n9 c9] 49)
    have hx520 := Box.new (w515.alloc (.cells #[.bool s8, .slice p8 n8 c8] 49)) s9 p9 n9 c9
    rw [hs518] at hx520
    replace X1 := nx X1 hb519
    replace X2 := bx X2 hb519
    replace XL := nx XL hb519
    replace XH := nx XH hb519
    replace XM := nx XM hb519
    replace XP := bx XP hb519
    replace HT1 := wl HT1 hb519
    replace HU1 := wl HU1 hb519
    replace HM := wl HM hb519
    replace HTl := wl HTl hb519
    replace HUl := wl HUl hb519
    replace HTh := wl HTh hb519
    replace HUh := wl HUh hb519
    replace HT7 := wl HT7 hb519
    replace HU7 := wl HU7 hb519
    replace HP9 := wl HP9 hb519
    replace B := bb B hb519
    have XQ := hid hx520
    have hs521 : ((w515.alloc (.cells #[.bool s8, .slice p8 n8 c8] 49)).alloc (.cells #[.bool s9, .slice p9 n9 c9] 49)).heap.size = w515.heap.size + 1 + 1 := by simp [hs518]
    clear hb519 hx520
    obtain ⟨cc522a, cc522b, cc522c, cc522d⟩ := X1.out.cells
    obtain ⟨cc523a, cc523b⟩ := X2.out.both
    obtain ⟨cc524a, cc524b, cc524c, cc524d⟩ := XL.out.cells
    obtain ⟨cc525a, cc525b, cc525c, cc525d⟩ := XH.out.cells
    obtain ⟨cc526a, cc526b, cc526c, cc526d⟩ := XM.out.cells
    obtain ⟨cc527a, cc527b⟩ := XP.out.both
    obtain ⟨cc528a, cc528b⟩ := XQ.out.both
    go_wp2_with fail
    generalize hW : (w515.alloc (.cells #[.bool s8, .slice p8 n8 c8] 49)).alloc (.cells #[.bool s9, .slice p9 n9 c9] 49) = W529 at *
    clear hW
    have HS := zless_whl HM.out HP9.out (by decide) (by have := HK.out; omega)
    by_cases hmd : m < (med l r).den
    · rw [decide_eq_true (by omega)] at HS
      replace HS := hid HS
      refine (HS.out).mono ?_
      rintro e w701 ⟨rfl, hb⟩
      replace X1 := nx X1 hb
      replace X2 := bx X2 hb
      replace XL := nx XL hb
      replace XH := nx XH hb
      replace HT1 := wl HT1 hb
      replace HU1 := wl HU1 hb
      replace HM := wl HM hb
      replace HTl := wl HTl hb
      replace HUl := wl HUl hb
      replace HTh := wl HTh hb
      replace HUh := wl HUh hb
      replace HT7 := wl HT7 hb
      replace HU7 := wl HU7 hb
      replace HP9 := wl HP9 hb
      replace B := bb B hb
      clear cc522a cc522b cc522c cc522d cc523a cc523b cc524a cc524b cc524c cc524d cc525a cc525b cc525c cc525d cc526a cc526b cc526c cc526d cc527a cc527b cc528a cc528b
      clear hb 
      clear HS
      obtain ⟨cc702a, cc702b, cc702c, cc702d⟩ := X1.out.cells
      obtain ⟨cc703a, cc703b⟩ := X2.out.both
      obtain ⟨cc704a, cc704b, cc704c, cc704d⟩ := XL.out.cells
      obtain ⟨cc705a, cc705b, cc705c, cc705d⟩ := XH.out.cells
      go_wp2_with fail
      obtain ⟨cc706a, cc706b, cc706c, cc706d⟩ := X1.out.cells
      obtain ⟨cc707a, cc707b⟩ := X2.out.both
      obtain ⟨cc708a, cc708b, cc708c, cc708d⟩ := XL.out.cells
      obtain ⟨cc709a, cc709b, cc709c, cc709d⟩ := XH.out.cells
      obtain ⟨⟨cc710a, cc710b⟩, ⟨cc710c, cc710d⟩, ⟨cc710e, cc710f⟩, cc710g, cc710h⟩ := XL.out.stores
      obtain ⟨r711a, r711b, r711c⟩ := XL.out.last B.out (by have := LG.out; have := L1.out; have := L2.out; omega) sla slb pla plb nla nlb cla clb
      replace X1 := hid ((((X1.out.other (g2 := w.heap.size + 1 + 1) (by have := LG.out; have := L1.out; have := L2.out; omega) 0 (.bool sla)).other (g2 := w.heap.size + 1 + 1) (by have := LG.out; have := L1.out; have := L2.out; omega) 1 (.slice pla nla cla)).other (g2 := w.heap.size + 1 + 1) (by have := LG.out; have := L1.out; have := L2.out; omega) 2 (.bool slb)).other (g2 := w.heap.size + 1 + 1) (by have := LG.out; have := L1.out; have := L2.out; omega) 3 (.slice plb nlb clb))
      replace X2 := hid ((((X2.out.other (g2 := w.heap.size + 1 + 1) (by have := LG.out; have := L1.out; have := L2.out; omega) 0 (.bool sla)).other (g2 := w.heap.size + 1 + 1) (by have := LG.out; have := L1.out; have := L2.out; omega) 1 (.slice pla nla cla)).other (g2 := w.heap.size + 1 + 1) (by have := LG.out; have := L1.out; have := L2.out; omega) 2 (.bool slb)).other (g2 := w.heap.size + 1 + 1) (by have := LG.out; have := L1.out; have := L2.out; omega) 3 (.slice plb nlb clb))
      replace XH := hid ((((XH.out.other (g2 := w.heap.size + 1 + 1) (by have := LG.out; have := L1.out; have := L2.out; omega) 0 (.bool sla)).other (g2 := w.heap.size + 1 + 1) (by have := LG.out; have := L1.out; have := L2.out; omega) 1 (.slice pla nla cla)).other (g2 := w.heap.size + 1 + 1) (by have := LG.out; have := L1.out; have := L2.out; omega) 2 (.bool slb)).other (g2 := w.heap.size + 1 + 1) (by have := LG.out; have := L1.out; have := L2.out; omega) 3 (.slice plb nlb clb))
      replace HT1 := hid (r711c HT1.out)
      replace HU1 := hid (r711c HU1.out)
      replace HM := hid (r711c HM.out)
      replace HTl := hid (r711c HTl.out)
      replace HUl := hid (r711c HUl.out)
      replace HTh := hid (r711c HTh.out)
      replace HUh := hid (r711c HUh.out)
      replace HT7 := hid (r711c HT7.out)
      replace HU7 := hid (r711c HU7.out)
      replace HP9 := hid (r711c HP9.out)
      replace XL := hid r711a
      replace B := hid r711b
      clear r711a r711b r711c
      obtain ⟨cc712a, cc712b, cc712c, cc712d⟩ := XH.out.cells
      obtain ⟨⟨cc713a, cc713b⟩, ⟨cc713c, cc713d⟩, ⟨cc713e, cc713f⟩, cc713g, cc713h⟩ := XH.out.stores
      obtain ⟨r714a, r714b, r714c⟩ := XH.out.last B.out (by have := LG.out; have := L1.out; have := L2.out; omega) sha shb pha phb nha nhb cha chb
      replace X1 := hid ((((X1.out.other (g2 := w.heap.size + 1 + 1 + 1) (by have := LG.out; have := L1.out; have := L2.out; omega) 0 (.bool sha)).other (g2 := w.heap.size + 1 + 1 + 1) (by have := LG.out; have := L1.out; have := L2.out; omega) 1 (.slice pha nha cha)).other (g2 := w.heap.size + 1 + 1 + 1) (by have := LG.out; have := L1.out; have := L2.out; omega) 2 (.bool shb)).other (g2 := w.heap.size + 1 + 1 + 1) (by have := LG.out; have := L1.out; have := L2.out; omega) 3 (.slice phb nhb chb))
      replace X2 := hid ((((X2.out.other (g2 := w.heap.size + 1 + 1 + 1) (by have := LG.out; have := L1.out; have := L2.out; omega) 0 (.bool sha)).other (g2 := w.heap.size + 1 + 1 + 1) (by have := LG.out; have := L1.out; have := L2.out; omega) 1 (.slice pha nha cha)).other (g2 := w.heap.size + 1 + 1 + 1) (by have := LG.out; have := L1.out; have := L2.out; omega) 2 (.bool shb)).other (g2 := w.heap.size + 1 + 1 + 1) (by have := LG.out; have := L1.out; have := L2.out; omega) 3 (.slice phb nhb chb))
      replace XL := hid ((((XL.out.other (g2 := w.heap.size + 1 + 1 + 1) (by have := LG.out; have := L1.out; have := L2.out; omega) 0 (.bool sha)).other (g2 := w.heap.size + 1 + 1 + 1) (by have := LG.out; have := L1.out; have := L2.out; omega) 1 (.slice pha nha cha)).other (g2 := w.heap.size + 1 + 1 + 1) (by have := LG.out; have := L1.out; have := L2.out; omega) 2 (.bool shb)).other (g2 := w.heap.size + 1 + 1 + 1) (by have := LG.out; have := L1.out; have := L2.out; omega) 3 (.slice phb nhb chb))
      replace HT1 := hid (r714c HT1.out)
      replace HU1 := hid (r714c HU1.out)
      replace HM := hid (r714c HM.out)
      replace HTl := hid (r714c HTl.out)
      replace HUl := hid (r714c HUl.out)
      replace HTh := hid (r714c HTh.out)
      replace HUh := hid (r714c HUh.out)
      replace HT7 := hid (r714c HT7.out)
      replace HU7 := hid (r714c HU7.out)
      replace HP9 := hid (r714c HP9.out)
      replace XH := hid r714a
      replace B := hid r714b
      clear r714a r714b r714c
      replace X1 := hid X1.out.dr
      replace X2 := hid X2.out.dr
      replace XL := hid XL.out.dr
      replace XH := hid XH.out.dr
      replace HT1 := hid HT1.out.drew
      replace HU1 := hid HU1.out.drew
      replace HM := hid HM.out.drew
      replace HTl := hid HTl.out.drew
      replace HUl := hid HUl.out.drew
      replace HTh := hid HTh.out.drew
      replace HUh := hid HUh.out.drew
      replace HT7 := hid HT7.out.drew
      replace HU7 := hid HU7.out.drew
      replace HP9 := hid HP9.out.drew
      replace B := hid (Below.drew B.out)
      go_region_with (fail)
      all_goals
        go_wp2_with fail
        refine bodyPost_ret (res_nn rfl rfl rfl XL.out XH.out) rfl ?_
        exact ⟨_, _, l, r, rfl, Rtl.mk2 HTl.out HUl.out HDl.out, Rtl.mk2 HTh.out HUh.out HDh.out, ⟨HI.out.1, by rw [HAd.out.2.1] at hmd; exact hmd, HI.out.2.1, HI.out.2.2.1, HI.out.2.2.2.1, HI.out.2.2.2.2.1⟩, B.out⟩
    · rw [decide_eq_false (by omega)] at HS
      replace HS := hid HS
      refine (HS.out).mono ?_
      rintro e w801 ⟨rfl, hb⟩
      replace X1 := nx X1 hb
      replace X2 := bx X2 hb
      replace XL := nx XL hb
      replace XH := nx XH hb
      replace XM := nx XM hb
      replace HT1 := wl HT1 hb
      replace HU1 := wl HU1 hb
      replace HM := wl HM hb
      replace HTl := wl HTl hb
      replace HUl := wl HUl hb
      replace HTh := wl HTh hb
      replace HUh := wl HUh hb
      replace HT7 := wl HT7 hb
      replace HU7 := wl HU7 hb
      replace B := bb B hb
      clear cc522a cc522b cc522c cc522d cc523a cc523b cc524a cc524b cc524c cc524d cc525a cc525b cc525c cc525d cc526a cc526b cc526c cc526d cc527a cc527b cc528a cc528b
      clear hb 
      clear HS
      obtain ⟨cc802a, cc802b, cc802c, cc802d⟩ := X1.out.cells
      obtain ⟨cc803a, cc803b⟩ := X2.out.both
      obtain ⟨cc804a, cc804b, cc804c, cc804d⟩ := XL.out.cells
      obtain ⟨cc805a, cc805b, cc805c, cc805d⟩ := XH.out.cells
      obtain ⟨cc806a, cc806b, cc806c, cc806d⟩ := XM.out.cells
      go_wp2_with fail
      have HS := lessq_rtl ((Rtl.mk2 HT1.out HU1.out HD1.out).mono (show k ≤ k + 2 by omega)) (Rtl.mk2 HT7.out HU7.out HD7.out) (by omega) (by have := HK.out; omega)
      by_cases hx : x < med l r
      · rw [decide_eq_true hx] at HS
        replace HS := hid HS
        refine (HS.out).mono ?_
        rintro e w901 ⟨rfl, hb⟩
        replace X1 := nx X1 hb
        replace X2 := bx X2 hb
        replace XL := nx XL hb
        replace XH := nx XH hb
        replace XM := nx XM hb
        replace HT1 := wl HT1 hb
        replace HU1 := wl HU1 hb
        replace HM := wl HM hb
        replace HTl := wl HTl hb
        replace HUl := wl HUl hb
        replace HTh := wl HTh hb
        replace HUh := wl HUh hb
        replace HT7 := wl HT7 hb
        replace HU7 := wl HU7 hb
        replace B := bb B hb
        clear cc802a cc802b cc802c cc802d cc803a cc803b cc804a cc804b cc804c cc804d cc805a cc805b cc805c cc805d cc806a cc806b cc806c cc806d
        clear hb 
        clear HS
        obtain ⟨cc902a, cc902b, cc902c, cc902d⟩ := X1.out.cells
        obtain ⟨cc903a, cc903b⟩ := X2.out.both
        obtain ⟨cc904a, cc904b, cc904c, cc904d⟩ := XL.out.cells
        obtain ⟨cc905a, cc905b, cc905c, cc905d⟩ := XH.out.cells
        obtain ⟨cc906a, cc906b, cc906c, cc906d⟩ := XM.out.cells
        obtain ⟨⟨cc907a, cc907b⟩, ⟨cc907c, cc907d⟩, ⟨cc907e, cc907f⟩, cc907g, cc907h⟩ := XH.out.stores
        obtain ⟨r908a, r908b, r908c⟩ := XH.out.last B.out (by have := LG.out; have := L1.out; have := L2.out; omega) s7a s7b p7a p7b n7a n7b c7a c7b
        replace X1 := hid ((((X1.out.other (g2 := w.heap.size + 1 + 1 + 1) (by have := LG.out; have := L1.out; have := L2.out; omega) 0 (.bool s7a)).other (g2 := w.heap.size + 1 + 1 + 1) (by have := LG.out; have := L1.out; have := L2.out; omega) 1 (.slice p7a n7a c7a)).other (g2 := w.heap.size + 1 + 1 + 1) (by have := LG.out; have := L1.out; have := L2.out; omega) 2 (.bool s7b)).other (g2 := w.heap.size + 1 + 1 + 1) (by have := LG.out; have := L1.out; have := L2.out; omega) 3 (.slice p7b n7b c7b))
        replace X2 := hid ((((X2.out.other (g2 := w.heap.size + 1 + 1 + 1) (by have := LG.out; have := L1.out; have := L2.out; omega) 0 (.bool s7a)).other (g2 := w.heap.size + 1 + 1 + 1) (by have := LG.out; have := L1.out; have := L2.out; omega) 1 (.slice p7a n7a c7a)).other (g2 := w.heap.size + 1 + 1 + 1) (by have := LG.out; have := L1.out; have := L2.out; omega) 2 (.bool s7b)).other (g2 := w.heap.size + 1 + 1 + 1) (by have := LG.out; have := L1.out; have := L2.out; omega) 3 (.slice p7b n7b c7b))
        replace XL := hid ((((XL.out.other (g2 := w.heap.size + 1 + 1 + 1) (by have := LG.out; have := L1.out; have := L2.out; omega) 0 (.bool s7a)).other (g2 := w.heap.size + 1 + 1 + 1) (by have := LG.out; have := L1.out; have := L2.out; omega) 1 (.slice p7a n7a c7a)).other (g2 := w.heap.size + 1 + 1 + 1) (by have := LG.out; have := L1.out; have := L2.out; omega) 2 (.bool s7b)).other (g2 := w.heap.size + 1 + 1 + 1) (by have := LG.out; have := L1.out; have := L2.out; omega) 3 (.slice p7b n7b c7b))
        replace XM := hid ((((XM.out.other (g2 := w.heap.size + 1 + 1 + 1) (by have := LG.out; have := L1.out; have := L2.out; omega) 0 (.bool s7a)).other (g2 := w.heap.size + 1 + 1 + 1) (by have := LG.out; have := L1.out; have := L2.out; omega) 1 (.slice p7a n7a c7a)).other (g2 := w.heap.size + 1 + 1 + 1) (by have := LG.out; have := L1.out; have := L2.out; omega) 2 (.bool s7b)).other (g2 := w.heap.size + 1 + 1 + 1) (by have := LG.out; have := L1.out; have := L2.out; omega) 3 (.slice p7b n7b c7b))
        replace HT1 := hid (r908c HT1.out)
        replace HU1 := hid (r908c HU1.out)
        replace HM := hid (r908c HM.out)
        replace HTl := hid (r908c HTl.out)
        replace HUl := hid (r908c HUl.out)
        replace HTh := hid (r908c HTh.out)
        replace HUh := hid (r908c HUh.out)
        replace HT7 := hid (r908c HT7.out)
        replace HU7 := hid (r908c HU7.out)
        replace XH := hid r908a
        replace B := hid r908b
        clear r908a r908b r908c
        go_wp2_with fail
        have e1 := HAd.out.2.1; have e2 := HI.out; have e3 := l.den_pos; have e4 := r.den_pos
        go_roundg (2 * m - (l.den + (med l r).den))
        case rel => exact ⟨l, med l r, _, _, _, _, _, _, _, _, _, _, _, _, _, _, _, _, _, _, X1, X2, XL, XH, HT1, HU1, HM, HTl, HUl, HDl, HT7, HU7, HD7, hid ⟨HAd.out.2.2.1, e2.2.1, by omega, e2.2.2.2.1, hx, e2.2.2.2.2.2.1, HB.out.2, by omega⟩, B⟩
        case measure => omega
      · rw [decide_eq_false hx] at HS
        replace HS := hid HS
        refine (HS.out).mono ?_
        rintro e w1001 ⟨rfl, hb⟩
        replace X1 := nx X1 hb
        replace X2 := bx X2 hb
        replace XL := nx XL hb
        replace XH := nx XH hb
        replace XM := nx XM hb
        replace HT1 := wl HT1 hb
        replace HU1 := wl HU1 hb
        replace HM := wl HM hb
        replace HTl := wl HTl hb
        replace HUl := wl HUl hb
        replace HTh := wl HTh hb
        replace HUh := wl HUh hb
        replace HT7 := wl HT7 hb
        replace HU7 := wl HU7 hb
        replace B := bb B hb
        clear cc802a cc802b cc802c cc802d cc803a cc803b cc804a cc804b cc804c cc804d cc805a cc805b cc805c cc805d cc806a cc806b cc806c cc806d
        clear hb 
        clear HS
        obtain ⟨cc1002a, cc1002b, cc1002c, cc1002d⟩ := X1.out.cells
        obtain ⟨cc1003a, cc1003b⟩ := X2.out.both
        obtain ⟨cc1004a, cc1004b, cc1004c, cc1004d⟩ := XL.out.cells
        obtain ⟨cc1005a, cc1005b, cc1005c, cc1005d⟩ := XH.out.cells
        obtain ⟨cc1006a, cc1006b, cc1006c, cc1006d⟩ := XM.out.cells
        obtain ⟨⟨cc1007a, cc1007b⟩, ⟨cc1007c, cc1007d⟩, ⟨cc1007e, cc1007f⟩, cc1007g, cc1007h⟩ := XL.out.stores
        obtain ⟨r1008a, r1008b, r1008c⟩ := XL.out.last B.out (by have := LG.out; have := L1.out; have := L2.out; omega) s7a s7b p7a p7b n7a n7b c7a c7b
        replace X1 := hid ((((X1.out.other (g2 := w.heap.size + 1 + 1) (by have := LG.out; have := L1.out; have := L2.out; omega) 0 (.bool s7a)).other (g2 := w.heap.size + 1 + 1) (by have := LG.out; have := L1.out; have := L2.out; omega) 1 (.slice p7a n7a c7a)).other (g2 := w.heap.size + 1 + 1) (by have := LG.out; have := L1.out; have := L2.out; omega) 2 (.bool s7b)).other (g2 := w.heap.size + 1 + 1) (by have := LG.out; have := L1.out; have := L2.out; omega) 3 (.slice p7b n7b c7b))
        replace X2 := hid ((((X2.out.other (g2 := w.heap.size + 1 + 1) (by have := LG.out; have := L1.out; have := L2.out; omega) 0 (.bool s7a)).other (g2 := w.heap.size + 1 + 1) (by have := LG.out; have := L1.out; have := L2.out; omega) 1 (.slice p7a n7a c7a)).other (g2 := w.heap.size + 1 + 1) (by have := LG.out; have := L1.out; have := L2.out; omega) 2 (.bool s7b)).other (g2 := w.heap.size + 1 + 1) (by have := LG.out; have := L1.out; have := L2.out; omega) 3 (.slice p7b n7b c7b))
        replace XH := hid ((((XH.out.other (g2 := w.heap.size + 1 + 1) (by have := LG.out; have := L1.out; have := L2.out; omega) 0 (.bool s7a)).other (g2 := w.heap.size + 1 + 1) (by have := LG.out; have := L1.out; have := L2.out; omega) 1 (.slice p7a n7a c7a)).other (g2 := w.heap.size + 1 + 1) (by have := LG.out; have := L1.out; have := L2.out; omega) 2 (.bool s7b)).other (g2 := w.heap.size + 1 + 1) (by have := LG.out; have := L1.out; have := L2.out; omega) 3 (.slice p7b n7b c7b))
        replace XM := hid ((((XM.out.other (g2 := w.heap.size + 1 + 1) (by have := LG.out; have := L1.out; have := L2.out; omega) 0 (.bool s7a)).other (g2 := w.heap.size + 1 + 1) (by have := LG.out; have := L1.out; have := L2.out; omega) 1 (.slice p7a n7a c7a)).other (g2 := w.heap.size + 1 + 1) (by have := LG.out; have := L1.out; have := L2.out; omega) 2 (.bool s7b)).other (g2 := w.heap.size + 1 + 1) (by have := LG.out; have := L1.out; have := L2.out; omega) 3 (.slice p7b n7b c7b))
        replace HT1 := hid (r1008c HT1.out)
        replace HU1 := hid (r1008c HU1.out)
        replace HM := hid (r1008c HM.out)
        replace HTl := hid (r1008c HTl.out)
        replace HUl := hid (r1008c HUl.out)
        replace HTh := hid (r1008c HTh.out)
        replace HUh := hid (r1008c HUh.out)
        replace HT7 := hid (r1008c HT7.out)
        replace HU7 := hid (r1008c HU7.out)
        replace XL := hid r1008a
        replace B := hid r1008b
        clear r1008a r1008b r1008c
        go_wp2_with fail
        have e1 := HAd.out.2.1; have e2 := HI.out; have e3 := l.den_pos; have e4 := r.den_pos
        go_roundg (2 * m - ((med l r).den + r.den))
        case rel => exact ⟨med l r, r, _, _, _, _, _, _, _, _, _, _, _, _, _, _, _, _, _, _, X1, X2, XL, XH, HT1, HU1, HM, HT7, HU7, HD7, HTh, HUh, HDh, hid ⟨HAd.out.2.2.2, by omega, e2.2.2.1, Rat.not_lt.1 hx, e2.2.2.2.2.1, HB.out.1, e2.2.2.2.2.2.2.1, by omega⟩, B⟩
        case measure => omega

end Go.Proofs.Ytjeeepcnaaadmaa

/-
  PACKAGE cf: readLimit.
-/
namespace Go.Proofs.Ytjeeepcnaaadmaa
open Go.RowKit
open Num
set_option linter.unusedVariables false
set_option maxRecDepth 100000
set_option linter.unusedSimpArgs false

theorem good_whole {s : ByteArray} (h : Good s) : GoodZ s ∧ znum s = (num s : Int) := by
  have h1 : txt (num s) = s := txt_num h
  have h2 : ztxt (num s : Int) = s := by rw [ztxt, if_neg (by omega)]; simpa using h1
  refine ⟨⟨h.1, by rw [← h2]; exact isWhl_ztxt _⟩, ?_⟩
  conv => lhs; rw [← h2]
  exact znum_ztxt _

set_option maxHeartbeats 2000000 in
theorem limit_bad {s : ByteArray} {k : Int} (h : Bad s k) (hs : s.size ≤ maxLen) (w : World) :
    Calls Try.prog 41 #[.string s] w fun e w' => e = .returned (.tuple #[.agg #[.bool false, .slice none 0 0], errno k]) ∧ Below w.heap.size w w' := by
  have hne := errv_neq
  have hkk := errv_some h.ne
  have H1 := hid h
  have B := hid (Below.refl w.heap.size w)
  have hb1 := (Below.refl _ _).alloc (Nat.le_refl w.heap.size) (.cells #[.bool false, .slice none 0 0] 49)
  have hx2 := Box.new w false none 0 0
  replace B := bb B hb1
  have XR := hid hx2
  have hs3 : (w.alloc (.cells #[.bool false, .slice none 0 0] 49)).heap.size = w.heap.size + 1 := by simp
  clear hb1 hx2
  clear hs3 h
  go_enter Try.func41, Try.ntmps41
  obtain ⟨cc4a, cc4b⟩ := XR.out.both
  go_wp2_with fail
  generalize hW : w.alloc (.cells #[.bool false, .slice none 0 0] 49) = W5 at *
  clear hW
  refine (check_bad H1.out _ hs).mono ?_
  rintro e w' ⟨rfl, rfl⟩
  obtain ⟨cc6a, cc6b, cc6c, cc6d⟩ := XR.out.stores
  obtain ⟨r7a, r7b, r7c⟩ := XR.out.last B.out (by omega) false none 0 0
  replace XR := hid r7a
  replace B := hid r7b
  clear r7a r7b r7c
  go_wp2_with fail
  refine bodyPost_ret (res_cell_tmp rfl rfl rfl XR.out) rfl ?_
  exact ⟨rfl, B.out⟩

set_option maxHeartbeats 2000000 in
theorem limit_small {s : ByteArray} (h : Good s) (hc : num s < 1) (w : World) :
    Calls Try.prog 41 #[.string s] w fun e w' => e = .returned (.tuple #[.agg #[.bool false, .slice none 0 0], errno 2]) ∧ Below w.heap.size w w' := by
  have HG := hid (good_whole h)
  have H1 := hid h
  have HC := hid hc
  have B := hid (Below.refl w.heap.size w)
  have hb1 := (Below.refl _ _).alloc (Nat.le_refl w.heap.size) (.cells #[.bool false, .slice none 0 0] 49)
  have hx2 := Box.new w false none 0 0
  replace B := bb B hb1
  have XR := hid hx2
  have hs3 : (w.alloc (.cells #[.bool false, .slice none 0 0] 49)).heap.size = w.heap.size + 1 := by simp
  clear hb1 hx2
  clear hs3 h hc
  go_enter Try.func41, Try.ntmps41
  obtain ⟨cc4a, cc4b⟩ := XR.out.both
  go_wp2_with fail
  generalize hW : w.alloc (.cells #[.bool false, .slice none 0 0] 49) = W5 at *
  clear hW
  refine (check_good H1.out _).mono ?_
  rintro e w6 ⟨rfl, hb⟩
  replace XR := bx XR hb
  replace B := bb B hb
  clear cc4a cc4b
  clear hb 
  obtain ⟨cc7a, cc7b⟩ := XR.out.both
  go_wp2_with fail
  refine (zread_good HG.out.1 _).mono ?_
  rintro e w8 ⟨v, rfl, hv, hb⟩
  rw [HG.out.2] at hv
  obtain ⟨s5, p5, n5, c5, rfl⟩ := hv.opened
  replace XR := bx XR hb
  replace B := bb B hb
  clear cc7a cc7b
  have HN := hid hv
  clear hb hv
  have hb9 := (Below.refl _ _).alloc (Nat.le_refl w8.heap.size) (.cells #[.bool s5, .slice p5 n5 c5] 49)
  have hx10 := Box.new w8 s5 p5 n5 c5
  have L0 := hid XR.out.lt
  replace XR := bx XR hb9
  replace HN := wl HN hb9
  replace B := bb B hb9
  have XN := hid hx10
  have hs11 : (w8.alloc (.cells #[.bool s5, .slice p5 n5 c5] 49)).heap.size = w8.heap.size + 1 := by simp
  clear hb9 hx10
  obtain ⟨cc12a, cc12b⟩ := XR.out.both
  obtain ⟨cc13a, cc13b⟩ := XN.out.both
  go_wp2_with fail
  generalize hW : w8.alloc (.cells #[.bool s5, .slice p5 n5 c5] 49) = W14 at *
  clear hW
  have d1 : decide ((num s : Int) < 1) = true := decide_eq_true (by have := HC.out; omega)
  obtain ⟨cc15a, cc15b⟩ := XN.out.both
  replace XR := hid XR.out.dr
  replace XN := hid XN.out.dr
  replace HN := hid HN.out.drew
  replace B := hid (Below.drew B.out)
  obtain ⟨cc16a, cc16b⟩ := XN.out.both
  go_region_with (first
    | (have hm := mk17_0; clear hm; go_at_call 70; refine (zless_whl HN.out HO6.out (by decide) (by decide)).mono ?_; rintro e w20 ⟨rfl, hb⟩; rw [d1]; replace XR := bx XR hb; replace XN := bx XN hb; replace HN := wl HN hb; replace HO6 := wl HO6 hb; replace B := bb B hb; clear cc19a cc19b; clear hb ; obtain ⟨cc21a, cc21b⟩ := XN.out.both; have mk17_1 := hid True.intro)
    | (go_at_call 71; refine (of_small 1 (by decide) _).mono ?_; rintro e w18 ⟨v, rfl, hv, hb⟩; obtain ⟨s6, p6, n6, c6, rfl⟩ := hv.opened; replace XR := bx XR hb; replace XN := bx XN hb; replace HN := wl HN hb; replace B := bb B hb; clear cc12a cc12b cc13a cc13b cc15a cc15b cc16a cc16b; have HO6 := hid hv; clear hb hv; obtain ⟨cc19a, cc19b⟩ := XN.out.both; have mk17_0 := hid True.intro))
  all_goals
    obtain ⟨cc22a, cc22b⟩ := XR.out.both
    obtain ⟨cc23a, cc23b⟩ := XN.out.both
    obtain ⟨cc24a, cc24b, cc24c, cc24d⟩ := XR.out.stores
    obtain ⟨r25a, r25b, r25c⟩ := XR.out.last B.out (by have := L0.out; omega) false none 0 0
    replace XN := hid ((XN.out.other (g2 := w.heap.size) (by have := L0.out; omega) 0 (.bool false)).other (g2 := w.heap.size) (by have := L0.out; omega) 1 (.slice none 0 0))
    replace HN := hid (r25c HN.out)
    replace HO6 := hid (r25c HO6.out)
    replace XR := hid r25a
    replace B := hid r25b
    clear r25a r25b r25c
    go_wp2_with fail
    refine bodyPost_ret (res_cell_tmp rfl rfl rfl XR.out) rfl ?_
    exact ⟨rfl, B.out⟩

set_option maxHeartbeats 2000000 in
theorem limit_great {s : ByteArray} (h : Good s) (hc : 1000 < num s) (w : World) :
    Calls Try.prog 41 #[.string s] w fun e w' => e = .returned (.tuple #[.agg #[.bool false, .slice none 0 0], errno 2]) ∧ Below w.heap.size w w' := by
  have HG := hid (good_whole h)
  have H1 := hid h
  have HC := hid hc
  have B := hid (Below.refl w.heap.size w)
  have hb1 := (Below.refl _ _).alloc (Nat.le_refl w.heap.size) (.cells #[.bool false, .slice none 0 0] 49)
  have hx2 := Box.new w false none 0 0
  replace B := bb B hb1
  have XR := hid hx2
  have hs3 : (w.alloc (.cells #[.bool false, .slice none 0 0] 49)).heap.size = w.heap.size + 1 := by simp
  clear hb1 hx2
  clear hs3 h hc
  go_enter Try.func41, Try.ntmps41
  obtain ⟨cc4a, cc4b⟩ := XR.out.both
  go_wp2_with fail
  generalize hW : w.alloc (.cells #[.bool false, .slice none 0 0] 49) = W5 at *
  clear hW
  refine (check_good H1.out _).mono ?_
  rintro e w6 ⟨rfl, hb⟩
  replace XR := bx XR hb
  replace B := bb B hb
  clear cc4a cc4b
  clear hb 
  obtain ⟨cc7a, cc7b⟩ := XR.out.both
  go_wp2_with fail
  refine (zread_good HG.out.1 _).mono ?_
  rintro e w8 ⟨v, rfl, hv, hb⟩
  rw [HG.out.2] at hv
  obtain ⟨s5, p5, n5, c5, rfl⟩ := hv.opened
  replace XR := bx XR hb
  replace B := bb B hb
  clear cc7a cc7b
  have HN := hid hv
  clear hb hv
  have hb9 := (Below.refl _ _).alloc (Nat.le_refl w8.heap.size) (.cells #[.bool s5, .slice p5 n5 c5] 49)
  have hx10 := Box.new w8 s5 p5 n5 c5
  have L0 := hid XR.out.lt
  replace XR := bx XR hb9
  replace HN := wl HN hb9
  replace B := bb B hb9
  have XN := hid hx10
  have hs11 : (w8.alloc (.cells #[.bool s5, .slice p5 n5 c5] 49)).heap.size = w8.heap.size + 1 := by simp
  clear hb9 hx10
  obtain ⟨cc12a, cc12b⟩ := XR.out.both
  obtain ⟨cc13a, cc13b⟩ := XN.out.both
  go_wp2_with fail
  generalize hW : w8.alloc (.cells #[.bool s5, .slice p5 n5 c5] 49) = W14 at *
  clear hW
  have d1 : decide ((num s : Int) < 1) = false := decide_eq_false (by have := HC.out; omega)
  have d2 : decide ((1000 : Int) < (num s : Int)) = true := decide_eq_true (by have := HC.out; omega)
  obtain ⟨cc15a, cc15b⟩ := XN.out.both
  replace XR := hid XR.out.dr
  replace XN := hid XN.out.dr
  replace HN := hid HN.out.drew
  replace B := hid (Below.drew B.out)
  obtain ⟨cc16a, cc16b⟩ := XN.out.both
  go_region_held3 (fun w' => w'.cell? ⟨w8.heap.size, 0, none⟩ = some (.bool s5) ∧ w'.cell? ⟨w8.heap.size, 1, none⟩ = some (.slice p5 n5 c5)) (go_keep) (first
    | (have hm := mk17_2; clear hm; go_at_call 70; refine (zless_whl HO7.out HN.out (by decide) (by decide)).mono ?_; rintro e w24 ⟨rfl, hb⟩; rw [d2]; replace XR := bx XR hb; replace XN := bx XN hb; replace HN := wl HN hb; replace HO6 := wl HO6 hb; replace HO7 := wl HO7 hb; replace B := bb B hb; clear cc23a cc23b; clear hb ; obtain ⟨cc25a, cc25b⟩ := XN.out.both; have mk17_3 := hid True.intro)
    | (have hm := mk17_1; clear hm; go_at_call 71; refine (of_small 1000 (by decide) _).mono ?_; rintro e w22 ⟨v, rfl, hv, hb⟩; obtain ⟨s7, p7, n7, c7, rfl⟩ := hv.opened; replace XR := bx XR hb; replace XN := bx XN hb; replace HN := wl HN hb; replace HO6 := wl HO6 hb; replace B := bb B hb; clear cc21a cc21b; have HO7 := hid hv; clear hb hv; obtain ⟨cc23a, cc23b⟩ := XN.out.both; have mk17_2 := hid True.intro)
    | (have hm := mk17_0; clear hm; go_at_call 70; refine (zless_whl HN.out HO6.out (by decide) (by decide)).mono ?_; rintro e w20 ⟨rfl, hb⟩; rw [d1]; replace XR := bx XR hb; replace XN := bx XN hb; replace HN := wl HN hb; replace HO6 := wl HO6 hb; replace B := bb B hb; clear cc19a cc19b; clear hb ; obtain ⟨cc21a, cc21b⟩ := XN.out.both; have mk17_1 := hid True.intro)
    | (go_at_call 71; refine (of_small 1 (by decide) _).mono ?_; rintro e w18 ⟨v, rfl, hv, hb⟩; obtain ⟨s6, p6, n6, c6, rfl⟩ := hv.opened; replace XR := bx XR hb; replace XN := bx XN hb; replace HN := wl HN hb; replace B := bb B hb; clear cc12a cc12b cc13a cc13b cc15a cc15b cc16a cc16b; have HO6 := hid hv; clear hb hv; obtain ⟨cc19a, cc19b⟩ := XN.out.both; have mk17_0 := hid True.intro))
  obtain ⟨cc26a, cc26b⟩ := XR.out.both
  obtain ⟨cc27a, cc27b⟩ := XN.out.both
  obtain ⟨cc28a, cc28b, cc28c, cc28d⟩ := XR.out.stores
  obtain ⟨r29a, r29b, r29c⟩ := XR.out.last B.out (by have := L0.out; omega) false none 0 0
  replace XN := hid ((XN.out.other (g2 := w.heap.size) (by have := L0.out; omega) 0 (.bool false)).other (g2 := w.heap.size) (by have := L0.out; omega) 1 (.slice none 0 0))
  replace HN := hid (r29c HN.out)
  replace HO6 := hid (r29c HO6.out)
  replace HO7 := hid (r29c HO7.out)
  replace XR := hid r29a
  replace B := hid r29b
  clear r29a r29b r29c
  go_wp2_with fail
  refine bodyPost_ret (res_cell_tmp rfl rfl rfl XR.out) rfl ?_
  exact ⟨rfl, B.out⟩

set_option maxHeartbeats 2000000 in
theorem limit_ok {s : ByteArray} (h : Good s) (hc : 1 ≤ num s ∧ num s ≤ 1000) (w : World) :
    Calls Try.prog 41 #[.string s] w fun e w' => ∃ v, e = .returned (.tuple #[v, .nilIface]) ∧ Whl w' v (num s : Int) 100 ∧ Below w.heap.size w w' := by
  have HG := hid (good_whole h)
  have H1 := hid h
  have HC := hid hc
  have B := hid (Below.refl w.heap.size w)
  have hb1 := (Below.refl _ _).alloc (Nat.le_refl w.heap.size) (.cells #[.bool false, .slice none 0 0] 49)
  have hx2 := Box.new w false none 0 0
  replace B := bb B hb1
  have XR := hid hx2
  have hs3 : (w.alloc (.cells #[.bool false, .slice none 0 0] 49)).heap.size = w.heap.size + 1 := by simp
  clear hb1 hx2
  clear hs3 h hc
  go_enter Try.func41, Try.ntmps41
  obtain ⟨cc4a, cc4b⟩ := XR.out.both
  go_wp2_with fail
  generalize hW : w.alloc (.cells #[.bool false, .slice none 0 0] 49) = W5 at *
  clear hW
  refine (check_good H1.out _).mono ?_
  rintro e w6 ⟨rfl, hb⟩
  replace XR := bx XR hb
  replace B := bb B hb
  clear cc4a cc4b
  clear hb 
  obtain ⟨cc7a, cc7b⟩ := XR.out.both
  go_wp2_with fail
  refine (zread_good HG.out.1 _).mono ?_
  rintro e w8 ⟨v, rfl, hv, hb⟩
  rw [HG.out.2] at hv
  obtain ⟨s5, p5, n5, c5, rfl⟩ := hv.opened
  replace XR := bx XR hb
  replace B := bb B hb
  clear cc7a cc7b
  have HN := hid hv
  clear hb hv
  have hb9 := (Below.refl _ _).alloc (Nat.le_refl w8.heap.size) (.cells #[.bool s5, .slice p5 n5 c5] 49)
  have hx10 := Box.new w8 s5 p5 n5 c5
  have L0 := hid XR.out.lt
  replace XR := bx XR hb9
  replace HN := wl HN hb9
  replace B := bb B hb9
  have XN := hid hx10
  have hs11 : (w8.alloc (.cells #[.bool s5, .slice p5 n5 c5] 49)).heap.size = w8.heap.size + 1 := by simp
  clear hb9 hx10
  obtain ⟨cc12a, cc12b⟩ := XR.out.both
  obtain ⟨cc13a, cc13b⟩ := XN.out.both
  go_wp2_with fail
  generalize hW : w8.alloc (.cells #[.bool s5, .slice p5 n5 c5] 49) = W14 at *
  clear hW
  have d1 : decide ((num s : Int) < 1) = false := decide_eq_false (by have := HC.out; omega)
  have d2 : decide ((1000 : Int) < (num s : Int)) = false := decide_eq_false (by have := HC.out; omega)
  obtain ⟨cc15a, cc15b⟩ := XN.out.both
  replace XR := hid XR.out.dr
  replace XN := hid XN.out.dr
  replace HN := hid HN.out.drew
  replace B := hid (Below.drew B.out)
  obtain ⟨cc16a, cc16b⟩ := XN.out.both
  go_region_held3 (fun w' => w'.cell? ⟨w8.heap.size, 0, none⟩ = some (.bool s5) ∧ w'.cell? ⟨w8.heap.size, 1, none⟩ = some (.slice p5 n5 c5)) (go_keep) (first
    | (have hm := mk17_2; clear hm; go_at_call 70; refine (zless_whl HO7.out HN.out (by decide) (by decide)).mono ?_; rintro e w24 ⟨rfl, hb⟩; rw [d2]; replace XR := bx XR hb; replace XN := bx XN hb; replace HN := wl HN hb; replace HO6 := wl HO6 hb; replace HO7 := wl HO7 hb; replace B := bb B hb; clear cc23a cc23b; clear hb ; obtain ⟨cc25a, cc25b⟩ := XN.out.both; have mk17_3 := hid True.intro)
    | (have hm := mk17_1; clear hm; go_at_call 71; refine (of_small 1000 (by decide) _).mono ?_; rintro e w22 ⟨v, rfl, hv, hb⟩; obtain ⟨s7, p7, n7, c7, rfl⟩ := hv.opened; replace XR := bx XR hb; replace XN := bx XN hb; replace HN := wl HN hb; replace HO6 := wl HO6 hb; replace B := bb B hb; clear cc21a cc21b; have HO7 := hid hv; clear hb hv; obtain ⟨cc23a, cc23b⟩ := XN.out.both; have mk17_2 := hid True.intro)
    | (have hm := mk17_0; clear hm; go_at_call 70; refine (zless_whl HN.out HO6.out (by decide) (by decide)).mono ?_; rintro e w20 ⟨rfl, hb⟩; rw [d1]; replace XR := bx XR hb; replace XN := bx XN hb; replace HN := wl HN hb; replace HO6 := wl HO6 hb; replace B := bb B hb; clear cc19a cc19b; clear hb ; obtain ⟨cc21a, cc21b⟩ := XN.out.both; have mk17_1 := hid True.intro)
    | (go_at_call 71; refine (of_small 1 (by decide) _).mono ?_; rintro e w18 ⟨v, rfl, hv, hb⟩; obtain ⟨s6, p6, n6, c6, rfl⟩ := hv.opened; replace XR := bx XR hb; replace XN := bx XN hb; replace HN := wl HN hb; replace B := bb B hb; clear cc12a cc12b cc13a cc13b cc15a cc15b cc16a cc16b; have HO6 := hid hv; clear hb hv; obtain ⟨cc19a, cc19b⟩ := XN.out.both; have mk17_0 := hid True.intro))
  obtain ⟨cc26a, cc26b⟩ := XR.out.both
  obtain ⟨cc27a, cc27b⟩ := XN.out.both
  obtain ⟨cc28a, cc28b, cc28c, cc28d⟩ := XR.out.stores
  obtain ⟨r29a, r29b, r29c⟩ := XR.out.last B.out (by have := L0.out; omega) s5 p5 n5 c5
  replace XN := hid ((XN.out.other (g2 := w.heap.size) (by have := L0.out; omega) 0 (.bool s5)).other (g2 := w.heap.size) (by have := L0.out; omega) 1 (.slice p5 n5 c5))
  replace HN := hid (r29c HN.out)
  replace HO6 := hid (r29c HO6.out)
  replace HO7 := hid (r29c HO7.out)
  replace XR := hid r29a
  replace B := hid r29b
  clear r29a r29b r29c
  go_wp2_with fail
  refine bodyPost_ret (res_cell_tmp rfl rfl rfl XR.out) rfl ?_
  exact ⟨_, rfl, HN.out, B.out⟩

end Go.Proofs.Ytjeeepcnaaadmaa

/-
  CONTINUED FRACTIONS AS TEXTS.
-/
namespace Go.Proofs.Ytjeeepcnaaadmaa
open Go.RowKit
open Num
set_option linter.unusedVariables false
set_option maxRecDepth 100000
set_option linter.unusedSimpArgs false

/-- The texts of a fraction's numbers. -/
def cft (q : Rat) : List ByteArray := (cfq q).map ztxt
theorem cfq_cons (q : Rat) : cfq q = q.floor :: cfl q.den (q.num % q.den).toNat := by
  unfold cfq
  rw [cfl_pos _ (by have := q.den_pos; omega), Rat.floor_def]
theorem cft_len (q : Rat) : (cft q).length = (cfq q).length := by simp [cft]
theorem tx_cft (q : Rat) {i : Nat} (h : i < (cft q).length) : tx (cft q) i = ztxt ((cfq q)[i]'(by rw [cft_len] at h; exact h)) := by
  rw [tx_lt h]; simp [cft]
theorem rest_den (q : Rat) : (q.num % q.den).toNat < q.den := by
  exact (rest_lt q.num (by have := q.den_pos; omega)).1
theorem cfq_tail (q : Rat) {i : Nat} (h : i + 1 < (cfq q).length) : 1 ≤ (cfq q)[i + 1] ∧ (cfq q)[i + 1] ≤ q.den ∧ (i + 2 = (cfq q).length → (cfq q)[i + 1] ≠ 1) := by
  have e := cfq_cons q
  obtain ⟨h1, h2⟩ := cfl_less _ (q.num % q.den).toNat q.den (Nat.le_refl _) (rest_den q)
  simp only [e, List.length_cons, List.getElem_cons_succ] at h ⊢
  have hm := h1 _ (List.getElem_mem (l := cfl q.den (q.num % q.den).toNat) (n := i) (by omega))
  refine ⟨hm.1, hm.2, fun hl => h2 _ ?_⟩
  rw [List.getLast?_eq_getElem?, ← List.getElem?_eq_getElem]
  congr 1
  omega
theorem cft_one_iff (q : Rat) : (cft q).length = 1 ↔ q.den = 1 := by
  rw [cft_len, cfq_cons]
  simp only [List.length_cons]
  constructor
  · intro h
    have h0 : cfl q.den (q.num % q.den).toNat = [] := List.length_eq_zero_iff.1 (by omega)
    by_cases hr : (q.num % q.den).toNat = 0
    · have hd : (q.den : Int) ∣ q.num := by
        have := rest_lt q.num (b := q.den) (by have := q.den_pos; omega)
        exact Int.dvd_of_emod_eq_zero (by omega)
      have hc := q.reduced
      have h1 : q.den ∣ Nat.gcd q.num.natAbs q.den := Nat.dvd_gcd (by have := Int.natAbs_dvd_natAbs.2 hd; simpa using this) (Nat.dvd_refl _)
      rw [hc] at h1
      exact Nat.dvd_one.1 h1
    · rw [cfl_pos _ hr] at h0; cases h0
  · intro h
    rw [h]
    have : (q.num % (1 : Nat)).toNat = 0 := by omega
    rw [this, cfl_zero]; rfl
theorem den_size {a : ByteArray} (h : GoodQ a) (hd : (qnum a).den ≠ 1) : (ztxt (qnum a).den).size ≤ 100 := by
  have e := qtxt_two hd
  have h1 := h.1
  rw [← qtxt_good h] at h1
  have h2 : (qtxt (qnum a)).data.toList.length = (qtxt (qnum a)).size := by simp
  rw [e] at h2
  simp only [List.length_append, List.length_cons] at h2
  have h3 : (ztxt (qnum a).den).data.toList.length = (ztxt (qnum a).den).size := by simp
  omega
theorem cft_good {a : ByteArray} (h : GoodQ a) {i : Nat} (hi : i < (cft (qnum a)).length) : GoodZ (tx (cft (qnum a)) i) := by
  rw [tx_cft _ hi]
  have hi' := hi
  rw [cft_len] at hi'
  match i, hi' with
  | 0, hi' =>
    have e : (cfq (qnum a))[0] = (qnum a).floor := by simp [cfq_cons]
    rw [e]
    exact (floor_good h).2
  | i + 1, hi' =>
    obtain ⟨h1, h2, _⟩ := cfq_tail (qnum a) hi'
    have hd : (qnum a).den ≠ 1 := by
      intro hd
      have := (cft_one_iff _).2 hd
      rw [cft_len] at this
      omega
    exact ⟨Nat.le_trans (size_ztxt_mono (by omega) (by omega)) (den_size h hd), isWhl_ztxt _⟩
theorem cft_goodL {a : ByteArray} (h : GoodQ a) (hl : (cft (qnum a)).length ≤ 30) : GoodL (cft (qnum a)) := by
  refine ⟨fun i hi => cft_good h hi, ?_, hl, fun i h1 hi => ?_⟩
  · rw [cft_len, cfq_cons]; simp
  · rw [tx_cft _ hi, znum_ztxt]
    rw [cft_len] at hi
    obtain ⟨j, rfl⟩ : ∃ j, i = j + 1 := ⟨i - 1, by omega⟩
    exact (cfq_tail _ hi).1
theorem zlist_cft (q : Rat) : zlist (cft q) = cfq q := by
  unfold zlist cft
  rw [List.map_map]
  conv => rhs; rw [← List.map_id (cfq q)]
  apply List.map_congr_left
  intro z _
  exact znum_ztxt z
theorem cfback_cfq (q : Rat) : cfback (cfq q) = q := by
  obtain ⟨h1, h2⟩ := cfb_cfl q.den q.den q.num (Nat.le_refl _) (.inl q.den_pos)
  have hg : Int.gcd q.num q.den = 1 := q.reduced
  rw [hg] at h1 h2
  simp only [Int.natCast_one, Int.mul_one] at h1 h2
  show Rat.divInt (cfb (cfl q.num q.den)).1 (cfb (cfl q.num q.den)).2 = q
  rw [h1, h2, Rat.num_divInt_den]
/-- Of what is above 1, turned upside down. -/
theorem cfq_turned {q : Rat} (h : 1 < q) : cfq (1 / q) = 0 :: cfq q := by
  have hn : (q.den : Int) < q.num := by
    have := (Rat.lt_iff 1 q).1 h
    simpa using this
  have hd := q.den_pos
  have hg : Int.gcd (q.den : Int) q.num = 1 := by rw [Int.gcd_comm]; exact q.reduced
  have e : (1 : Rat) / q = Rat.divInt q.den q.num := by
    have := div_parts 1 q
    simpa using this
  obtain ⟨e1, e2⟩ := divInt_cop (show 0 < q.num by omega) hg
  have e3 : (1 / q).den = q.num.toNat := by rw [e]; omega
  show cfl (1 / q).num (1 / q).den = _
  rw [e3, e, e1]
  rw [cfl_pos _ (by omega)]
  have h4 : (q.num.toNat : Int) = q.num := by omega
  rw [h4, Int.ediv_eq_zero_of_lt (by omega) hn, Int.emod_eq_of_lt (by omega) hn]
  rfl
theorem cft_turned {q : Rat} (h : 1 < q) : cft (1 / q) = ⟨#[48]⟩ :: cft q := by
  unfold cft
  rw [cfq_turned h, List.map_cons, ztxt_zero]
theorem den_one_iff {a : ByteArray} (h : GoodQ a) : (qnum a).den = 1 ↔ GoodZ a := by
  constructor
  · intro hd
    have e := qtxt_good h
    rw [qtxt_one hd] at e
    exact ⟨h.1, by rw [← e]; exact isWhl_ztxt _⟩
  · intro hz
    rw [(qnum_whole hz).2]; rfl

end Go.Proofs.Ytjeeepcnaaadmaa

/-
  golden.
-/
namespace Go.Proofs.Ytjeeepcnaaadmaa
open Go.RowKit
open Num
set_option linter.unusedVariables false
set_option maxRecDepth 100000
set_option linter.unusedSimpArgs false

theorem golden_list : (cfq (qnum ⟨#[56, 47, 53]⟩)).map ztxt = [⟨#[49]⟩, ⟨#[49]⟩, ⟨#[49]⟩, ⟨#[50]⟩] := by
  have e : qnum ⟨#[56, 47, 53]⟩ = 8 / 5 := by decide +kernel
  have n : ((8 : Rat) / 5).num = 8 := by decide +kernel
  have d : ((8 : Rat) / 5).den = 5 := by decide +kernel
  have l : cfq (8 / 5) = [1, 1, 1, 2] := by
    unfold cfq
    rw [n, d, cfl_pos _ (by decide), show ((8 : Int) % (5 : Nat)).toNat = 3 by decide, cfl_pos _ (by decide), show (((5 : Nat) : Int) % (3 : Nat)).toNat = 2 by decide, cfl_pos _ (by decide), show (((3 : Nat) : Int) % (2 : Nat)).toNat = 1 by decide, cfl_pos _ (by decide), show (((2 : Nat) : Int) % (1 : Nat)).toNat = 0 by decide, cfl_zero]
    decide
  rw [e, l]
  decide +kernel
set_option maxHeartbeats 1000000 in
theorem golden_true (w : World) :
    Calls Try.prog 18 #[] w fun e w' => e = .returned (.bool true) ∧ Below w.heap.size w w' := by
  have HP := hid (of_good (s := ⟨#[56, 47, 53]⟩) ⟨by decide, by decide +kernel⟩ w)
  rw [golden_list] at HP
  have B := hid (Below.refl w.heap.size w)
  go_enter Try.func18, Try.ntmps18
  go_wp2_with fail
  refine (HP.out).mono ?_
  rintro e w1 ⟨v, rfl, ho, hb⟩
  have HT := hid ho.txs
  replace B := bb B hb
  clear hb ho HP
  have hb2 := (Below.refl w1.heap.size w1).alloc (Nat.le_refl _) (.cells #[.string ⟨#[49]⟩, .string ⟨#[49]⟩, .string ⟨#[49]⟩, .string ⟨#[50]⟩] 9)
  have HU := hid ((OwnT.new w1 w1.heap.size (Nat.le_refl _) [⟨#[49]⟩, ⟨#[49]⟩, ⟨#[49]⟩, ⟨#[50]⟩] (by decide)).txs)
  have HS := hid (same_texts (HT.out.on hb2) HU.out)
  replace B := bb B hb2
  clear hb2 HT HU
  go_wp2_with fail
  refine (HS.out).mono ?_
  rintro e w2 ⟨rfl, hb⟩
  replace B := bb B hb
  clear hb 
  go_wp2_with fail
  go_ret
  exact ⟨rfl, B.out⟩

end Go.Proofs.Ytjeeepcnaaadmaa
