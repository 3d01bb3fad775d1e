import Derived.Test.YtjeeepcnaaadmaaBunProofCfTurned13
import Derived.Test.YtjeeepcnaaadmaaBunProofCfTurned12
import Derived.Test.YtjeeepcnaaadmaaBunProofCfTurned1
import Derived.Test.YtjeeepcnaaadmaaBunProofCfTurned8
/-
  PACKAGE cf: collapse.
-/
namespace Go.Proofs.Ytjeeepcnaaadmaa
open Go.RowKit Go.Shelf
open Num
set_option linter.unusedVariables false
set_option maxRecDepth 100000
set_option linter.unusedSimpArgs false
attribute [local go_sem] Oper.semAt_some

/-- A turn of what is no cells changes no number. -/
theorem Lim.turned {w w' : World} {v : Value} {xs : List Nat} {row : Option Nat} (h : Lim w v xs) (hg : w.grownBy w' row) (hr : ∀ r, row = some r → ∃ o : Obj, w.heap[r]? = some o ∧ o.isCells = false) : Lim w' v xs := by
  obtain ⟨h1, p, c, h2, h3, h4, h5⟩ := h
  refine ⟨h1, p, c, h2, h3, h4, ?_⟩
  rcases h5 with h5 | ⟨b, off, h6, h7, h8⟩
  · exact .inl h5
  · refine .inr ⟨b, off, h6, Nat.lt_of_lt_of_le h7 hg.size, fun i hi => ?_⟩
    have h9 := h8 i hi
    by_cases hb : row = some b
    · exfalso
      obtain ⟨o, ho, hc⟩ := hr b hb
      simp only [World.cell?, ho] at h9
      cases o <;> simp_all [Obj.isCells]
    · rw [← h9]
      exact World.cell?_of_block (hg.block b h7 (fun e => hb e.symm))
theorem Whl.turned {w w' : World} {v : Value} {z : Int} {k : Nat} {row : Option Nat} (h : Whl w v z k) (hg : w.grownBy w' row) (hr : ∀ r, row = some r → ∃ o : Obj, w.heap[r]? = some o ∧ o.isCells = false) : Whl w' v z k := by
  obtain ⟨s, sv, xs, h1, h2, h3⟩ := h
  exact ⟨s, sv, xs, h1, h2.turned hg hr, h3⟩
theorem Box.turned {w w' : World} {g : Nat} {s : Bool} {sv : Value} {row : Option Nat} (h : Box w g s sv) (hg : w.grownBy w' row) (hr : ∀ r, row = some r → ∃ o : Obj, w.heap[r]? = some o ∧ o.isCells = false) : Box w' g s sv := by
  refine ⟨(hg.block g h.lt (fun e => ?_)).trans h.1, h.2⟩
  obtain ⟨o, ho, hc⟩ := hr g e.symm
  rw [h.1] at ho
  cases ho
  cases hc
theorem Nbx.turned {w w' : World} {g : Nat} {s s' : Bool} {sv sv' : Value} {row : Option Nat} (h : Nbx w g s sv s' sv') (hg : w.grownBy w' row) (hr : ∀ r, row = some r → ∃ o : Obj, w.heap[r]? = some o ∧ o.isCells = false) : Nbx w' g s sv s' sv' := by
  refine (hg.block g h.lt (fun e => ?_)).trans h
  obtain ⟨o, ho, hc⟩ := hr g e.symm
  rw [show w.heap[g]? = _ from h] at ho
  cases ho
  cases hc

/-- The places that have come, folded. -/
def cac (zf : Nat → Int) (pre : List Nat) : Int × Int := pre.foldl (fun p x => (zf x * p.1 + p.2, p.1)) (1, 0)
theorem cac_snoc (zf : Nat → Int) (pre : List Nat) (x : Nat) : cac zf (pre ++ [x]) = (zf x * (cac zf pre).1 + (cac zf pre).2, (cac zf pre).1) := by simp [cac]

theorem KB.on {n₀ Bs : Nat} {W A A' : World} (h : KB n₀ Bs W A) (hb : Below A.heap.size A A') (h1 : n₀ ≤ A.heap.size) (h2 : Bs < A.heap.size) : KB n₀ Bs W A' := ⟨h.1.trans (hb.mono h1), (hb.block Bs h2).trans h.2⟩
theorem KB.set {n₀ Bs g : Nat} {W A : World} (h : KB n₀ Bs W A) (h1 : n₀ ≤ g) (h2 : Bs ≠ g) (i : Nat) (u : Value) : KB n₀ Bs W (A.setCell ⟨g, i, none⟩ u) := ⟨h.1.setCell (p := ⟨g, i, none⟩) h1 _, (Below.heap_setCell _ _ _ _ (by exact h2)).trans h.2⟩
theorem KeepsOthers.of_below {W W' : World} (h : Below W.heap.size W W') : KeepsOthers W W' := ⟨h.size, fun k o hk _ => (h.block k (Array.getElem?_eq_some_iff.1 hk).1).trans hk⟩

/-- What holds between two rounds. -/
def CI (w : World) (G : Nat) (vs : List Zr) (zf : Nat → Int) (pre : List Nat) (W : World) : Prop :=
  (∃ s1 p1 n1 c1 s2 p2 n2 c2, Box W G s1 (.slice p1 n1 c1) ∧ Box W (G + 1) s2 (.slice p2 n2 c2) ∧ Whl W (.agg #[.bool s1, .slice p1 n1 c1]) (cac zf pre).1 (101 * pre.length + 1) ∧ Whl W (.agg #[.bool s2, .slice p2 n2 c2]) (cac zf pre).2 (101 * pre.length + 1)) ∧
  (∀ i, Whl W (zag (zat vs i)) (zf i) 100) ∧ Nbx W w.heap.size false (.slice none 0 0) false (.slice none 0 0) ∧ Below w.heap.size w W ∧ G + 1 + 1 < W.heap.size
theorem CI.own {w : World} {G : Nat} {vs : List Zr} {zf : Nat → Int} {K : Nat} (hK : w.heap.size ≤ K) : OwnFrom K (CI w G vs zf) := by
  rintro s W W' row ⟨⟨s1, p1, n1, c1, s2, p2, n2, c2, h1, h2, h3, h4⟩, h5, h6, h7, h8⟩ hg hr
  have hr' := fun r e => (hr r e).2
  exact ⟨⟨s1, p1, n1, c1, s2, p2, n2, c2, h1.turned hg hr', h2.turned hg hr', h3.turned hg hr', h4.turned hg hr'⟩, fun i => (h5 i).turned hg hr', h6.turned hg hr', h7.grown hg h7.size (fun g e => Nat.le_trans hK (hr g e).1), Nat.lt_of_lt_of_le h8 hg.size⟩
theorem CI.size {w : World} {G : Nat} {vs : List Zr} {zf : Nat → Int} {pre : List Nat} {W : World} (h : CI w G vs zf pre W) : G + 1 + 1 < W.heap.size := h.2.2.2.2
theorem CI.on {w : World} {G : Nat} {vs : List Zr} {zf : Nat → Int} {pre : List Nat} {W W' : World} (h : CI w G vs zf pre W) (hb : Below W.heap.size W W') : CI w G vs zf pre W' := by
  obtain ⟨⟨s1, p1, n1, c1, s2, p2, n2, c2, h1, h2, h3, h4⟩, h5, h6, h7, h8⟩ := h
  exact ⟨⟨s1, p1, n1, c1, s2, p2, n2, c2, h1.below hb h1.lt, h2.below hb h2.lt, h3.on hb, h4.on hb⟩, fun i => (h5 i).on hb, h6.below hb h6.lt, h7.trans (hb.mono h7.size), Nat.lt_of_lt_of_le h8 hb.size⟩
theorem CI.alloc {w : World} {G : Nat} {vs : List Zr} {zf : Nat → Int} {pre : List Nat} {W : World} (h : CI w G vs zf pre W) (o : Obj) : CI w G vs zf pre (W.alloc o) := h.on ((Below.refl _ _).alloc (Nat.le_refl _) o)
theorem CI.store {w : World} {G : Nat} {vs : List Zr} {zf : Nat → Int} {pre : List Nat} {W : World} (h : CI w G vs zf pre W) {g : Nat} {s : Bool} {sv : Value} (hX : Box W g s sv) (i : Nat) (u : Value) (hg : G + 1 < g) (hw : w.heap.size < g) : CI w G vs zf pre (W.setCell ⟨g, i, none⟩ u) := by
  obtain ⟨⟨s1, p1, n1, c1, s2, p2, n2, c2, h1, h2, h3, h4⟩, h5, h6, h7, h8⟩ := h
  exact ⟨⟨s1, p1, n1, c1, s2, p2, n2, c2, h1.other (by omega) _ _, h2.other (by omega) _ _, h3.box hX _ _, h4.box hX _ _⟩, fun i => (h5 i).box hX _ _, h6.other (by omega) _ _, h7.setCell (p := ⟨g, i, none⟩) (Nat.le_of_lt hw) _, by simpa [World.setCell] using h8⟩

end Go.Proofs.Ytjeeepcnaaadmaa

/-
  PACKAGE cf: Back.
-/
namespace Go.Proofs.Ytjeeepcnaaadmaa
open Go.RowKit
open Num
set_option linter.unusedVariables false
set_option maxRecDepth 100000
set_option linter.unusedSimpArgs false

/-- The fraction of numbers. -/
def cfback (l : List Int) : Rat := Rat.divInt (cfb l).1 (cfb l).2
theorem dwn_map {α : Type} (f : Nat → α) : ∀ (n : Nat), (dwn n n).map f = ((List.range n).map f).reverse := by
  intro n
  rw [dwn, ← List.map_reverse, List.map_map]
  apply List.ext_getElem
  · simp
  · intro i h1 h2
    simp at h1
    simp
theorem cac_map (zf : Nat → Int) (n : Nat) : cac zf (dwn n n) = cfb ((List.range n).map zf) := by
  unfold cac cfb
  rw [List.foldr_eq_foldl_reverse, ← dwn_map, List.foldl_map]
theorem cfb_pos : ∀ (l : List Int), (∀ z ∈ l, 1 ≤ z) → 1 ≤ (cfb l).1 ∧ 0 ≤ (cfb l).2 := by
  intro l
  induction l with
  | nil => intro _; simp [cfb]
  | cons z l ih =>
    intro h
    obtain ⟨h1, h2⟩ := ih (fun x hx => h x (by simp [hx]))
    have hz := h z (by simp)
    rw [cfb_cons]
    have := Int.mul_le_mul_of_nonneg_right hz (show (0 : Int) ≤ (cfb l).1 by omega)
    omega
theorem cfb_two {z : Int} {l : List Int} (h : ∀ x ∈ l, 1 ≤ x) : 1 ≤ (cfb (z :: l)).2 := by
  rw [cfb_cons]; exact (cfb_pos l h).1
/-- What a list of texts reads as. -/
def zlist (ss : List ByteArray) : List Int := ss.map znum
theorem zlist_range (ss : List ByteArray) : (List.range ss.length).map (fun i => if i < ss.length then znum (tx ss i) else 0) = zlist ss := by
  apply List.ext_getElem
  · simp [zlist]
  · intro i h1 h2
    simp [zlist] at h2
    simp [zlist, h2, tx]
/-- Lists that have a fraction. -/
def GoodL (ss : List ByteArray) : Prop := AllZ ss ∧ 1 ≤ ss.length ∧ ss.length ≤ 30 ∧ ∀ i, 1 ≤ i → i < ss.length → 1 ≤ znum (tx ss i)
/-- What is wrong with a list. -/
def BadL (ss : List ByteArray) (k : Int) : Prop :=
  (∃ i, i < ss.length ∧ (∀ j, j < i → GoodZ (tx ss j)) ∧ BadZ (tx ss i) k) ∨ (AllZ ss ∧ ss.length = 0 ∧ k = 3) ∨ (AllZ ss ∧ 30 < ss.length ∧ k = 4) ∨
  (AllZ ss ∧ 1 ≤ ss.length ∧ ss.length ≤ 30 ∧ (∃ i, 1 ≤ i ∧ i < ss.length ∧ znum (tx ss i) ≤ 0) ∧ k = 2)
theorem BadL.ne {ss : List ByteArray} {k : Int} (h : BadL ss k) : k ≠ 0 := by
  rcases h with ⟨i, _, _, h⟩ | ⟨_, _, rfl⟩ | ⟨_, _, rfl⟩ | ⟨_, _, _, _, rfl⟩
  · exact h.ne
  all_goals decide
theorem BadL.not {ss : List ByteArray} {k : Int} (h : BadL ss k) : ¬ GoodL ss := by
  rintro ⟨g1, g2, g3, g4⟩
  rcases h with ⟨i, hi, _, h⟩ | ⟨_, h, _⟩ | ⟨_, h, _⟩ | ⟨_, _, _, ⟨i, h1, h2, h3⟩, _⟩
  · have := g1 i hi
    obtain ⟨a1, a2⟩ := this
    rcases h with ⟨h, _⟩ | ⟨_, h, _⟩
    · omega
    · rw [h] at a2; cases a2
  · omega
  · omega
  · have := g4 i h1 h2; omega
theorem GoodL.den {ss : List ByteArray} (h : GoodL ss) : 1 ≤ (cfb (zlist ss)).2 := by
  obtain ⟨h1, h2, h3, h4⟩ := h
  match ss, h2, h4 with
  | s :: ss, _, h4 =>
    refine cfb_two fun x hx => ?_
    obtain ⟨s', hs', rfl⟩ := List.mem_map.1 hx
    obtain ⟨i, hi, rfl⟩ := List.mem_iff_getElem.1 hs'
    have := h4 (i + 1) (by omega) (by simpa using hi)
    rw [tx_lt (by simpa using hi)] at this
    simpa using this
theorem cells_whl_zero (w : World) (k : Nat) : Whl w (.agg #[.bool false, .slice none 0 0]) 0 k := ⟨false, _, [], rfl, Lim.nil w, .inl rfl, Nat.zero_le _, by simp, rfl⟩
theorem zat_ge {vs : List Zr} {i : Nat} (h : vs.length ≤ i) : zat vs i = (false, none, 0, 0) := by simp [zat, h]

theorem BadZ.uniq {s : ByteArray} {k l : Int} (h : BadZ s k) (h' : BadZ s l) : k = l := by
  rcases h with ⟨h1, rfl⟩ | ⟨h1, h2, rfl⟩ <;> rcases h' with ⟨k1, rfl⟩ | ⟨k1, k2, rfl⟩ <;> first | rfl | omega
theorem GoodZ.notBad {s : ByteArray} {k : Int} (h : GoodZ s) (h' : BadZ s k) : False := by
  obtain ⟨a1, a2⟩ := h
  rcases h' with ⟨h, _⟩ | ⟨_, h, _⟩
  · omega
  · rw [h] at a2; cases a2
theorem BadL.uniq {ss : List ByteArray} {k l : Int} (h : BadL ss k) (h' : BadL ss l) : k = l := by
  have first : ∀ i j (k l : Int), i < ss.length → (∀ j, j < i → GoodZ (tx ss j)) → BadZ (tx ss i) k → j < ss.length → (∀ i, i < j → GoodZ (tx ss i)) → BadZ (tx ss j) l → k = l := by
    intro i j k l h1 h2 h3 g1 g2 g3
    rcases Nat.lt_trichotomy i j with h | h | h
    · exact absurd h3 (g2 i h).notBad
    · subst h; exact h3.uniq g3
    · exact absurd g3 (h2 j h).notBad
  rcases h with ⟨i, h1, h2, h3⟩ | ⟨h1, h2, rfl⟩ | ⟨h1, h2, rfl⟩ | ⟨h1, h2, h3, h4, rfl⟩ <;> rcases h' with ⟨j, g1, g2, g3⟩ | ⟨g1, g2, rfl⟩ | ⟨g1, g2, rfl⟩ | ⟨g1, g2, g3, g4, rfl⟩
  · exact first i j k l h1 h2 h3 g1 g2 g3
  any_goals rfl
  any_goals omega
  all_goals first | exact absurd h3 (g1 i h1).notBad | exact absurd g3 (h1 j g1).notBad
theorem readq_errno {w w' : World} {ss : List ByteArray} {k : Int} {e : Ending} (hk : BadL ss k) (h : (ReadQ w ss e w')) : e = .returned (.tuple #[.slice none 0 0, errno k]) := by
  obtain ⟨h, _⟩ := h
  rcases h with ⟨l, i, h1, h2, h3, rfl⟩ | ⟨h1, h2, rfl⟩ | ⟨h1, h2, rfl⟩ | ⟨h1, h2, h3, h4, rfl⟩ | ⟨h1, h2, h3, h4, _⟩
  · rw [hk.uniq (.inl ⟨i, h1, h2, h3⟩)]
  · rw [hk.uniq (.inr (.inl ⟨h1, h2, rfl⟩))]
  · rw [hk.uniq (.inr (.inr (.inl ⟨h1, h2, rfl⟩)))]
  · rw [hk.uniq (.inr (.inr (.inr ⟨h1, h2, h3, h4, rfl⟩)))]
  · exact absurd ⟨h1, h2, h3, h4⟩ hk.not

theorem goodL_or_bad (ss : List ByteArray) : GoodL ss ∨ ∃ k, BadL ss k := by
  by_cases hz : AllZ ss
  · by_cases h0 : ss.length = 0
    · exact .inr ⟨3, .inr (.inl ⟨hz, h0, rfl⟩)⟩
    by_cases h30 : 30 < ss.length
    · exact .inr ⟨4, .inr (.inr (.inl ⟨hz, h30, rfl⟩))⟩
    by_cases hp : ∀ i, 1 ≤ i → i < ss.length → 1 ≤ znum (tx ss i)
    · exact .inl ⟨hz, by omega, by omega, hp⟩
    · refine .inr ⟨2, .inr (.inr (.inr ⟨hz, by omega, by omega, ?_, rfl⟩))⟩
      apply Classical.byContradiction
      intro hn
      exact hp fun i h1 h2 => by
        apply Classical.byContradiction
        intro h3
        exact hn ⟨i, h1, h2, by omega⟩
  · right
    have first : ∀ n, n ≤ ss.length → (∀ i, i < n → GoodZ (tx ss i)) ∨ ∃ i k, i < ss.length ∧ (∀ j, j < i → GoodZ (tx ss j)) ∧ BadZ (tx ss i) k := by
      intro n
      induction n with
      | zero => intro _; exact .inl fun i hi => by omega
      | succ n ih =>
        intro hn
        rcases ih (by omega) with h | h
        · rcases goodZ_or_bad (tx ss n) with hg | ⟨k, hk⟩
          · exact .inl fun i hi => if h' : i < n then h i h' else (show n = i by omega) ▸ hg
          · exact .inr ⟨n, k, by omega, h, hk⟩
        · exact .inr h
    rcases first ss.length (Nat.le_refl _) with h | ⟨i, k, h1, h2, h3⟩
    · exact absurd h hz
    · exact ⟨k, .inl ⟨i, h1, h2, h3⟩⟩
/-- What cf.Back tells. -/
def BackTells (ss : List ByteArray) (s : ByteArray) (k : Int) : Prop := (k = 0 ∧ GoodL ss ∧ s = qtxt (cfback (zlist ss))) ∨ (k ≠ 0 ∧ BadL ss k ∧ s = ⟨#[]⟩)
end Go.Proofs.Ytjeeepcnaaadmaa

/-
  CONTINUED FRACTIONS AS TEXTS.
-/
namespace Go.Proofs.Ytjeeepcnaaadmaa
open Go.RowKit
open Num
set_option linter.unusedVariables false
set_option maxRecDepth 100000
set_option linter.unusedSimpArgs false

/-- The texts of a fraction's numbers. -/
def cft (q : Rat) : List ByteArray := (cfq q).map ztxt
theorem cfq_cons (q : Rat) : cfq q = q.floor :: cfl q.den (q.num % q.den).toNat := by
  unfold cfq
  rw [cfl_pos _ (by have := q.den_pos; omega), Rat.floor_def]
theorem cft_len (q : Rat) : (cft q).length = (cfq q).length := by simp [cft]
theorem tx_cft (q : Rat) {i : Nat} (h : i < (cft q).length) : tx (cft q) i = ztxt ((cfq q)[i]'(by rw [cft_len] at h; exact h)) := by
  rw [tx_lt h]; simp [cft]
theorem rest_den (q : Rat) : (q.num % q.den).toNat < q.den := by
  exact (rest_lt q.num (by have := q.den_pos; omega)).1
theorem cfq_tail (q : Rat) {i : Nat} (h : i + 1 < (cfq q).length) : 1 ≤ (cfq q)[i + 1] ∧ (cfq q)[i + 1] ≤ q.den ∧ (i + 2 = (cfq q).length → (cfq q)[i + 1] ≠ 1) := by
  have e := cfq_cons q
  obtain ⟨h1, h2⟩ := cfl_less _ (q.num % q.den).toNat q.den (Nat.le_refl _) (rest_den q)
  simp only [e, List.length_cons, List.getElem_cons_succ] at h ⊢
  have hm := h1 _ (List.getElem_mem (l := cfl q.den (q.num % q.den).toNat) (n := i) (by omega))
  refine ⟨hm.1, hm.2, fun hl => h2 _ ?_⟩
  rw [List.getLast?_eq_getElem?, ← List.getElem?_eq_getElem]
  congr 1
  omega
theorem cft_one_iff (q : Rat) : (cft q).length = 1 ↔ q.den = 1 := by
  rw [cft_len, cfq_cons]
  simp only [List.length_cons]
  constructor
  · intro h
    have h0 : cfl q.den (q.num % q.den).toNat = [] := List.length_eq_zero_iff.1 (by omega)
    by_cases hr : (q.num % q.den).toNat = 0
    · have hd : (q.den : Int) ∣ q.num := by
        have := rest_lt q.num (b := q.den) (by have := q.den_pos; omega)
        exact Int.dvd_of_emod_eq_zero (by omega)
      have hc := q.reduced
      have h1 : q.den ∣ Nat.gcd q.num.natAbs q.den := Nat.dvd_gcd (by have := Int.natAbs_dvd_natAbs.2 hd; simpa using this) (Nat.dvd_refl _)
      rw [hc] at h1
      exact Nat.dvd_one.1 h1
    · rw [cfl_pos _ hr] at h0; cases h0
  · intro h
    rw [h]
    have : (q.num % (1 : Nat)).toNat = 0 := by omega
    rw [this, cfl_zero]; rfl
theorem den_size {a : ByteArray} (h : GoodQ a) (hd : (qnum a).den ≠ 1) : (ztxt (qnum a).den).size ≤ 100 := by
  have e := qtxt_two hd
  have h1 := h.1
  rw [← qtxt_good h] at h1
  have h2 : (qtxt (qnum a)).data.toList.length = (qtxt (qnum a)).size := by simp
  rw [e] at h2
  simp only [List.length_append, List.length_cons] at h2
  have h3 : (ztxt (qnum a).den).data.toList.length = (ztxt (qnum a).den).size := by simp
  omega
theorem cft_good {a : ByteArray} (h : GoodQ a) {i : Nat} (hi : i < (cft (qnum a)).length) : GoodZ (tx (cft (qnum a)) i) := by
  rw [tx_cft _ hi]
  have hi' := hi
  rw [cft_len] at hi'
  match i, hi' with
  | 0, hi' =>
    have e : (cfq (qnum a))[0] = (qnum a).floor := by simp [cfq_cons]
    rw [e]
    exact (floor_good h).2
  | i + 1, hi' =>
    obtain ⟨h1, h2, _⟩ := cfq_tail (qnum a) hi'
    have hd : (qnum a).den ≠ 1 := by
      intro hd
      have := (cft_one_iff _).2 hd
      rw [cft_len] at this
      omega
    exact ⟨Nat.le_trans (size_ztxt_mono (by omega) (by omega)) (den_size h hd), isWhl_ztxt _⟩
theorem cft_goodL {a : ByteArray} (h : GoodQ a) (hl : (cft (qnum a)).length ≤ 30) : GoodL (cft (qnum a)) := by
  refine ⟨fun i hi => cft_good h hi, ?_, hl, fun i h1 hi => ?_⟩
  · rw [cft_len, cfq_cons]; simp
  · rw [tx_cft _ hi, znum_ztxt]
    rw [cft_len] at hi
    obtain ⟨j, rfl⟩ : ∃ j, i = j + 1 := ⟨i - 1, by omega⟩
    exact (cfq_tail _ hi).1
theorem zlist_cft (q : Rat) : zlist (cft q) = cfq q := by
  unfold zlist cft
  rw [List.map_map]
  conv => rhs; rw [← List.map_id (cfq q)]
  apply List.map_congr_left
  intro z _
  exact znum_ztxt z
theorem cfback_cfq (q : Rat) : cfback (cfq q) = q := by
  obtain ⟨h1, h2⟩ := cfb_cfl q.den q.den q.num (Nat.le_refl _) (.inl q.den_pos)
  have hg : Int.gcd q.num q.den = 1 := q.reduced
  rw [hg] at h1 h2
  simp only [Int.natCast_one, Int.mul_one] at h1 h2
  show Rat.divInt (cfb (cfl q.num q.den)).1 (cfb (cfl q.num q.den)).2 = q
  rw [h1, h2, Rat.num_divInt_den]
/-- Of what is above 1, turned upside down. -/
theorem cfq_turned {q : Rat} (h : 1 < q) : cfq (1 / q) = 0 :: cfq q := by
  have hn : (q.den : Int) < q.num := by
    have := (Rat.lt_iff 1 q).1 h
    simpa using this
  have hd := q.den_pos
  have hg : Int.gcd (q.den : Int) q.num = 1 := by rw [Int.gcd_comm]; exact q.reduced
  have e : (1 : Rat) / q = Rat.divInt q.den q.num := by
    have := div_parts 1 q
    simpa using this
  obtain ⟨e1, e2⟩ := divInt_cop (show 0 < q.num by omega) hg
  have e3 : (1 / q).den = q.num.toNat := by rw [e]; omega
  show cfl (1 / q).num (1 / q).den = _
  rw [e3, e, e1]
  rw [cfl_pos _ (by omega)]
  have h4 : (q.num.toNat : Int) = q.num := by omega
  rw [h4, Int.ediv_eq_zero_of_lt (by omega) hn, Int.emod_eq_of_lt (by omega) hn]
  rfl
theorem cft_turned {q : Rat} (h : 1 < q) : cft (1 / q) = ⟨#[48]⟩ :: cft q := by
  unfold cft
  rw [cfq_turned h, List.map_cons, ztxt_zero]
theorem den_one_iff {a : ByteArray} (h : GoodQ a) : (qnum a).den = 1 ↔ GoodZ a := by
  constructor
  · intro hd
    have e := qtxt_good h
    rw [qtxt_one hd] at e
    exact ⟨h.1, by rw [← e]; exact isWhl_ztxt _⟩
  · intro hz
    rw [(qnum_whole hz).2]; rfl

end Go.Proofs.Ytjeeepcnaaadmaa

/-
  THE LAW CfTurned.
-/
namespace Go.Proofs.Ytjeeepcnaaadmaa
open Go.RowKit
open Num
set_option linter.unusedVariables false
set_option maxRecDepth 100000
set_option linter.unusedSimpArgs false

theorem cft_short {a : ByteArray} (h : GoodQ a) : (cft (qnum a)).length ≤ 801 := by
  rw [cft_len]
  have := cfl_len 400 (qnum a).den (qnum a).num (Nat.lt_trans (qnum_lt h).2 (by decide +kernel))
  show (cfl (qnum a).num (qnum a).den).length ≤ _
  omega

set_option maxHeartbeats 8000000 in
theorem cfturned_walk (a : ByteArray) (ha : a.size ≤ maxLen) (w : World) :
    Calls Try.prog 7 #[.string a] w fun e w' => e = .returned (.bool true) ∧ Below w.heap.size w w' := by
  obtain ⟨i0, hi, hz0, hz1, hz2⟩ := info_parts infoStr
  have hne := errv_neq
  have heq := errv_eql
  have hgd := errv_guard
  go_enter Try.func7, Try.ntmps7
  go_wp2_with fail
  refine (of_any a ha w).mono ?_
  rintro e w1 ⟨v1, l1, k1, rfl, ho1, t1, hb⟩
  have B := hid hb
  have O1 := hid ho1
  have T1 := hid t1
  clear hb ho1 t1
  go_wp2_with fail
  refine (qdiv_any ⟨#[49]⟩ a (by decide) ha w1).mono ?_
  rintro e w2 ⟨s2, k2, rfl, t2, z2, hb⟩
  replace B := bb B hb
  replace O1 := hid (O1.out.on hb)
  have T2 := hid t2
  clear hb t2
  go_wp2_with fail
  refine (of_any s2 z2 w2).mono ?_
  rintro e w3 ⟨v3, l3, k3, rfl, ho3, t3, hb⟩
  replace B := bb B hb
  replace O1 := hid (O1.out.on hb)
  have O3 := hid ho3.txs
  have T3 := hid t3
  clear hb ho3 t3
  go_wp2_with fail
  refine (qless_any ⟨#[49]⟩ a (by decide) ha w3).mono ?_
  rintro e w4 ⟨is, k4, rfl, t4, hb⟩
  replace B := bb B hb
  replace O1 := hid (O1.out.on hb)
  replace O3 := hid (O3.out.on hb)
  have T4 := hid t4
  clear hb t4
  go_wp2_with fail
  refine (half_true w4).mono ?_
  rintro e w5 ⟨rfl, hb⟩
  replace B := bb B hb
  replace O1 := hid (O1.out.on hb)
  replace O3 := hid (O3.out.on hb)
  clear hb
  rcases T1.out with ⟨rfl, hg, rfl⟩ | ⟨hk, hbad, rfl⟩
  · have HG := hid hg
    have HS := hid (show k2 = 0 → k3 = 0 → k4 = 0 → is = true → l3 = ⟨#[48]⟩ :: cft (qnum a) from fun h2 h3 h4 hi => by
      subst h2 h3 h4
      obtain ⟨_, _, hlt⟩ := T4.out.yes rfl
      rw [hi] at hlt
      have hlt := of_decide_eq_true hlt.symm
      rw [qnum_one] at hlt
      obtain ⟨_, _, _, hd⟩ := T2.out.yes rfl
      rcases T3.out with ⟨_, _, h3⟩ | ⟨h3, _⟩
      · rw [h3, hd, qnum_qtxt, qnum_one]
        exact cft_turned hlt
      · exact absurd rfl h3)
    have TX1 := hid O1.out.txs
    have HSH := hid (cft_short hg)
    have HON := hid (cft_one_iff (qnum a))
    have HDZ := hid (den_one_iff hg)
    change Hid (OwnL w5 w.heap.size v1 (cft (qnum a))) at O1
    change Hid (Txs w5 v1 (cft (qnum a))) at TX1
    clear T1 T2 T3 T4 hg
    have hl1 := hid (show 1 ≤ (cft (qnum a)).length by rw [cft_len, cfq_cons]; simp)
    generalize hL : cft (qnum a) = l at *
    clear hL
    obtain ⟨n, hN⟩ : ∃ n, l.length = n := ⟨_, rfl⟩
    have HN := hid hN
    obtain ⟨p, c, rfl, hn, hc, hp⟩ := id TX1.out
    have hnws : ∀ i, i < l.length → ∃ b off, p = some ⟨b, off, none⟩ ∧ b < w5.heap.size ∧ w5.cell? ⟨b, off + i, none⟩ = some (.string (tx l i)) := txs_at hn hp
    obtain ⟨b, off, rfl, hbl, _⟩ := hnws 0 (by have := hl1.out; omega)
    have HCL := hid (show ∀ i, i < l.length → w5.cell? ⟨b, off + i, none⟩ = some (.string (tx l i)) from fun i hi => by
      obtain ⟨b', off', e1, _, h3⟩ := hnws i hi
      simp only [Option.some.injEq, Addr.mk.injEq, and_true] at e1
      obtain ⟨rfl, rfl⟩ := e1
      exact h3)
    rw [hN] at hn ⊢
    clear hnws hp hN
    unfold maxLen at hc
    by_cases hgz : GoodZ a
    · have h1 : l.length = 1 := HON.out.2 (HDZ.out.2 hgz)
      obtain rfl : n = 1 := by have := HN.out; omega
      go_wp2_with fail
      refine (zcheck_good hgz w5).mono ?_
      rintro e w6 ⟨rfl, hb⟩
      replace B := bb B hb
      replace O3 := hid (O3.out.on hb)
      replace HCL := hid (show ∀ i, i < l.length → w6.cell? ⟨b, off + i, none⟩ = some (.string (tx l i)) from fun i hi => (hb.cell (p := ⟨b, off + i, none⟩) hbl).trans (HCL.out i hi))
      have hbl6 : b < w6.heap.size := Nat.lt_of_lt_of_le hbl hb.size
      have LB := hid hbl6
      have HOA := hid (show OwnL (w6.alloc (.cells #[.string ⟨#[48]⟩] 9)) w.heap.size (.slice (some ⟨w6.heap.size, 0, none⟩) 1 1) [⟨#[48]⟩] from ⟨OwnT.new w6 w.heap.size B.out.size [⟨#[48]⟩] (by decide), fun g hg => by
        simp [Value.ownBlock] at hg
        subst hg
        exact NoInt.new w6 _ _ (fun u hu => by simp at hu; subst hu; exact NI.str _)⟩)
      clear hb O1 TX1
      go_wp2_with (at_builtin; refine wpList_append_ni rfl _ _ 36 rfl w.heap.size 9 i0 (.string ⟨#[]⟩) 1 16 Try.underlying36 hi hz0 hz1 hz2 rfl (by decide) _ _ _ rfl HOA.out.1 HOA.out.2 ?c0 ⟨b, off, none⟩ 1 c (l.map Value.string) rfl ?cl ?c1 ?c2 ?c3 ?c4 ?c5 ?c6 ?_)
      case c0 => intro u hu; simp [cells_string] at hu; subst hu; exact NI.str _
      case cl => simp [HN.out]
      case c1 =>
        intro j u hj
        have hjl : j < l.length := by
          rcases Nat.lt_or_ge j l.length with h | h
          · exact h
          · rw [List.getElem?_eq_none (by simpa using h)] at hj; cases hj
        have hu : u = .string (tx l j) := by
          rw [List.getElem?_map, List.getElem?_eq_getElem hjl] at hj
          simp at hj
          rw [← hj, tx_lt hjl]
        subst hu
        rw [show (⟨b, off, none⟩ : Addr).add j = ⟨b, off + j, none⟩ by simp [Addr.add]]
        have := ((Below.refl w6.heap.size w6).alloc (Nat.le_refl _) (.cells #[.string ⟨#[48]⟩] 9)).cell (p := ⟨b, off + j, none⟩) LB.out
        exact this.trans (HCL.out j hjl)
      case c2 =>
        intro u hu
        obtain ⟨s, _, rfl⟩ := List.mem_map.1 hu
        rfl
      case c3 =>
        intro u hu
        obtain ⟨s, _, rfl⟩ := List.mem_map.1 hu
        exact NI.str _
      case c4 => have := HSH.out; have := HN.out; unfold maxLen; simp only [List.length_cons, List.length_nil]; omega
      case c5 => have := HSH.out; have := HN.out; simp only [List.length_cons, List.length_nil]; omega
      case c6 => have := B.out.size; simp; omega
      intro v' wa hown hgrow hni
      have hb6 : Below w6.heap.size w6 wa := ((Below.refl w6.heap.size w6).alloc (Nat.le_refl _) _).grown hgrow (by simp) (fun g h => by simp [Value.ownBlock] at h; omega)
      have HU := hid (show OwnT wa w.heap.size v' (⟨#[48]⟩ :: l) by
        show wa.ownsRow _ _ _ _ _ _
        rw [List.length_cons, HN.out, Nat.add_comm, List.map_cons]
        exact hown)
      replace B := bb B hb6
      have HSM := hid (same_texts (O3.out.on hb6) HU.out.txs)
      clear hown hgrow hni hb6 HOA HCL HU
      go_wp2_with fail
      refine HSM.out.mono ?_
      rintro e w7 ⟨rfl, hb7⟩
      replace B := bb B hb7
      clear hb7 HSM
      have HF := hid (show (k2 != 0) = true ∨ (k2 = 0 ∧ (k3 != 0) = true) ∨ (k2 = 0 ∧ k3 = 0 ∧ (k4 != 0) = true) ∨ (k2 = 0 ∧ k3 = 0 ∧ k4 = 0 ∧ is = false) ∨ (k2 = 0 ∧ k3 = 0 ∧ k4 = 0 ∧ is = true ∧ decide (l3 = ⟨#[48]⟩ :: l) = true) from by
        by_cases h2 : k2 = 0
        · by_cases h3 : k3 = 0
          · by_cases h4 : k4 = 0
            · cases hi : is with
              | false => exact .inr (.inr (.inr (.inl ⟨h2, h3, h4, rfl⟩)))
              | true => exact .inr (.inr (.inr (.inr ⟨h2, h3, h4, rfl, decide_eq_true (HS.out h2 h3 h4 hi)⟩)))
            · exact .inr (.inr (.inl ⟨h2, h3, by simpa using h4⟩))
          · exact .inr (.inl ⟨h2, by simpa using h3⟩)
        · exact .inl (by simpa using h2))
      rcases HF.out with h | ⟨rfl, h⟩ | ⟨rfl, rfl, h⟩ | ⟨rfl, rfl, rfl, rfl⟩ | ⟨rfl, rfl, rfl, rfl, h⟩
      · clear HF HS
        go_wp2_with fail
        go_ret
        exact ⟨rfl, B.out⟩
      · clear HF HS
        go_wp2_with fail
        go_ret
        exact ⟨rfl, B.out⟩
      · clear HF HS
        go_wp2_with fail
        go_ret
        exact ⟨rfl, B.out⟩
      · clear HF HS
        go_wp2_with fail
        go_ret
        exact ⟨rfl, B.out⟩
      · clear HF HS
        rw [h]
        go_wp2_with fail
        go_ret
        exact ⟨rfl, B.out⟩
    · have h1 : ¬ n = 1 := by
        intro h
        exact hgz (HDZ.out.1 (HON.out.1 (HN.out.trans h)))
      have hx : ¬ (n : Int) = 1 := by omega
      have hx1 : ((n : Int) == 1) = false := by simpa using hx
      rcases goodZ_or_bad a with hz | ⟨k, hk⟩
      · exact absurd hz hgz
      have hkk := errv_some hk.ne
      go_wp2_with fail
      refine (zcheck_bad hk ha w5).mono ?_
      rintro e w6 ⟨rfl, hb⟩
      clear hk
      replace B := bb B hb
      replace O3 := hid (O3.out.on hb)
      replace HCL := hid (show ∀ i, i < l.length → w6.cell? ⟨b, off + i, none⟩ = some (.string (tx l i)) from fun i hi => (hb.cell (p := ⟨b, off + i, none⟩) hbl).trans (HCL.out i hi))
      have hbl6 : b < w6.heap.size := Nat.lt_of_lt_of_le hbl hb.size
      have LB := hid hbl6
      have HOA := hid (show OwnL (w6.alloc (.cells #[.string ⟨#[48]⟩] 9)) w.heap.size (.slice (some ⟨w6.heap.size, 0, none⟩) 1 1) [⟨#[48]⟩] from ⟨OwnT.new w6 w.heap.size B.out.size [⟨#[48]⟩] (by decide), fun g hg => by
        simp [Value.ownBlock] at hg
        subst hg
        exact NoInt.new w6 _ _ (fun u hu => by simp at hu; subst hu; exact NI.str _)⟩)
      clear hb O1 TX1
      go_wp2_with (at_builtin; refine wpList_append_ni rfl _ _ 36 rfl w.heap.size 9 i0 (.string ⟨#[]⟩) 1 16 Try.underlying36 hi hz0 hz1 hz2 rfl (by decide) _ _ _ rfl HOA.out.1 HOA.out.2 ?c0 ⟨b, off, none⟩ n c (l.map Value.string) rfl ?cl ?c1 ?c2 ?c3 ?c4 ?c5 ?c6 ?_)
      case c0 => intro u hu; simp [cells_string] at hu; subst hu; exact NI.str _
      case cl => simp [HN.out]
      case c1 =>
        intro j u hj
        have hjl : j < l.length := by
          rcases Nat.lt_or_ge j l.length with h | h
          · exact h
          · rw [List.getElem?_eq_none (by simpa using h)] at hj; cases hj
        have hu : u = .string (tx l j) := by
          rw [List.getElem?_map, List.getElem?_eq_getElem hjl] at hj
          simp at hj
          rw [← hj, tx_lt hjl]
        subst hu
        rw [show (⟨b, off, none⟩ : Addr).add j = ⟨b, off + j, none⟩ by simp [Addr.add]]
        have := ((Below.refl w6.heap.size w6).alloc (Nat.le_refl _) (.cells #[.string ⟨#[48]⟩] 9)).cell (p := ⟨b, off + j, none⟩) LB.out
        exact this.trans (HCL.out j hjl)
      case c2 =>
        intro u hu
        obtain ⟨s, _, rfl⟩ := List.mem_map.1 hu
        rfl
      case c3 =>
        intro u hu
        obtain ⟨s, _, rfl⟩ := List.mem_map.1 hu
        exact NI.str _
      case c4 => have := HSH.out; have := HN.out; unfold maxLen; simp only [List.length_cons, List.length_nil]; omega
      case c5 => have := HSH.out; have := HN.out; simp only [List.length_cons, List.length_nil]; omega
      case c6 => have := B.out.size; simp; omega
      intro v' wa hown hgrow hni
      have hb6 : Below w6.heap.size w6 wa := ((Below.refl w6.heap.size w6).alloc (Nat.le_refl _) _).grown hgrow (by simp) (fun g h => by simp [Value.ownBlock] at h; omega)
      have HU := hid (show OwnT wa w.heap.size v' (⟨#[48]⟩ :: l) by
        show wa.ownsRow _ _ _ _ _ _
        rw [List.length_cons, HN.out, Nat.add_comm, List.map_cons]
        exact hown)
      replace B := bb B hb6
      have HSM := hid (same_texts (O3.out.on hb6) HU.out.txs)
      clear hown hgrow hni hb6 HOA HCL HU
      go_wp2_with fail
      refine HSM.out.mono ?_
      rintro e w7 ⟨rfl, hb7⟩
      replace B := bb B hb7
      clear hb7 HSM
      have HF := hid (show (k2 != 0) = true ∨ (k2 = 0 ∧ (k3 != 0) = true) ∨ (k2 = 0 ∧ k3 = 0 ∧ (k4 != 0) = true) ∨ (k2 = 0 ∧ k3 = 0 ∧ k4 = 0 ∧ is = false) ∨ (k2 = 0 ∧ k3 = 0 ∧ k4 = 0 ∧ is = true ∧ decide (l3 = ⟨#[48]⟩ :: l) = true) from by
        by_cases h2 : k2 = 0
        · by_cases h3 : k3 = 0
          · by_cases h4 : k4 = 0
            · cases hi : is with
              | false => exact .inr (.inr (.inr (.inl ⟨h2, h3, h4, rfl⟩)))
              | true => exact .inr (.inr (.inr (.inr ⟨h2, h3, h4, rfl, decide_eq_true (HS.out h2 h3 h4 hi)⟩)))
            · exact .inr (.inr (.inl ⟨h2, h3, by simpa using h4⟩))
          · exact .inr (.inl ⟨h2, by simpa using h3⟩)
        · exact .inl (by simpa using h2))
      rcases HF.out with h | ⟨rfl, h⟩ | ⟨rfl, rfl, h⟩ | ⟨rfl, rfl, rfl, rfl⟩ | ⟨rfl, rfl, rfl, rfl, h⟩
      · clear HF HS
        go_wp2_with fail
        go_ret
        exact ⟨rfl, B.out⟩
      · clear HF HS
        go_wp2_with fail
        go_ret
        exact ⟨rfl, B.out⟩
      · clear HF HS
        go_wp2_with fail
        go_ret
        exact ⟨rfl, B.out⟩
      · clear HF HS
        go_wp2_with fail
        go_ret
        exact ⟨rfl, B.out⟩
      · clear HF HS
        rw [h]
        go_wp2_with fail
        go_ret
        exact ⟨rfl, B.out⟩
  · have hkk : (k1 != 0) = true := by simpa using hk
    obtain ⟨p, c, rfl, _⟩ := O1.out.txs
    clear hbad
    go_wp2_with fail
    go_ret
    exact ⟨rfl, B.out⟩

end Go.Proofs.Ytjeeepcnaaadmaa

/-
  The law CfTurned of package abacistlaw6: whatever texts come in, the call returns true, and they read behind it as they did before. No condition.
-/
namespace Go.Proofs.Ytjeeepcnaaadmaa.cfTurned
open Go.ChangeShapes Go.WideShapes Go.ChangeAt Go.RowKit
open Go.ChangeMaps (open_string shut_string)
set_option linter.unusedVariables false

theorem own : ownKnob Try.prog.godebug = none := by kernel_rfl

set_option maxRecDepth 100000 in
theorem lifted (os : Os) (started : os.Started) (H : Type) (enc : TypeId × Value → H) :
    ReturnsInHanded {} Try.checked os 7 .any (Rows.cfTurnedSpec.pre6 enc Try.prog Try.f7 Rows.cfTurnedRow.domain false) (Rows.cfTurnedSpec.post enc Try.prog Try.f7 false true false false) := by
  refine returnsInHanded_of_change (C := Try.checked) own started (by kernel_rfl) Try.func7
    (ChangeSpec.witness6 (enc := enc) (C := Try.checked) false ⟨#[], #[.string ByteArray.empty], []⟩ 8 (by kernel_rfl) (by kernel_rfl) (by kernel_rfl) (by kernel_rfl)) ?_
  intro W base args ds gs before hval0 hW hcnd _
  have hval : ∀ (j : Nat) t v, Try.f7.params[j]? = some t → args[j]? = some v → Value.okWide Try.prog W .any base t v := hval0
  have hW' := hW
  obtain ⟨p, q, hA0, hV, rfl, hfz, hnd⟩ := hW
  have hA : DataW.TrodAll enc Try.prog W 0 (fun _ => true) true Try.f7.params.toList args.toList ds p := hA0
  rw [Try.params7] at hA hval
  obtain ⟨v0, vs0, d0, ds0, p0, q0, hargs, rfl, rfl, h0, r0⟩ := trodAll_cons hA
  obtain ⟨rfl, rfl, rfl⟩ := trodAll_nil r0
  obtain rfl : args = #[v0] := by cases args; simp_all
  obtain ⟨rfl, rfl⟩ := trodVars_none hV
  obtain ⟨a0, rfl, rfl, rfl, w0⟩ := open_string Try.underlying9 (hval 0 9 v0 rfl rfl) h0
  clear hA0 hval0
  simp only [List.append_nil] at hW'
  refine (cfturned_walk a0 w0 W).mono fun e W' ⟨he, hg⟩ => ?_
  subst he
  exact ⟨_, rfl, post_plain hW' (fun _ _ _ => (trodAll_cons_mk (shut_bool Try.underlying4 _) trodAll_mk0)) (fun sp => (trodAll_cons_mk (shut_string Try.underlying9 w0) trodAll_mk0)) (fun _ => rfl)
    hg (ok_one (by kernel_rfl) rfl (okWide_bool_mk Try.underlying4 _))⟩

/-- The law CfTurned: every input. -/
theorem proved : Rows.CfTurnedSaid :=
  OpenClaim.holds_of_wide 7 Try.f7 rfl rfl rfl rfl rfl rfl rfl ⟨rfl, rfl, rfl, rfl, rfl⟩ rfl rfl rfl rfl rfl (by kernel_rfl) Try.func7 (by kernel_rfl)
    (of_decide_eq_true (by kernel_rfl)) (by unfold Func.isWrapper; first | (rw [if_pos (by decide +kernel)]; kernel_rfl) | (rw [if_neg (by decide +kernel)]; exact ⟨rfl, rfl⟩))
    (fun os started H enc _ => lifted os started H enc)
#print axioms proved
end Go.Proofs.Ytjeeepcnaaadmaa.cfTurned
