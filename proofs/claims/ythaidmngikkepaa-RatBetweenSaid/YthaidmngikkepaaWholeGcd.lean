/-
  PACKAGE whole: readPair; a pair in memory.
-/
import Derived.Test.YthaidmngikkepaaWholeRead
import Derived.Test.YthaidmngikkepaaGcdNum
namespace Go.Proofs.Ythaidmngikkepaa
open Go.RowKit
open Num
set_option linter.unusedVariables false
set_option maxRecDepth 100000
set_option linter.unusedSimpArgs false

/-- A block of four cells: two Integers. -/
def Pbx (w : World) (g : Nat) (s : Bool) (sv : Value) (s' : Bool) (sv' : Value) : Prop := w.heap[g]? = some (.cells #[.bool s, sv, .bool s', sv'] 75 (0, 0))
theorem Pbx.lt {w : World} {g : Nat} {s s' : Bool} {sv sv' : Value} (h : Pbx w g s sv s' sv') : g < w.heap.size := lt_of_block h
theorem Pbx.cells {w : World} {g : Nat} {s s' : Bool} {sv sv' : Value} (h : Pbx w g s sv s' sv') : w.cell? ⟨g, 0, none⟩ = some (.bool s) ∧ w.cell? ⟨g, 1, none⟩ = some sv ∧ w.cell? ⟨g, 2, none⟩ = some (.bool s') ∧ w.cell? ⟨g, 3, none⟩ = some sv' := by
  have : w.heap[g]? = some (.cells #[.bool s, sv, .bool s', sv'] 75 (0, 0)) := h
  refine ⟨?_, ?_, ?_, ?_⟩ <;> simp [World.cell?, this]
theorem Pbx.free {w : World} {g : Nat} {s s' : Bool} {sv sv' : Value} (h : Pbx w g s sv s' sv') (i : Nat) : w.frozen? ⟨g, i, none⟩ = false := by
  have : w.heap[g]? = some (.cells #[.bool s, sv, .bool s', sv'] 75 (0, 0)) := h
  simp [World.frozen?, this]
theorem Pbx.below {w w' : World} {g K : Nat} {s s' : Bool} {sv sv' : Value} (h : Pbx w g s sv s' sv') (hb : Below K w w') (hK : g < K) : Pbx w' g s sv s' sv' := (hb.block g hK).trans h
theorem Pbx.new (w : World) (s s' : Bool) (sv sv' : Value) : Pbx (w.alloc (.cells #[.bool s, sv, .bool s', sv'] 75)) w.heap.size s sv s' sv' := by
  show (w.heap.push _)[w.heap.size]? = _
  simp
theorem Pbx.other {w : World} {g g2 : Nat} {s s' : Bool} {sv sv' : Value} (h : Pbx w g s sv s' sv') (hne : g ≠ g2) (i : Nat) (v : Value) : Pbx (w.setCell ⟨g2, i, none⟩ v) g s sv s' sv' := by
  show (w.setCell ⟨g2, i, none⟩ v).heap[g]? = _
  rw [Below.heap_setCell _ _ _ _ (by exact hne)]; exact h

theorem Pbx.set0 {w : World} {g : Nat} {s s' : Bool} {sv sv' : Value} (h : Pbx w g s sv s' sv') (x : Bool) : Pbx (w.setCell ⟨g, 0, none⟩ (.bool x)) g x sv s' sv' := by
  have : w.heap[g]? = some (.cells #[.bool s, sv, .bool s', sv'] 75 (0, 0)) := h
  show (w.setCell ⟨g, 0, none⟩ (.bool x)).heap[g]? = _
  simp only [World.setCell, Array.getElem?_modify, this]
  simp
theorem Pbx.set1 {w : World} {g : Nat} {s s' : Bool} {sv sv' : Value} (h : Pbx w g s sv s' sv') (x : Value) : Pbx (w.setCell ⟨g, 1, none⟩ x) g s x s' sv' := by
  have : w.heap[g]? = some (.cells #[.bool s, sv, .bool s', sv'] 75 (0, 0)) := h
  show (w.setCell ⟨g, 1, none⟩ x).heap[g]? = _
  simp only [World.setCell, Array.getElem?_modify, this]
  simp
theorem Pbx.set2 {w : World} {g : Nat} {s s' : Bool} {sv sv' : Value} (h : Pbx w g s sv s' sv') (x : Bool) : Pbx (w.setCell ⟨g, 2, none⟩ (.bool x)) g s sv x sv' := by
  have : w.heap[g]? = some (.cells #[.bool s, sv, .bool s', sv'] 75 (0, 0)) := h
  show (w.setCell ⟨g, 2, none⟩ (.bool x)).heap[g]? = _
  simp only [World.setCell, Array.getElem?_modify, this]
  simp
theorem Pbx.set3 {w : World} {g : Nat} {s s' : Bool} {sv sv' : Value} (h : Pbx w g s sv s' sv') (x : Value) : Pbx (w.setCell ⟨g, 3, none⟩ x) g s sv s' x := by
  have : w.heap[g]? = some (.cells #[.bool s, sv, .bool s', sv'] 75 (0, 0)) := h
  show (w.setCell ⟨g, 3, none⟩ x).heap[g]? = _
  simp only [World.setCell, Array.getElem?_modify, this]
  simp
/-- What a walk needs to write all four. -/
theorem Pbx.stores {w : World} {g : Nat} {s s' : Bool} {sv sv' : Value} (h : Pbx w g s sv s' sv') :
    (w.cell? ⟨g, 0, none⟩ = some (.bool s) ∧ w.frozen? ⟨g, 0, none⟩ = false) ∧
    ((∀ x, (w.setCell ⟨g, 0, none⟩ (.bool x)).cell? ⟨g, 1, none⟩ = some sv) ∧ (∀ x, (w.setCell ⟨g, 0, none⟩ (.bool x)).frozen? ⟨g, 1, none⟩ = false)) ∧
    ((∀ x y, ((w.setCell ⟨g, 0, none⟩ (.bool x)).setCell ⟨g, 1, none⟩ y).cell? ⟨g, 2, none⟩ = some (.bool s')) ∧ (∀ x y, ((w.setCell ⟨g, 0, none⟩ (.bool x)).setCell ⟨g, 1, none⟩ y).frozen? ⟨g, 2, none⟩ = false)) ∧
    ((∀ x y z, (((w.setCell ⟨g, 0, none⟩ (.bool x)).setCell ⟨g, 1, none⟩ y).setCell ⟨g, 2, none⟩ (.bool z)).cell? ⟨g, 3, none⟩ = some sv') ∧ (∀ x y z, (((w.setCell ⟨g, 0, none⟩ (.bool x)).setCell ⟨g, 1, none⟩ y).setCell ⟨g, 2, none⟩ (.bool z)).frozen? ⟨g, 3, none⟩ = false)) :=
  ⟨⟨h.cells.1, h.free 0⟩, ⟨fun x => (h.set0 x).cells.2.1, fun x => (h.set0 x).free 1⟩, ⟨fun x y => ((h.set0 x).set1 y).cells.2.2.1, fun x y => ((h.set0 x).set1 y).free 2⟩,
    fun x y z => (((h.set0 x).set1 y).set2 z).cells.2.2.2, fun x y z => (((h.set0 x).set1 y).set2 z).free 3⟩
theorem Lim.pbx {w : World} {v : Value} {xs : List Nat} {g : Nat} {s s' : Bool} {p p' : Option Addr} {n n' c c' : Nat} (h : Lim w v xs) (hx : Pbx w g s (.slice p n c) s' (.slice p' n' c')) (i : Nat) (u : Value) : Lim (w.setCell ⟨g, i, none⟩ u) v xs := by
  have hg : w.heap[g]? = some (.cells #[.bool s, .slice p n c, .bool s', .slice p' n' c'] 75 (0, 0)) := hx
  obtain ⟨h1, q, d, h2, h3, h4, h5⟩ := h
  refine ⟨h1, q, d, h2, h3, h4, ?_⟩
  rcases h5 with h5 | ⟨b, off, h6, h7, h8⟩
  · exact .inl h5
  · refine .inr ⟨b, off, h6, by simpa [World.setCell] using h7, fun i hi => ?_⟩
    have h9 := h8 i hi
    by_cases hb : b = g
    · subst hb
      simp only [World.cell?, hg] at h9
      have hh : ∀ k : Nat, (#[Value.bool s, Value.slice p n c, Value.bool s', Value.slice p' n' c'] : Array Value)[k]? ≠ some (.int .u32 (dg xs i)) := by
        intro k
        rcases k with _ | _ | _ | _ | k <;> simp
      exact absurd h9 (hh _)
    · rw [← h9]
      exact World.cell?_of_block (Below.heap_setCell _ _ _ _ (by exact hb))
theorem Whl.pbx {w : World} {v : Value} {z : Int} {k g : Nat} {s s' : Bool} {p p' : Option Addr} {n n' c c' : Nat} (h : Whl w v z k) (hx : Pbx w g s (.slice p n c) s' (.slice p' n' c')) (i : Nat) (u : Value) : Whl (w.setCell ⟨g, i, none⟩ u) v z k := by
  obtain ⟨s', sv', xs, h1, h2, h3⟩ := h
  exact ⟨s', sv', xs, h1, h2.pbx hx i u, h3⟩
/-- The last store of four cells. -/
theorem Pbx.last {w0 w : World} {g K : Nat} {s s' : Bool} {p p' : Option Addr} {n n' c c' : Nat} (h : Pbx w g s (.slice p n c) s' (.slice p' n' c')) (hb : Below K w0 w) (hg : K ≤ g) (a b : Bool) (q q' : Option Addr) (m m' d d' : Nat) :
    Pbx ((((w.setCell ⟨g, 0, none⟩ (.bool a)).setCell ⟨g, 1, none⟩ (.slice q m d)).setCell ⟨g, 2, none⟩ (.bool b)).setCell ⟨g, 3, none⟩ (.slice q' m' d')) g a (.slice q m d) b (.slice q' m' d') ∧
    Below K w0 ((((w.setCell ⟨g, 0, none⟩ (.bool a)).setCell ⟨g, 1, none⟩ (.slice q m d)).setCell ⟨g, 2, none⟩ (.bool b)).setCell ⟨g, 3, none⟩ (.slice q' m' d')) ∧
    (∀ {v z k}, Whl w v z k → Whl ((((w.setCell ⟨g, 0, none⟩ (.bool a)).setCell ⟨g, 1, none⟩ (.slice q m d)).setCell ⟨g, 2, none⟩ (.bool b)).setCell ⟨g, 3, none⟩ (.slice q' m' d')) v z k) := by
  have h1 := h.set0 a
  have h2 := h1.set1 (.slice q m d)
  have h3 := h2.set2 b
  refine ⟨h3.set3 _, (((hb.setCell (p := ⟨g, 0, none⟩) hg _).setCell (p := ⟨g, 1, none⟩) hg _).setCell (p := ⟨g, 2, none⟩) hg _).setCell (p := ⟨g, 3, none⟩) hg _, fun hv => ?_⟩
  exact (((hv.pbx h 0 _).pbx h1 1 _).pbx h2 2 _).pbx h3 3 _

theorem load_pair {w : World} {g : Nat} {s s' : Bool} {sv sv' : Value} (h2 : Pbx w g s sv s' sv') : (loadVar 75 ⟨g, 0, none⟩).run Try.prog w = .ok (.agg #[.bool s, sv, .bool s', sv']) w := by
  obtain ⟨h0, h1, h3, h4⟩ := h2.cells
  simp [go_sem, h0, h1, h3, h4]
theorem res_pair_tmp {fn : Func} {t t' : Tmp} {tmps : Array Value} {w : World} {g : Nat} {s s' : Bool} {sv sv' u : Value} (hf : fn.results = #[.cell t 75, .tmp t']) (ht : tmps.getD t undef = .pointer (some ⟨g, 0, none⟩)) (hu : tmps.getD t' undef = u) (h2 : Pbx w g s sv s' sv') :
    (results fn tmps).run Try.prog w = .ok (.tuple #[.agg #[.bool s, sv, .bool s', sv'], u]) w := by
  have h1 := at_addr (P := Try.prog) (w := w) ht
  have h3 := load_pair h2
  simp only [Array.getD_eq_getD_getElem?] at h1 hu
  simp [results, hf, Sem.run_bind, h1, h3, hu]

set_option maxHeartbeats 1000000 in
theorem zpair_bad {a b : ByteArray} {k : Int} (h : WrongZ a b k) (ha : a.size ≤ maxLen) (hb : b.size ≤ maxLen) (w : World) :
    Calls Try.prog 49 #[.string a, .string b] w fun e w' => e = .returned (.tuple #[.agg #[.bool false, .slice none 0 0, .bool false, .slice none 0 0], errno k]) ∧ Below w.heap.size w w' := by
  have x0 := Pbx.new w false false (.slice none 0 0) (.slice none 0 0)
  have bw := (Below.refl _ _).alloc (Nat.le_refl w.heap.size) (.cells #[.bool false, .slice none 0 0, .bool false, .slice none 0 0] 75)
  rcases h with h | ⟨h1, h2⟩
  · have HP := hid (fun w => zread_bad h w ha)
    have X0 := hid x0
    have BW := hid bw
    clear h x0 bw
    go_enter Try.func49, Try.ntmps49
    go_wp2_with fail
    refine (HP.out _).mono ?_
    rintro e w1 ⟨rfl, hb1⟩
    obtain ⟨y0, by1, ys⟩ := boxes1 w1 false (.slice none 0 0) ⟨_, _, _, rfl⟩
    have hb2 := hb1.trans (by1.mono hb1.size)
    have x0' := X0.out.below hb2 X0.out.lt
    obtain ⟨⟨c0, f0⟩, ⟨c1, f1⟩, ⟨c2, f2⟩, c3, f3⟩ := x0'.stores
    have X1 := hid x0'
    have HB1 := hid (BW.out.trans (hb2.mono BW.out.size))
    clear hb1 hb2 y0 by1 ys x0'
    go_wp2_with fail
    obtain ⟨r1, r2, r3⟩ := X1.out.last HB1.out (Nat.le_refl _) false false none none 0 0 0 0
    refine bodyPost_ret (res_pair_tmp rfl rfl rfl r1) rfl ?_
    exact ⟨rfl, r2⟩
  · have HP := hid (fun w => zread_good h1 w)
    have HP2 := hid (fun w => zread_bad h2 w hb)
    have X0 := hid x0
    have BW := hid bw
    clear h1 h2 x0 bw
    go_enter Try.func49, Try.ntmps49
    go_wp2_with fail
    refine (HP.out _).mono ?_
    rintro e w1 ⟨v, rfl, hv, hb1⟩
    obtain ⟨s1, p1, n1, l1, rfl⟩ := hv.opened
    obtain ⟨y0, by1, ys⟩ := boxes1 w1 s1 (.slice p1 n1 l1) ⟨_, _, _, rfl⟩
    have HB1 := hid (hb1.trans (by1.mono hb1.size))
    clear hb1 hv y0 by1 ys
    go_wp2_with fail
    refine (HP2.out _).mono ?_
    rintro e w2 ⟨rfl, hb2⟩
    obtain ⟨y0, by1, ys⟩ := boxes1 w2 false (.slice none 0 0) ⟨_, _, _, rfl⟩
    have hb3 := HB1.out.trans ((hb2.trans (by1.mono hb2.size)).mono HB1.out.size)
    have x0' := X0.out.below hb3 X0.out.lt
    obtain ⟨⟨c0, f0⟩, ⟨c1, f1⟩, ⟨c2, f2⟩, c3, f3⟩ := x0'.stores
    have X1 := hid x0'
    have HB3 := hid (BW.out.trans (hb3.mono BW.out.size))
    clear hb2 hb3 y0 by1 ys x0'
    go_wp2_with fail
    obtain ⟨r1, r2, r3⟩ := X1.out.last HB3.out (Nat.le_refl _) false false none none 0 0 0 0
    refine bodyPost_ret (res_pair_tmp rfl rfl rfl r1) rfl ?_
    exact ⟨rfl, r2⟩

/-- Two integers side by side. -/
def Pair (w : World) (v : Value) (z y : Int) (k : Nat) : Prop := ∃ s p n c s' p' n' c', v = .agg #[.bool s, .slice p n c, .bool s', .slice p' n' c'] ∧ Whl w (.agg #[.bool s, .slice p n c]) z k ∧ Whl w (.agg #[.bool s', .slice p' n' c']) y k

set_option maxHeartbeats 1000000 in
theorem zpair_good {a b : ByteArray} (ha : GoodZ a) (hb : GoodZ b) (w : World) :
    Calls Try.prog 49 #[.string a, .string b] w fun e w' => ∃ v, e = .returned (.tuple #[v, .nilIface]) ∧ Pair w' v (znum a) (znum b) 100 ∧ Below w.heap.size w w' := by
  have x0 := Pbx.new w false false (.slice none 0 0) (.slice none 0 0)
  have bw := (Below.refl _ _).alloc (Nat.le_refl w.heap.size) (.cells #[.bool false, .slice none 0 0, .bool false, .slice none 0 0] 75)
  have HP := hid (fun w => zread_good ha w)
  have HP2 := hid (fun w => zread_good hb w)
  have X0 := hid x0
  have BW := hid bw
  clear ha hb x0 bw
  go_enter Try.func49, Try.ntmps49
  go_wp2_with fail
  refine (HP.out _).mono ?_
  rintro e w1 ⟨v, rfl, hv, hb1⟩
  obtain ⟨s1, p1, n1, l1, rfl⟩ := hv.opened
  obtain ⟨y0, by1, ys⟩ := boxes1 w1 s1 (.slice p1 n1 l1) ⟨_, _, _, rfl⟩
  have HV := hid (hv.on by1)
  have Y0 := hid y0
  have HB1 := hid (hb1.trans (by1.mono hb1.size))
  clear hb1 hv y0 by1 ys
  go_wp2_with fail
  refine (HP2.out _).mono ?_
  rintro e w2 ⟨v2, rfl, hv2, hb2⟩
  obtain ⟨s2, p2, n2, l2, rfl⟩ := hv2.opened
  obtain ⟨y1, by1, ys⟩ := boxes1 w2 s2 (.slice p2 n2 l2) ⟨_, _, _, rfl⟩
  have hb22 := hb2.trans (by1.mono hb2.size)
  have hb3 := HB1.out.trans (hb22.mono HB1.out.size)
  have x0' := X0.out.below hb3 X0.out.lt
  obtain ⟨⟨c0, f0⟩, ⟨c1, f1⟩, ⟨c2, f2⟩, c3, f3⟩ := x0'.stores
  obtain ⟨d0, d1⟩ := Y0.out.keep hb22
  have X1 := hid x0'
  have HB3 := hid (BW.out.trans (hb3.mono BW.out.size))
  have HV1 := hid (HV.out.on hb22)
  have HV2 := hid (hv2.on by1)
  clear hb2 hb3 y1 by1 ys x0' hv2 hb22
  go_wp2_with fail
  obtain ⟨r1, r2, r3⟩ := X1.out.last HB3.out (Nat.le_refl _) s1 s2 p1 p2 n1 n2 l1 l2
  refine bodyPost_ret (res_pair_tmp rfl rfl rfl r1) rfl ?_
  exact ⟨_, rfl, ⟨_, _, _, _, _, _, _, _, rfl, r3 HV1.out, r3 HV2.out⟩, r2⟩

end Go.Proofs.Ythaidmngikkepaa

