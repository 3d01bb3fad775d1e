import Derived.Test.YthaidmngikkepaaBunProofCfBack10
import Derived.Test.YthaidmngikkepaaBunProofCfBack1
/-
  PACKAGE whole: readPair; a pair in memory.
-/
namespace Go.Proofs.Ythaidmngikkepaa
open Go.RowKit
open Num
set_option linter.unusedVariables false
set_option maxRecDepth 100000
set_option linter.unusedSimpArgs false

/-- A block of four cells: two Integers. -/
def Pbx (w : World) (g : Nat) (s : Bool) (sv : Value) (s' : Bool) (sv' : Value) : Prop := w.heap[g]? = some (.cells #[.bool s, sv, .bool s', sv'] 75 (0, 0))
theorem Pbx.lt {w : World} {g : Nat} {s s' : Bool} {sv sv' : Value} (h : Pbx w g s sv s' sv') : g < w.heap.size := lt_of_block h
theorem Pbx.cells {w : World} {g : Nat} {s s' : Bool} {sv sv' : Value} (h : Pbx w g s sv s' sv') : w.cell? ⟨g, 0, none⟩ = some (.bool s) ∧ w.cell? ⟨g, 1, none⟩ = some sv ∧ w.cell? ⟨g, 2, none⟩ = some (.bool s') ∧ w.cell? ⟨g, 3, none⟩ = some sv' := by
  have : w.heap[g]? = some (.cells #[.bool s, sv, .bool s', sv'] 75 (0, 0)) := h
  refine ⟨?_, ?_, ?_, ?_⟩ <;> simp [World.cell?, this]
theorem Pbx.free {w : World} {g : Nat} {s s' : Bool} {sv sv' : Value} (h : Pbx w g s sv s' sv') (i : Nat) : w.frozen? ⟨g, i, none⟩ = false := by
  have : w.heap[g]? = some (.cells #[.bool s, sv, .bool s', sv'] 75 (0, 0)) := h
  simp [World.frozen?, this]
theorem Pbx.below {w w' : World} {g K : Nat} {s s' : Bool} {sv sv' : Value} (h : Pbx w g s sv s' sv') (hb : Below K w w') (hK : g < K) : Pbx w' g s sv s' sv' := (hb.block g hK).trans h
theorem Pbx.new (w : World) (s s' : Bool) (sv sv' : Value) : Pbx (w.alloc (.cells #[.bool s, sv, .bool s', sv'] 75)) w.heap.size s sv s' sv' := by
  show (w.heap.push _)[w.heap.size]? = _
  simp
theorem Pbx.other {w : World} {g g2 : Nat} {s s' : Bool} {sv sv' : Value} (h : Pbx w g s sv s' sv') (hne : g ≠ g2) (i : Nat) (v : Value) : Pbx (w.setCell ⟨g2, i, none⟩ v) g s sv s' sv' := by
  show (w.setCell ⟨g2, i, none⟩ v).heap[g]? = _
  rw [Below.heap_setCell _ _ _ _ (by exact hne)]; exact h

theorem Pbx.set0 {w : World} {g : Nat} {s s' : Bool} {sv sv' : Value} (h : Pbx w g s sv s' sv') (x : Bool) : Pbx (w.setCell ⟨g, 0, none⟩ (.bool x)) g x sv s' sv' := by
  have : w.heap[g]? = some (.cells #[.bool s, sv, .bool s', sv'] 75 (0, 0)) := h
  show (w.setCell ⟨g, 0, none⟩ (.bool x)).heap[g]? = _
  simp only [World.setCell, Array.getElem?_modify, this]
  simp
theorem Pbx.set1 {w : World} {g : Nat} {s s' : Bool} {sv sv' : Value} (h : Pbx w g s sv s' sv') (x : Value) : Pbx (w.setCell ⟨g, 1, none⟩ x) g s x s' sv' := by
  have : w.heap[g]? = some (.cells #[.bool s, sv, .bool s', sv'] 75 (0, 0)) := h
  show (w.setCell ⟨g, 1, none⟩ x).heap[g]? = _
  simp only [World.setCell, Array.getElem?_modify, this]
  simp
theorem Pbx.set2 {w : World} {g : Nat} {s s' : Bool} {sv sv' : Value} (h : Pbx w g s sv s' sv') (x : Bool) : Pbx (w.setCell ⟨g, 2, none⟩ (.bool x)) g s sv x sv' := by
  have : w.heap[g]? = some (.cells #[.bool s, sv, .bool s', sv'] 75 (0, 0)) := h
  show (w.setCell ⟨g, 2, none⟩ (.bool x)).heap[g]? = _
  simp only [World.setCell, Array.getElem?_modify, this]
  simp
theorem Pbx.set3 {w : World} {g : Nat} {s s' : Bool} {sv sv' : Value} (h : Pbx w g s sv s' sv') (x : Value) : Pbx (w.setCell ⟨g, 3, none⟩ x) g s sv s' x := by
  have : w.heap[g]? = some (.cells #[.bool s, sv, .bool s', sv'] 75 (0, 0)) := h
  show (w.setCell ⟨g, 3, none⟩ x).heap[g]? = _
  simp only [World.setCell, Array.getElem?_modify, this]
  simp
/-- What a walk needs to write all four. -/
theorem Pbx.stores {w : World} {g : Nat} {s s' : Bool} {sv sv' : Value} (h : Pbx w g s sv s' sv') :
    (w.cell? ⟨g, 0, none⟩ = some (.bool s) ∧ w.frozen? ⟨g, 0, none⟩ = false) ∧
    ((∀ x, (w.setCell ⟨g, 0, none⟩ (.bool x)).cell? ⟨g, 1, none⟩ = some sv) ∧ (∀ x, (w.setCell ⟨g, 0, none⟩ (.bool x)).frozen? ⟨g, 1, none⟩ = false)) ∧
    ((∀ x y, ((w.setCell ⟨g, 0, none⟩ (.bool x)).setCell ⟨g, 1, none⟩ y).cell? ⟨g, 2, none⟩ = some (.bool s')) ∧ (∀ x y, ((w.setCell ⟨g, 0, none⟩ (.bool x)).setCell ⟨g, 1, none⟩ y).frozen? ⟨g, 2, none⟩ = false)) ∧
    ((∀ x y z, (((w.setCell ⟨g, 0, none⟩ (.bool x)).setCell ⟨g, 1, none⟩ y).setCell ⟨g, 2, none⟩ (.bool z)).cell? ⟨g, 3, none⟩ = some sv') ∧ (∀ x y z, (((w.setCell ⟨g, 0, none⟩ (.bool x)).setCell ⟨g, 1, none⟩ y).setCell ⟨g, 2, none⟩ (.bool z)).frozen? ⟨g, 3, none⟩ = false)) :=
  ⟨⟨h.cells.1, h.free 0⟩, ⟨fun x => (h.set0 x).cells.2.1, fun x => (h.set0 x).free 1⟩, ⟨fun x y => ((h.set0 x).set1 y).cells.2.2.1, fun x y => ((h.set0 x).set1 y).free 2⟩,
    fun x y z => (((h.set0 x).set1 y).set2 z).cells.2.2.2, fun x y z => (((h.set0 x).set1 y).set2 z).free 3⟩
theorem Lim.pbx {w : World} {v : Value} {xs : List Nat} {g : Nat} {s s' : Bool} {p p' : Option Addr} {n n' c c' : Nat} (h : Lim w v xs) (hx : Pbx w g s (.slice p n c) s' (.slice p' n' c')) (i : Nat) (u : Value) : Lim (w.setCell ⟨g, i, none⟩ u) v xs := by
  have hg : w.heap[g]? = some (.cells #[.bool s, .slice p n c, .bool s', .slice p' n' c'] 75 (0, 0)) := hx
  obtain ⟨h1, q, d, h2, h3, h4, h5⟩ := h
  refine ⟨h1, q, d, h2, h3, h4, ?_⟩
  rcases h5 with h5 | ⟨b, off, h6, h7, h8⟩
  · exact .inl h5
  · refine .inr ⟨b, off, h6, by simpa [World.setCell] using h7, fun i hi => ?_⟩
    have h9 := h8 i hi
    by_cases hb : b = g
    · subst hb
      simp only [World.cell?, hg] at h9
      have hh : ∀ k : Nat, (#[Value.bool s, Value.slice p n c, Value.bool s', Value.slice p' n' c'] : Array Value)[k]? ≠ some (.int .u32 (dg xs i)) := by
        intro k
        rcases k with _ | _ | _ | _ | k <;> simp
      exact absurd h9 (hh _)
    · rw [← h9]
      exact World.cell?_of_block (Below.heap_setCell _ _ _ _ (by exact hb))
theorem Whl.pbx {w : World} {v : Value} {z : Int} {k g : Nat} {s s' : Bool} {p p' : Option Addr} {n n' c c' : Nat} (h : Whl w v z k) (hx : Pbx w g s (.slice p n c) s' (.slice p' n' c')) (i : Nat) (u : Value) : Whl (w.setCell ⟨g, i, none⟩ u) v z k := by
  obtain ⟨s', sv', xs, h1, h2, h3⟩ := h
  exact ⟨s', sv', xs, h1, h2.pbx hx i u, h3⟩
/-- The last store of four cells. -/
theorem Pbx.last {w0 w : World} {g K : Nat} {s s' : Bool} {p p' : Option Addr} {n n' c c' : Nat} (h : Pbx w g s (.slice p n c) s' (.slice p' n' c')) (hb : Below K w0 w) (hg : K ≤ g) (a b : Bool) (q q' : Option Addr) (m m' d d' : Nat) :
    Pbx ((((w.setCell ⟨g, 0, none⟩ (.bool a)).setCell ⟨g, 1, none⟩ (.slice q m d)).setCell ⟨g, 2, none⟩ (.bool b)).setCell ⟨g, 3, none⟩ (.slice q' m' d')) g a (.slice q m d) b (.slice q' m' d') ∧
    Below K w0 ((((w.setCell ⟨g, 0, none⟩ (.bool a)).setCell ⟨g, 1, none⟩ (.slice q m d)).setCell ⟨g, 2, none⟩ (.bool b)).setCell ⟨g, 3, none⟩ (.slice q' m' d')) ∧
    (∀ {v z k}, Whl w v z k → Whl ((((w.setCell ⟨g, 0, none⟩ (.bool a)).setCell ⟨g, 1, none⟩ (.slice q m d)).setCell ⟨g, 2, none⟩ (.bool b)).setCell ⟨g, 3, none⟩ (.slice q' m' d')) v z k) := by
  have h1 := h.set0 a
  have h2 := h1.set1 (.slice q m d)
  have h3 := h2.set2 b
  refine ⟨h3.set3 _, (((hb.setCell (p := ⟨g, 0, none⟩) hg _).setCell (p := ⟨g, 1, none⟩) hg _).setCell (p := ⟨g, 2, none⟩) hg _).setCell (p := ⟨g, 3, none⟩) hg _, fun hv => ?_⟩
  exact (((hv.pbx h 0 _).pbx h1 1 _).pbx h2 2 _).pbx h3 3 _

theorem load_pair {w : World} {g : Nat} {s s' : Bool} {sv sv' : Value} (h2 : Pbx w g s sv s' sv') : (loadVar 75 ⟨g, 0, none⟩).run Try.prog w = .ok (.agg #[.bool s, sv, .bool s', sv']) w := by
  obtain ⟨h0, h1, h3, h4⟩ := h2.cells
  simp [go_sem, h0, h1, h3, h4]
theorem res_pair_tmp {fn : Func} {t t' : Tmp} {tmps : Array Value} {w : World} {g : Nat} {s s' : Bool} {sv sv' u : Value} (hf : fn.results = #[.cell t 75, .tmp t']) (ht : tmps.getD t undef = .pointer (some ⟨g, 0, none⟩)) (hu : tmps.getD t' undef = u) (h2 : Pbx w g s sv s' sv') :
    (results fn tmps).run Try.prog w = .ok (.tuple #[.agg #[.bool s, sv, .bool s', sv'], u]) w := by
  have h1 := at_addr (P := Try.prog) (w := w) ht
  have h3 := load_pair h2
  simp only [Array.getD_eq_getD_getElem?] at h1 hu
  simp [results, hf, Sem.run_bind, h1, h3, hu]

set_option maxHeartbeats 1000000 in
theorem zpair_bad {a b : ByteArray} {k : Int} (h : WrongZ a b k) (ha : a.size ≤ maxLen) (hb : b.size ≤ maxLen) (w : World) :
    Calls Try.prog 49 #[.string a, .string b] w fun e w' => e = .returned (.tuple #[.agg #[.bool false, .slice none 0 0, .bool false, .slice none 0 0], errno k]) ∧ Below w.heap.size w w' := by
  have x0 := Pbx.new w false false (.slice none 0 0) (.slice none 0 0)
  have bw := (Below.refl _ _).alloc (Nat.le_refl w.heap.size) (.cells #[.bool false, .slice none 0 0, .bool false, .slice none 0 0] 75)
  rcases h with h | ⟨h1, h2⟩
  · have HP := hid (fun w => zread_bad h w ha)
    have X0 := hid x0
    have BW := hid bw
    clear h x0 bw
    go_enter Try.func49, Try.ntmps49
    go_wp2_with fail
    refine (HP.out _).mono ?_
    rintro e w1 ⟨rfl, hb1⟩
    obtain ⟨y0, by1, ys⟩ := boxes1 w1 false (.slice none 0 0) ⟨_, _, _, rfl⟩
    have hb2 := hb1.trans (by1.mono hb1.size)
    have x0' := X0.out.below hb2 X0.out.lt
    obtain ⟨⟨c0, f0⟩, ⟨c1, f1⟩, ⟨c2, f2⟩, c3, f3⟩ := x0'.stores
    have X1 := hid x0'
    have HB1 := hid (BW.out.trans (hb2.mono BW.out.size))
    clear hb1 hb2 y0 by1 ys x0'
    go_wp2_with fail
    obtain ⟨r1, r2, r3⟩ := X1.out.last HB1.out (Nat.le_refl _) false false none none 0 0 0 0
    refine bodyPost_ret (res_pair_tmp rfl rfl rfl r1) rfl ?_
    exact ⟨rfl, r2⟩
  · have HP := hid (fun w => zread_good h1 w)
    have HP2 := hid (fun w => zread_bad h2 w hb)
    have X0 := hid x0
    have BW := hid bw
    clear h1 h2 x0 bw
    go_enter Try.func49, Try.ntmps49
    go_wp2_with fail
    refine (HP.out _).mono ?_
    rintro e w1 ⟨v, rfl, hv, hb1⟩
    obtain ⟨s1, p1, n1, l1, rfl⟩ := hv.opened
    obtain ⟨y0, by1, ys⟩ := boxes1 w1 s1 (.slice p1 n1 l1) ⟨_, _, _, rfl⟩
    have HB1 := hid (hb1.trans (by1.mono hb1.size))
    clear hb1 hv y0 by1 ys
    go_wp2_with fail
    refine (HP2.out _).mono ?_
    rintro e w2 ⟨rfl, hb2⟩
    obtain ⟨y0, by1, ys⟩ := boxes1 w2 false (.slice none 0 0) ⟨_, _, _, rfl⟩
    have hb3 := HB1.out.trans ((hb2.trans (by1.mono hb2.size)).mono HB1.out.size)
    have x0' := X0.out.below hb3 X0.out.lt
    obtain ⟨⟨c0, f0⟩, ⟨c1, f1⟩, ⟨c2, f2⟩, c3, f3⟩ := x0'.stores
    have X1 := hid x0'
    have HB3 := hid (BW.out.trans (hb3.mono BW.out.size))
    clear hb2 hb3 y0 by1 ys x0'
    go_wp2_with fail
    obtain ⟨r1, r2, r3⟩ := X1.out.last HB3.out (Nat.le_refl _) false false none none 0 0 0 0
    refine bodyPost_ret (res_pair_tmp rfl rfl rfl r1) rfl ?_
    exact ⟨rfl, r2⟩

/-- Two integers side by side. -/
def Pair (w : World) (v : Value) (z y : Int) (k : Nat) : Prop := ∃ s p n c s' p' n' c', v = .agg #[.bool s, .slice p n c, .bool s', .slice p' n' c'] ∧ Whl w (.agg #[.bool s, .slice p n c]) z k ∧ Whl w (.agg #[.bool s', .slice p' n' c']) y k

set_option maxHeartbeats 1000000 in
theorem zpair_good {a b : ByteArray} (ha : GoodZ a) (hb : GoodZ b) (w : World) :
    Calls Try.prog 49 #[.string a, .string b] w fun e w' => ∃ v, e = .returned (.tuple #[v, .nilIface]) ∧ Pair w' v (znum a) (znum b) 100 ∧ Below w.heap.size w w' := by
  have x0 := Pbx.new w false false (.slice none 0 0) (.slice none 0 0)
  have bw := (Below.refl _ _).alloc (Nat.le_refl w.heap.size) (.cells #[.bool false, .slice none 0 0, .bool false, .slice none 0 0] 75)
  have HP := hid (fun w => zread_good ha w)
  have HP2 := hid (fun w => zread_good hb w)
  have X0 := hid x0
  have BW := hid bw
  clear ha hb x0 bw
  go_enter Try.func49, Try.ntmps49
  go_wp2_with fail
  refine (HP.out _).mono ?_
  rintro e w1 ⟨v, rfl, hv, hb1⟩
  obtain ⟨s1, p1, n1, l1, rfl⟩ := hv.opened
  obtain ⟨y0, by1, ys⟩ := boxes1 w1 s1 (.slice p1 n1 l1) ⟨_, _, _, rfl⟩
  have HV := hid (hv.on by1)
  have Y0 := hid y0
  have HB1 := hid (hb1.trans (by1.mono hb1.size))
  clear hb1 hv y0 by1 ys
  go_wp2_with fail
  refine (HP2.out _).mono ?_
  rintro e w2 ⟨v2, rfl, hv2, hb2⟩
  obtain ⟨s2, p2, n2, l2, rfl⟩ := hv2.opened
  obtain ⟨y1, by1, ys⟩ := boxes1 w2 s2 (.slice p2 n2 l2) ⟨_, _, _, rfl⟩
  have hb22 := hb2.trans (by1.mono hb2.size)
  have hb3 := HB1.out.trans (hb22.mono HB1.out.size)
  have x0' := X0.out.below hb3 X0.out.lt
  obtain ⟨⟨c0, f0⟩, ⟨c1, f1⟩, ⟨c2, f2⟩, c3, f3⟩ := x0'.stores
  obtain ⟨d0, d1⟩ := Y0.out.keep hb22
  have X1 := hid x0'
  have HB3 := hid (BW.out.trans (hb3.mono BW.out.size))
  have HV1 := hid (HV.out.on hb22)
  have HV2 := hid (hv2.on by1)
  clear hb2 hb3 y1 by1 ys x0' hv2 hb22
  go_wp2_with fail
  obtain ⟨r1, r2, r3⟩ := X1.out.last HB3.out (Nat.le_refl _) s1 s2 p1 p2 n1 n2 l1 l2
  refine bodyPost_ret (res_pair_tmp rfl rfl rfl r1) rfl ?_
  exact ⟨_, rfl, ⟨_, _, _, _, _, _, _, _, rfl, r3 HV1.out, r3 HV2.out⟩, r2⟩

end Go.Proofs.Ythaidmngikkepaa

/-
  PACKAGE whole: THE PAIR's gcd, a recursion.
-/
namespace Go.Proofs.Ythaidmngikkepaa
open Go.RowKit
open Num
set_option linter.unusedVariables false
set_option maxRecDepth 100000
set_option linter.unusedSimpArgs false

/-- The blocks at the head of gcd. -/
theorem gcd_head (w : World) (s s' : Bool) (sv sv' : Value) : Pbx ((((w.alloc (.cells #[.bool s, sv, .bool s', sv'] 75)).alloc (.cells #[.bool false, .slice none 0 0] 49)).alloc (.cells #[.bool false, .slice none 0 0] 49)).alloc (.cells #[.bool false, .slice none 0 0] 49)) w.heap.size s sv s' sv' ∧ Box ((((w.alloc (.cells #[.bool s, sv, .bool s', sv'] 75)).alloc (.cells #[.bool false, .slice none 0 0] 49)).alloc (.cells #[.bool false, .slice none 0 0] 49)).alloc (.cells #[.bool false, .slice none 0 0] 49)) (w.heap.size + 1) false (.slice none 0 0) ∧ Box ((((w.alloc (.cells #[.bool s, sv, .bool s', sv'] 75)).alloc (.cells #[.bool false, .slice none 0 0] 49)).alloc (.cells #[.bool false, .slice none 0 0] 49)).alloc (.cells #[.bool false, .slice none 0 0] 49)) (w.heap.size + 1 + 1) false (.slice none 0 0) ∧ Box ((((w.alloc (.cells #[.bool s, sv, .bool s', sv'] 75)).alloc (.cells #[.bool false, .slice none 0 0] 49)).alloc (.cells #[.bool false, .slice none 0 0] 49)).alloc (.cells #[.bool false, .slice none 0 0] 49)) (w.heap.size + 1 + 1 + 1) false (.slice none 0 0) ∧ Below w.heap.size w ((((w.alloc (.cells #[.bool s, sv, .bool s', sv'] 75)).alloc (.cells #[.bool false, .slice none 0 0] 49)).alloc (.cells #[.bool false, .slice none 0 0] 49)).alloc (.cells #[.bool false, .slice none 0 0] 49)) ∧ ((((w.alloc (.cells #[.bool s, sv, .bool s', sv'] 75)).alloc (.cells #[.bool false, .slice none 0 0] 49)).alloc (.cells #[.bool false, .slice none 0 0] 49)).alloc (.cells #[.bool false, .slice none 0 0] 49)).heap.size = w.heap.size + 1 + 1 + 1 + 1 := by
  have x0 := Pbx.new w s s' sv sv'
  have bw := (Below.refl _ _).alloc (Nat.le_refl w.heap.size) (.cells #[.bool s, sv, .bool s', sv'] 75)
  have sz : (w.alloc (.cells #[.bool s, sv, .bool s', sv'] 75)).heap.size = w.heap.size + 1 := by simp
  obtain ⟨h1, h2, h3, h4, h5⟩ := boxes3 (w.alloc (.cells #[.bool s, sv, .bool s', sv'] 75)) false false false (.slice none 0 0) (.slice none 0 0) (.slice none 0 0) ⟨_, _, _, rfl⟩ ⟨_, _, _, rfl⟩ ⟨_, _, _, rfl⟩
  rw [sz] at h1 h2 h3 h4 h5
  exact ⟨x0.below h4 (by omega), h1, h2, h3, bw.trans (h4.mono (by omega)), h5⟩

/-- Three boxes. -/
def Trio (w : World) (g h k : Nat) : Prop := (∃ s v, Box w g s v) ∧ (∃ s v, Box w h s v) ∧ (∃ s v, Box w k s v) ∧ g ≠ h ∧ g ≠ k ∧ h ≠ k
theorem Trio.below {w w' : World} {g h k : Nat} (ht : Trio w g h k) (hb : Below w.heap.size w w') : Trio w' g h k := by
  obtain ⟨⟨s, v, h0⟩, ⟨s1, v1, h1⟩, ⟨s2, v2, h2⟩, hn⟩ := ht
  exact ⟨⟨_, _, h0.below hb h0.lt⟩, ⟨_, _, h1.below hb h1.lt⟩, ⟨_, _, h2.below hb h2.lt⟩, hn⟩
theorem Trio.lt {w : World} {g h k : Nat} (ht : Trio w g h k) : g < w.heap.size ∧ h < w.heap.size ∧ k < w.heap.size := by
  obtain ⟨⟨s, v, h0⟩, ⟨s1, v1, h1⟩, ⟨s2, v2, h2⟩, hn⟩ := ht
  exact ⟨h0.lt, h1.lt, h2.lt⟩
/-- What a walk needs to write all three. -/
theorem Trio.stores {w : World} {g h k : Nat} (ht : Trio w g h k) : ∃ u0 u1 u2 u3 u4 u5,
    ((w.cell? ⟨g, 0, none⟩ = some u0) ∧ (w.frozen? ⟨g, 0, none⟩ = false)) ∧
    ((∀ x, (w.setCell ⟨g, 0, none⟩ (.bool x)).cell? ⟨g, 1, none⟩ = some u1) ∧ (∀ x, (w.setCell ⟨g, 0, none⟩ (.bool x)).frozen? ⟨g, 1, none⟩ = false)) ∧
    ((∀ a b, ((w.setCell ⟨g, 0, none⟩ a).setCell ⟨g, 1, none⟩ b).cell? ⟨h, 0, none⟩ = some u2) ∧ (∀ a b, ((w.setCell ⟨g, 0, none⟩ a).setCell ⟨g, 1, none⟩ b).frozen? ⟨h, 0, none⟩ = false)) ∧
    ((∀ a b x, (((w.setCell ⟨g, 0, none⟩ a).setCell ⟨g, 1, none⟩ b).setCell ⟨h, 0, none⟩ (.bool x)).cell? ⟨h, 1, none⟩ = some u3) ∧ (∀ a b x, (((w.setCell ⟨g, 0, none⟩ a).setCell ⟨g, 1, none⟩ b).setCell ⟨h, 0, none⟩ (.bool x)).frozen? ⟨h, 1, none⟩ = false)) ∧
    ((∀ a b c d, ((((w.setCell ⟨g, 0, none⟩ a).setCell ⟨g, 1, none⟩ b).setCell ⟨h, 0, none⟩ c).setCell ⟨h, 1, none⟩ d).cell? ⟨k, 0, none⟩ = some u4) ∧ (∀ a b c d, ((((w.setCell ⟨g, 0, none⟩ a).setCell ⟨g, 1, none⟩ b).setCell ⟨h, 0, none⟩ c).setCell ⟨h, 1, none⟩ d).frozen? ⟨k, 0, none⟩ = false)) ∧
    ((∀ a b c d x, (((((w.setCell ⟨g, 0, none⟩ a).setCell ⟨g, 1, none⟩ b).setCell ⟨h, 0, none⟩ c).setCell ⟨h, 1, none⟩ d).setCell ⟨k, 0, none⟩ (.bool x)).cell? ⟨k, 1, none⟩ = some u5) ∧ (∀ a b c d x, (((((w.setCell ⟨g, 0, none⟩ a).setCell ⟨g, 1, none⟩ b).setCell ⟨h, 0, none⟩ c).setCell ⟨h, 1, none⟩ d).setCell ⟨k, 0, none⟩ (.bool x)).frozen? ⟨k, 1, none⟩ = false)) := by
  obtain ⟨⟨s, v, h0⟩, ⟨s1, v1, h1⟩, ⟨s2, v2, h2⟩, n1, n2, n3⟩ := ht
  have k1 := fun a b => (h1.other (g2 := g) (Ne.symm n1) 0 a).other (g2 := g) (Ne.symm n1) 1 b
  have k2 := fun a b c d => (((h2.other (g2 := g) (Ne.symm n2) 0 a).other (g2 := g) (Ne.symm n2) 1 b).other (g2 := h) (Ne.symm n3) 0 c).other (g2 := h) (Ne.symm n3) 1 d
  exact ⟨_, _, _, _, _, _, ⟨h0.cell0, h0.free 0⟩, ⟨fun x => (h0.set0 x).cell1, fun x => (h0.set0 x).free 1⟩, ⟨fun a b => (k1 a b).cell0, fun a b => (k1 a b).free 0⟩, ⟨fun a b x => ((k1 a b).set0 x).cell1, fun a b x => ((k1 a b).set0 x).free 1⟩,
    ⟨fun a b c d => (k2 a b c d).cell0, fun a b c d => (k2 a b c d).free 0⟩, ⟨fun a b c d x => ((k2 a b c d).set0 x).cell1, fun a b c d x => ((k2 a b c d).set0 x).free 1⟩⟩
/-- The stores of three results. -/
theorem Trio.last {w0 w : World} {g h k K : Nat} (ht : Trio w g h k) (hb : Below K w0 w) (hg : K ≤ g) (hh : K ≤ h) (hk : K ≤ k) (a0 a1 a2 : Bool) (p0 p1 p2 : Option Addr) (n0 n1 n2 c0 c1 c2 : Nat) :
    Box ((((((w.setCell ⟨g, 0, none⟩ (.bool a0)).setCell ⟨g, 1, none⟩ (.slice p0 n0 c0)).setCell ⟨h, 0, none⟩ (.bool a1)).setCell ⟨h, 1, none⟩ (.slice p1 n1 c1)).setCell ⟨k, 0, none⟩ (.bool a2)).setCell ⟨k, 1, none⟩ (.slice p2 n2 c2)) g a0 (.slice p0 n0 c0) ∧
    Box ((((((w.setCell ⟨g, 0, none⟩ (.bool a0)).setCell ⟨g, 1, none⟩ (.slice p0 n0 c0)).setCell ⟨h, 0, none⟩ (.bool a1)).setCell ⟨h, 1, none⟩ (.slice p1 n1 c1)).setCell ⟨k, 0, none⟩ (.bool a2)).setCell ⟨k, 1, none⟩ (.slice p2 n2 c2)) h a1 (.slice p1 n1 c1) ∧
    Box ((((((w.setCell ⟨g, 0, none⟩ (.bool a0)).setCell ⟨g, 1, none⟩ (.slice p0 n0 c0)).setCell ⟨h, 0, none⟩ (.bool a1)).setCell ⟨h, 1, none⟩ (.slice p1 n1 c1)).setCell ⟨k, 0, none⟩ (.bool a2)).setCell ⟨k, 1, none⟩ (.slice p2 n2 c2)) k a2 (.slice p2 n2 c2) ∧
    Below K w0 ((((((w.setCell ⟨g, 0, none⟩ (.bool a0)).setCell ⟨g, 1, none⟩ (.slice p0 n0 c0)).setCell ⟨h, 0, none⟩ (.bool a1)).setCell ⟨h, 1, none⟩ (.slice p1 n1 c1)).setCell ⟨k, 0, none⟩ (.bool a2)).setCell ⟨k, 1, none⟩ (.slice p2 n2 c2)) ∧
    (∀ {v z m}, Whl w v z m → Whl ((((((w.setCell ⟨g, 0, none⟩ (.bool a0)).setCell ⟨g, 1, none⟩ (.slice p0 n0 c0)).setCell ⟨h, 0, none⟩ (.bool a1)).setCell ⟨h, 1, none⟩ (.slice p1 n1 c1)).setCell ⟨k, 0, none⟩ (.bool a2)).setCell ⟨k, 1, none⟩ (.slice p2 n2 c2)) v z m) := by
  obtain ⟨⟨s, v, h0⟩, ⟨s1, v1, h1⟩, ⟨s2, v2, h2⟩, n1', n2', n3'⟩ := ht
  obtain ⟨r1, r2, r3⟩ := h0.last hb hg a0 p0 n0 c0
  have k1 := (h1.other (g2 := g) (Ne.symm n1') 0 (.bool a0)).other (g2 := g) (Ne.symm n1') 1 (.slice p0 n0 c0)
  have k2 := (((h2.other (g2 := g) (Ne.symm n2') 0 (.bool a0)).other (g2 := g) (Ne.symm n2') 1 (.slice p0 n0 c0)).other (g2 := h) (Ne.symm n3') 0 (.bool a1)).other (g2 := h) (Ne.symm n3') 1 (.slice p1 n1 c1)
  obtain ⟨q1, q2, q3⟩ := k1.last r2 hh a1 p1 n1 c1
  obtain ⟨t1, t2, t3⟩ := k2.last q2 hk a2 p2 n2 c2
  exact ⟨(((r1.other n1' _ _).other n1' _ _).other n2' _ _).other n2' _ _, (q1.other n3' _ _).other n3' _ _, t1, t2, fun hv => t3 (q3 (r3 hv))⟩
/-- What stays of another block. -/
theorem Pbx.past {w : World} {x : Nat} {s s' : Bool} {sv sv' : Value} (hx : Pbx w x s sv s' sv') (g h k : Nat) (n0 : x ≠ g) (n1 : x ≠ h) (n2 : x ≠ k) :
    (∀ a b, ((w.setCell ⟨g, 0, none⟩ a).setCell ⟨g, 1, none⟩ b).cell? ⟨x, 0, none⟩ = some (.bool s)) ∧
    (∀ a b, ((w.setCell ⟨g, 0, none⟩ a).setCell ⟨g, 1, none⟩ b).cell? ⟨x, 1, none⟩ = some sv) ∧
    (∀ a b c d, ((((w.setCell ⟨g, 0, none⟩ a).setCell ⟨g, 1, none⟩ b).setCell ⟨h, 0, none⟩ c).setCell ⟨h, 1, none⟩ d).cell? ⟨x, 0, none⟩ = some (.bool s)) ∧
    (∀ a b c d, ((((w.setCell ⟨g, 0, none⟩ a).setCell ⟨g, 1, none⟩ b).setCell ⟨h, 0, none⟩ c).setCell ⟨h, 1, none⟩ d).cell? ⟨x, 1, none⟩ = some sv) ∧
    (∀ a b c d e f, ((((((w.setCell ⟨g, 0, none⟩ a).setCell ⟨g, 1, none⟩ b).setCell ⟨h, 0, none⟩ c).setCell ⟨h, 1, none⟩ d).setCell ⟨k, 0, none⟩ e).setCell ⟨k, 1, none⟩ f).cell? ⟨x, 0, none⟩ = some (.bool s)) ∧
    (∀ a b c d e f, ((((((w.setCell ⟨g, 0, none⟩ a).setCell ⟨g, 1, none⟩ b).setCell ⟨h, 0, none⟩ c).setCell ⟨h, 1, none⟩ d).setCell ⟨k, 0, none⟩ e).setCell ⟨k, 1, none⟩ f).cell? ⟨x, 1, none⟩ = some sv) :=
  ⟨fun a b => ((hx.other (g2 := g) n0 0 a).other (g2 := g) n0 1 b).cells.1,
    fun a b => ((hx.other (g2 := g) n0 0 a).other (g2 := g) n0 1 b).cells.2.1,
    fun a b c d => ((((hx.other (g2 := g) n0 0 a).other (g2 := g) n0 1 b).other (g2 := h) n1 0 c).other (g2 := h) n1 1 d).cells.1,
    fun a b c d => ((((hx.other (g2 := g) n0 0 a).other (g2 := g) n0 1 b).other (g2 := h) n1 0 c).other (g2 := h) n1 1 d).cells.2.1,
    fun a b c d e f => ((((((hx.other (g2 := g) n0 0 a).other (g2 := g) n0 1 b).other (g2 := h) n1 0 c).other (g2 := h) n1 1 d).other (g2 := k) n2 0 e).other (g2 := k) n2 1 f).cells.1,
    fun a b c d e f => ((((((hx.other (g2 := g) n0 0 a).other (g2 := g) n0 1 b).other (g2 := h) n1 0 c).other (g2 := h) n1 1 d).other (g2 := k) n2 0 e).other (g2 := k) n2 1 f).cells.2.1⟩
theorem Box.past {w : World} {x : Nat} {s : Bool} {sv : Value} (hx : Box w x s sv) (g h k : Nat) (n0 : x ≠ g) (n1 : x ≠ h) (n2 : x ≠ k) :
    (∀ a b, ((w.setCell ⟨g, 0, none⟩ a).setCell ⟨g, 1, none⟩ b).cell? ⟨x, 0, none⟩ = some (.bool s)) ∧
    (∀ a b, ((w.setCell ⟨g, 0, none⟩ a).setCell ⟨g, 1, none⟩ b).cell? ⟨x, 1, none⟩ = some sv) ∧
    (∀ a b c d, ((((w.setCell ⟨g, 0, none⟩ a).setCell ⟨g, 1, none⟩ b).setCell ⟨h, 0, none⟩ c).setCell ⟨h, 1, none⟩ d).cell? ⟨x, 0, none⟩ = some (.bool s)) ∧
    (∀ a b c d, ((((w.setCell ⟨g, 0, none⟩ a).setCell ⟨g, 1, none⟩ b).setCell ⟨h, 0, none⟩ c).setCell ⟨h, 1, none⟩ d).cell? ⟨x, 1, none⟩ = some sv) ∧
    (∀ a b c d e f, ((((((w.setCell ⟨g, 0, none⟩ a).setCell ⟨g, 1, none⟩ b).setCell ⟨h, 0, none⟩ c).setCell ⟨h, 1, none⟩ d).setCell ⟨k, 0, none⟩ e).setCell ⟨k, 1, none⟩ f).cell? ⟨x, 0, none⟩ = some (.bool s)) ∧
    (∀ a b c d e f, ((((((w.setCell ⟨g, 0, none⟩ a).setCell ⟨g, 1, none⟩ b).setCell ⟨h, 0, none⟩ c).setCell ⟨h, 1, none⟩ d).setCell ⟨k, 0, none⟩ e).setCell ⟨k, 1, none⟩ f).cell? ⟨x, 1, none⟩ = some sv) :=
  ⟨fun a b => ((hx.other (g2 := g) n0 0 a).other (g2 := g) n0 1 b).cell0,
    fun a b => ((hx.other (g2 := g) n0 0 a).other (g2 := g) n0 1 b).cell1,
    fun a b c d => ((((hx.other (g2 := g) n0 0 a).other (g2 := g) n0 1 b).other (g2 := h) n1 0 c).other (g2 := h) n1 1 d).cell0,
    fun a b c d => ((((hx.other (g2 := g) n0 0 a).other (g2 := g) n0 1 b).other (g2 := h) n1 0 c).other (g2 := h) n1 1 d).cell1,
    fun a b c d e f => ((((((hx.other (g2 := g) n0 0 a).other (g2 := g) n0 1 b).other (g2 := h) n1 0 c).other (g2 := h) n1 1 d).other (g2 := k) n2 0 e).other (g2 := k) n2 1 f).cell0,
    fun a b c d e f => ((((((hx.other (g2 := g) n0 0 a).other (g2 := g) n0 1 b).other (g2 := h) n1 0 c).other (g2 := h) n1 1 d).other (g2 := k) n2 0 e).other (g2 := k) n2 1 f).cell1⟩
theorem Box.past6 {w : World} {x : Nat} {s : Bool} {sv : Value} (hx : Box w x s sv) (g h k : Nat) (n0 : x ≠ g) (n1 : x ≠ h) (n2 : x ≠ k) (a b c d e f : Value) : Box ((((((w.setCell ⟨g, 0, none⟩ a).setCell ⟨g, 1, none⟩ b).setCell ⟨h, 0, none⟩ c).setCell ⟨h, 1, none⟩ d).setCell ⟨k, 0, none⟩ e).setCell ⟨k, 1, none⟩ f) x s sv := ((((((hx.other (g2 := g) n0 0 a).other (g2 := g) n0 1 b).other (g2 := h) n1 0 c).other (g2 := h) n1 1 d).other (g2 := k) n2 0 e).other (g2 := k) n2 1 f)
/-- A box that is written anew with what it holds. -/
theorem Box.same {w : World} {g h k : Nat} {s : Bool} {sv : Value} (hx : Box w g s sv) (n1 : g ≠ h) (n2 : g ≠ k) :
    Box ((w.setCell ⟨g, 0, none⟩ (.bool s)).setCell ⟨g, 1, none⟩ sv) g s sv ∧
    (∀ a b, Box ((((w.setCell ⟨g, 0, none⟩ (.bool s)).setCell ⟨g, 1, none⟩ sv).setCell ⟨h, 0, none⟩ a).setCell ⟨h, 1, none⟩ b) g s sv) ∧
    (∀ a b c d, Box ((((((w.setCell ⟨g, 0, none⟩ (.bool s)).setCell ⟨g, 1, none⟩ sv).setCell ⟨h, 0, none⟩ a).setCell ⟨h, 1, none⟩ b).setCell ⟨k, 0, none⟩ c).setCell ⟨k, 1, none⟩ d) g s sv) := by
  have h0 := (hx.set0 s).set1 hx.2
  exact ⟨h0, fun a b => (h0.other n1 0 a).other n1 1 b, fun a b c d => (((h0.other n1 0 a).other n1 1 b).other n2 0 c).other n2 1 d⟩

theorem res_three {fn : Func} {t t' t'' : Tmp} {tmps : Array Value} {w : World} {g g' g'' : Nat} {s s' s'' : Bool} {sv sv' sv'' : Value} (hf : fn.results = #[.cell t 49, .cell t' 49, .cell t'' 49]) (ht : tmps.getD t undef = .pointer (some ⟨g, 0, none⟩)) (ht' : tmps.getD t' undef = .pointer (some ⟨g', 0, none⟩)) (ht'' : tmps.getD t'' undef = .pointer (some ⟨g'', 0, none⟩)) (h2 : Box w g s sv) (h2' : Box w g' s' sv') (h2'' : Box w g'' s'' sv'') :
    (results fn tmps).run Try.prog w = .ok (.tuple #[.agg #[.bool s, sv], .agg #[.bool s', sv'], .agg #[.bool s'', sv'']]) w := by
  have h1 := at_addr (P := Try.prog) (w := w) ht
  have h1' := at_addr (P := Try.prog) (w := w) ht'
  have h1'' := at_addr (P := Try.prog) (w := w) ht''
  have h3 := load_whl h2
  have h3' := load_whl h2'
  have h3'' := load_whl h2''
  simp only [Array.getD_eq_getD_getElem?] at h1 h1' h1''
  simp [results, hf, Sem.run_bind, h1, h3, h1', h3', h1'', h3'']

/-- What gcd tells. -/
def Gcds (w : World) (a b : Int) (K : Nat) (e : Ending) (w' : World) : Prop :=
  ∃ v1 v2 v3, e = .returned (.tuple #[v1, v2, v3]) ∧ Whl w' v1 (zg a b).1 K ∧ Whl w' v2 (zg a b).2.1 K ∧ Whl w' v3 (zg a b).2.2 K ∧ Below w.heap.size w w'

theorem Box.drew {w : World} {g : Nat} {s : Bool} {sv : Value} (h : Box w g s sv) : Box w.drew g s sv := h
theorem Trio.drew {w : World} {g h k : Nat} (ht : Trio w g h k) : Trio w.drew g h k := ht
theorem natAbs_sign_le (a : Int) : a.sign.natAbs ≤ 1 := by rw [Int.natAbs_sign]; split <;> omega

end Go.Proofs.Ythaidmngikkepaa

/-
  PACKAGE whole: ITS FUNCTIONS OF TEXTS.
-/
namespace Go.Proofs.Ythaidmngikkepaa
open Go.RowKit
open Num
set_option linter.unusedVariables false
set_option maxRecDepth 100000
set_option linter.unusedSimpArgs false

theorem results_tmp4 {fn : Func} {t u v x : Tmp} (h : fn.results = #[.tmp t, .tmp u, .tmp v, .tmp x]) (tmps : Array Value) (P : Program) (w : World) :
    (results fn tmps).run P w = .ok (.tuple #[tmps.getD t undef, tmps.getD u undef, tmps.getD v undef, tmps.getD x undef]) w := by
  simp [results, h]

set_option maxHeartbeats 400000 in
theorem zcheck_bad {a : ByteArray} {k : Int} (h : BadZ a k) (ha : a.size ≤ maxLen) (w : World) :
    Calls Try.prog 17 #[.string a] w fun e w' => e = .returned (errno k) ∧ Below w.heap.size w w' := by
  have HP := hid (zread_bad h w ha)
  clear h
  go_enter Try.func17, Try.ntmps17
  go_wp2_with fail
  refine HP.out.mono ?_
  rintro e w1 ⟨rfl, hb1⟩
  have HB1 := hid (hb1.trans (((Below.refl _ w1).alloc (Nat.le_refl _) (.cells #[.bool false, .slice none 0 0] 49)).mono hb1.size))
  clear hb1
  go_wp2_with fail
  go_ret
  exact ⟨rfl, HB1.out⟩

set_option maxHeartbeats 400000 in
theorem zcheck_good {a : ByteArray} (h : GoodZ a) (w : World) :
    Calls Try.prog 17 #[.string a] w fun e w' => e = .returned .nilIface ∧ Below w.heap.size w w' := by
  have HP := hid (zread_good h w)
  clear h
  go_enter Try.func17, Try.ntmps17
  go_wp2_with fail
  refine HP.out.mono ?_
  rintro e w1 ⟨v, rfl, hv, hb1⟩
  obtain ⟨s, p, n, c, rfl⟩ := hv.opened
  have HB1 := hid (hb1.trans (((Below.refl _ w1).alloc (Nat.le_refl _) (.cells #[.bool s, .slice p n c] 49)).mono hb1.size))
  clear hb1 hv
  go_wp2_with fail
  go_ret
  exact ⟨rfl, HB1.out⟩

set_option maxHeartbeats 400000 in
theorem zmul_bad {a b : ByteArray} {k : Int} (h : WrongZ a b k) (ha : a.size ≤ maxLen) (hb : b.size ≤ maxLen) (w : World) :
    Calls Try.prog 26 #[.string a, .string b] w fun e w' => e = .returned (.tuple #[.string ⟨#[]⟩, errno k]) ∧ Below w.heap.size w w' := by
  have HP := hid (zpair_bad h ha hb w)
  clear h
  go_enter Try.func26, Try.ntmps26
  go_wp2_with fail
  refine HP.out.mono ?_
  rintro e w1 ⟨rfl, hb1⟩
  have HB1 := hid (hb1.trans (((Below.refl _ w1).alloc (Nat.le_refl _) (.cells #[.bool false, .slice none 0 0, .bool false, .slice none 0 0] 75)).mono hb1.size))
  clear hb1
  go_wp2_with fail
  go_ret2
  exact ⟨rfl, HB1.out⟩

set_option maxHeartbeats 1000000 in
theorem zmul_good {a b : ByteArray} (ha : GoodZ a) (hb : GoodZ b) (w : World) :
    Calls Try.prog 26 #[.string a, .string b] w fun e w' => e = .returned (.tuple #[.string (ztxt (znum a * znum b)), .nilIface]) ∧ Below w.heap.size w w' := by
  have HP := hid (zpair_good ha hb w)
  clear ha hb
  go_enter Try.func26, Try.ntmps26
  go_wp2_with fail
  refine HP.out.mono ?_
  rintro e w1 ⟨v, rfl, ⟨s, p, n, c, s', p', n', c', rfl, h1, h2⟩, hb1⟩
  have hb2 := (Below.refl _ w1).alloc (Nat.le_refl _) (.cells #[.bool s, .slice p n c, .bool s', .slice p' n' c'] 75)
  have HO := hid (mul_whl (h1.on hb2) (h2.on hb2) (by omega) (by omega))
  have HB1 := hid (hb1.trans (hb2.mono hb1.size))
  clear h1 h2 hb1 hb2
  go_wp2_with fail
  refine HO.out.mono ?_
  rintro e w2 ⟨v, rfl, hv, hb3⟩
  have HS := hid (string_whl hv (by omega))
  have HB3 := hid (HB1.out.trans (hb3.mono HB1.out.size))
  clear hv hb3
  go_wp2_with fail
  refine HS.out.mono ?_
  rintro e w3 ⟨rfl, hb4⟩
  have HB4 := hid (HB3.out.trans (hb4.mono HB3.out.size))
  clear hb4
  go_wp2_with fail
  go_ret2
  exact ⟨rfl, HB4.out⟩


end Go.Proofs.Ythaidmngikkepaa
