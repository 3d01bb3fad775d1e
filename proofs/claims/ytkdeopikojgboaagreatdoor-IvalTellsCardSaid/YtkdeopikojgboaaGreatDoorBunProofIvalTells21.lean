import Derived.Test.YtkdeopikojgboaaGreatDoorBunProofIvalTells17
import Derived.Test.YtkdeopikojgboaaGreatDoorBunProofIvalTells18
import Derived.Deep.RegionHeld3
import Derived.Test.YtkdeopikojgboaaGreatDoorBunProofIvalTells7
import Derived.Test.YtkdeopikojgboaaGreatDoorBunProofIvalTells14
/-
  THE REFERENCE's FRACTIONS IN MEMORY; naturals as values; GcdN.
-/
namespace Go.Proofs.YtkdeopikojgboaaGreatDoor
open Go.RowKit
open Num4
open Num (dg isNat dval)
set_option linter.unusedVariables false
set_option maxRecDepth 100000
set_option linter.unusedSimpArgs false

theorem BoxR.both {w : World} {g : Nat} {s : Bool} {sv : Value} (h : BoxR w g s sv) : w.cell? ⟨g, 0, none⟩ = some (.bool s) ∧ w.cell? ⟨g, 1, none⟩ = some sv := ⟨h.cell0, h.cell1⟩
theorem BoxR.dr {w : World} {g : Nat} {s : Bool} {sv : Value} (h : BoxR w g s sv) : BoxR w.drew g s sv := h

/-- A block of three cells: a fraction of the reference's. -/
def Qbx (w : World) (g : Nat) (s : Bool) (sv dv : Value) : Prop := w.heap[g]? = some (.cells #[.bool s, sv, dv] 30 (0, 0)) ∧ (∃ p n c, sv = .slice p n c) ∧ ∃ p n c, dv = .slice p n c
theorem Qbx.lt {w : World} {g : Nat} {s : Bool} {sv dv : Value} (h : Qbx w g s sv dv) : g < w.heap.size := lt_of_block h.1
theorem Qbx.cells {w : World} {g : Nat} {s : Bool} {sv dv : Value} (h : Qbx w g s sv dv) : w.cell? ⟨g, 0, none⟩ = some (.bool s) ∧ w.cell? ⟨g, 1, none⟩ = some sv ∧ w.cell? ⟨g, 2, none⟩ = some dv := by
  have := h.1
  refine ⟨?_, ?_, ?_⟩ <;> simp [World.cell?, this]
theorem Qbx.free {w : World} {g : Nat} {s : Bool} {sv dv : Value} (h : Qbx w g s sv dv) (i : Nat) : w.frozen? ⟨g, i, none⟩ = false := by
  have := h.1
  simp [World.frozen?, this]
theorem Qbx.below {w w' : World} {g K : Nat} {s : Bool} {sv dv : Value} (h : Qbx w g s sv dv) (hb : Below K w w') (hK : g < K) : Qbx w' g s sv dv := ⟨(hb.block g hK).trans h.1, h.2⟩
theorem Qbx.dr {w : World} {g : Nat} {s : Bool} {sv dv : Value} (h : Qbx w g s sv dv) : Qbx w.drew g s sv dv := h
theorem Qbx.new (w : World) (s : Bool) (p : Option Addr) (n c : Nat) (p' : Option Addr) (n' c' : Nat) : Qbx (w.alloc (.cells #[.bool s, .slice p n c, .slice p' n' c'] 30)) w.heap.size s (.slice p n c) (.slice p' n' c') := by
  refine ⟨?_, ⟨_, _, _, rfl⟩, ⟨_, _, _, rfl⟩⟩
  show (w.heap.push _)[w.heap.size]? = _
  simp
theorem Qbx.other {w : World} {g g2 : Nat} {s : Bool} {sv dv : Value} (h : Qbx w g s sv dv) (hne : g ≠ g2) (i : Nat) (v : Value) : Qbx (w.setCell ⟨g2, i, none⟩ v) g s sv dv := by
  refine ⟨?_, h.2⟩
  rw [Below.heap_setCell _ _ _ _ (by exact hne)]; exact h.1
theorem Qbx.set0 {w : World} {g : Nat} {s : Bool} {sv dv : Value} (h : Qbx w g s sv dv) (x : Bool) : Qbx (w.setCell ⟨g, 0, none⟩ (.bool x)) g x sv dv := by
  refine ⟨?_, h.2⟩
  show (w.setCell ⟨g, 0, none⟩ (.bool x)).heap[g]? = _
  simp only [World.setCell, Array.getElem?_modify, h.1]
  simp
theorem Qbx.set1 {w : World} {g : Nat} {s : Bool} {sv dv : Value} (h : Qbx w g s sv dv) (p : Option Addr) (n c : Nat) : Qbx (w.setCell ⟨g, 1, none⟩ (.slice p n c)) g s (.slice p n c) dv := by
  refine ⟨?_, ⟨_, _, _, rfl⟩, h.2.2⟩
  show (w.setCell ⟨g, 1, none⟩ (.slice p n c)).heap[g]? = _
  simp only [World.setCell, Array.getElem?_modify, h.1]
  simp
theorem Qbx.set2 {w : World} {g : Nat} {s : Bool} {sv dv : Value} (h : Qbx w g s sv dv) (p : Option Addr) (n c : Nat) : Qbx (w.setCell ⟨g, 2, none⟩ (.slice p n c)) g s sv (.slice p n c) := by
  refine ⟨?_, h.2.1, ⟨_, _, _, rfl⟩⟩
  show (w.setCell ⟨g, 2, none⟩ (.slice p n c)).heap[g]? = _
  simp only [World.setCell, Array.getElem?_modify, h.1]
  simp
theorem Qbx.stores {w : World} {g : Nat} {s : Bool} {sv dv : Value} (h : Qbx w g s sv dv) :
    (w.cell? ⟨g, 0, none⟩ = some (.bool s) ∧ w.frozen? ⟨g, 0, none⟩ = false) ∧
    ((∀ x, (w.setCell ⟨g, 0, none⟩ (.bool x)).cell? ⟨g, 1, none⟩ = some sv) ∧ (∀ x, (w.setCell ⟨g, 0, none⟩ (.bool x)).frozen? ⟨g, 1, none⟩ = false)) ∧
    (∀ x p n c, ((w.setCell ⟨g, 0, none⟩ (.bool x)).setCell ⟨g, 1, none⟩ (.slice p n c)).cell? ⟨g, 2, none⟩ = some dv) ∧ (∀ x p n c, ((w.setCell ⟨g, 0, none⟩ (.bool x)).setCell ⟨g, 1, none⟩ (.slice p n c)).frozen? ⟨g, 2, none⟩ = false) :=
  ⟨⟨h.cells.1, h.free 0⟩, ⟨fun x => (h.set0 x).cells.2.1, fun x => (h.set0 x).free 1⟩, fun x p n c => ((h.set0 x).set1 p n c).cells.2.2, fun x p n c => ((h.set0 x).set1 p n c).free 2⟩
theorem LimR.qbx {w : World} {v : Value} {xs : List Nat} {g : Nat} {s : Bool} {sv dv : Value} (h : LimR w v xs) (hx : Qbx w g s sv dv) (i : Nat) (u : Value) : LimR (w.setCell ⟨g, i, none⟩ u) v xs := by
  obtain ⟨h1, p, c, h2, h3, h4, h5⟩ := h
  refine ⟨h1, p, c, h2, h3, h4, ?_⟩
  rcases h5 with h5 | ⟨b, off, h6, h7, h8⟩
  · exact .inl h5
  · refine .inr ⟨b, off, h6, by simpa [World.setCell] using h7, fun i hi => ?_⟩
    have h9 := h8 i hi
    by_cases hb : b = g
    · subst hb
      obtain ⟨hx1, ⟨p', n', c', hx2⟩, p2, n2, c2, hx3⟩ := hx
      subst hx2 hx3
      simp only [World.cell?, hx1] at h9
      have hh : ∀ k : Nat, (#[Value.bool s, Value.slice p' n' c', Value.slice p2 n2 c2] : Array Value)[k]? ≠ some (.int .i64 (dg xs i)) := by
        intro k
        rcases k with _ | _ | _ | k <;> simp
      exact absurd h9 (hh _)
    · rw [← h9]
      exact World.cell?_of_block (Below.heap_setCell _ _ _ _ (by exact hb))
theorem WhlR.qbx {w : World} {v : Value} {z : Int} {k g : Nat} {s : Bool} {sv dv : Value} (h : WhlR w v z k) (hx : Qbx w g s sv dv) (i : Nat) (u : Value) : WhlR (w.setCell ⟨g, i, none⟩ u) v z k := by
  obtain ⟨s', sv', xs, h1, h2, h3⟩ := h
  exact ⟨s', sv', xs, h1, h2.qbx hx i u, h3⟩
theorem Qbx.last {w0 w : World} {g K : Nat} {s : Bool} {sv dv : Value} (h : Qbx w g s sv dv) (hb : Below K w0 w) (hg : K ≤ g) (a : Bool) (p : Option Addr) (n c : Nat) (p' : Option Addr) (n' c' : Nat) :
    Qbx (((w.setCell ⟨g, 0, none⟩ (.bool a)).setCell ⟨g, 1, none⟩ (.slice p n c)).setCell ⟨g, 2, none⟩ (.slice p' n' c')) g a (.slice p n c) (.slice p' n' c') ∧
    Below K w0 (((w.setCell ⟨g, 0, none⟩ (.bool a)).setCell ⟨g, 1, none⟩ (.slice p n c)).setCell ⟨g, 2, none⟩ (.slice p' n' c')) ∧
    (∀ {v z k}, WhlR w v z k → WhlR (((w.setCell ⟨g, 0, none⟩ (.bool a)).setCell ⟨g, 1, none⟩ (.slice p n c)).setCell ⟨g, 2, none⟩ (.slice p' n' c')) v z k) := by
  have h1 := h.set0 a
  have h2 := h1.set1 p n c
  refine ⟨h2.set2 _ _ _, ((hb.setCell (p := ⟨g, 0, none⟩) hg _).setCell (p := ⟨g, 1, none⟩) hg _).setCell (p := ⟨g, 2, none⟩) hg _, fun hv => ?_⟩
  exact ((hv.qbx h 0 _).qbx h1 1 _).qbx h2 2 _
theorem load_q {w : World} {g : Nat} {s : Bool} {sv dv : Value} (h2 : Qbx w g s sv dv) : (loadVar 30 ⟨g, 0, none⟩).run Tryz.prog w = .ok (.agg #[.bool s, sv, dv]) w := by
  obtain ⟨h0, h1, h3⟩ := h2.cells
  simp [go_sem, h0, h1, h3]
theorem res_q {fn : Func} {t : Tmp} {tmps : Array Value} {w : World} {g : Nat} {s : Bool} {sv dv : Value} (hf : fn.results = #[.cell t 30]) (ht : tmps.getD t undef = .pointer (some ⟨g, 0, none⟩)) (h2 : Qbx w g s sv dv) :
    (results fn tmps).run Tryz.prog w = .ok (.agg #[.bool s, sv, dv]) w := by
  have h1 := at_addr (P := Tryz.prog) (w := w) ht
  have h3 := load_q h2
  simp only [Array.getD_eq_getD_getElem?] at h1
  simp [results, hf, Sem.run_bind, h1, h3]
theorem res_q_tmp {fn : Func} {t t' : Tmp} {tmps : Array Value} {w : World} {g : Nat} {s : Bool} {sv dv u : Value} (hf : fn.results = #[.cell t 30, .tmp t']) (ht : tmps.getD t undef = .pointer (some ⟨g, 0, none⟩)) (hu : tmps.getD t' undef = u) (h2 : Qbx w g s sv dv) :
    (results fn tmps).run Tryz.prog w = .ok (.tuple #[.agg #[.bool s, sv, dv], u]) w := by
  have h1 := at_addr (P := Tryz.prog) (w := w) ht
  have h3 := load_q h2
  simp only [Array.getD_eq_getD_getElem?] at h1 hu
  simp [results, hf, Sem.run_bind, h1, h3, hu]
theorem res_qq_tmp {fn : Func} {t t' t'' : Tmp} {tmps : Array Value} {w : World} {g g' : Nat} {s a : Bool} {sv dv av bv u : Value} (hf : fn.results = #[.cell t 30, .cell t' 30, .tmp t'']) (ht : tmps.getD t undef = .pointer (some ⟨g, 0, none⟩)) (ht' : tmps.getD t' undef = .pointer (some ⟨g', 0, none⟩)) (hu : tmps.getD t'' undef = u) (h2 : Qbx w g s sv dv) (h2' : Qbx w g' a av bv) :
    (results fn tmps).run Tryz.prog w = .ok (.tuple #[.agg #[.bool s, sv, dv], .agg #[.bool a, av, bv], u]) w := by
  have h1 := at_addr (P := Tryz.prog) (w := w) ht
  have h1' := at_addr (P := Tryz.prog) (w := w) ht'
  have h3 := load_q h2
  have h3' := load_q h2'
  simp only [Array.getD_eq_getD_getElem?] at h1 h1' hu
  simp [results, hf, Sem.run_bind, h1, h3, h1', h3', hu]

/-- Facts that are carried past a call. -/
theorem br {w w' : World} {g : Nat} {s : Bool} {sv : Value} (h : Hid (BoxR w g s sv)) (hb : Below w.heap.size w w') : Hid (BoxR w' g s sv) := hid (h.out.below hb h.out.lt)
theorem qx {w w' : World} {g : Nat} {s : Bool} {sv dv : Value} (h : Hid (Qbx w g s sv dv)) (hb : Below w.heap.size w w') : Hid (Qbx w' g s sv dv) := hid (h.out.below hb h.out.lt)
theorem wr {w w' : World} {v : Value} {z : Int} {k : Nat} (h : Hid (WhlR w v z k)) (hb : Below w.heap.size w w') : Hid (WhlR w' v z k) := hid (h.out.on hb)

/-- A natural as a slice. -/
def NatR (w : World) (v : Value) (n k : Nat) : Prop := ∃ xs, LimR w v xs ∧ Trim xs ∧ xs.length ≤ k ∧ val xs = n
theorem WhlR.inside {w : World} {s : Bool} {v : Value} {z : Int} {k : Nat} (h : WhlR w (.agg #[.bool s, v]) z k) : NatR w v z.natAbs k ∧ s = decide (z < 0) := by
  obtain ⟨s', sv, xs, he, hl, ht, hk, hs, hz⟩ := h.neg
  simp only [Value.agg.injEq, Array.mk.injEq, List.cons.injEq, Value.bool.injEq, and_true] at he
  obtain ⟨rfl, rfl⟩ := he
  exact ⟨⟨xs, hl, ht, hk, hz⟩, hs⟩
theorem NatR.value {w : World} {v : Value} {n k : Nat} (h : NatR w v n k) : WhlR w (.agg #[.bool false, v]) n k := by
  obtain ⟨xs, hl, ht, hk, hv⟩ := h
  exact ⟨false, v, xs, rfl, hl, ht, hk, fun e => by simp at e, by rw [hv]; rfl⟩
theorem WhlR.abs {w : World} {s : Bool} {v : Value} {z : Int} {k : Nat} (h : WhlR w (.agg #[.bool s, v]) z k) : WhlR w (.agg #[.bool false, v]) z.natAbs k := h.inside.1.value
theorem WhlR.nat {w : World} {s : Bool} {v : Value} {n k : Nat} (h : WhlR w (.agg #[.bool s, v]) (n : Int) k) : NatR w v n k := by
  have := h.inside.1
  simpa using this
theorem NatR.slice {w : World} {v : Value} {n k : Nat} (h : NatR w v n k) : ∃ p m c, v = .slice p m c := by
  obtain ⟨xs, hl, _⟩ := h
  exact hl.slice
theorem NatR.len {w : World} {p : Option Addr} {m c n k : Nat} (h : NatR w (.slice p m c) n k) : m = 0 ↔ n = 0 := by
  obtain ⟨xs, hl, ht, hk, hv⟩ := h
  obtain ⟨p', c', e, _⟩ := limR_parts hl
  obtain ⟨_, rfl, _⟩ := Value.slice.inj e
  have := ht.zero_iff
  rw [hv] at this
  rw [this]
  exact List.length_eq_zero_iff

/-- MulN, DivN, CmpN, TextN of naturals as values. -/
theorem rmuln {w : World} {v u : Value} {a b k l : Nat} (h : NatR w v a k) (h' : NatR w u b l) (hk : k ≤ 549755813888) (hl : l ≤ 549755813888) :
    Calls Tryz.prog 37 #[v, u] w fun e w' => ∃ p n c, e = .returned (.slice p n c) ∧ NatR w' (.slice p n c) (a * b) (k + l) ∧ Below w.heap.size w w' := by
  obtain ⟨xs, h1, h2, h3, rfl⟩ := h
  obtain ⟨ys, g1, g2, g3, rfl⟩ := h'
  refine (rmul_lim h1 g1 (by omega) (by omega)).mono ?_
  rintro e w' ⟨v', zs, rfl, hz, tz, vz, hb⟩
  obtain ⟨p, n, c, rfl⟩ := hz.slice
  refine ⟨p, n, c, rfl, ⟨zs, hz, tz, length_le_of_val tz _ ?_, vz⟩, hb⟩
  rw [vz, Nat.pow_add]
  exact Nat.mul_lt_mul'' (few4 h1.1 h3) (few4 g1.1 g3)
theorem rdivn {w : World} {v u : Value} {a b k l : Nat} (h : NatR w v a k) (h' : NatR w u b l) (hb0 : 0 < b) (hk : k ≤ 549755813888) (hl : l ≤ 549755813888) :
    Calls Tryz.prog 50 #[v, u] w fun e w' => ∃ p n c p' n' c', e = .returned (.tuple #[.slice p n c, .slice p' n' c']) ∧ NatR w' (.slice p n c) (a / b) k ∧ NatR w' (.slice p' n' c') (a % b) l ∧ Below w.heap.size w w' := by
  obtain ⟨xs, h1, h2, h3, rfl⟩ := h
  obtain ⟨ys, g1, g2, g3, rfl⟩ := h'
  refine (rdiv_lim h1 g1 (by omega) (by omega) g2 hb0).mono ?_
  rintro e w' ⟨v', u', qs, zs, rfl, hq, hz, tq, tz, ex, lz, hb⟩
  obtain ⟨p, n, c, rfl⟩ := hq.slice
  obtain ⟨p', n', c', rfl⟩ := hz.slice
  have e1 : val xs / val ys = val qs := by
    rw [ex, Nat.mul_comm, Nat.mul_add_div hb0, Nat.div_eq_of_lt lz, Nat.add_zero]
  have e2 : val xs % val ys = val zs := by
    rw [ex, Nat.mul_comm, Nat.mul_add_mod, Nat.mod_eq_of_lt lz]
  refine ⟨p, n, c, p', n', c', rfl, ⟨qs, hq, tq, length_le_of_val tq _ ?_, e1.symm⟩, ⟨zs, hz, tz, length_le_of_val tz _ ?_, e2.symm⟩, hb⟩
  · rw [← e1]; exact Nat.lt_of_le_of_lt (Nat.div_le_self _ _) (few4 h1.1 h3)
  · exact Nat.lt_trans lz (few4 g1.1 g3)
theorem rcmpn {w : World} {v u : Value} {a b k l : Nat} (h : NatR w v a k) (h' : NatR w u b l) (hk : k ≤ 549755813888) (hl : l ≤ 549755813888) :
    Calls Tryz.prog 27 #[v, u] w fun e w' => e = .returned (.int .i64 (cmpv a b)) ∧ Below w.heap.size w w' := by
  obtain ⟨xs, h1, h2, h3, rfl⟩ := h
  obtain ⟨ys, g1, g2, g3, rfl⟩ := h'
  refine (cmp_lim h1 g1 (by omega) (by omega)).mono ?_
  rintro e w' ⟨rfl, rfl⟩
  exact ⟨rfl, Below.refl _ _⟩

theorem NatR.below {w w' : World} {v : Value} {n k : Nat} (h : NatR w v n k) (hb : Below w.heap.size w w') : NatR w' v n k := by
  obtain ⟨xs, h1, h2⟩ := h
  exact ⟨xs, h1.below hb (Nat.le_refl _), h2⟩

set_option maxHeartbeats 1000000 in
theorem rgcdn {w : World} {v u : Value} {a b K : Nat} (h1 : NatR w v a K) (h2 : NatR w u b K) (hK : K ≤ 549755813888) :
    Calls Tryz.prog 28 #[v, u] w fun e w' => ∃ p n c, e = .returned (.slice p n c) ∧ NatR w' (.slice p n c) (Nat.gcd a b) K ∧ Below w.heap.size w w' := by
  obtain ⟨p, n, c, rfl⟩ := h1.slice
  obtain ⟨p', n', c', rfl⟩ := h2.slice
  have H1 := hid h1
  have H2 := hid h2
  clear h1 h2
  go_enter Tryz.func28, Tryz.ntmps28
  go_wp2_with fail
  go_loopg [0, 1] b (fun g x y wr => ∃ (p : Option Addr) (n c : Nat) (q : Option Addr) (m d : Nat) (x0 y0 : Nat), x = .slice p n c ∧ y = .slice q m d ∧ Hid (NatR wr (.slice p n c) x0 K) ∧ Hid (NatR wr (.slice q m d) y0 K) ∧ Hid (y0 = g) ∧ Hid (Nat.gcd x0 y0 = Nat.gcd a b) ∧ Hid (Below w.heap.size w wr))
  case atStart => exact ⟨p, n, c, p', n', c', a, b, rfl, rfl, H1, H2, hid rfl, hid rfl, hid (Below.refl _ _)⟩
  case round =>
    obtain ⟨p, n, c, q, m, d, x0, y0, rfl, rfl, hA, hB, hy, hG, hbw⟩ := hrel
    by_cases h0 : m = 0
    · have hg0 := hB.out.len.1 h0
      have hG2 := hG.out
      rw [hg0, Nat.gcd_zero_right] at hG2
      have HG2 := hid hG2
      subst h0
      clear hG2 hg0
      go_wp2_with fail
      go_ret
      exact ⟨p, n, c, rfl, by rw [← HG2.out]; exact hA.out, hbw.out⟩
    · have hg0 : 0 < y0 := Nat.pos_of_ne_zero (fun e => h0 (hB.out.len.2 e))
      have HD := hid (rdivn hA.out hB.out hg0 hK hK)
      have HG0 := hid hg0
      have hpos : (0 : Int) < (m : Int) := by omega
      clear hg0 h0
      go_wp2_with fail
      refine HD.out.mono ?_
      rintro e w2 ⟨p1, n1, c1, p2, n2, c2, rfl, hq, hr, hb2⟩
      have HR := hid hr
      have HB2 := hid (hbw.out.trans (hb2.mono hbw.out.size))
      have HB' := hid (hB.out.below hb2)
      clear hq hr hb2 HD
      go_wp2_with fail
      go_roundg (x0 % y0)
      case rel =>
        refine ⟨q, m, d, p2, n2, c2, y0, x0 % y0, rfl, rfl, HB', HR, hid rfl, hid ?_, HB2⟩
        rw [Nat.gcd_comm, ← Nat.gcd_rec, Nat.gcd_comm]; exact hG.out
      case measure => rw [← hy.out]; exact Nat.mod_lt _ HG0.out

end Go.Proofs.YtkdeopikojgboaaGreatDoor

/-
  THE REFERENCE: Over.
-/
namespace Go.Proofs.YtkdeopikojgboaaGreatDoor
open Go.RowKit
open Num4
open Num (dg isNat dval)
set_option linter.unusedVariables false
set_option maxRecDepth 100000
set_option linter.unusedSimpArgs false

/-- A value reads as a fraction of the reference's, both parts of k limbs or fewer. -/
def QR (w : World) (v : Value) (q : Rat) (k : Nat) : Prop := ∃ s p n c p' n' c', v = .agg #[.bool s, .slice p n c, .slice p' n' c'] ∧ WhlR w (.agg #[.bool s, .slice p n c]) q.num k ∧ WhlR w (.agg #[.bool false, .slice p' n' c']) (q.den : Int) k
theorem QR.opened {w : World} {v : Value} {q : Rat} {k : Nat} (h : QR w v q k) : ∃ s p n c p' n' c', v = .agg #[.bool s, .slice p n c, .slice p' n' c'] := by
  obtain ⟨s, p, n, c, p', n', c', h1, _⟩ := h
  exact ⟨s, p, n, c, p', n', c', h1⟩
theorem QR.two {w : World} {q : Rat} {k : Nat} {s p n c p' n' c'} (h : QR w (.agg #[.bool s, .slice p n c, .slice p' n' c']) q k) : WhlR w (.agg #[.bool s, .slice p n c]) q.num k ∧ WhlR w (.agg #[.bool false, .slice p' n' c']) (q.den : Int) k := by
  obtain ⟨s1, p1, n1, c1, p2, n2, c2, h1, h2⟩ := h
  simp only [Value.agg.injEq, Array.mk.injEq, List.cons.injEq, Value.bool.injEq, Value.slice.injEq, and_true] at h1
  obtain ⟨rfl, ⟨rfl, rfl, rfl⟩, rfl, rfl, rfl⟩ := h1
  exact h2
theorem QR.mk2 {w : World} {q : Rat} {k : Nat} {s p n c p' n' c'} (h1 : WhlR w (.agg #[.bool s, .slice p n c]) q.num k) (h2 : WhlR w (.agg #[.bool false, .slice p' n' c']) (q.den : Int) k) : QR w (.agg #[.bool s, .slice p n c, .slice p' n' c']) q k :=
  ⟨_, _, _, _, _, _, _, rfl, h1, h2⟩
theorem QR.mono {w : World} {v : Value} {q : Rat} {k m : Nat} (h : QR w v q k) (hk : k ≤ m) : QR w v q m := by
  obtain ⟨s, p, n, c, p', n', c', h1, h2, h3⟩ := h
  exact ⟨s, p, n, c, p', n', c', h1, h2.mono hk, h3.mono hk⟩
theorem over_num (z : Int) (d : Nat) (hd : 0 < d) : zof (decide (z < 0)) (z.natAbs / Nat.gcd z.natAbs d) = (Rat.divInt z d).num ∧ ((d / Nat.gcd z.natAbs d : Nat) : Int) = (Rat.divInt z d).den := by
  obtain ⟨e1, e2⟩ := divInt_parts z d (by omega)
  have hg : (Int.gcd z d : Int) = (Nat.gcd z.natAbs d : Nat) := by simp [Int.gcd]
  rw [if_neg (by omega), hg] at e1 e2
  rw [e1, e2]
  refine ⟨?_, by rw [Int.natCast_ediv]⟩
  have hdv : (Nat.gcd z.natAbs d : Nat) ∣ z.natAbs := Nat.gcd_dvd_left _ _
  by_cases h : z < 0
  · have ez : z = -(z.natAbs : Int) := by omega
    rw [decide_eq_true h]
    show -((z.natAbs / Nat.gcd z.natAbs d : Nat) : Int) = _
    rw [Int.natCast_ediv]
    conv => rhs; rw [ez]
    rw [Int.neg_ediv_of_dvd (Int.natCast_dvd_natCast.2 (by simpa using hdv))]
    simp
  · have ez : z = (z.natAbs : Int) := by omega
    rw [decide_eq_false h]
    show ((z.natAbs / Nat.gcd z.natAbs d : Nat) : Int) = _
    rw [Int.natCast_ediv]
    conv => rhs; rw [ez]
    simp
theorem rsign {w : World} {v : Value} {n k : Nat} (s : Bool) (h : NatR w v n k) :
    Calls Tryz.prog 54 #[.bool s, v] w fun e w' => ∃ v, e = .returned v ∧ WhlR w' v (zof s n) k ∧ Below w.heap.size w w' := by
  obtain ⟨xs, h1, h2, h3, rfl⟩ := h
  exact rsigned_lim s h1 h2 h3

set_option maxHeartbeats 1000000 in
theorem rover {w : World} {v u : Value} {z : Int} {d k : Nat} (h : WhlR w v z k) (h' : NatR w u d k) (hd : 0 < d) (hk : k ≤ 549755813888) :
    Calls Tryz.prog 34 #[v, u] w fun e w' => ∃ v, e = .returned v ∧ QR w' v (Rat.divInt z d) k ∧ Below w.heap.size w w' := by
  obtain ⟨s1, p1, n1, c1, rfl⟩ := h.opened
  obtain ⟨p2, n2, c2, rfl⟩ := h'.slice
  have HK := hid hk
  have HSG := hid h.inside.2
  have HO := hid (over_num z d hd)
  have HG0 := hid (Nat.gcd_pos_of_pos_right z.natAbs hd)
  have B := hid (Below.refl w.heap.size w)
  have HA := hid h.abs
  have HD := hid h'.value
  have hb1 := (Below.refl _ _).alloc (Nat.le_refl w.heap.size) (.cells #[.bool s1, .slice p1 n1 c1] 28)
  have hx2 := BoxR.new w s1 p1 n1 c1
  replace HA := wr HA hb1
  replace HD := wr HD hb1
  replace B := bb B hb1
  have X2 := hid hx2
  have hs3 : (w.alloc (.cells #[.bool s1, .slice p1 n1 c1] 28)).heap.size = w.heap.size + 1 := by simp
  clear hb1 hx2
  have hb4 := (Below.refl _ _).alloc (Nat.le_refl (w.alloc (.cells #[.bool s1, .slice p1 n1 c1] 28)).heap.size) (.cells #[.bool false, .slice none 0 0, .slice none 0 0] 30)
  have hx5 := Qbx.new (w.alloc (.cells #[.bool s1, .slice p1 n1 c1] 28)) false none 0 0 none 0 0
  rw [hs3] at hx5
  replace X2 := br X2 hb4
  replace HA := wr HA hb4
  replace HD := wr HD hb4
  replace B := bb B hb4
  have XQ := hid hx5
  have hs6 : ((w.alloc (.cells #[.bool s1, .slice p1 n1 c1] 28)).alloc (.cells #[.bool false, .slice none 0 0, .slice none 0 0] 30)).heap.size = w.heap.size + 1 + 1 := by simp [hs3]
  clear hb4 hx5
  clear hs6 h h' hk hd
  go_enter Tryz.func34, Tryz.ntmps34
  obtain ⟨cc7a, cc7b⟩ := X2.out.both
  obtain ⟨cc8a, cc8b, cc8c⟩ := XQ.out.cells
  go_wp2_with fail
  generalize hW : (w.alloc (.cells #[.bool s1, .slice p1 n1 c1] 28)).alloc (.cells #[.bool false, .slice none 0 0, .slice none 0 0] 30) = W9 at *
  clear hW
  refine (rgcdn HA.out.nat HD.out.nat HK.out).mono ?_
  rintro e w10 ⟨p3, n3, c3, rfl, hv, hb⟩
  replace X2 := br X2 hb
  replace XQ := qx XQ hb
  replace HA := wr HA hb
  replace HD := wr HD hb
  replace B := bb B hb
  clear cc7a cc7b cc8a cc8b cc8c
  have HG := hid hv.value
  clear hb hv
  obtain ⟨cc11a, cc11b⟩ := X2.out.both
  obtain ⟨cc12a, cc12b, cc12c⟩ := XQ.out.cells
  go_wp2_with fail
  refine (rdivn HA.out.nat HG.out.nat HG0.out HK.out HK.out).mono ?_
  rintro e w13 ⟨p4, n4, c4, p5, n5, c5, rfl, hv, hu, hb⟩
  replace X2 := br X2 hb
  replace XQ := qx XQ hb
  replace HA := wr HA hb
  replace HD := wr HD hb
  replace HG := wr HG hb
  replace B := bb B hb
  clear cc11a cc11b cc12a cc12b cc12c
  have HQ := hid hv.value
  clear hb hv hu
  obtain ⟨cc14a, cc14b⟩ := X2.out.both
  obtain ⟨cc15a, cc15b, cc15c⟩ := XQ.out.cells
  go_wp2_with fail
  refine (rdivn HD.out.nat HG.out.nat HG0.out HK.out HK.out).mono ?_
  rintro e w16 ⟨p6, n6, c6, p7, n7, c7, rfl, hv, hu, hb⟩
  replace X2 := br X2 hb
  replace XQ := qx XQ hb
  replace HA := wr HA hb
  replace HD := wr HD hb
  replace HG := wr HG hb
  replace HQ := wr HQ hb
  replace B := bb B hb
  clear cc14a cc14b cc15a cc15b cc15c
  have HE := hid hv.value
  clear hb hv hu
  obtain ⟨cc17a, cc17b⟩ := X2.out.both
  obtain ⟨cc18a, cc18b, cc18c⟩ := XQ.out.cells
  go_wp2_with fail
  refine (rsign s1 HQ.out.nat).mono ?_
  rintro e w19 ⟨v, rfl, hv, hb⟩
  obtain ⟨s8, p8, n8, c8, rfl⟩ := hv.opened
  replace X2 := br X2 hb
  replace XQ := qx XQ hb
  replace HA := wr HA hb
  replace HD := wr HD hb
  replace HG := wr HG hb
  replace HQ := wr HQ hb
  replace HE := wr HE hb
  replace B := bb B hb
  clear cc17a cc17b cc18a cc18b cc18c
  have HS := hid hv
  clear hb hv
  obtain ⟨cc20a, cc20b⟩ := X2.out.both
  obtain ⟨cc21a, cc21b, cc21c⟩ := XQ.out.cells
  obtain ⟨⟨cc22a, cc22b⟩, ⟨cc22c, cc22d⟩, cc22e, cc22f⟩ := XQ.out.stores
  obtain ⟨r23a, r23b, r23c⟩ := XQ.out.last B.out (by omega) s8 p8 n8 c8 p6 n6 c6
  replace X2 := hid (((X2.out.other (g2 := w.heap.size + 1) (by omega) 0 (.bool s8)).other (g2 := w.heap.size + 1) (by omega) 1 (.slice p8 n8 c8)).other (g2 := w.heap.size + 1) (by omega) 2 (.slice p6 n6 c6))
  replace HA := hid (r23c HA.out)
  replace HD := hid (r23c HD.out)
  replace HG := hid (r23c HG.out)
  replace HQ := hid (r23c HQ.out)
  replace HE := hid (r23c HE.out)
  replace HS := hid (r23c HS.out)
  replace XQ := hid r23a
  replace B := hid r23b
  clear r23a r23b r23c
  go_wp2_with fail
  refine bodyPost_ret (res_q rfl rfl XQ.out) rfl ?_
  obtain ⟨e1, e2⟩ := HO.out
  have t1 := HS.out
  rw [HSG.out, e1] at t1
  have t2 := HE.out
  rw [e2] at t2
  exact ⟨_, rfl, QR.mk2 t1 t2, B.out⟩

end Go.Proofs.YtkdeopikojgboaaGreatDoor

/-
  THE REFERENCE: Text.
-/
namespace Go.Proofs.YtkdeopikojgboaaGreatDoor
open Go.RowKit
open Num4
open Num (dg isNat dval)
set_option linter.unusedVariables false
set_option maxRecDepth 100000
set_option linter.unusedSimpArgs false

theorem natR_one (w : World) : NatR (w.alloc (.cells #[.int .i64 1] 3)) (.slice (some ⟨w.heap.size, 0, none⟩) 1 1) 1 1 := ⟨[1], limR_one rfl, .inr (by decide), Nat.le_refl _, by decide⟩
theorem cmpv_one {d : Nat} (h : 0 < d) : cmpv d 1 = if d = 1 then 0 else 1 := by
  unfold cmpv
  split
  · omega
  · split
    · rw [if_neg (by omega)]
    · rw [if_pos (by omega)]

theorem size_ztxt_k4 {z : Int} {k : Nat} (h : z.natAbs < B ^ k) : (ztxt z).size ≤ 10 * k + 2 := by
  refine size_ztxt_le (k := 10 * k + 1) (Nat.lt_of_lt_of_le h ?_) (by omega)
  refine Nat.le_trans (Nat.pow_le_pow_left (show B ≤ 10 ^ 10 by decide) _) ?_
  rw [← Nat.pow_mul]
  exact Nat.pow_le_pow_right (by omega) (by omega)

set_option maxHeartbeats 4000000 in
theorem rqtext_one {w : World} {v : Value} {q : Rat} {k : Nat} (h : QR w v q k) (hl : q.den = 1) (hk : k ≤ 4294967296) :
    Calls Tryz.prog 12 #[v] w fun e w' => e = .returned (.string (qtxt q)) ∧ Below w.heap.size w w' := by
  obtain ⟨s1a, p1a, n1a, c1a, p1b, n1b, c1b, rfl⟩ := h.opened
  obtain ⟨ht1, hu1⟩ := h.two
  have HK := hid hk
  have hc := cmpv_one q.den_pos
  rw [if_pos hl] at hc
  have HC := hid hc
  have HL := hid hl
  have B := hid (Below.refl w.heap.size w)
  have HN1 := hid ht1
  have HD1 := hid hu1
  have hb1 := (Below.refl _ _).alloc (Nat.le_refl w.heap.size) (.cells #[.bool s1a, .slice p1a n1a c1a, .slice p1b n1b c1b] 30)
  have hx2 := Qbx.new w s1a p1a n1a c1a p1b n1b c1b
  replace HN1 := wr HN1 hb1
  replace HD1 := wr HD1 hb1
  replace B := bb B hb1
  have X1 := hid hx2
  have hs3 : (w.alloc (.cells #[.bool s1a, .slice p1a n1a c1a, .slice p1b n1b c1b] 30)).heap.size = w.heap.size + 1 := by simp
  clear hb1 hx2
  clear hs3 h ht1 hu1 hk hl hc
  go_enter Tryz.func12, Tryz.ntmps12
  obtain ⟨cc4a, cc4b, cc4c⟩ := X1.out.cells
  go_wp2_with fail
  have h1o := (natR_one (w.alloc (.cells #[.bool s1a, .slice p1a n1a c1a, .slice p1b n1b c1b] 30))).value
  rw [show (w.alloc (.cells #[.bool s1a, .slice p1a n1a c1a, .slice p1b n1b c1b] 30)).heap.size = w.heap.size + 1 by simp] at h1o
  have hb5 := (Below.refl _ _).alloc (Nat.le_refl (w.alloc (.cells #[.bool s1a, .slice p1a n1a c1a, .slice p1b n1b c1b] 30)).heap.size) (.cells #[.int .i64 1] 3)
  replace X1 := qx X1 hb5
  replace HN1 := wr HN1 hb5
  replace HD1 := wr HD1 hb5
  replace B := bb B hb5
  have H1O := hid h1o
  clear h1o hb5
  generalize hW : (w.alloc (.cells #[.bool s1a, .slice p1a n1a c1a, .slice p1b n1b c1b] 30)).alloc (.cells #[.int .i64 1] 3) = W6 at *
  clear hW
  have HM := rcmpn HD1.out.nat H1O.out.nat (by have := HK.out; omega) (by omega)
  rw [HC.out] at HM
  refine (HM).mono ?_
  rintro e w7 ⟨rfl, hb⟩
  replace X1 := qx X1 hb
  replace HN1 := wr HN1 hb
  replace B := bb B hb
  clear cc4a cc4b cc4c
  clear hb HM
  obtain ⟨cc8a, cc8b, cc8c⟩ := X1.out.cells
  go_wp2_with fail
  refine (rtextz HN1.out (by have := HK.out; omega)).mono ?_
  rintro e w9 ⟨rfl, hb⟩
  replace B := bb B hb
  clear cc8a cc8b cc8c
  clear hb 
  go_wp2_with fail
  go_ret
  exact ⟨by rw [qtxt, if_pos HL.out]; rfl, B.out⟩

set_option maxHeartbeats 4000000 in
theorem rqtext_two {w : World} {v : Value} {q : Rat} {k : Nat} (h : QR w v q k) (hl : ¬ q.den = 1) (hk : k ≤ 4294967296) :
    Calls Tryz.prog 12 #[v] w fun e w' => e = .returned (.string (qtxt q)) ∧ Below w.heap.size w w' := by
  obtain ⟨s1a, p1a, n1a, c1a, p1b, n1b, c1b, rfl⟩ := h.opened
  obtain ⟨ht1, hu1⟩ := h.two
  have HK := hid hk
  have hc := cmpv_one q.den_pos
  rw [if_neg hl] at hc
  have HC := hid hc
  have HL := hid hl
  have hs1 := size_ztxt_k4 ht1.lt
  have hs3 := size_ztxt_k4 hu1.lt
  have hj1 : ¬ 9223372036854775807 < (ztxt q.num).size + 1 := by omega
  have hj2 : ¬ 9223372036854775807 < (ztxt q.num).size + 1 + (ztxt (q.den : Int)).size := by omega
  clear hs1 hs3
  have B := hid (Below.refl w.heap.size w)
  have HN1 := hid ht1
  have HD1 := hid hu1
  have hb1 := (Below.refl _ _).alloc (Nat.le_refl w.heap.size) (.cells #[.bool s1a, .slice p1a n1a c1a, .slice p1b n1b c1b] 30)
  have hx2 := Qbx.new w s1a p1a n1a c1a p1b n1b c1b
  replace HN1 := wr HN1 hb1
  replace HD1 := wr HD1 hb1
  replace B := bb B hb1
  have X1 := hid hx2
  have hs3 : (w.alloc (.cells #[.bool s1a, .slice p1a n1a c1a, .slice p1b n1b c1b] 30)).heap.size = w.heap.size + 1 := by simp
  clear hb1 hx2
  clear hs3 h ht1 hu1 hk hl hc
  go_enter Tryz.func12, Tryz.ntmps12
  obtain ⟨cc4a, cc4b, cc4c⟩ := X1.out.cells
  go_wp2_with fail
  have h1o := (natR_one (w.alloc (.cells #[.bool s1a, .slice p1a n1a c1a, .slice p1b n1b c1b] 30))).value
  rw [show (w.alloc (.cells #[.bool s1a, .slice p1a n1a c1a, .slice p1b n1b c1b] 30)).heap.size = w.heap.size + 1 by simp] at h1o
  have hb5 := (Below.refl _ _).alloc (Nat.le_refl (w.alloc (.cells #[.bool s1a, .slice p1a n1a c1a, .slice p1b n1b c1b] 30)).heap.size) (.cells #[.int .i64 1] 3)
  replace X1 := qx X1 hb5
  replace HN1 := wr HN1 hb5
  replace HD1 := wr HD1 hb5
  replace B := bb B hb5
  have H1O := hid h1o
  clear h1o hb5
  generalize hW : (w.alloc (.cells #[.bool s1a, .slice p1a n1a c1a, .slice p1b n1b c1b] 30)).alloc (.cells #[.int .i64 1] 3) = W6 at *
  clear hW
  have HM := rcmpn HD1.out.nat H1O.out.nat (by have := HK.out; omega) (by omega)
  rw [HC.out] at HM
  refine (HM).mono ?_
  rintro e w7 ⟨rfl, hb⟩
  replace X1 := qx X1 hb
  replace HN1 := wr HN1 hb
  replace HD1 := wr HD1 hb
  replace H1O := wr H1O hb
  replace B := bb B hb
  clear cc4a cc4b cc4c
  clear hb HM
  obtain ⟨cc8a, cc8b, cc8c⟩ := X1.out.cells
  go_wp2_with fail
  obtain ⟨cc9a, cc9b, cc9c⟩ := X1.out.cells
  replace X1 := hid X1.out.dr
  replace HN1 := hid HN1.out.drew
  replace HD1 := hid HD1.out.drew
  replace H1O := hid H1O.out.drew
  replace B := hid (Below.drew B.out)
  obtain ⟨cc10a, cc10b, cc10c⟩ := X1.out.cells
  go_region_held3 (fun w' => w'.cell? ⟨w.heap.size, 0, none⟩ = some (.bool s1a) ∧ w'.cell? ⟨w.heap.size, 1, none⟩ = some (.slice p1a n1a c1a) ∧ w'.cell? ⟨w.heap.size, 2, none⟩ = some (.slice p1b n1b c1b)) (go_keep) (first
    | (have hm := mk11_0; clear hm; go_at_call 33; refine (rtextn HD1.out (by have := HK.out; omega)).mono ?_; rintro e w14 ⟨rfl, hb⟩; replace X1 := qx X1 hb; replace B := bb B hb; clear cc13a cc13b cc13c; clear hb ; obtain ⟨cc15a, cc15b, cc15c⟩ := X1.out.cells; have mk11_1 := hid True.intro)
    | (go_at_call 32; refine (rtextz HN1.out (by have := HK.out; omega)).mono ?_; rintro e w12 ⟨rfl, hb⟩; replace X1 := qx X1 hb; replace HD1 := wr HD1 hb; replace B := bb B hb; clear cc8a cc8b cc8c cc9a cc9b cc9c cc10a cc10b cc10c; clear hb ; obtain ⟨cc13a, cc13b, cc13c⟩ := X1.out.cells; have mk11_0 := hid True.intro))
  go_wp2_with fail
  go_ret
  exact ⟨by rw [qtxt, if_neg HL.out]; rfl, B.out⟩

theorem rqtext {w : World} {v : Value} {q : Rat} {k : Nat} (h : QR w v q k) (hk : k ≤ 4294967296) :
    Calls Tryz.prog 12 #[v] w fun e w' => e = .returned (.string (qtxt q)) ∧ Below w.heap.size w w' := by
  by_cases hl : q.den = 1
  · exact rqtext_one h hl hk
  · exact rqtext_two h hl hk

end Go.Proofs.YtkdeopikojgboaaGreatDoor

/-
  THE REFERENCE: RatOf: where it parts.
-/
namespace Go.Proofs.YtkdeopikojgboaaGreatDoor
open Go.RowKit
open Num4
open Num (dg isNat dval)
set_option linter.unusedVariables false
set_option maxRecDepth 100000
set_option linter.unusedSimpArgs false

theorem cutB_le (l : List UInt8) : (cutB l).length ≤ l.length := by
  rcases index_cut l with ⟨_, _, e⟩ | ⟨_, _, h, _⟩
  · rw [e]; exact Nat.le_refl _
  · omega
/-- The place of the first slash, or the end. -/
theorem cut_at (l : List UInt8) (i : Nat) (hi : i < (cutB l).length) : ∃ b, l[i]? = some b ∧ b ≠ 47 := by
  induction l generalizing i with
  | nil => simp [cutB] at hi
  | cons c l ih =>
    by_cases hc : c = 47
    · subst hc; simp [cutB] at hi
    · have h1 : (c != 47) = true := by simpa using hc
      have e2 : cutB (c :: l) = c :: cutB l := by simp [cutB, List.takeWhile_cons, h1]
      cases i with
      | zero => exact ⟨c, rfl, hc⟩
      | succ i =>
        rw [e2, List.length_cons] at hi
        simpa using ih i (by omega)
theorem cut_end (l : List UInt8) (h : hasSl l = true) : l[(cutB l).length]? = some 47 := by
  have h1 : l[(cutB l).length]? = (cutB l ++ 47 :: cutA l)[(cutB l).length]? := congrArg (fun m : List UInt8 => m[(cutB l).length]?) (slash_split h)
  rw [h1]
  simp
theorem u8_47 {b : UInt8} (h : (b.toNat : Int) = 47) : b = 47 := (u8_eq (n := 47) (by omega)).2 h
theorem cut_byte {s : ByteArray} {N k : Nat} (hN : (cutB s.data.toList).length = N) (hk : k < N) (hs : k < s.size) : ¬ (s[k].toNat : Int) = 47 := by
  obtain ⟨b, h1, h2⟩ := cut_at s.data.toList k (by rw [hN]; exact hk)
  rw [toList_at s k hs] at h1
  intro e
  exact h2 (by rw [← Option.some.inj h1]; exact u8_47 e)
theorem cut_front {s : ByteArray} {N : Nat} (hN : (cutB s.data.toList).length = N) : (s.extract 0 N).data.toList = cutB s.data.toList := by
  rw [extract_front, ← hN]
  rcases index_cut s.data.toList with ⟨_, _, e⟩ | ⟨_, _, _, e, _⟩
  · rw [e, List.take_of_length_le (Nat.le_refl _)]
  · exact e.symm
theorem cut_none {s : ByteArray} {N : Nat} (hN : (cutB s.data.toList).length = N) (h : hasSl s.data.toList = false) : N = s.size := by
  rcases index_cut s.data.toList with ⟨_, _, e⟩ | ⟨e, _⟩
  · rw [← hN, e]; rfl
  · rw [h] at e; cases e
theorem cut_some {s : ByteArray} {N : Nat} (hN : (cutB s.data.toList).length = N) (h : hasSl s.data.toList = true) : ∃ hl : N < s.size, (s[N].toNat : Int) = 47 ∧ (s.extract (N + 1) s.size).data.toList = cutA s.data.toList := by
  rcases index_cut s.data.toList with ⟨e, _⟩ | ⟨_, _, e, _, e2⟩
  · rw [h] at e; cases e
  · have hl : N < s.size := by rw [hN] at e; exact e
    refine ⟨hl, ?_, ?_⟩
    · have := cut_end s.data.toList h
      rw [hN, toList_at s N hl] at this
      rw [Option.some.inj this]; rfl
    · rw [extract_end, ← hN]; exact e2.symm
theorem natof_r {s : ByteArray} {l : List UInt8} (he : s.data.toList = l) (hs : s.size ≤ 100) (hn : isNat l = true) (w : World) :
    Calls Tryz.prog 26 #[.string s] w fun e w' => ∃ p n c, e = .returned (.tuple #[.slice p n c, .int .i64 0]) ∧ NatR w' (.slice p n c) (dval l) 100 ∧ Below w.heap.size w w' := by
  subst he
  refine (natof_num (s := s) ⟨hs, hn⟩ w).mono ?_
  rintro e w' ⟨v, xs, rfl, h1, h2, h3, h4, hb⟩
  obtain ⟨p, n, c, rfl⟩ := h1.slice
  exact ⟨p, n, c, rfl, ⟨xs, h1, h2, h4, h3⟩, hb⟩

theorem whlOf_nat {l : List UInt8} (h : isNat l = true) : whlOf l = (dval l : Int) := by
  rw [whlOf, head_dig (Num.isNat_all h)]; rfl
theorem isWhl_nat {l : List UInt8} (h : isNat l = true) : isWhl l = true := by
  rw [isWhl, head_dig (Num.isNat_all h)]; simpa using h

set_option maxHeartbeats 1000000 in
theorem ratof_long (s : ByteArray) (w : World) (h : 100 < s.size) (hs : s.size ≤ maxLen) :
    Calls Tryz.prog 8 #[.string s] w fun e w' => ∃ s p n c p' n' c', e = .returned (.tuple #[.agg #[.bool s, .slice p n c, .slice p' n' c'], .int .i64 4]) ∧ Below w.heap.size w w' := by
  have h' : (100 : Int) < (s.size : Int) := by omega
  unfold maxLen at hs
  have B := hid (Below.refl w.heap.size w)
  have hb1 := (Below.refl _ _).alloc (Nat.le_refl w.heap.size) (.cells #[.bool false, .slice none 0 0, .slice none 0 0] 30)
  have hx2 := Qbx.new w false none 0 0 none 0 0
  replace B := bb B hb1
  have XQ := hid hx2
  have hs3 : (w.alloc (.cells #[.bool false, .slice none 0 0, .slice none 0 0] 30)).heap.size = w.heap.size + 1 := by simp
  clear hb1 hx2
  clear hs3 h
  go_enter Tryz.func8, Tryz.ntmps8
  go_wp2_with fail
  refine bodyPost_ret (res_q_tmp rfl rfl rfl XQ.out) rfl ?_
  exact ⟨_, _, _, _, _, _, _, rfl, B.out⟩

end Go.Proofs.YtkdeopikojgboaaGreatDoor

/-
  THE REFERENCE: RatOf, wrong fronts and wholes.
-/
namespace Go.Proofs.YtkdeopikojgboaaGreatDoor
open Go.RowKit
open Num4
open Num (dg isNat dval)
set_option linter.unusedVariables false
set_option maxRecDepth 100000
set_option linter.unusedSimpArgs false

set_option maxHeartbeats 4000000 in
theorem ratofA (s : ByteArray) (w : World) (hs : s.size ≤ 100) (hsl0 : hasSl s.data.toList = false) (hA0 : isWhl (cutB s.data.toList) = false) :
    Calls Tryz.prog 8 #[.string s] w fun e w' => ∃ s p n c p' n' c', e = .returned (.tuple #[.agg #[.bool s, .slice p n c, .slice p' n' c'], .int .i64 1]) ∧ Below w.heap.size w w' := by
  have Hhsl0 := hid hsl0
  have HhA0 := hid hA0
  have HS := hid hs
  obtain ⟨N, hN⟩ : ∃ N, (cutB s.data.toList).length = N := ⟨_, rfl⟩
  have hNle : N ≤ s.size := by rw [← hN]; exact cutB_le _
  have HN := hid hN
  have HF := hid (cut_front hN)
  have hend := cut_none hN hsl0
  have HE := hid (show cutB s.data.toList = s.data.toList by rcases index_cut s.data.toList with ⟨_, _, e⟩ | ⟨e, _⟩; exact e; rw [hsl0] at e; cases e)
  have hsz : (s.size : Int) ≤ 100 := by omega
  have B := hid (Below.refl w.heap.size w)
  have hb1 := (Below.refl _ _).alloc (Nat.le_refl w.heap.size) (.cells #[.bool false, .slice none 0 0, .slice none 0 0] 30)
  have hx2 := Qbx.new w false none 0 0 none 0 0
  replace B := bb B hb1
  have XQ := hid hx2
  have hs3 : (w.alloc (.cells #[.bool false, .slice none 0 0, .slice none 0 0] 30)).heap.size = w.heap.size + 1 := by simp
  clear hb1 hx2
  clear hs3 hN hsl0 hA0
  go_enter Tryz.func8, Tryz.ntmps8
  obtain ⟨cc4a, cc4b, cc4c⟩ := XQ.out.cells
  go_wp2_with fail
  generalize hW : w.alloc (.cells #[.bool false, .slice none 0 0, .slice none 0 0] 30) = W5 at *
  clear hW
  go_loop [4] (fun i => ∃ k : Nat, k ≤ N ∧ i = .int .i64 k) (fun i => N - (intOf i).toNat)
  case atStart => exact ⟨0, Nat.zero_le _, rfl⟩
  case round =>
    obtain ⟨k, hk, rfl⟩ := hrel
    by_cases hkN : k < N
    · have hks : k < s.size := by omega
      have hby := cut_byte HN.out hkN hks
      go_wp2_with fail
      go_round
      case rel => exact ⟨k + 1, by omega, by go_num⟩
      case measure => simp [intOf]; omega
    · obtain rfl : k = N := by omega
      clear hkN hk
      have hi5 : (k : Int) = (s.size : Int) := by omega
      go_wp2_with fail
      refine (rwholeof_bad (s := s) (k := 1) (.inr ⟨HS.out, by have h := HhA0.out; rw [HE.out] at h; exact h, rfl⟩) _ (by have := HS.out; unfold maxLen; omega)).mono ?_
      rintro e w6 ⟨t5, p5, n5, c5, rfl, hb⟩
      replace XQ := qx XQ hb
      replace B := bb B hb
      clear cc4a cc4b cc4c
      clear hb 
      have hb7 := (Below.refl _ _).alloc (Nat.le_refl w6.heap.size) (.cells #[.bool t5, .slice p5 n5 c5] 28)
      have hx8 := BoxR.new w6 t5 p5 n5 c5
      have L0 := hid XQ.out.lt
      replace XQ := qx XQ hb7
      replace B := bb B hb7
      have X5 := hid hx8
      have hs9 : (w6.alloc (.cells #[.bool t5, .slice p5 n5 c5] 28)).heap.size = w6.heap.size + 1 := by simp
      clear hb7 hx8
      obtain ⟨cc10a, cc10b, cc10c⟩ := XQ.out.cells
      obtain ⟨cc11a, cc11b⟩ := X5.out.both
      have h1o := (natR_one (w6.alloc (.cells #[.bool t5, .slice p5 n5 c5] 28))).value
      rw [show (w6.alloc (.cells #[.bool t5, .slice p5 n5 c5] 28)).heap.size = w6.heap.size + 1 by simp] at h1o
      have hb12 := (Below.refl _ _).alloc (Nat.le_refl (w6.alloc (.cells #[.bool t5, .slice p5 n5 c5] 28)).heap.size) (.cells #[.int .i64 1] 3)
      replace XQ := qx XQ hb12
      replace X5 := br X5 hb12
      replace B := bb B hb12
      have H1O := hid h1o
      clear h1o hb12
      obtain ⟨cc13a, cc13b, cc13c⟩ := XQ.out.cells
      obtain ⟨cc14a, cc14b⟩ := X5.out.both
      obtain ⟨⟨cc15a, cc15b⟩, ⟨cc15c, cc15d⟩, cc15e, cc15f⟩ := XQ.out.stores
      obtain ⟨r16a, r16b, r16c⟩ := XQ.out.last B.out (by have := L0.out; omega) t5 p5 n5 c5 (some ⟨w6.heap.size + 1, 0, none⟩) 1 1
      replace X5 := hid (((X5.out.other (g2 := w.heap.size) (by have := L0.out; omega) 0 (.bool t5)).other (g2 := w.heap.size) (by have := L0.out; omega) 1 (.slice p5 n5 c5)).other (g2 := w.heap.size) (by have := L0.out; omega) 2 (.slice (some ⟨w6.heap.size + 1, 0, none⟩) 1 1))
      replace H1O := hid (r16c H1O.out)
      replace XQ := hid r16a
      replace B := hid r16b
      clear r16a r16b r16c
      go_wp2_with fail
      refine bodyPost_ret (res_q_tmp rfl rfl rfl XQ.out) rfl ?_
      exact ⟨_, _, _, _, _, _, _, rfl, B.out⟩

set_option maxHeartbeats 4000000 in
theorem ratofA2 (s : ByteArray) (w : World) (hs : s.size ≤ 100) (hsl : hasSl s.data.toList = true) (hA0 : isWhl (cutB s.data.toList) = false) :
    Calls Tryz.prog 8 #[.string s] w fun e w' => ∃ s p n c p' n' c', e = .returned (.tuple #[.agg #[.bool s, .slice p n c, .slice p' n' c'], .int .i64 1]) ∧ Below w.heap.size w w' := by
  have Hhsl := hid hsl
  have HhA0 := hid hA0
  have HS := hid hs
  obtain ⟨N, hN⟩ : ∃ N, (cutB s.data.toList).length = N := ⟨_, rfl⟩
  have hNle : N ≤ s.size := by rw [← hN]; exact cutB_le _
  have HN := hid hN
  have HF := hid (cut_front hN)
  obtain ⟨hlt, h47, hbk⟩ := cut_some hN hsl
  have HBK := hid hbk
  clear hbk
  have hsz : (s.size : Int) ≤ 100 := by omega
  have B := hid (Below.refl w.heap.size w)
  have hb1 := (Below.refl _ _).alloc (Nat.le_refl w.heap.size) (.cells #[.bool false, .slice none 0 0, .slice none 0 0] 30)
  have hx2 := Qbx.new w false none 0 0 none 0 0
  replace B := bb B hb1
  have XQ := hid hx2
  have hs3 : (w.alloc (.cells #[.bool false, .slice none 0 0, .slice none 0 0] 30)).heap.size = w.heap.size + 1 := by simp
  clear hb1 hx2
  clear hs3 hN hsl hA0
  go_enter Tryz.func8, Tryz.ntmps8
  obtain ⟨cc4a, cc4b, cc4c⟩ := XQ.out.cells
  go_wp2_with fail
  generalize hW : w.alloc (.cells #[.bool false, .slice none 0 0, .slice none 0 0] 30) = W5 at *
  clear hW
  go_loop [4] (fun i => ∃ k : Nat, k ≤ N ∧ i = .int .i64 k) (fun i => N - (intOf i).toNat)
  case atStart => exact ⟨0, Nat.zero_le _, rfl⟩
  case round =>
    obtain ⟨k, hk, rfl⟩ := hrel
    by_cases hkN : k < N
    · have hks : k < s.size := by omega
      have hby := cut_byte HN.out hkN hks
      clear h47
      go_wp2_with fail
      go_round
      case rel => exact ⟨k + 1, by omega, by go_num⟩
      case measure => simp [intOf]; omega
    · obtain rfl : k = N := by omega
      clear hkN hk
      have hi1 : IntKind.i64.wrap ((k : Int) + 1) = (k : Int) + 1 := IntWalk.i64_in _ (by omega)
      have hi2 : ((k : Int) + 1).toNat = k + 1 := by omega
      have hi3 : (0 : Int) ≤ (k : Int) + 1 := by omega
      have hi4 : (k : Int) + 1 ≤ (s.size : Int) := by omega
      have hi5 : ¬ (k : Int) = (s.size : Int) := by omega
      go_wp2_with fail
      refine (rwholeof_bad (s := s.extract 0 k) (k := 1) (.inr ⟨(by rw [ByteArray.size_extract]; have := HS.out; omega), by rw [HF.out]; exact HhA0.out, rfl⟩) _ (by rw [ByteArray.size_extract]; have := HS.out; unfold maxLen; omega)).mono ?_
      rintro e w6 ⟨t5, p5, n5, c5, rfl, hb⟩
      replace XQ := qx XQ hb
      replace B := bb B hb
      clear cc4a cc4b cc4c
      clear hb 
      have hb7 := (Below.refl _ _).alloc (Nat.le_refl w6.heap.size) (.cells #[.bool t5, .slice p5 n5 c5] 28)
      have hx8 := BoxR.new w6 t5 p5 n5 c5
      have L0 := hid XQ.out.lt
      replace XQ := qx XQ hb7
      replace B := bb B hb7
      have X5 := hid hx8
      have hs9 : (w6.alloc (.cells #[.bool t5, .slice p5 n5 c5] 28)).heap.size = w6.heap.size + 1 := by simp
      clear hb7 hx8
      obtain ⟨cc10a, cc10b, cc10c⟩ := XQ.out.cells
      obtain ⟨cc11a, cc11b⟩ := X5.out.both
      have h1o := (natR_one (w6.alloc (.cells #[.bool t5, .slice p5 n5 c5] 28))).value
      rw [show (w6.alloc (.cells #[.bool t5, .slice p5 n5 c5] 28)).heap.size = w6.heap.size + 1 by simp] at h1o
      have hb12 := (Below.refl _ _).alloc (Nat.le_refl (w6.alloc (.cells #[.bool t5, .slice p5 n5 c5] 28)).heap.size) (.cells #[.int .i64 1] 3)
      replace XQ := qx XQ hb12
      replace X5 := br X5 hb12
      replace B := bb B hb12
      have H1O := hid h1o
      clear h1o hb12
      obtain ⟨cc13a, cc13b, cc13c⟩ := XQ.out.cells
      obtain ⟨cc14a, cc14b⟩ := X5.out.both
      obtain ⟨⟨cc15a, cc15b⟩, ⟨cc15c, cc15d⟩, cc15e, cc15f⟩ := XQ.out.stores
      obtain ⟨r16a, r16b, r16c⟩ := XQ.out.last B.out (by have := L0.out; omega) t5 p5 n5 c5 (some ⟨w6.heap.size + 1, 0, none⟩) 1 1
      replace X5 := hid (((X5.out.other (g2 := w.heap.size) (by have := L0.out; omega) 0 (.bool t5)).other (g2 := w.heap.size) (by have := L0.out; omega) 1 (.slice p5 n5 c5)).other (g2 := w.heap.size) (by have := L0.out; omega) 2 (.slice (some ⟨w6.heap.size + 1, 0, none⟩) 1 1))
      replace H1O := hid (r16c H1O.out)
      replace XQ := hid r16a
      replace B := hid r16b
      clear r16a r16b r16c
      go_wp2_with fail
      refine bodyPost_ret (res_q_tmp rfl rfl rfl XQ.out) rfl ?_
      exact ⟨_, _, _, _, _, _, _, rfl, B.out⟩

set_option maxHeartbeats 4000000 in
theorem ratofB (s : ByteArray) (w : World) (hs : s.size ≤ 100) (hsl0 : hasSl s.data.toList = false) (hA : isWhl (cutB s.data.toList) = true) :
    Calls Tryz.prog 8 #[.string s] w fun e w' => ∃ v, e = .returned (.tuple #[v, .int .i64 0]) ∧ QR w' v (ratOf s.data.toList) 100 ∧ Below w.heap.size w w' := by
  have Hhsl0 := hid hsl0
  have HhA := hid hA
  have HS := hid hs
  obtain ⟨N, hN⟩ : ∃ N, (cutB s.data.toList).length = N := ⟨_, rfl⟩
  have hNle : N ≤ s.size := by rw [← hN]; exact cutB_le _
  have HN := hid hN
  have HF := hid (cut_front hN)
  have hend := cut_none hN hsl0
  have HE := hid (show cutB s.data.toList = s.data.toList by rcases index_cut s.data.toList with ⟨_, _, e⟩ | ⟨e, _⟩; exact e; rw [hsl0] at e; cases e)
  have hsz : (s.size : Int) ≤ 100 := by omega
  have B := hid (Below.refl w.heap.size w)
  have hb1 := (Below.refl _ _).alloc (Nat.le_refl w.heap.size) (.cells #[.bool false, .slice none 0 0, .slice none 0 0] 30)
  have hx2 := Qbx.new w false none 0 0 none 0 0
  replace B := bb B hb1
  have XQ := hid hx2
  have hs3 : (w.alloc (.cells #[.bool false, .slice none 0 0, .slice none 0 0] 30)).heap.size = w.heap.size + 1 := by simp
  clear hb1 hx2
  clear hs3 hN hsl0 hA
  go_enter Tryz.func8, Tryz.ntmps8
  obtain ⟨cc4a, cc4b, cc4c⟩ := XQ.out.cells
  go_wp2_with fail
  generalize hW : w.alloc (.cells #[.bool false, .slice none 0 0, .slice none 0 0] 30) = W5 at *
  clear hW
  go_loop [4] (fun i => ∃ k : Nat, k ≤ N ∧ i = .int .i64 k) (fun i => N - (intOf i).toNat)
  case atStart => exact ⟨0, Nat.zero_le _, rfl⟩
  case round =>
    obtain ⟨k, hk, rfl⟩ := hrel
    by_cases hkN : k < N
    · have hks : k < s.size := by omega
      have hby := cut_byte HN.out hkN hks
      go_wp2_with fail
      go_round
      case rel => exact ⟨k + 1, by omega, by go_num⟩
      case measure => simp [intOf]; omega
    · obtain rfl : k = N := by omega
      clear hkN hk
      have hi5 : (k : Int) = (s.size : Int) := by omega
      go_wp2_with fail
      refine (rwholeof_good (s := s) ⟨HS.out, by have h := HhA.out; rw [HE.out] at h; exact h⟩ _).mono ?_
      rintro e w6 ⟨v, rfl, hv, hb⟩
      unfold znum at hv
      rw [← HE.out] at hv
      obtain ⟨s5, p5, n5, c5, rfl⟩ := hv.opened
      replace XQ := qx XQ hb
      replace B := bb B hb
      clear cc4a cc4b cc4c
      have HT := hid hv
      clear hb hv
      have hb7 := (Below.refl _ _).alloc (Nat.le_refl w6.heap.size) (.cells #[.bool s5, .slice p5 n5 c5] 28)
      have hx8 := BoxR.new w6 s5 p5 n5 c5
      have L0 := hid XQ.out.lt
      replace XQ := qx XQ hb7
      replace HT := wr HT hb7
      replace B := bb B hb7
      have X5 := hid hx8
      have hs9 : (w6.alloc (.cells #[.bool s5, .slice p5 n5 c5] 28)).heap.size = w6.heap.size + 1 := by simp
      clear hb7 hx8
      obtain ⟨cc10a, cc10b, cc10c⟩ := XQ.out.cells
      obtain ⟨cc11a, cc11b⟩ := X5.out.both
      have h1o := (natR_one (w6.alloc (.cells #[.bool s5, .slice p5 n5 c5] 28))).value
      rw [show (w6.alloc (.cells #[.bool s5, .slice p5 n5 c5] 28)).heap.size = w6.heap.size + 1 by simp] at h1o
      have hb12 := (Below.refl _ _).alloc (Nat.le_refl (w6.alloc (.cells #[.bool s5, .slice p5 n5 c5] 28)).heap.size) (.cells #[.int .i64 1] 3)
      replace XQ := qx XQ hb12
      replace X5 := br X5 hb12
      replace HT := wr HT hb12
      replace B := bb B hb12
      have H1O := hid h1o
      clear h1o hb12
      obtain ⟨cc13a, cc13b, cc13c⟩ := XQ.out.cells
      obtain ⟨cc14a, cc14b⟩ := X5.out.both
      obtain ⟨⟨cc15a, cc15b⟩, ⟨cc15c, cc15d⟩, cc15e, cc15f⟩ := XQ.out.stores
      obtain ⟨r16a, r16b, r16c⟩ := XQ.out.last B.out (by have := L0.out; omega) s5 p5 n5 c5 (some ⟨w6.heap.size + 1, 0, none⟩) 1 1
      replace X5 := hid (((X5.out.other (g2 := w.heap.size) (by have := L0.out; omega) 0 (.bool s5)).other (g2 := w.heap.size) (by have := L0.out; omega) 1 (.slice p5 n5 c5)).other (g2 := w.heap.size) (by have := L0.out; omega) 2 (.slice (some ⟨w6.heap.size + 1, 0, none⟩) 1 1))
      replace HT := hid (r16c HT.out)
      replace H1O := hid (r16c H1O.out)
      replace XQ := hid r16a
      replace B := hid r16b
      clear r16a r16b r16c
      go_wp2_with fail
      refine bodyPost_ret (res_q_tmp rfl rfl rfl XQ.out) rfl ?_
      refine ⟨_, rfl, QR.mk2 ?_ ?_, B.out⟩
      · rw [ratOf, if_neg (by rw [Hhsl0.out]; decide), Rat.num_intCast]
        have h := HT.out
        have e : cutB s.data.toList = s.data.toList := by rcases index_cut s.data.toList with ⟨_, _, e⟩ | ⟨e, _⟩; exact e; rw [Hhsl0.out] at e; cases e
        rw [e] at h; exact h
      · rw [ratOf, if_neg (by rw [Hhsl0.out]; decide), Rat.den_intCast]; exact H1O.out.mono (by omega)

end Go.Proofs.YtkdeopikojgboaaGreatDoor

/-
  THE REFERENCE: RatOf, behind the slash.
-/
namespace Go.Proofs.YtkdeopikojgboaaGreatDoor
open Go.RowKit
open Num4
open Num (dg isNat dval)
set_option linter.unusedVariables false
set_option maxRecDepth 100000
set_option linter.unusedSimpArgs false

set_option maxHeartbeats 4000000 in
theorem ratofC (s : ByteArray) (w : World) (hs : s.size ≤ 100) (hsl : hasSl s.data.toList = true) (hA : isWhl (cutB s.data.toList) = true) (hB0 : isNat (cutA s.data.toList) = false) :
    Calls Tryz.prog 8 #[.string s] w fun e w' => ∃ s p n c p' n' c', e = .returned (.tuple #[.agg #[.bool s, .slice p n c, .slice p' n' c'], .int .i64 1]) ∧ Below w.heap.size w w' := by
  have Hhsl := hid hsl
  have HhA := hid hA
  have HhB0 := hid hB0
  have HS := hid hs
  obtain ⟨N, hN⟩ : ∃ N, (cutB s.data.toList).length = N := ⟨_, rfl⟩
  have hNle : N ≤ s.size := by rw [← hN]; exact cutB_le _
  have HN := hid hN
  have HF := hid (cut_front hN)
  obtain ⟨hlt, h47, hbk⟩ := cut_some hN hsl
  have HBK := hid hbk
  clear hbk
  have hsz : (s.size : Int) ≤ 100 := by omega
  have B := hid (Below.refl w.heap.size w)
  have hb1 := (Below.refl _ _).alloc (Nat.le_refl w.heap.size) (.cells #[.bool false, .slice none 0 0, .slice none 0 0] 30)
  have hx2 := Qbx.new w false none 0 0 none 0 0
  replace B := bb B hb1
  have XQ := hid hx2
  have hs3 : (w.alloc (.cells #[.bool false, .slice none 0 0, .slice none 0 0] 30)).heap.size = w.heap.size + 1 := by simp
  clear hb1 hx2
  clear hs3 hN hsl hA hB0
  go_enter Tryz.func8, Tryz.ntmps8
  obtain ⟨cc4a, cc4b, cc4c⟩ := XQ.out.cells
  go_wp2_with fail
  generalize hW : w.alloc (.cells #[.bool false, .slice none 0 0, .slice none 0 0] 30) = W5 at *
  clear hW
  go_loop [4] (fun i => ∃ k : Nat, k ≤ N ∧ i = .int .i64 k) (fun i => N - (intOf i).toNat)
  case atStart => exact ⟨0, Nat.zero_le _, rfl⟩
  case round =>
    obtain ⟨k, hk, rfl⟩ := hrel
    by_cases hkN : k < N
    · have hks : k < s.size := by omega
      have hby := cut_byte HN.out hkN hks
      clear h47
      go_wp2_with fail
      go_round
      case rel => exact ⟨k + 1, by omega, by go_num⟩
      case measure => simp [intOf]; omega
    · obtain rfl : k = N := by omega
      clear hkN hk
      have hi1 : IntKind.i64.wrap ((k : Int) + 1) = (k : Int) + 1 := IntWalk.i64_in _ (by omega)
      have hi2 : ((k : Int) + 1).toNat = k + 1 := by omega
      have hi3 : (0 : Int) ≤ (k : Int) + 1 := by omega
      have hi4 : (k : Int) + 1 ≤ (s.size : Int) := by omega
      have hi5 : ¬ (k : Int) = (s.size : Int) := by omega
      go_wp2_with fail
      refine (rwholeof_good (s := s.extract 0 k) ⟨(by rw [ByteArray.size_extract]; have := HS.out; omega), by rw [HF.out]; exact HhA.out⟩ _).mono ?_
      rintro e w6 ⟨v, rfl, hv, hb⟩
      unfold znum at hv
      rw [HF.out] at hv
      obtain ⟨s5, p5, n5, c5, rfl⟩ := hv.opened
      replace XQ := qx XQ hb
      replace B := bb B hb
      clear cc4a cc4b cc4c
      have HT := hid hv
      clear hb hv
      have hb7 := (Below.refl _ _).alloc (Nat.le_refl w6.heap.size) (.cells #[.bool s5, .slice p5 n5 c5] 28)
      have hx8 := BoxR.new w6 s5 p5 n5 c5
      have L0 := hid XQ.out.lt
      replace XQ := qx XQ hb7
      replace HT := wr HT hb7
      replace B := bb B hb7
      have X5 := hid hx8
      have hs9 : (w6.alloc (.cells #[.bool s5, .slice p5 n5 c5] 28)).heap.size = w6.heap.size + 1 := by simp
      clear hb7 hx8
      obtain ⟨cc10a, cc10b, cc10c⟩ := XQ.out.cells
      obtain ⟨cc11a, cc11b⟩ := X5.out.both
      go_wp2_with fail
      generalize hW : w6.alloc (.cells #[.bool s5, .slice p5 n5 c5] 28) = W12 at *
      clear hW
      refine (natof_bad (s := s.extract (k + 1) s.size) (k := 1) _ (by rw [ByteArray.size_extract]; have := HS.out; unfold maxLen; omega) (.inr ⟨(by rw [ByteArray.size_extract]; have := HS.out; omega), by rw [HBK.out]; exact HhB0.out, rfl⟩)).mono ?_
      rintro e w13 ⟨rfl, hb⟩
      replace XQ := qx XQ hb
      replace X5 := br X5 hb
      replace HT := wr HT hb
      replace B := bb B hb
      clear cc10a cc10b cc10c cc11a cc11b
      clear hb 
      obtain ⟨cc14a, cc14b, cc14c⟩ := XQ.out.cells
      obtain ⟨cc15a, cc15b⟩ := X5.out.both
      obtain ⟨⟨cc16a, cc16b⟩, ⟨cc16c, cc16d⟩, cc16e, cc16f⟩ := XQ.out.stores
      obtain ⟨r17a, r17b, r17c⟩ := XQ.out.last B.out (by have := L0.out; omega) false none 0 0 none 0 0
      replace X5 := hid (((X5.out.other (g2 := w.heap.size) (by have := L0.out; omega) 0 (.bool false)).other (g2 := w.heap.size) (by have := L0.out; omega) 1 (.slice none 0 0)).other (g2 := w.heap.size) (by have := L0.out; omega) 2 (.slice none 0 0))
      replace HT := hid (r17c HT.out)
      replace XQ := hid r17a
      replace B := hid r17b
      clear r17a r17b r17c
      go_wp2_with fail
      refine bodyPost_ret (res_q_tmp rfl rfl rfl XQ.out) rfl ?_
      exact ⟨_, _, _, _, _, _, _, rfl, B.out⟩

set_option maxHeartbeats 4000000 in
theorem ratofD (s : ByteArray) (w : World) (hs : s.size ≤ 100) (hsl : hasSl s.data.toList = true) (hA : isWhl (cutB s.data.toList) = true) (hB : isNat (cutA s.data.toList) = true) (hZ0 : whlOf (cutB s.data.toList) = 0) :
    Calls Tryz.prog 8 #[.string s] w fun e w' => ∃ s p n c p' n' c', e = .returned (.tuple #[.agg #[.bool s, .slice p n c, .slice p' n' c'], .int .i64 1]) ∧ Below w.heap.size w w' := by
  have Hhsl := hid hsl
  have HhA := hid hA
  have HhB := hid hB
  have HhZ0 := hid hZ0
  have HS := hid hs
  obtain ⟨N, hN⟩ : ∃ N, (cutB s.data.toList).length = N := ⟨_, rfl⟩
  have hNle : N ≤ s.size := by rw [← hN]; exact cutB_le _
  have HN := hid hN
  have HF := hid (cut_front hN)
  obtain ⟨hlt, h47, hbk⟩ := cut_some hN hsl
  have HBK := hid hbk
  clear hbk
  have hsz : (s.size : Int) ≤ 100 := by omega
  have B := hid (Below.refl w.heap.size w)
  have hb1 := (Below.refl _ _).alloc (Nat.le_refl w.heap.size) (.cells #[.bool false, .slice none 0 0, .slice none 0 0] 30)
  have hx2 := Qbx.new w false none 0 0 none 0 0
  replace B := bb B hb1
  have XQ := hid hx2
  have hs3 : (w.alloc (.cells #[.bool false, .slice none 0 0, .slice none 0 0] 30)).heap.size = w.heap.size + 1 := by simp
  clear hb1 hx2
  clear hs3 hN hsl hA hB hZ0
  go_enter Tryz.func8, Tryz.ntmps8
  obtain ⟨cc4a, cc4b, cc4c⟩ := XQ.out.cells
  go_wp2_with fail
  generalize hW : w.alloc (.cells #[.bool false, .slice none 0 0, .slice none 0 0] 30) = W5 at *
  clear hW
  go_loop [4] (fun i => ∃ k : Nat, k ≤ N ∧ i = .int .i64 k) (fun i => N - (intOf i).toNat)
  case atStart => exact ⟨0, Nat.zero_le _, rfl⟩
  case round =>
    obtain ⟨k, hk, rfl⟩ := hrel
    by_cases hkN : k < N
    · have hks : k < s.size := by omega
      have hby := cut_byte HN.out hkN hks
      clear h47
      go_wp2_with fail
      go_round
      case rel => exact ⟨k + 1, by omega, by go_num⟩
      case measure => simp [intOf]; omega
    · obtain rfl : k = N := by omega
      clear hkN hk
      have hi1 : IntKind.i64.wrap ((k : Int) + 1) = (k : Int) + 1 := IntWalk.i64_in _ (by omega)
      have hi2 : ((k : Int) + 1).toNat = k + 1 := by omega
      have hi3 : (0 : Int) ≤ (k : Int) + 1 := by omega
      have hi4 : (k : Int) + 1 ≤ (s.size : Int) := by omega
      have hi5 : ¬ (k : Int) = (s.size : Int) := by omega
      go_wp2_with fail
      refine (rwholeof_good (s := s.extract 0 k) ⟨(by rw [ByteArray.size_extract]; have := HS.out; omega), by rw [HF.out]; exact HhA.out⟩ _).mono ?_
      rintro e w6 ⟨v, rfl, hv, hb⟩
      unfold znum at hv
      rw [HF.out] at hv
      obtain ⟨s5, p5, n5, c5, rfl⟩ := hv.opened
      replace XQ := qx XQ hb
      replace B := bb B hb
      clear cc4a cc4b cc4c
      have HT := hid hv
      clear hb hv
      have hb7 := (Below.refl _ _).alloc (Nat.le_refl w6.heap.size) (.cells #[.bool s5, .slice p5 n5 c5] 28)
      have hx8 := BoxR.new w6 s5 p5 n5 c5
      have L0 := hid XQ.out.lt
      replace XQ := qx XQ hb7
      replace HT := wr HT hb7
      replace B := bb B hb7
      have X5 := hid hx8
      have hs9 : (w6.alloc (.cells #[.bool s5, .slice p5 n5 c5] 28)).heap.size = w6.heap.size + 1 := by simp
      clear hb7 hx8
      obtain ⟨cc10a, cc10b, cc10c⟩ := XQ.out.cells
      obtain ⟨cc11a, cc11b⟩ := X5.out.both
      go_wp2_with fail
      generalize hW : w6.alloc (.cells #[.bool s5, .slice p5 n5 c5] 28) = W12 at *
      clear hW
      refine (natof_r HBK.out (by rw [ByteArray.size_extract]; have := HS.out; omega) HhB.out _).mono ?_
      rintro e w13 ⟨p6, n6, c6, rfl, hv, hb⟩
      replace XQ := qx XQ hb
      replace X5 := br X5 hb
      replace HT := wr HT hb
      replace B := bb B hb
      clear cc10a cc10b cc10c cc11a cc11b
      have HU := hid hv.value
      clear hb hv
      obtain ⟨cc14a, cc14b, cc14c⟩ := XQ.out.cells
      obtain ⟨cc15a, cc15b⟩ := X5.out.both
      have hn5 : n5 = 0 := HT.out.inside.1.len.2 (by rw [HhZ0.out]; rfl)
      subst hn5
      obtain ⟨⟨cc16a, cc16b⟩, ⟨cc16c, cc16d⟩, cc16e, cc16f⟩ := XQ.out.stores
      obtain ⟨r17a, r17b, r17c⟩ := XQ.out.last B.out (by have := L0.out; omega) false none 0 0 none 0 0
      replace X5 := hid (((X5.out.other (g2 := w.heap.size) (by have := L0.out; omega) 0 (.bool false)).other (g2 := w.heap.size) (by have := L0.out; omega) 1 (.slice none 0 0)).other (g2 := w.heap.size) (by have := L0.out; omega) 2 (.slice none 0 0))
      replace HT := hid (r17c HT.out)
      replace HU := hid (r17c HU.out)
      replace XQ := hid r17a
      replace B := hid r17b
      clear r17a r17b r17c
      go_wp2_with fail
      refine bodyPost_ret (res_q_tmp rfl rfl rfl XQ.out) rfl ?_
      exact ⟨_, _, _, _, _, _, _, rfl, B.out⟩

set_option maxHeartbeats 4000000 in
theorem ratofE (s : ByteArray) (w : World) (hs : s.size ≤ 100) (hsl : hasSl s.data.toList = true) (hA : isWhl (cutB s.data.toList) = true) (hB : isNat (cutA s.data.toList) = true) (hZ : whlOf (cutB s.data.toList) ≠ 0) (hD1 : dval (cutA s.data.toList) = 1) :
    Calls Tryz.prog 8 #[.string s] w fun e w' => ∃ s p n c p' n' c', e = .returned (.tuple #[.agg #[.bool s, .slice p n c, .slice p' n' c'], .int .i64 1]) ∧ Below w.heap.size w w' := by
  have Hhsl := hid hsl
  have HhA := hid hA
  have HhB := hid hB
  have HhZ := hid hZ
  have HhD1 := hid hD1
  have HS := hid hs
  obtain ⟨N, hN⟩ : ∃ N, (cutB s.data.toList).length = N := ⟨_, rfl⟩
  have hNle : N ≤ s.size := by rw [← hN]; exact cutB_le _
  have HN := hid hN
  have HF := hid (cut_front hN)
  obtain ⟨hlt, h47, hbk⟩ := cut_some hN hsl
  have HBK := hid hbk
  clear hbk
  have hsz : (s.size : Int) ≤ 100 := by omega
  have B := hid (Below.refl w.heap.size w)
  have hb1 := (Below.refl _ _).alloc (Nat.le_refl w.heap.size) (.cells #[.bool false, .slice none 0 0, .slice none 0 0] 30)
  have hx2 := Qbx.new w false none 0 0 none 0 0
  replace B := bb B hb1
  have XQ := hid hx2
  have hs3 : (w.alloc (.cells #[.bool false, .slice none 0 0, .slice none 0 0] 30)).heap.size = w.heap.size + 1 := by simp
  clear hb1 hx2
  clear hs3 hN hsl hA hB hZ hD1
  go_enter Tryz.func8, Tryz.ntmps8
  obtain ⟨cc4a, cc4b, cc4c⟩ := XQ.out.cells
  go_wp2_with fail
  generalize hW : w.alloc (.cells #[.bool false, .slice none 0 0, .slice none 0 0] 30) = W5 at *
  clear hW
  go_loop [4] (fun i => ∃ k : Nat, k ≤ N ∧ i = .int .i64 k) (fun i => N - (intOf i).toNat)
  case atStart => exact ⟨0, Nat.zero_le _, rfl⟩
  case round =>
    obtain ⟨k, hk, rfl⟩ := hrel
    by_cases hkN : k < N
    · have hks : k < s.size := by omega
      have hby := cut_byte HN.out hkN hks
      clear h47
      go_wp2_with fail
      go_round
      case rel => exact ⟨k + 1, by omega, by go_num⟩
      case measure => simp [intOf]; omega
    · obtain rfl : k = N := by omega
      clear hkN hk
      have hi1 : IntKind.i64.wrap ((k : Int) + 1) = (k : Int) + 1 := IntWalk.i64_in _ (by omega)
      have hi2 : ((k : Int) + 1).toNat = k + 1 := by omega
      have hi3 : (0 : Int) ≤ (k : Int) + 1 := by omega
      have hi4 : (k : Int) + 1 ≤ (s.size : Int) := by omega
      have hi5 : ¬ (k : Int) = (s.size : Int) := by omega
      go_wp2_with fail
      refine (rwholeof_good (s := s.extract 0 k) ⟨(by rw [ByteArray.size_extract]; have := HS.out; omega), by rw [HF.out]; exact HhA.out⟩ _).mono ?_
      rintro e w6 ⟨v, rfl, hv, hb⟩
      unfold znum at hv
      rw [HF.out] at hv
      obtain ⟨s5, p5, n5, c5, rfl⟩ := hv.opened
      replace XQ := qx XQ hb
      replace B := bb B hb
      clear cc4a cc4b cc4c
      have HT := hid hv
      clear hb hv
      have hb7 := (Below.refl _ _).alloc (Nat.le_refl w6.heap.size) (.cells #[.bool s5, .slice p5 n5 c5] 28)
      have hx8 := BoxR.new w6 s5 p5 n5 c5
      have L0 := hid XQ.out.lt
      replace XQ := qx XQ hb7
      replace HT := wr HT hb7
      replace B := bb B hb7
      have X5 := hid hx8
      have hs9 : (w6.alloc (.cells #[.bool s5, .slice p5 n5 c5] 28)).heap.size = w6.heap.size + 1 := by simp
      clear hb7 hx8
      obtain ⟨cc10a, cc10b, cc10c⟩ := XQ.out.cells
      obtain ⟨cc11a, cc11b⟩ := X5.out.both
      go_wp2_with fail
      generalize hW : w6.alloc (.cells #[.bool s5, .slice p5 n5 c5] 28) = W12 at *
      clear hW
      refine (natof_r HBK.out (by rw [ByteArray.size_extract]; have := HS.out; omega) HhB.out _).mono ?_
      rintro e w13 ⟨p6, n6, c6, rfl, hv, hb⟩
      replace XQ := qx XQ hb
      replace X5 := br X5 hb
      replace HT := wr HT hb
      replace B := bb B hb
      clear cc10a cc10b cc10c cc11a cc11b
      have HU := hid hv.value
      clear hb hv
      obtain ⟨cc14a, cc14b, cc14c⟩ := XQ.out.cells
      obtain ⟨cc15a, cc15b⟩ := X5.out.both
      have hn5 : ¬ (n5 : Int) = 0 := by have h1 := HT.out.inside.1.len; have h2 := HhZ.out; omega
      go_wp2_with fail
      have h1o := (natR_one w13).value
      have hb16 := (Below.refl _ _).alloc (Nat.le_refl w13.heap.size) (.cells #[.int .i64 1] 3)
      replace XQ := qx XQ hb16
      replace X5 := br X5 hb16
      replace HT := wr HT hb16
      replace HU := wr HU hb16
      replace B := bb B hb16
      have H1O := hid h1o
      clear h1o hb16
      have hc := rcmpn HU.out.nat H1O.out.nat (by omega) (by omega)
      rw [HhD1.out] at hc
      rw [show cmpv 1 1 = 0 by decide] at hc
      refine (hc).mono ?_
      rintro e w17 ⟨rfl, hb⟩
      replace XQ := qx XQ hb
      replace X5 := br X5 hb
      replace HT := wr HT hb
      replace HU := wr HU hb
      replace H1O := wr H1O hb
      replace B := bb B hb
      clear cc14a cc14b cc14c cc15a cc15b
      clear hb hc
      obtain ⟨cc18a, cc18b, cc18c⟩ := XQ.out.cells
      obtain ⟨cc19a, cc19b⟩ := X5.out.both
      obtain ⟨⟨cc20a, cc20b⟩, ⟨cc20c, cc20d⟩, cc20e, cc20f⟩ := XQ.out.stores
      obtain ⟨r21a, r21b, r21c⟩ := XQ.out.last B.out (by have := L0.out; omega) false none 0 0 none 0 0
      replace X5 := hid (((X5.out.other (g2 := w.heap.size) (by have := L0.out; omega) 0 (.bool false)).other (g2 := w.heap.size) (by have := L0.out; omega) 1 (.slice none 0 0)).other (g2 := w.heap.size) (by have := L0.out; omega) 2 (.slice none 0 0))
      replace HT := hid (r21c HT.out)
      replace HU := hid (r21c HU.out)
      replace H1O := hid (r21c H1O.out)
      replace XQ := hid r21a
      replace B := hid r21b
      clear r21a r21b r21c
      go_wp2_with fail
      refine bodyPost_ret (res_q_tmp rfl rfl rfl XQ.out) rfl ?_
      exact ⟨_, _, _, _, _, _, _, rfl, B.out⟩

end Go.Proofs.YtkdeopikojgboaaGreatDoor

/-
  THE REFERENCE: RatOf, behind the slash, more.
-/
namespace Go.Proofs.YtkdeopikojgboaaGreatDoor
open Go.RowKit
open Num4
open Num (dg isNat dval)
set_option linter.unusedVariables false
set_option maxRecDepth 100000
set_option linter.unusedSimpArgs false

set_option maxHeartbeats 4000000 in
theorem ratofH (s : ByteArray) (w : World) (hs : s.size ≤ 100) (hsl : hasSl s.data.toList = true) (hA : isWhl (cutB s.data.toList) = true) (hB : isNat (cutA s.data.toList) = true) (hZ : whlOf (cutB s.data.toList) ≠ 0) (hD0 : dval (cutA s.data.toList) = 0) :
    Calls Tryz.prog 8 #[.string s] w fun e w' => ∃ s p n c p' n' c', e = .returned (.tuple #[.agg #[.bool s, .slice p n c, .slice p' n' c'], .int .i64 1]) ∧ Below w.heap.size w w' := by
  have Hhsl := hid hsl
  have HhA := hid hA
  have HhB := hid hB
  have HhZ := hid hZ
  have HhD0 := hid hD0
  have HS := hid hs
  obtain ⟨N, hN⟩ : ∃ N, (cutB s.data.toList).length = N := ⟨_, rfl⟩
  have hNle : N ≤ s.size := by rw [← hN]; exact cutB_le _
  have HN := hid hN
  have HF := hid (cut_front hN)
  obtain ⟨hlt, h47, hbk⟩ := cut_some hN hsl
  have HBK := hid hbk
  clear hbk
  have hsz : (s.size : Int) ≤ 100 := by omega
  have B := hid (Below.refl w.heap.size w)
  have hb1 := (Below.refl _ _).alloc (Nat.le_refl w.heap.size) (.cells #[.bool false, .slice none 0 0, .slice none 0 0] 30)
  have hx2 := Qbx.new w false none 0 0 none 0 0
  replace B := bb B hb1
  have XQ := hid hx2
  have hs3 : (w.alloc (.cells #[.bool false, .slice none 0 0, .slice none 0 0] 30)).heap.size = w.heap.size + 1 := by simp
  clear hb1 hx2
  clear hs3 hN hsl hA hB hZ hD0
  go_enter Tryz.func8, Tryz.ntmps8
  obtain ⟨cc4a, cc4b, cc4c⟩ := XQ.out.cells
  go_wp2_with fail
  generalize hW : w.alloc (.cells #[.bool false, .slice none 0 0, .slice none 0 0] 30) = W5 at *
  clear hW
  go_loop [4] (fun i => ∃ k : Nat, k ≤ N ∧ i = .int .i64 k) (fun i => N - (intOf i).toNat)
  case atStart => exact ⟨0, Nat.zero_le _, rfl⟩
  case round =>
    obtain ⟨k, hk, rfl⟩ := hrel
    by_cases hkN : k < N
    · have hks : k < s.size := by omega
      have hby := cut_byte HN.out hkN hks
      clear h47
      go_wp2_with fail
      go_round
      case rel => exact ⟨k + 1, by omega, by go_num⟩
      case measure => simp [intOf]; omega
    · obtain rfl : k = N := by omega
      clear hkN hk
      have hi1 : IntKind.i64.wrap ((k : Int) + 1) = (k : Int) + 1 := IntWalk.i64_in _ (by omega)
      have hi2 : ((k : Int) + 1).toNat = k + 1 := by omega
      have hi3 : (0 : Int) ≤ (k : Int) + 1 := by omega
      have hi4 : (k : Int) + 1 ≤ (s.size : Int) := by omega
      have hi5 : ¬ (k : Int) = (s.size : Int) := by omega
      go_wp2_with fail
      refine (rwholeof_good (s := s.extract 0 k) ⟨(by rw [ByteArray.size_extract]; have := HS.out; omega), by rw [HF.out]; exact HhA.out⟩ _).mono ?_
      rintro e w6 ⟨v, rfl, hv, hb⟩
      unfold znum at hv
      rw [HF.out] at hv
      obtain ⟨s5, p5, n5, c5, rfl⟩ := hv.opened
      replace XQ := qx XQ hb
      replace B := bb B hb
      clear cc4a cc4b cc4c
      have HT := hid hv
      clear hb hv
      have hb7 := (Below.refl _ _).alloc (Nat.le_refl w6.heap.size) (.cells #[.bool s5, .slice p5 n5 c5] 28)
      have hx8 := BoxR.new w6 s5 p5 n5 c5
      have L0 := hid XQ.out.lt
      replace XQ := qx XQ hb7
      replace HT := wr HT hb7
      replace B := bb B hb7
      have X5 := hid hx8
      have hs9 : (w6.alloc (.cells #[.bool s5, .slice p5 n5 c5] 28)).heap.size = w6.heap.size + 1 := by simp
      clear hb7 hx8
      obtain ⟨cc10a, cc10b, cc10c⟩ := XQ.out.cells
      obtain ⟨cc11a, cc11b⟩ := X5.out.both
      go_wp2_with fail
      generalize hW : w6.alloc (.cells #[.bool s5, .slice p5 n5 c5] 28) = W12 at *
      clear hW
      refine (natof_r HBK.out (by rw [ByteArray.size_extract]; have := HS.out; omega) HhB.out _).mono ?_
      rintro e w13 ⟨p6, n6, c6, rfl, hv, hb⟩
      replace XQ := qx XQ hb
      replace X5 := br X5 hb
      replace HT := wr HT hb
      replace B := bb B hb
      clear cc10a cc10b cc10c cc11a cc11b
      have HU := hid hv.value
      clear hb hv
      obtain ⟨cc14a, cc14b, cc14c⟩ := XQ.out.cells
      obtain ⟨cc15a, cc15b⟩ := X5.out.both
      have hn5 : ¬ (n5 : Int) = 0 := by have h1 := HT.out.inside.1.len; have h2 := HhZ.out; omega
      go_wp2_with fail
      have h1o := (natR_one w13).value
      have hb16 := (Below.refl _ _).alloc (Nat.le_refl w13.heap.size) (.cells #[.int .i64 1] 3)
      replace XQ := qx XQ hb16
      replace X5 := br X5 hb16
      replace HT := wr HT hb16
      replace HU := wr HU hb16
      replace B := bb B hb16
      have H1O := hid h1o
      clear h1o hb16
      have hc := rcmpn HU.out.nat H1O.out.nat (by omega) (by omega)
      rw [HhD0.out] at hc
      rw [show cmpv 0 1 = -1 by decide] at hc
      refine (hc).mono ?_
      rintro e w17 ⟨rfl, hb⟩
      replace XQ := qx XQ hb
      replace X5 := br X5 hb
      replace HT := wr HT hb
      replace HU := wr HU hb
      replace H1O := wr H1O hb
      replace B := bb B hb
      clear cc14a cc14b cc14c cc15a cc15b
      clear hb hc
      obtain ⟨cc18a, cc18b, cc18c⟩ := XQ.out.cells
      obtain ⟨cc19a, cc19b⟩ := X5.out.both
      obtain ⟨⟨cc20a, cc20b⟩, ⟨cc20c, cc20d⟩, cc20e, cc20f⟩ := XQ.out.stores
      obtain ⟨r21a, r21b, r21c⟩ := XQ.out.last B.out (by have := L0.out; omega) false none 0 0 none 0 0
      replace X5 := hid (((X5.out.other (g2 := w.heap.size) (by have := L0.out; omega) 0 (.bool false)).other (g2 := w.heap.size) (by have := L0.out; omega) 1 (.slice none 0 0)).other (g2 := w.heap.size) (by have := L0.out; omega) 2 (.slice none 0 0))
      replace HT := hid (r21c HT.out)
      replace HU := hid (r21c HU.out)
      replace H1O := hid (r21c H1O.out)
      replace XQ := hid r21a
      replace B := hid r21b
      clear r21a r21b r21c
      go_wp2_with fail
      refine bodyPost_ret (res_q_tmp rfl rfl rfl XQ.out) rfl ?_
      exact ⟨_, _, _, _, _, _, _, rfl, B.out⟩

set_option maxHeartbeats 4000000 in
theorem ratofF (s : ByteArray) (w : World) (hs : s.size ≤ 100) (hsl : hasSl s.data.toList = true) (hA : isWhl (cutB s.data.toList) = true) (hB : isNat (cutA s.data.toList) = true) (hZ : whlOf (cutB s.data.toList) ≠ 0) (hD : 1 < dval (cutA s.data.toList)) (hG0 : Nat.gcd (whlOf (cutB s.data.toList)).natAbs (dval (cutA s.data.toList)) ≠ 1) :
    Calls Tryz.prog 8 #[.string s] w fun e w' => ∃ s p n c p' n' c', e = .returned (.tuple #[.agg #[.bool s, .slice p n c, .slice p' n' c'], .int .i64 1]) ∧ Below w.heap.size w w' := by
  have Hhsl := hid hsl
  have HhA := hid hA
  have HhB := hid hB
  have HhZ := hid hZ
  have HhD := hid hD
  have HhG0 := hid hG0
  have HS := hid hs
  obtain ⟨N, hN⟩ : ∃ N, (cutB s.data.toList).length = N := ⟨_, rfl⟩
  have hNle : N ≤ s.size := by rw [← hN]; exact cutB_le _
  have HN := hid hN
  have HF := hid (cut_front hN)
  obtain ⟨hlt, h47, hbk⟩ := cut_some hN hsl
  have HBK := hid hbk
  clear hbk
  have hsz : (s.size : Int) ≤ 100 := by omega
  have B := hid (Below.refl w.heap.size w)
  have hb1 := (Below.refl _ _).alloc (Nat.le_refl w.heap.size) (.cells #[.bool false, .slice none 0 0, .slice none 0 0] 30)
  have hx2 := Qbx.new w false none 0 0 none 0 0
  replace B := bb B hb1
  have XQ := hid hx2
  have hs3 : (w.alloc (.cells #[.bool false, .slice none 0 0, .slice none 0 0] 30)).heap.size = w.heap.size + 1 := by simp
  clear hb1 hx2
  clear hs3 hN hsl hA hB hZ hD hG0
  go_enter Tryz.func8, Tryz.ntmps8
  obtain ⟨cc4a, cc4b, cc4c⟩ := XQ.out.cells
  go_wp2_with fail
  generalize hW : w.alloc (.cells #[.bool false, .slice none 0 0, .slice none 0 0] 30) = W5 at *
  clear hW
  go_loop [4] (fun i => ∃ k : Nat, k ≤ N ∧ i = .int .i64 k) (fun i => N - (intOf i).toNat)
  case atStart => exact ⟨0, Nat.zero_le _, rfl⟩
  case round =>
    obtain ⟨k, hk, rfl⟩ := hrel
    by_cases hkN : k < N
    · have hks : k < s.size := by omega
      have hby := cut_byte HN.out hkN hks
      clear h47
      go_wp2_with fail
      go_round
      case rel => exact ⟨k + 1, by omega, by go_num⟩
      case measure => simp [intOf]; omega
    · obtain rfl : k = N := by omega
      clear hkN hk
      have hi1 : IntKind.i64.wrap ((k : Int) + 1) = (k : Int) + 1 := IntWalk.i64_in _ (by omega)
      have hi2 : ((k : Int) + 1).toNat = k + 1 := by omega
      have hi3 : (0 : Int) ≤ (k : Int) + 1 := by omega
      have hi4 : (k : Int) + 1 ≤ (s.size : Int) := by omega
      have hi5 : ¬ (k : Int) = (s.size : Int) := by omega
      go_wp2_with fail
      refine (rwholeof_good (s := s.extract 0 k) ⟨(by rw [ByteArray.size_extract]; have := HS.out; omega), by rw [HF.out]; exact HhA.out⟩ _).mono ?_
      rintro e w6 ⟨v, rfl, hv, hb⟩
      unfold znum at hv
      rw [HF.out] at hv
      obtain ⟨s5, p5, n5, c5, rfl⟩ := hv.opened
      replace XQ := qx XQ hb
      replace B := bb B hb
      clear cc4a cc4b cc4c
      have HT := hid hv
      clear hb hv
      have hb7 := (Below.refl _ _).alloc (Nat.le_refl w6.heap.size) (.cells #[.bool s5, .slice p5 n5 c5] 28)
      have hx8 := BoxR.new w6 s5 p5 n5 c5
      have L0 := hid XQ.out.lt
      replace XQ := qx XQ hb7
      replace HT := wr HT hb7
      replace B := bb B hb7
      have X5 := hid hx8
      have hs9 : (w6.alloc (.cells #[.bool s5, .slice p5 n5 c5] 28)).heap.size = w6.heap.size + 1 := by simp
      clear hb7 hx8
      obtain ⟨cc10a, cc10b, cc10c⟩ := XQ.out.cells
      obtain ⟨cc11a, cc11b⟩ := X5.out.both
      go_wp2_with fail
      generalize hW : w6.alloc (.cells #[.bool s5, .slice p5 n5 c5] 28) = W12 at *
      clear hW
      refine (natof_r HBK.out (by rw [ByteArray.size_extract]; have := HS.out; omega) HhB.out _).mono ?_
      rintro e w13 ⟨p6, n6, c6, rfl, hv, hb⟩
      replace XQ := qx XQ hb
      replace X5 := br X5 hb
      replace HT := wr HT hb
      replace B := bb B hb
      clear cc10a cc10b cc10c cc11a cc11b
      have HU := hid hv.value
      clear hb hv
      obtain ⟨cc14a, cc14b, cc14c⟩ := XQ.out.cells
      obtain ⟨cc15a, cc15b⟩ := X5.out.both
      have hn5 : ¬ (n5 : Int) = 0 := by have h1 := HT.out.inside.1.len; have h2 := HhZ.out; omega
      go_wp2_with fail
      have h1o := (natR_one w13).value
      have hb16 := (Below.refl _ _).alloc (Nat.le_refl w13.heap.size) (.cells #[.int .i64 1] 3)
      replace XQ := qx XQ hb16
      replace X5 := br X5 hb16
      replace HT := wr HT hb16
      replace HU := wr HU hb16
      replace B := bb B hb16
      have H1O := hid h1o
      clear h1o hb16
      have hc := rcmpn HU.out.nat H1O.out.nat (by omega) (by omega)
      rw [cmpv_one (by have := HhD.out; omega), if_neg (by have := HhD.out; omega)] at hc
      refine (hc).mono ?_
      rintro e w17 ⟨rfl, hb⟩
      replace XQ := qx XQ hb
      replace X5 := br X5 hb
      replace HT := wr HT hb
      replace HU := wr HU hb
      replace H1O := wr H1O hb
      replace B := bb B hb
      clear cc14a cc14b cc14c cc15a cc15b
      clear hb hc
      obtain ⟨cc18a, cc18b, cc18c⟩ := XQ.out.cells
      obtain ⟨cc19a, cc19b⟩ := X5.out.both
      go_wp2_with fail
      refine (rgcdn HT.out.abs.nat HU.out.nat (by omega)).mono ?_
      rintro e w20 ⟨p7, n7, c7, rfl, hv, hb⟩
      replace XQ := qx XQ hb
      replace X5 := br X5 hb
      replace HT := wr HT hb
      replace HU := wr HU hb
      replace H1O := wr H1O hb
      replace B := bb B hb
      clear cc18a cc18b cc18c cc19a cc19b
      have HV := hid hv.value
      clear hb hv
      obtain ⟨cc21a, cc21b, cc21c⟩ := XQ.out.cells
      obtain ⟨cc22a, cc22b⟩ := X5.out.both
      go_wp2_with fail
      have h1o := (natR_one w20).value
      have hb23 := (Below.refl _ _).alloc (Nat.le_refl w20.heap.size) (.cells #[.int .i64 1] 3)
      replace XQ := qx XQ hb23
      replace X5 := br X5 hb23
      replace HT := wr HT hb23
      replace HU := wr HU hb23
      replace H1O := wr H1O hb23
      replace HV := wr HV hb23
      replace B := bb B hb23
      have H1O := hid h1o
      clear h1o hb23
      have hc := rcmpn HV.out.nat H1O.out.nat (by omega) (by omega)
      rw [cmpv_one (Nat.gcd_pos_of_pos_right _ (by have := HhD.out; omega)), if_neg HhG0.out] at hc
      refine (hc).mono ?_
      rintro e w24 ⟨rfl, hb⟩
      replace XQ := qx XQ hb
      replace X5 := br X5 hb
      replace HT := wr HT hb
      replace HU := wr HU hb
      replace H1O := wr H1O hb
      replace HV := wr HV hb
      replace B := bb B hb
      clear cc21a cc21b cc21c cc22a cc22b
      clear hb hc
      obtain ⟨cc25a, cc25b, cc25c⟩ := XQ.out.cells
      obtain ⟨cc26a, cc26b⟩ := X5.out.both
      obtain ⟨⟨cc27a, cc27b⟩, ⟨cc27c, cc27d⟩, cc27e, cc27f⟩ := XQ.out.stores
      obtain ⟨r28a, r28b, r28c⟩ := XQ.out.last B.out (by have := L0.out; omega) false none 0 0 none 0 0
      replace X5 := hid (((X5.out.other (g2 := w.heap.size) (by have := L0.out; omega) 0 (.bool false)).other (g2 := w.heap.size) (by have := L0.out; omega) 1 (.slice none 0 0)).other (g2 := w.heap.size) (by have := L0.out; omega) 2 (.slice none 0 0))
      replace HT := hid (r28c HT.out)
      replace HU := hid (r28c HU.out)
      replace H1O := hid (r28c H1O.out)
      replace HV := hid (r28c HV.out)
      replace XQ := hid r28a
      replace B := hid r28b
      clear r28a r28b r28c
      go_wp2_with fail
      refine bodyPost_ret (res_q_tmp rfl rfl rfl XQ.out) rfl ?_
      exact ⟨_, _, _, _, _, _, _, rfl, B.out⟩

set_option maxHeartbeats 4000000 in
theorem ratofG (s : ByteArray) (w : World) (hs : s.size ≤ 100) (hsl : hasSl s.data.toList = true) (hA : isWhl (cutB s.data.toList) = true) (hB : isNat (cutA s.data.toList) = true) (hZ : whlOf (cutB s.data.toList) ≠ 0) (hD : 1 < dval (cutA s.data.toList)) (hG : Nat.gcd (whlOf (cutB s.data.toList)).natAbs (dval (cutA s.data.toList)) = 1) :
    Calls Tryz.prog 8 #[.string s] w fun e w' => ∃ v, e = .returned (.tuple #[v, .int .i64 0]) ∧ QR w' v (ratOf s.data.toList) 100 ∧ Below w.heap.size w w' := by
  have Hhsl := hid hsl
  have HhA := hid hA
  have HhB := hid hB
  have HhZ := hid hZ
  have HhD := hid hD
  have HhG := hid hG
  have HS := hid hs
  obtain ⟨N, hN⟩ : ∃ N, (cutB s.data.toList).length = N := ⟨_, rfl⟩
  have hNle : N ≤ s.size := by rw [← hN]; exact cutB_le _
  have HN := hid hN
  have HF := hid (cut_front hN)
  obtain ⟨hlt, h47, hbk⟩ := cut_some hN hsl
  have HBK := hid hbk
  clear hbk
  have hsz : (s.size : Int) ≤ 100 := by omega
  have B := hid (Below.refl w.heap.size w)
  have hb1 := (Below.refl _ _).alloc (Nat.le_refl w.heap.size) (.cells #[.bool false, .slice none 0 0, .slice none 0 0] 30)
  have hx2 := Qbx.new w false none 0 0 none 0 0
  replace B := bb B hb1
  have XQ := hid hx2
  have hs3 : (w.alloc (.cells #[.bool false, .slice none 0 0, .slice none 0 0] 30)).heap.size = w.heap.size + 1 := by simp
  clear hb1 hx2
  clear hs3 hN hsl hA hB hZ hD hG
  go_enter Tryz.func8, Tryz.ntmps8
  obtain ⟨cc4a, cc4b, cc4c⟩ := XQ.out.cells
  go_wp2_with fail
  generalize hW : w.alloc (.cells #[.bool false, .slice none 0 0, .slice none 0 0] 30) = W5 at *
  clear hW
  go_loop [4] (fun i => ∃ k : Nat, k ≤ N ∧ i = .int .i64 k) (fun i => N - (intOf i).toNat)
  case atStart => exact ⟨0, Nat.zero_le _, rfl⟩
  case round =>
    obtain ⟨k, hk, rfl⟩ := hrel
    by_cases hkN : k < N
    · have hks : k < s.size := by omega
      have hby := cut_byte HN.out hkN hks
      clear h47
      go_wp2_with fail
      go_round
      case rel => exact ⟨k + 1, by omega, by go_num⟩
      case measure => simp [intOf]; omega
    · obtain rfl : k = N := by omega
      clear hkN hk
      have hi1 : IntKind.i64.wrap ((k : Int) + 1) = (k : Int) + 1 := IntWalk.i64_in _ (by omega)
      have hi2 : ((k : Int) + 1).toNat = k + 1 := by omega
      have hi3 : (0 : Int) ≤ (k : Int) + 1 := by omega
      have hi4 : (k : Int) + 1 ≤ (s.size : Int) := by omega
      have hi5 : ¬ (k : Int) = (s.size : Int) := by omega
      go_wp2_with fail
      refine (rwholeof_good (s := s.extract 0 k) ⟨(by rw [ByteArray.size_extract]; have := HS.out; omega), by rw [HF.out]; exact HhA.out⟩ _).mono ?_
      rintro e w6 ⟨v, rfl, hv, hb⟩
      unfold znum at hv
      rw [HF.out] at hv
      obtain ⟨s5, p5, n5, c5, rfl⟩ := hv.opened
      replace XQ := qx XQ hb
      replace B := bb B hb
      clear cc4a cc4b cc4c
      have HT := hid hv
      clear hb hv
      have hb7 := (Below.refl _ _).alloc (Nat.le_refl w6.heap.size) (.cells #[.bool s5, .slice p5 n5 c5] 28)
      have hx8 := BoxR.new w6 s5 p5 n5 c5
      have L0 := hid XQ.out.lt
      replace XQ := qx XQ hb7
      replace HT := wr HT hb7
      replace B := bb B hb7
      have X5 := hid hx8
      have hs9 : (w6.alloc (.cells #[.bool s5, .slice p5 n5 c5] 28)).heap.size = w6.heap.size + 1 := by simp
      clear hb7 hx8
      obtain ⟨cc10a, cc10b, cc10c⟩ := XQ.out.cells
      obtain ⟨cc11a, cc11b⟩ := X5.out.both
      go_wp2_with fail
      generalize hW : w6.alloc (.cells #[.bool s5, .slice p5 n5 c5] 28) = W12 at *
      clear hW
      refine (natof_r HBK.out (by rw [ByteArray.size_extract]; have := HS.out; omega) HhB.out _).mono ?_
      rintro e w13 ⟨p6, n6, c6, rfl, hv, hb⟩
      replace XQ := qx XQ hb
      replace X5 := br X5 hb
      replace HT := wr HT hb
      replace B := bb B hb
      clear cc10a cc10b cc10c cc11a cc11b
      have HU := hid hv.value
      clear hb hv
      obtain ⟨cc14a, cc14b, cc14c⟩ := XQ.out.cells
      obtain ⟨cc15a, cc15b⟩ := X5.out.both
      have hn5 : ¬ (n5 : Int) = 0 := by have h1 := HT.out.inside.1.len; have h2 := HhZ.out; omega
      go_wp2_with fail
      have h1o := (natR_one w13).value
      have hb16 := (Below.refl _ _).alloc (Nat.le_refl w13.heap.size) (.cells #[.int .i64 1] 3)
      replace XQ := qx XQ hb16
      replace X5 := br X5 hb16
      replace HT := wr HT hb16
      replace HU := wr HU hb16
      replace B := bb B hb16
      have H1O := hid h1o
      clear h1o hb16
      have hc := rcmpn HU.out.nat H1O.out.nat (by omega) (by omega)
      rw [cmpv_one (by have := HhD.out; omega), if_neg (by have := HhD.out; omega)] at hc
      refine (hc).mono ?_
      rintro e w17 ⟨rfl, hb⟩
      replace XQ := qx XQ hb
      replace X5 := br X5 hb
      replace HT := wr HT hb
      replace HU := wr HU hb
      replace H1O := wr H1O hb
      replace B := bb B hb
      clear cc14a cc14b cc14c cc15a cc15b
      clear hb hc
      obtain ⟨cc18a, cc18b, cc18c⟩ := XQ.out.cells
      obtain ⟨cc19a, cc19b⟩ := X5.out.both
      go_wp2_with fail
      refine (rgcdn HT.out.abs.nat HU.out.nat (by omega)).mono ?_
      rintro e w20 ⟨p7, n7, c7, rfl, hv, hb⟩
      replace XQ := qx XQ hb
      replace X5 := br X5 hb
      replace HT := wr HT hb
      replace HU := wr HU hb
      replace H1O := wr H1O hb
      replace B := bb B hb
      clear cc18a cc18b cc18c cc19a cc19b
      have HV := hid hv.value
      clear hb hv
      obtain ⟨cc21a, cc21b, cc21c⟩ := XQ.out.cells
      obtain ⟨cc22a, cc22b⟩ := X5.out.both
      go_wp2_with fail
      have h1o := (natR_one w20).value
      have hb23 := (Below.refl _ _).alloc (Nat.le_refl w20.heap.size) (.cells #[.int .i64 1] 3)
      replace XQ := qx XQ hb23
      replace X5 := br X5 hb23
      replace HT := wr HT hb23
      replace HU := wr HU hb23
      replace H1O := wr H1O hb23
      replace HV := wr HV hb23
      replace B := bb B hb23
      have H1O := hid h1o
      clear h1o hb23
      have hc := rcmpn HV.out.nat H1O.out.nat (by omega) (by omega)
      rw [cmpv_one (Nat.gcd_pos_of_pos_right _ (by have := HhD.out; omega)), if_pos HhG.out] at hc
      refine (hc).mono ?_
      rintro e w24 ⟨rfl, hb⟩
      replace XQ := qx XQ hb
      replace X5 := br X5 hb
      replace HT := wr HT hb
      replace HU := wr HU hb
      replace H1O := wr H1O hb
      replace HV := wr HV hb
      replace B := bb B hb
      clear cc21a cc21b cc21c cc22a cc22b
      clear hb hc
      obtain ⟨cc25a, cc25b, cc25c⟩ := XQ.out.cells
      obtain ⟨cc26a, cc26b⟩ := X5.out.both
      obtain ⟨⟨cc27a, cc27b⟩, ⟨cc27c, cc27d⟩, cc27e, cc27f⟩ := XQ.out.stores
      obtain ⟨r28a, r28b, r28c⟩ := XQ.out.last B.out (by have := L0.out; omega) s5 p5 n5 c5 p6 n6 c6
      replace X5 := hid (((X5.out.other (g2 := w.heap.size) (by have := L0.out; omega) 0 (.bool s5)).other (g2 := w.heap.size) (by have := L0.out; omega) 1 (.slice p5 n5 c5)).other (g2 := w.heap.size) (by have := L0.out; omega) 2 (.slice p6 n6 c6))
      replace HT := hid (r28c HT.out)
      replace HU := hid (r28c HU.out)
      replace H1O := hid (r28c H1O.out)
      replace HV := hid (r28c HV.out)
      replace XQ := hid r28a
      replace B := hid r28b
      clear r28a r28b r28c
      go_wp2_with fail
      refine bodyPost_ret (res_q_tmp rfl rfl rfl XQ.out) rfl ?_
      have hwd : whlOf (cutA s.data.toList) = (dval (cutA s.data.toList) : Int) := whlOf_nat HhB.out
      obtain ⟨e1, e2⟩ := divInt_coprime (n := whlOf (cutB s.data.toList)) (d := whlOf (cutA s.data.toList)) (by rw [hwd]; have := HhD.out; omega) (by rw [hwd]; simpa [Int.gcd] using HhG.out)
      refine ⟨_, rfl, ?_, B.out⟩
      rw [ratOf, if_pos Hhsl.out]
      exact QR.mk2 (by rw [e1]; exact HT.out) (by rw [e2, hwd]; exact HU.out)

end Go.Proofs.YtkdeopikojgboaaGreatDoor

/-
  THE REFERENCE: RatOf.
-/
namespace Go.Proofs.YtkdeopikojgboaaGreatDoor
open Go.RowKit
open Num4
open Num (dg isNat dval)
set_option linter.unusedVariables false
set_option maxRecDepth 100000
set_option linter.unusedSimpArgs false

/-- A text with a slash that reads as a fraction: its parts. -/
theorem isRat_slash {l : List UInt8} (hs : hasSl l = true) (hA : isWhl (cutB l) = true) : isRat l = true ↔ (isNat (cutA l) = true ∧ whlOf (cutB l) ≠ 0 ∧ 1 < dval (cutA l) ∧ Nat.gcd (whlOf (cutB l)).natAbs (dval (cutA l)) = 1) := by
  rw [isRat, if_pos hs]
  simp only [hA, Bool.true_and, Bool.and_eq_true, decide_eq_true_eq]
  constructor
  · rintro ⟨⟨h1, h2⟩, h3⟩
    have hN : isNat (cutA l) = true := by
      cases hb : ((cutA l).head? == some 45)
      · rw [isWhl, hb] at h1; simpa using h1
      · exfalso
        have : whlOf (cutA l) = -(dval (cutA l).tail : Int) := by rw [whlOf, hb]; rfl
        omega
    have e := whlOf_nat hN
    rw [e] at h2 h3
    refine ⟨hN, ?_, by omega, by simpa [Int.gcd] using h3⟩
    intro e0
    rw [e0] at h3
    have h4 : Int.gcd 0 (dval (cutA l) : Int) = dval (cutA l) := by simp
    omega
  · rintro ⟨h1, h2, h3, h4⟩
    have e := whlOf_nat h1
    refine ⟨⟨isWhl_nat h1, by rw [e]; omega⟩, by rw [e]; simpa [Int.gcd] using h4⟩
theorem ratof_good {s : ByteArray} (h : GoodQ s) (w : World) :
    Calls Tryz.prog 8 #[.string s] w fun e w' => ∃ v, e = .returned (.tuple #[v, .int .i64 0]) ∧ QR w' v (qnum s) 100 ∧ Below w.heap.size w w' := by
  obtain ⟨hs, hn⟩ := h
  cases hsl : hasSl s.data.toList
  · have e : cutB s.data.toList = s.data.toList := by
      rcases index_cut s.data.toList with ⟨_, _, e⟩ | ⟨e, _⟩
      · exact e
      · rw [hsl] at e; cases e
    have hw : isWhl s.data.toList = true := by rw [isRat, hsl] at hn; simpa using hn
    exact ratofB s w hs hsl (by rw [e]; exact hw)
  · have hA : isWhl (cutB s.data.toList) = true := by
      rw [isRat, hsl] at hn
      simp only [if_true, Bool.and_eq_true] at hn
      exact hn.1.1.1
    obtain ⟨h1, h2, h3, h4⟩ := (isRat_slash hsl hA).1 hn
    exact ratofG s w hs hsl hA h1 h2 h3 h4
theorem ratof_bad {s : ByteArray} {k : Int} (h : BadQ s k) (w : World) (hm : s.size ≤ maxLen) :
    Calls Tryz.prog 8 #[.string s] w fun e w' => ∃ s p n c p' n' c', e = .returned (.tuple #[.agg #[.bool s, .slice p n c, .slice p' n' c'], .int .i64 k]) ∧ Below w.heap.size w w' := by
  rcases h with ⟨h, rfl⟩ | ⟨hs, hn, rfl⟩
  · exact ratof_long s w h hm
  · cases hA : isWhl (cutB s.data.toList)
    · cases hsl : hasSl s.data.toList
      · exact ratofA s w hs hsl hA
      · exact ratofA2 s w hs hsl hA
    · cases hsl : hasSl s.data.toList
      · exfalso
        have e : cutB s.data.toList = s.data.toList := by
          rcases index_cut s.data.toList with ⟨_, _, e⟩ | ⟨e, _⟩
          · exact e
          · rw [hsl] at e; cases e
        rw [e] at hA
        rw [isRat, hsl] at hn
        simp [hA] at hn
      · have hno := mt (isRat_slash hsl hA).2 (by rw [hn]; decide)
        cases hB : isNat (cutA s.data.toList)
        · exact ratofC s w hs hsl hA hB
        · by_cases hZ : whlOf (cutB s.data.toList) = 0
          · exact ratofD s w hs hsl hA hB hZ
          · rcases (show dval (cutA s.data.toList) = 0 ∨ dval (cutA s.data.toList) = 1 ∨ 1 < dval (cutA s.data.toList) by omega) with hd | hd | hd
            · exact ratofH s w hs hsl hA hB hZ hd
            · exact ratofE s w hs hsl hA hB hZ hd
            · by_cases hG : Nat.gcd (whlOf (cutB s.data.toList)).natAbs (dval (cutA s.data.toList)) = 1
              · exact absurd ⟨hB, hZ, hd, hG⟩ hno
              · exact ratofF s w hs hsl hA hB hZ hd hG

end Go.Proofs.YtkdeopikojgboaaGreatDoor

/-
  THE REFERENCE: Two.
-/
namespace Go.Proofs.YtkdeopikojgboaaGreatDoor
open Go.RowKit
open Num4
open Num (dg isNat dval)
set_option linter.unusedVariables false
set_option maxRecDepth 100000
set_option linter.unusedSimpArgs false

set_option maxHeartbeats 4000000 in
theorem rtwo1 {a b : ByteArray} {k : Int} (h1 : BadQ a k) (ha : a.size ≤ maxLen) (hb0 : b.size ≤ maxLen) (w : World) :
    Calls Tryz.prog 22 #[.string a, .string b] w fun e w' => ∃ s5a p5a n5a c5a p5b n5b c5b s6a p6a n6a c6a p6b n6b c6b, e = .returned (.tuple #[.agg #[.bool s5a, .slice p5a n5a c5a, .slice p5b n5b c5b], .agg #[.bool s6a, .slice p6a n6a c6a, .slice p6b n6b c6b], .int .i64 k]) ∧ Below w.heap.size w w' := by
  have H1 := hid h1
  have hk0 : ¬ k = 0 := h1.ne
  have B := hid (Below.refl w.heap.size w)
  have hb1 := (Below.refl _ _).alloc (Nat.le_refl w.heap.size) (.cells #[.bool false, .slice none 0 0, .slice none 0 0] 30)
  have hx2 := Qbx.new w false none 0 0 none 0 0
  replace B := bb B hb1
  have R1 := hid hx2
  have hs3 : (w.alloc (.cells #[.bool false, .slice none 0 0, .slice none 0 0] 30)).heap.size = w.heap.size + 1 := by simp
  clear hb1 hx2
  have hb4 := (Below.refl _ _).alloc (Nat.le_refl (w.alloc (.cells #[.bool false, .slice none 0 0, .slice none 0 0] 30)).heap.size) (.cells #[.bool false, .slice none 0 0, .slice none 0 0] 30)
  have hx5 := Qbx.new (w.alloc (.cells #[.bool false, .slice none 0 0, .slice none 0 0] 30)) false none 0 0 none 0 0
  rw [hs3] at hx5
  replace R1 := qx R1 hb4
  replace B := bb B hb4
  have R2 := hid hx5
  have hs6 : ((w.alloc (.cells #[.bool false, .slice none 0 0, .slice none 0 0] 30)).alloc (.cells #[.bool false, .slice none 0 0, .slice none 0 0] 30)).heap.size = w.heap.size + 1 + 1 := by simp [hs3]
  clear hb4 hx5
  clear hs6 h1
  go_enter Tryz.func22, Tryz.ntmps22
  obtain ⟨cc7a, cc7b, cc7c⟩ := R1.out.cells
  obtain ⟨cc8a, cc8b, cc8c⟩ := R2.out.cells
  go_wp2_with fail
  generalize hW : (w.alloc (.cells #[.bool false, .slice none 0 0, .slice none 0 0] 30)).alloc (.cells #[.bool false, .slice none 0 0, .slice none 0 0] 30) = W9 at *
  clear hW
  refine (ratof_bad H1.out _ ha).mono ?_
  rintro e w10 ⟨s5a, p5a, n5a, c5a, p5b, n5b, c5b, rfl, hb⟩
  replace R1 := qx R1 hb
  replace R2 := qx R2 hb
  replace B := bb B hb
  clear cc7a cc7b cc7c cc8a cc8b cc8c
  clear hb 
  have hb11 := (Below.refl _ _).alloc (Nat.le_refl w10.heap.size) (.cells #[.bool s5a, .slice p5a n5a c5a, .slice p5b n5b c5b] 30)
  have hx12 := Qbx.new w10 s5a p5a n5a c5a p5b n5b c5b
  have L0 := hid R2.out.lt
  replace R1 := qx R1 hb11
  replace R2 := qx R2 hb11
  replace B := bb B hb11
  have X7 := hid hx12
  have hs13 : (w10.alloc (.cells #[.bool s5a, .slice p5a n5a c5a, .slice p5b n5b c5b] 30)).heap.size = w10.heap.size + 1 := by simp
  clear hb11 hx12
  obtain ⟨cc14a, cc14b, cc14c⟩ := R1.out.cells
  obtain ⟨cc15a, cc15b, cc15c⟩ := R2.out.cells
  obtain ⟨cc16a, cc16b, cc16c⟩ := X7.out.cells
  go_wp2_with fail
  generalize hW : w10.alloc (.cells #[.bool s5a, .slice p5a n5a c5a, .slice p5b n5b c5b] 30) = W17 at *
  clear hW
  obtain ⟨cc18a, cc18b, cc18c⟩ := X7.out.cells
  obtain ⟨⟨cc19a, cc19b⟩, ⟨cc19c, cc19d⟩, cc19e, cc19f⟩ := R1.out.stores
  obtain ⟨r20a, r20b, r20c⟩ := R1.out.last B.out (by have := L0.out; omega) s5a p5a n5a c5a p5b n5b c5b
  replace R2 := hid (((R2.out.other (g2 := w.heap.size) (by have := L0.out; omega) 0 (.bool s5a)).other (g2 := w.heap.size) (by have := L0.out; omega) 1 (.slice p5a n5a c5a)).other (g2 := w.heap.size) (by have := L0.out; omega) 2 (.slice p5b n5b c5b))
  replace X7 := hid (((X7.out.other (g2 := w.heap.size) (by have := L0.out; omega) 0 (.bool s5a)).other (g2 := w.heap.size) (by have := L0.out; omega) 1 (.slice p5a n5a c5a)).other (g2 := w.heap.size) (by have := L0.out; omega) 2 (.slice p5b n5b c5b))
  replace R1 := hid r20a
  replace B := hid r20b
  clear r20a r20b r20c
  obtain ⟨cc21a, cc21b, cc21c⟩ := X7.out.cells
  obtain ⟨⟨cc22a, cc22b⟩, ⟨cc22c, cc22d⟩, cc22e, cc22f⟩ := R2.out.stores
  obtain ⟨r23a, r23b, r23c⟩ := R2.out.last B.out (by have := L0.out; omega) s5a p5a n5a c5a p5b n5b c5b
  replace R1 := hid (((R1.out.other (g2 := w.heap.size + 1) (by have := L0.out; omega) 0 (.bool s5a)).other (g2 := w.heap.size + 1) (by have := L0.out; omega) 1 (.slice p5a n5a c5a)).other (g2 := w.heap.size + 1) (by have := L0.out; omega) 2 (.slice p5b n5b c5b))
  replace X7 := hid (((X7.out.other (g2 := w.heap.size + 1) (by have := L0.out; omega) 0 (.bool s5a)).other (g2 := w.heap.size + 1) (by have := L0.out; omega) 1 (.slice p5a n5a c5a)).other (g2 := w.heap.size + 1) (by have := L0.out; omega) 2 (.slice p5b n5b c5b))
  replace R2 := hid r23a
  replace B := hid r23b
  clear r23a r23b r23c
  obtain ⟨cc24a, cc24b, cc24c⟩ := X7.out.cells
  go_region_held3 (fun w' => w'.cell? ⟨w10.heap.size, 0, none⟩ = some (.bool s5a) ∧ w'.cell? ⟨w10.heap.size, 1, none⟩ = some (.slice p5a n5a c5a) ∧ w'.cell? ⟨w10.heap.size, 2, none⟩ = some (.slice p5b n5b c5b)) (go_keep) (first | fail)
  replace R1 := hid R1.out.dr
  replace R2 := hid R2.out.dr
  replace X7 := hid X7.out.dr
  replace B := hid (Below.drew B.out)
  go_wp2_with fail
  refine bodyPost_ret (res_qq_tmp rfl rfl rfl rfl R1.out R2.out) rfl ?_
  exact ⟨_, _, _, _, _, _, _, _, _, _, _, _, _, _, rfl, B.out⟩

set_option maxHeartbeats 4000000 in
theorem rtwo2 {a b : ByteArray} {k : Int} (h1 : GoodQ a) (h2 : BadQ b k) (ha : a.size ≤ maxLen) (hb0 : b.size ≤ maxLen) (w : World) :
    Calls Tryz.prog 22 #[.string a, .string b] w fun e w' => ∃ s5a p5a n5a c5a p5b n5b c5b s6a p6a n6a c6a p6b n6b c6b, e = .returned (.tuple #[.agg #[.bool s5a, .slice p5a n5a c5a, .slice p5b n5b c5b], .agg #[.bool s6a, .slice p6a n6a c6a, .slice p6b n6b c6b], .int .i64 k]) ∧ Below w.heap.size w w' := by
  have H1 := hid h1
  have H2 := hid h2
  have hk0 : ¬ k = 0 := h2.ne
  have B := hid (Below.refl w.heap.size w)
  have hb1 := (Below.refl _ _).alloc (Nat.le_refl w.heap.size) (.cells #[.bool false, .slice none 0 0, .slice none 0 0] 30)
  have hx2 := Qbx.new w false none 0 0 none 0 0
  replace B := bb B hb1
  have R1 := hid hx2
  have hs3 : (w.alloc (.cells #[.bool false, .slice none 0 0, .slice none 0 0] 30)).heap.size = w.heap.size + 1 := by simp
  clear hb1 hx2
  have hb4 := (Below.refl _ _).alloc (Nat.le_refl (w.alloc (.cells #[.bool false, .slice none 0 0, .slice none 0 0] 30)).heap.size) (.cells #[.bool false, .slice none 0 0, .slice none 0 0] 30)
  have hx5 := Qbx.new (w.alloc (.cells #[.bool false, .slice none 0 0, .slice none 0 0] 30)) false none 0 0 none 0 0
  rw [hs3] at hx5
  replace R1 := qx R1 hb4
  replace B := bb B hb4
  have R2 := hid hx5
  have hs6 : ((w.alloc (.cells #[.bool false, .slice none 0 0, .slice none 0 0] 30)).alloc (.cells #[.bool false, .slice none 0 0, .slice none 0 0] 30)).heap.size = w.heap.size + 1 + 1 := by simp [hs3]
  clear hb4 hx5
  clear hs6 h1 h2
  go_enter Tryz.func22, Tryz.ntmps22
  obtain ⟨cc7a, cc7b, cc7c⟩ := R1.out.cells
  obtain ⟨cc8a, cc8b, cc8c⟩ := R2.out.cells
  go_wp2_with fail
  generalize hW : (w.alloc (.cells #[.bool false, .slice none 0 0, .slice none 0 0] 30)).alloc (.cells #[.bool false, .slice none 0 0, .slice none 0 0] 30) = W9 at *
  clear hW
  refine (ratof_good H1.out _).mono ?_
  rintro e w10 ⟨v, rfl, hv, hb⟩
  obtain ⟨s5a, p5a, n5a, c5a, p5b, n5b, c5b, rfl⟩ := hv.opened
  obtain ⟨ht5, hu5⟩ := hv.two
  replace R1 := qx R1 hb
  replace R2 := qx R2 hb
  replace B := bb B hb
  clear cc7a cc7b cc7c cc8a cc8b cc8c
  have HN5 := hid ht5
  have HD5 := hid hu5
  clear hb hv ht5 hu5
  have hb11 := (Below.refl _ _).alloc (Nat.le_refl w10.heap.size) (.cells #[.bool s5a, .slice p5a n5a c5a, .slice p5b n5b c5b] 30)
  have hx12 := Qbx.new w10 s5a p5a n5a c5a p5b n5b c5b
  have L0 := hid R2.out.lt
  replace R1 := qx R1 hb11
  replace R2 := qx R2 hb11
  replace HN5 := wr HN5 hb11
  replace HD5 := wr HD5 hb11
  replace B := bb B hb11
  have X7 := hid hx12
  have hs13 : (w10.alloc (.cells #[.bool s5a, .slice p5a n5a c5a, .slice p5b n5b c5b] 30)).heap.size = w10.heap.size + 1 := by simp
  clear hb11 hx12
  obtain ⟨cc14a, cc14b, cc14c⟩ := R1.out.cells
  obtain ⟨cc15a, cc15b, cc15c⟩ := R2.out.cells
  obtain ⟨cc16a, cc16b, cc16c⟩ := X7.out.cells
  go_wp2_with fail
  generalize hW : w10.alloc (.cells #[.bool s5a, .slice p5a n5a c5a, .slice p5b n5b c5b] 30) = W17 at *
  clear hW
  refine (ratof_bad H2.out _ hb0).mono ?_
  rintro e w18 ⟨s6a, p6a, n6a, c6a, p6b, n6b, c6b, rfl, hb⟩
  replace R1 := qx R1 hb
  replace R2 := qx R2 hb
  replace X7 := qx X7 hb
  replace HN5 := wr HN5 hb
  replace HD5 := wr HD5 hb
  replace B := bb B hb
  clear cc14a cc14b cc14c cc15a cc15b cc15c cc16a cc16b cc16c
  clear hb 
  have hb19 := (Below.refl _ _).alloc (Nat.le_refl w18.heap.size) (.cells #[.bool s6a, .slice p6a n6a c6a, .slice p6b n6b c6b] 30)
  have hx20 := Qbx.new w18 s6a p6a n6a c6a p6b n6b c6b
  have L1 := hid X7.out.lt
  replace R1 := qx R1 hb19
  replace R2 := qx R2 hb19
  replace X7 := qx X7 hb19
  replace HN5 := wr HN5 hb19
  replace HD5 := wr HD5 hb19
  replace B := bb B hb19
  have X9 := hid hx20
  have hs21 : (w18.alloc (.cells #[.bool s6a, .slice p6a n6a c6a, .slice p6b n6b c6b] 30)).heap.size = w18.heap.size + 1 := by simp
  clear hb19 hx20
  obtain ⟨cc22a, cc22b, cc22c⟩ := R1.out.cells
  obtain ⟨cc23a, cc23b, cc23c⟩ := R2.out.cells
  obtain ⟨cc24a, cc24b, cc24c⟩ := X7.out.cells
  obtain ⟨cc25a, cc25b, cc25c⟩ := X9.out.cells
  go_wp2_with fail
  generalize hW : w18.alloc (.cells #[.bool s6a, .slice p6a n6a c6a, .slice p6b n6b c6b] 30) = W26 at *
  clear hW
  obtain ⟨cc27a, cc27b, cc27c⟩ := X7.out.cells
  obtain ⟨cc28a, cc28b, cc28c⟩ := X9.out.cells
  obtain ⟨⟨cc29a, cc29b⟩, ⟨cc29c, cc29d⟩, cc29e, cc29f⟩ := R1.out.stores
  obtain ⟨r30a, r30b, r30c⟩ := R1.out.last B.out (by have := L0.out; have := L1.out; omega) s5a p5a n5a c5a p5b n5b c5b
  replace R2 := hid (((R2.out.other (g2 := w.heap.size) (by have := L0.out; have := L1.out; omega) 0 (.bool s5a)).other (g2 := w.heap.size) (by have := L0.out; have := L1.out; omega) 1 (.slice p5a n5a c5a)).other (g2 := w.heap.size) (by have := L0.out; have := L1.out; omega) 2 (.slice p5b n5b c5b))
  replace X7 := hid (((X7.out.other (g2 := w.heap.size) (by have := L0.out; have := L1.out; omega) 0 (.bool s5a)).other (g2 := w.heap.size) (by have := L0.out; have := L1.out; omega) 1 (.slice p5a n5a c5a)).other (g2 := w.heap.size) (by have := L0.out; have := L1.out; omega) 2 (.slice p5b n5b c5b))
  replace X9 := hid (((X9.out.other (g2 := w.heap.size) (by have := L0.out; have := L1.out; omega) 0 (.bool s5a)).other (g2 := w.heap.size) (by have := L0.out; have := L1.out; omega) 1 (.slice p5a n5a c5a)).other (g2 := w.heap.size) (by have := L0.out; have := L1.out; omega) 2 (.slice p5b n5b c5b))
  replace HN5 := hid (r30c HN5.out)
  replace HD5 := hid (r30c HD5.out)
  replace R1 := hid r30a
  replace B := hid r30b
  clear r30a r30b r30c
  obtain ⟨cc31a, cc31b, cc31c⟩ := X7.out.cells
  obtain ⟨cc32a, cc32b, cc32c⟩ := X9.out.cells
  obtain ⟨⟨cc33a, cc33b⟩, ⟨cc33c, cc33d⟩, cc33e, cc33f⟩ := R2.out.stores
  obtain ⟨r34a, r34b, r34c⟩ := R2.out.last B.out (by have := L0.out; have := L1.out; omega) s6a p6a n6a c6a p6b n6b c6b
  replace R1 := hid (((R1.out.other (g2 := w.heap.size + 1) (by have := L0.out; have := L1.out; omega) 0 (.bool s6a)).other (g2 := w.heap.size + 1) (by have := L0.out; have := L1.out; omega) 1 (.slice p6a n6a c6a)).other (g2 := w.heap.size + 1) (by have := L0.out; have := L1.out; omega) 2 (.slice p6b n6b c6b))
  replace X7 := hid (((X7.out.other (g2 := w.heap.size + 1) (by have := L0.out; have := L1.out; omega) 0 (.bool s6a)).other (g2 := w.heap.size + 1) (by have := L0.out; have := L1.out; omega) 1 (.slice p6a n6a c6a)).other (g2 := w.heap.size + 1) (by have := L0.out; have := L1.out; omega) 2 (.slice p6b n6b c6b))
  replace X9 := hid (((X9.out.other (g2 := w.heap.size + 1) (by have := L0.out; have := L1.out; omega) 0 (.bool s6a)).other (g2 := w.heap.size + 1) (by have := L0.out; have := L1.out; omega) 1 (.slice p6a n6a c6a)).other (g2 := w.heap.size + 1) (by have := L0.out; have := L1.out; omega) 2 (.slice p6b n6b c6b))
  replace HN5 := hid (r34c HN5.out)
  replace HD5 := hid (r34c HD5.out)
  replace R2 := hid r34a
  replace B := hid r34b
  clear r34a r34b r34c
  obtain ⟨cc35a, cc35b, cc35c⟩ := X7.out.cells
  obtain ⟨cc36a, cc36b, cc36c⟩ := X9.out.cells
  go_region_held3 (fun w' => w'.cell? ⟨w10.heap.size, 0, none⟩ = some (.bool s5a) ∧ w'.cell? ⟨w10.heap.size, 1, none⟩ = some (.slice p5a n5a c5a) ∧ w'.cell? ⟨w10.heap.size, 2, none⟩ = some (.slice p5b n5b c5b) ∧ w'.cell? ⟨w18.heap.size, 0, none⟩ = some (.bool s6a) ∧ w'.cell? ⟨w18.heap.size, 1, none⟩ = some (.slice p6a n6a c6a) ∧ w'.cell? ⟨w18.heap.size, 2, none⟩ = some (.slice p6b n6b c6b)) (go_keep) (first | fail)
  replace R1 := hid R1.out.dr
  replace R2 := hid R2.out.dr
  replace X7 := hid X7.out.dr
  replace X9 := hid X9.out.dr
  replace HN5 := hid HN5.out.drew
  replace HD5 := hid HD5.out.drew
  replace B := hid (Below.drew B.out)
  go_wp2_with fail
  refine bodyPost_ret (res_qq_tmp rfl rfl rfl rfl R1.out R2.out) rfl ?_
  exact ⟨_, _, _, _, _, _, _, _, _, _, _, _, _, _, rfl, B.out⟩

set_option maxHeartbeats 4000000 in
theorem rtwo3 {a b : ByteArray} {k : Int} (h1 : GoodQ a) (h2 : GoodQ b) (ha : a.size ≤ maxLen) (hb0 : b.size ≤ maxLen) (w : World) :
    Calls Tryz.prog 22 #[.string a, .string b] w fun e w' => ∃ v u, e = .returned (.tuple #[v, u, .int .i64 0]) ∧ QR w' v (qnum a) 100 ∧ QR w' u (qnum b) 100 ∧ Below w.heap.size w w' := by
  have H1 := hid h1
  have H2 := hid h2
  have B := hid (Below.refl w.heap.size w)
  have hb1 := (Below.refl _ _).alloc (Nat.le_refl w.heap.size) (.cells #[.bool false, .slice none 0 0, .slice none 0 0] 30)
  have hx2 := Qbx.new w false none 0 0 none 0 0
  replace B := bb B hb1
  have R1 := hid hx2
  have hs3 : (w.alloc (.cells #[.bool false, .slice none 0 0, .slice none 0 0] 30)).heap.size = w.heap.size + 1 := by simp
  clear hb1 hx2
  have hb4 := (Below.refl _ _).alloc (Nat.le_refl (w.alloc (.cells #[.bool false, .slice none 0 0, .slice none 0 0] 30)).heap.size) (.cells #[.bool false, .slice none 0 0, .slice none 0 0] 30)
  have hx5 := Qbx.new (w.alloc (.cells #[.bool false, .slice none 0 0, .slice none 0 0] 30)) false none 0 0 none 0 0
  rw [hs3] at hx5
  replace R1 := qx R1 hb4
  replace B := bb B hb4
  have R2 := hid hx5
  have hs6 : ((w.alloc (.cells #[.bool false, .slice none 0 0, .slice none 0 0] 30)).alloc (.cells #[.bool false, .slice none 0 0, .slice none 0 0] 30)).heap.size = w.heap.size + 1 + 1 := by simp [hs3]
  clear hb4 hx5
  clear hs6 h1 h2
  go_enter Tryz.func22, Tryz.ntmps22
  obtain ⟨cc7a, cc7b, cc7c⟩ := R1.out.cells
  obtain ⟨cc8a, cc8b, cc8c⟩ := R2.out.cells
  go_wp2_with fail
  generalize hW : (w.alloc (.cells #[.bool false, .slice none 0 0, .slice none 0 0] 30)).alloc (.cells #[.bool false, .slice none 0 0, .slice none 0 0] 30) = W9 at *
  clear hW
  refine (ratof_good H1.out _).mono ?_
  rintro e w10 ⟨v, rfl, hv, hb⟩
  obtain ⟨s5a, p5a, n5a, c5a, p5b, n5b, c5b, rfl⟩ := hv.opened
  obtain ⟨ht5, hu5⟩ := hv.two
  replace R1 := qx R1 hb
  replace R2 := qx R2 hb
  replace B := bb B hb
  clear cc7a cc7b cc7c cc8a cc8b cc8c
  have HN5 := hid ht5
  have HD5 := hid hu5
  clear hb hv ht5 hu5
  have hb11 := (Below.refl _ _).alloc (Nat.le_refl w10.heap.size) (.cells #[.bool s5a, .slice p5a n5a c5a, .slice p5b n5b c5b] 30)
  have hx12 := Qbx.new w10 s5a p5a n5a c5a p5b n5b c5b
  have L0 := hid R2.out.lt
  replace R1 := qx R1 hb11
  replace R2 := qx R2 hb11
  replace HN5 := wr HN5 hb11
  replace HD5 := wr HD5 hb11
  replace B := bb B hb11
  have X7 := hid hx12
  have hs13 : (w10.alloc (.cells #[.bool s5a, .slice p5a n5a c5a, .slice p5b n5b c5b] 30)).heap.size = w10.heap.size + 1 := by simp
  clear hb11 hx12
  obtain ⟨cc14a, cc14b, cc14c⟩ := R1.out.cells
  obtain ⟨cc15a, cc15b, cc15c⟩ := R2.out.cells
  obtain ⟨cc16a, cc16b, cc16c⟩ := X7.out.cells
  go_wp2_with fail
  generalize hW : w10.alloc (.cells #[.bool s5a, .slice p5a n5a c5a, .slice p5b n5b c5b] 30) = W17 at *
  clear hW
  refine (ratof_good H2.out _).mono ?_
  rintro e w18 ⟨v, rfl, hv, hb⟩
  obtain ⟨s6a, p6a, n6a, c6a, p6b, n6b, c6b, rfl⟩ := hv.opened
  obtain ⟨ht6, hu6⟩ := hv.two
  replace R1 := qx R1 hb
  replace R2 := qx R2 hb
  replace X7 := qx X7 hb
  replace HN5 := wr HN5 hb
  replace HD5 := wr HD5 hb
  replace B := bb B hb
  clear cc14a cc14b cc14c cc15a cc15b cc15c cc16a cc16b cc16c
  have HN6 := hid ht6
  have HD6 := hid hu6
  clear hb hv ht6 hu6
  have hb19 := (Below.refl _ _).alloc (Nat.le_refl w18.heap.size) (.cells #[.bool s6a, .slice p6a n6a c6a, .slice p6b n6b c6b] 30)
  have hx20 := Qbx.new w18 s6a p6a n6a c6a p6b n6b c6b
  have L1 := hid X7.out.lt
  replace R1 := qx R1 hb19
  replace R2 := qx R2 hb19
  replace X7 := qx X7 hb19
  replace HN5 := wr HN5 hb19
  replace HD5 := wr HD5 hb19
  replace HN6 := wr HN6 hb19
  replace HD6 := wr HD6 hb19
  replace B := bb B hb19
  have X9 := hid hx20
  have hs21 : (w18.alloc (.cells #[.bool s6a, .slice p6a n6a c6a, .slice p6b n6b c6b] 30)).heap.size = w18.heap.size + 1 := by simp
  clear hb19 hx20
  obtain ⟨cc22a, cc22b, cc22c⟩ := R1.out.cells
  obtain ⟨cc23a, cc23b, cc23c⟩ := R2.out.cells
  obtain ⟨cc24a, cc24b, cc24c⟩ := X7.out.cells
  obtain ⟨cc25a, cc25b, cc25c⟩ := X9.out.cells
  go_wp2_with fail
  generalize hW : w18.alloc (.cells #[.bool s6a, .slice p6a n6a c6a, .slice p6b n6b c6b] 30) = W26 at *
  clear hW
  obtain ⟨cc27a, cc27b, cc27c⟩ := X7.out.cells
  obtain ⟨cc28a, cc28b, cc28c⟩ := X9.out.cells
  obtain ⟨⟨cc29a, cc29b⟩, ⟨cc29c, cc29d⟩, cc29e, cc29f⟩ := R1.out.stores
  obtain ⟨r30a, r30b, r30c⟩ := R1.out.last B.out (by have := L0.out; have := L1.out; omega) s5a p5a n5a c5a p5b n5b c5b
  replace R2 := hid (((R2.out.other (g2 := w.heap.size) (by have := L0.out; have := L1.out; omega) 0 (.bool s5a)).other (g2 := w.heap.size) (by have := L0.out; have := L1.out; omega) 1 (.slice p5a n5a c5a)).other (g2 := w.heap.size) (by have := L0.out; have := L1.out; omega) 2 (.slice p5b n5b c5b))
  replace X7 := hid (((X7.out.other (g2 := w.heap.size) (by have := L0.out; have := L1.out; omega) 0 (.bool s5a)).other (g2 := w.heap.size) (by have := L0.out; have := L1.out; omega) 1 (.slice p5a n5a c5a)).other (g2 := w.heap.size) (by have := L0.out; have := L1.out; omega) 2 (.slice p5b n5b c5b))
  replace X9 := hid (((X9.out.other (g2 := w.heap.size) (by have := L0.out; have := L1.out; omega) 0 (.bool s5a)).other (g2 := w.heap.size) (by have := L0.out; have := L1.out; omega) 1 (.slice p5a n5a c5a)).other (g2 := w.heap.size) (by have := L0.out; have := L1.out; omega) 2 (.slice p5b n5b c5b))
  replace HN5 := hid (r30c HN5.out)
  replace HD5 := hid (r30c HD5.out)
  replace HN6 := hid (r30c HN6.out)
  replace HD6 := hid (r30c HD6.out)
  replace R1 := hid r30a
  replace B := hid r30b
  clear r30a r30b r30c
  obtain ⟨cc31a, cc31b, cc31c⟩ := X7.out.cells
  obtain ⟨cc32a, cc32b, cc32c⟩ := X9.out.cells
  obtain ⟨⟨cc33a, cc33b⟩, ⟨cc33c, cc33d⟩, cc33e, cc33f⟩ := R2.out.stores
  obtain ⟨r34a, r34b, r34c⟩ := R2.out.last B.out (by have := L0.out; have := L1.out; omega) s6a p6a n6a c6a p6b n6b c6b
  replace R1 := hid (((R1.out.other (g2 := w.heap.size + 1) (by have := L0.out; have := L1.out; omega) 0 (.bool s6a)).other (g2 := w.heap.size + 1) (by have := L0.out; have := L1.out; omega) 1 (.slice p6a n6a c6a)).other (g2 := w.heap.size + 1) (by have := L0.out; have := L1.out; omega) 2 (.slice p6b n6b c6b))
  replace X7 := hid (((X7.out.other (g2 := w.heap.size + 1) (by have := L0.out; have := L1.out; omega) 0 (.bool s6a)).other (g2 := w.heap.size + 1) (by have := L0.out; have := L1.out; omega) 1 (.slice p6a n6a c6a)).other (g2 := w.heap.size + 1) (by have := L0.out; have := L1.out; omega) 2 (.slice p6b n6b c6b))
  replace X9 := hid (((X9.out.other (g2 := w.heap.size + 1) (by have := L0.out; have := L1.out; omega) 0 (.bool s6a)).other (g2 := w.heap.size + 1) (by have := L0.out; have := L1.out; omega) 1 (.slice p6a n6a c6a)).other (g2 := w.heap.size + 1) (by have := L0.out; have := L1.out; omega) 2 (.slice p6b n6b c6b))
  replace HN5 := hid (r34c HN5.out)
  replace HD5 := hid (r34c HD5.out)
  replace HN6 := hid (r34c HN6.out)
  replace HD6 := hid (r34c HD6.out)
  replace R2 := hid r34a
  replace B := hid r34b
  clear r34a r34b r34c
  obtain ⟨cc35a, cc35b, cc35c⟩ := X7.out.cells
  obtain ⟨cc36a, cc36b, cc36c⟩ := X9.out.cells
  go_region_held3 (fun w' => w'.cell? ⟨w10.heap.size, 0, none⟩ = some (.bool s5a) ∧ w'.cell? ⟨w10.heap.size, 1, none⟩ = some (.slice p5a n5a c5a) ∧ w'.cell? ⟨w10.heap.size, 2, none⟩ = some (.slice p5b n5b c5b) ∧ w'.cell? ⟨w18.heap.size, 0, none⟩ = some (.bool s6a) ∧ w'.cell? ⟨w18.heap.size, 1, none⟩ = some (.slice p6a n6a c6a) ∧ w'.cell? ⟨w18.heap.size, 2, none⟩ = some (.slice p6b n6b c6b)) (go_keep) (first | fail)
  replace R1 := hid R1.out.dr
  replace R2 := hid R2.out.dr
  replace X7 := hid X7.out.dr
  replace X9 := hid X9.out.dr
  replace HN5 := hid HN5.out.drew
  replace HD5 := hid HD5.out.drew
  replace HN6 := hid HN6.out.drew
  replace HD6 := hid HD6.out.drew
  replace B := hid (Below.drew B.out)
  go_wp2_with fail
  refine bodyPost_ret (res_qq_tmp rfl rfl rfl rfl R1.out R2.out) rfl ?_
  exact ⟨_, _, rfl, QR.mk2 HN5.out HD5.out, QR.mk2 HN6.out HD6.out, B.out⟩

end Go.Proofs.YtkdeopikojgboaaGreatDoor

/-
  THE REFERENCE: Add, Neg, Sub.
-/
namespace Go.Proofs.YtkdeopikojgboaaGreatDoor
open Go.RowKit
open Num4
open Num (dg isNat dval)
set_option linter.unusedVariables false
set_option maxRecDepth 100000
set_option linter.unusedSimpArgs false

set_option maxHeartbeats 4000000 in
theorem radd {w : World} {v u : Value} {q r : Rat} {k : Nat} (h : QR w v q k) (h' : QR w u r k)  (hk : k ≤ 4294967296) :
    Calls Tryz.prog 13 #[v, u] w fun e w' => ∃ v, e = .returned v ∧ QR w' v (q + r) (k + k + 1) ∧ Below w.heap.size w w' := by
  obtain ⟨s1a, p1a, n1a, c1a, p1b, n1b, c1b, rfl⟩ := h.opened
  obtain ⟨ht1, hu1⟩ := h.two
  obtain ⟨s2a, p2a, n2a, c2a, p2b, n2b, c2b, rfl⟩ := h'.opened
  obtain ⟨ht2, hu2⟩ := h'.two
  have HK := hid hk
  have B := hid (Below.refl w.heap.size w)
  have HN1 := hid ht1
  have HD1 := hid hu1
  have HN2 := hid ht2
  have HD2 := hid hu2
  have hb1 := (Below.refl _ _).alloc (Nat.le_refl w.heap.size) (.cells #[.bool s1a, .slice p1a n1a c1a, .slice p1b n1b c1b] 30)
  have hx2 := Qbx.new w s1a p1a n1a c1a p1b n1b c1b
  replace HN1 := wr HN1 hb1
  replace HD1 := wr HD1 hb1
  replace HN2 := wr HN2 hb1
  replace HD2 := wr HD2 hb1
  replace B := bb B hb1
  have X1 := hid hx2
  have hs3 : (w.alloc (.cells #[.bool s1a, .slice p1a n1a c1a, .slice p1b n1b c1b] 30)).heap.size = w.heap.size + 1 := by simp
  clear hb1 hx2
  have hb4 := (Below.refl _ _).alloc (Nat.le_refl (w.alloc (.cells #[.bool s1a, .slice p1a n1a c1a, .slice p1b n1b c1b] 30)).heap.size) (.cells #[.bool s2a, .slice p2a n2a c2a, .slice p2b n2b c2b] 30)
  have hx5 := Qbx.new (w.alloc (.cells #[.bool s1a, .slice p1a n1a c1a, .slice p1b n1b c1b] 30)) s2a p2a n2a c2a p2b n2b c2b
  rw [hs3] at hx5
  replace X1 := qx X1 hb4
  replace HN1 := wr HN1 hb4
  replace HD1 := wr HD1 hb4
  replace HN2 := wr HN2 hb4
  replace HD2 := wr HD2 hb4
  replace B := bb B hb4
  have X2 := hid hx5
  have hs6 : ((w.alloc (.cells #[.bool s1a, .slice p1a n1a c1a, .slice p1b n1b c1b] 30)).alloc (.cells #[.bool s2a, .slice p2a n2a c2a, .slice p2b n2b c2b] 30)).heap.size = w.heap.size + 1 + 1 := by simp [hs3]
  clear hb4 hx5
  have hb7 := (Below.refl _ _).alloc (Nat.le_refl ((w.alloc (.cells #[.bool s1a, .slice p1a n1a c1a, .slice p1b n1b c1b] 30)).alloc (.cells #[.bool s2a, .slice p2a n2a c2a, .slice p2b n2b c2b] 30)).heap.size) (.cells #[.bool false, .slice none 0 0, .slice none 0 0] 30)
  have hx8 := Qbx.new ((w.alloc (.cells #[.bool s1a, .slice p1a n1a c1a, .slice p1b n1b c1b] 30)).alloc (.cells #[.bool s2a, .slice p2a n2a c2a, .slice p2b n2b c2b] 30)) false none 0 0 none 0 0
  rw [hs6] at hx8
  replace X1 := qx X1 hb7
  replace X2 := qx X2 hb7
  replace HN1 := wr HN1 hb7
  replace HD1 := wr HD1 hb7
  replace HN2 := wr HN2 hb7
  replace HD2 := wr HD2 hb7
  replace B := bb B hb7
  have XQ := hid hx8
  have hs9 : (((w.alloc (.cells #[.bool s1a, .slice p1a n1a c1a, .slice p1b n1b c1b] 30)).alloc (.cells #[.bool s2a, .slice p2a n2a c2a, .slice p2b n2b c2b] 30)).alloc (.cells #[.bool false, .slice none 0 0, .slice none 0 0] 30)).heap.size = w.heap.size + 1 + 1 + 1 := by simp [hs6]
  clear hb7 hx8
  clear hs9 h h' ht1 hu1 ht2 hu2 hk
  go_enter Tryz.func13, Tryz.ntmps13
  obtain ⟨cc10a, cc10b, cc10c⟩ := X1.out.cells
  obtain ⟨cc11a, cc11b, cc11c⟩ := X2.out.cells
  obtain ⟨cc12a, cc12b, cc12c⟩ := XQ.out.cells
  go_wp2_with fail
  generalize hW : ((w.alloc (.cells #[.bool s1a, .slice p1a n1a c1a, .slice p1b n1b c1b] 30)).alloc (.cells #[.bool s2a, .slice p2a n2a c2a, .slice p2b n2b c2b] 30)).alloc (.cells #[.bool false, .slice none 0 0, .slice none 0 0] 30) = W13 at *
  clear hW
  obtain ⟨cc14a, cc14b, cc14c⟩ := X1.out.cells
  obtain ⟨cc15a, cc15b, cc15c⟩ := X2.out.cells
  replace X1 := hid X1.out.dr
  replace X2 := hid X2.out.dr
  replace XQ := hid XQ.out.dr
  replace HN1 := hid HN1.out.drew
  replace HD1 := hid HD1.out.drew
  replace HN2 := hid HN2.out.drew
  replace HD2 := hid HD2.out.drew
  replace B := hid (Below.drew B.out)
  obtain ⟨cc16a, cc16b, cc16c⟩ := X1.out.cells
  obtain ⟨cc17a, cc17b, cc17c⟩ := X2.out.cells
  go_region_held3 (fun w' => w'.cell? ⟨w.heap.size, 0, none⟩ = some (.bool s1a) ∧ w'.cell? ⟨w.heap.size, 1, none⟩ = some (.slice p1a n1a c1a) ∧ w'.cell? ⟨w.heap.size, 2, none⟩ = some (.slice p1b n1b c1b) ∧ w'.cell? ⟨w.heap.size + 1, 0, none⟩ = some (.bool s2a) ∧ w'.cell? ⟨w.heap.size + 1, 1, none⟩ = some (.slice p2a n2a c2a) ∧ w'.cell? ⟨w.heap.size + 1, 2, none⟩ = some (.slice p2b n2b c2b)) (go_keep) (first
    | (have hm := mk18_3; clear hm; go_at_call 34; refine (rover (k := k + k + 1) (S1.out.mono (by omega)) (P3.out.mono (by omega)).nat (Nat.mul_pos q.den_pos r.den_pos) (by have := HK.out; omega)).mono ?_; rintro e w31 ⟨v, rfl, hv, hb⟩; obtain ⟨s9a, p9a, n9a, c9a, p9b, n9b, c9b, rfl⟩ := hv.opened; obtain ⟨ht9, hu9⟩ := hv.two; replace X1 := qx X1 hb; replace X2 := qx X2 hb; replace XQ := qx XQ hb; replace HN1 := wr HN1 hb; replace HD1 := wr HD1 hb; replace HN2 := wr HN2 hb; replace HD2 := wr HD2 hb; replace P1 := wr P1 hb; replace P2 := wr P2 hb; replace S1 := wr S1 hb; replace P3 := wr P3 hb; replace B := bb B hb; clear cc29a cc29b cc29c cc30a cc30b cc30c; have HN9 := hid ht9; have HD9 := hid hu9; clear hb hv ht9 hu9; obtain ⟨cc32a, cc32b, cc32c⟩ := X1.out.cells; obtain ⟨cc33a, cc33b, cc33c⟩ := X2.out.cells; obtain ⟨⟨cc34a, cc34b⟩, ⟨cc34c, cc34d⟩, cc34e, cc34f⟩ := XQ.out.stores; obtain ⟨r35a, r35b, r35c⟩ := XQ.out.last B.out (by omega) s9a p9a n9a c9a p9b n9b c9b; replace X1 := hid (((X1.out.other (g2 := w.heap.size + 1 + 1) (by omega) 0 (.bool s9a)).other (g2 := w.heap.size + 1 + 1) (by omega) 1 (.slice p9a n9a c9a)).other (g2 := w.heap.size + 1 + 1) (by omega) 2 (.slice p9b n9b c9b)); replace X2 := hid (((X2.out.other (g2 := w.heap.size + 1 + 1) (by omega) 0 (.bool s9a)).other (g2 := w.heap.size + 1 + 1) (by omega) 1 (.slice p9a n9a c9a)).other (g2 := w.heap.size + 1 + 1) (by omega) 2 (.slice p9b n9b c9b)); replace HN1 := hid (r35c HN1.out); replace HD1 := hid (r35c HD1.out); replace HN2 := hid (r35c HN2.out); replace HD2 := hid (r35c HD2.out); replace P1 := hid (r35c P1.out); replace P2 := hid (r35c P2.out); replace S1 := hid (r35c S1.out); replace P3 := hid (r35c P3.out); replace HN9 := hid (r35c HN9.out); replace HD9 := hid (r35c HD9.out); replace XQ := hid r35a; replace B := hid r35b; clear r35a r35b r35c; obtain ⟨cc36a, cc36b, cc36c⟩ := X1.out.cells; obtain ⟨cc37a, cc37b, cc37c⟩ := X2.out.cells; have mk18_4 := hid True.intro)
    | (have hm := mk18_2; clear hm; go_at_call 37; refine (rmuln HD1.out.nat HD2.out.nat (by have := HK.out; omega) (by have := HK.out; omega)).mono ?_; rintro e w28 ⟨p7, n7, c7, rfl, hv, hb⟩; replace X1 := qx X1 hb; replace X2 := qx X2 hb; replace XQ := qx XQ hb; replace HN1 := wr HN1 hb; replace HD1 := wr HD1 hb; replace HN2 := wr HN2 hb; replace HD2 := wr HD2 hb; replace P1 := wr P1 hb; replace P2 := wr P2 hb; replace S1 := wr S1 hb; replace B := bb B hb; clear cc26a cc26b cc26c cc27a cc27b cc27c; have P3 := hid hv.value; clear hb hv; obtain ⟨cc29a, cc29b, cc29c⟩ := X1.out.cells; obtain ⟨cc30a, cc30b, cc30c⟩ := X2.out.cells; have mk18_3 := hid True.intro)
    | (have hm := mk18_1; clear hm; go_at_call 35; refine (raddz P1.out P2.out (by have := HK.out; omega) (by have := HK.out; omega)).mono ?_; rintro e w25 ⟨v, rfl, hv, hb⟩; obtain ⟨s6, p6, n6, c6, rfl⟩ := hv.opened; replace X1 := qx X1 hb; replace X2 := qx X2 hb; replace XQ := qx XQ hb; replace HN1 := wr HN1 hb; replace HD1 := wr HD1 hb; replace HN2 := wr HN2 hb; replace HD2 := wr HD2 hb; replace P1 := wr P1 hb; replace P2 := wr P2 hb; replace B := bb B hb; clear cc23a cc23b cc23c cc24a cc24b cc24c; have S1 := hid hv; clear hb hv; obtain ⟨cc26a, cc26b, cc26c⟩ := X1.out.cells; obtain ⟨cc27a, cc27b, cc27c⟩ := X2.out.cells; have mk18_2 := hid True.intro)
    | (have hm := mk18_0; clear hm; go_at_call 36; refine (rmulz HN2.out HD1.out (by have := HK.out; omega) (by have := HK.out; omega)).mono ?_; rintro e w22 ⟨v, rfl, hv, hb⟩; obtain ⟨s5, p5, n5, c5, rfl⟩ := hv.opened; replace X1 := qx X1 hb; replace X2 := qx X2 hb; replace XQ := qx XQ hb; replace HN1 := wr HN1 hb; replace HD1 := wr HD1 hb; replace HN2 := wr HN2 hb; replace HD2 := wr HD2 hb; replace P1 := wr P1 hb; replace B := bb B hb; clear cc20a cc20b cc20c cc21a cc21b cc21c; have P2 := hid hv; clear hb hv; obtain ⟨cc23a, cc23b, cc23c⟩ := X1.out.cells; obtain ⟨cc24a, cc24b, cc24c⟩ := X2.out.cells; have mk18_1 := hid True.intro)
    | (go_at_call 36; refine (rmulz HN1.out HD2.out (by have := HK.out; omega) (by have := HK.out; omega)).mono ?_; rintro e w19 ⟨v, rfl, hv, hb⟩; obtain ⟨s4, p4, n4, c4, rfl⟩ := hv.opened; replace X1 := qx X1 hb; replace X2 := qx X2 hb; replace XQ := qx XQ hb; replace HN1 := wr HN1 hb; replace HD1 := wr HD1 hb; replace HN2 := wr HN2 hb; replace HD2 := wr HD2 hb; replace B := bb B hb; clear cc10a cc10b cc10c cc11a cc11b cc11c cc12a cc12b cc12c cc14a cc14b cc14c cc15a cc15b cc15c cc16a cc16b cc16c cc17a cc17b cc17c; have P1 := hid hv; clear hb hv; obtain ⟨cc20a, cc20b, cc20c⟩ := X1.out.cells; obtain ⟨cc21a, cc21b, cc21c⟩ := X2.out.cells; have mk18_0 := hid True.intro))
  go_wp2_with fail
  refine bodyPost_ret (res_q rfl rfl XQ.out) rfl ?_
  exact ⟨_, rfl, (by rw [add_parts, ← Int.natCast_mul]; exact QR.mk2 HN9.out HD9.out), B.out⟩

set_option maxHeartbeats 4000000 in
theorem rneg {w : World} {v : Value} {q : Rat} {k : Nat} (h : QR w v q k)  (hk : k ≤ 4294967296) :
    Calls Tryz.prog 52 #[v] w fun e w' => ∃ v, e = .returned v ∧ QR w' v (-q) k ∧ Below w.heap.size w w' := by
  obtain ⟨s1a, p1a, n1a, c1a, p1b, n1b, c1b, rfl⟩ := h.opened
  obtain ⟨ht1, hu1⟩ := h.two
  have HK := hid hk
  have B := hid (Below.refl w.heap.size w)
  have HN1 := hid ht1
  have HD1 := hid hu1
  have hb1 := (Below.refl _ _).alloc (Nat.le_refl w.heap.size) (.cells #[.bool s1a, .slice p1a n1a c1a, .slice p1b n1b c1b] 30)
  have hx2 := Qbx.new w s1a p1a n1a c1a p1b n1b c1b
  replace HN1 := wr HN1 hb1
  replace HD1 := wr HD1 hb1
  replace B := bb B hb1
  have X1 := hid hx2
  have hs3 : (w.alloc (.cells #[.bool s1a, .slice p1a n1a c1a, .slice p1b n1b c1b] 30)).heap.size = w.heap.size + 1 := by simp
  clear hb1 hx2
  have hb4 := (Below.refl _ _).alloc (Nat.le_refl (w.alloc (.cells #[.bool s1a, .slice p1a n1a c1a, .slice p1b n1b c1b] 30)).heap.size) (.cells #[.bool false, .slice none 0 0, .slice none 0 0] 30)
  have hx5 := Qbx.new (w.alloc (.cells #[.bool s1a, .slice p1a n1a c1a, .slice p1b n1b c1b] 30)) false none 0 0 none 0 0
  rw [hs3] at hx5
  replace X1 := qx X1 hb4
  replace HN1 := wr HN1 hb4
  replace HD1 := wr HD1 hb4
  replace B := bb B hb4
  have XQ := hid hx5
  have hs6 : ((w.alloc (.cells #[.bool s1a, .slice p1a n1a c1a, .slice p1b n1b c1b] 30)).alloc (.cells #[.bool false, .slice none 0 0, .slice none 0 0] 30)).heap.size = w.heap.size + 1 + 1 := by simp [hs3]
  clear hb4 hx5
  clear hs6 h ht1 hu1 hk
  go_enter Tryz.func52, Tryz.ntmps52
  obtain ⟨cc7a, cc7b, cc7c⟩ := X1.out.cells
  obtain ⟨cc8a, cc8b, cc8c⟩ := XQ.out.cells
  go_wp2_with fail
  generalize hW : (w.alloc (.cells #[.bool s1a, .slice p1a n1a c1a, .slice p1b n1b c1b] 30)).alloc (.cells #[.bool false, .slice none 0 0, .slice none 0 0] 30) = W9 at *
  clear hW
  obtain ⟨cc10a, cc10b, cc10c⟩ := X1.out.cells
  replace X1 := hid X1.out.dr
  replace XQ := hid XQ.out.dr
  replace HN1 := hid HN1.out.drew
  replace HD1 := hid HD1.out.drew
  replace B := hid (Below.drew B.out)
  obtain ⟨cc11a, cc11b, cc11c⟩ := X1.out.cells
  go_region_held3 (fun w' => w'.cell? ⟨w.heap.size, 0, none⟩ = some (.bool s1a) ∧ w'.cell? ⟨w.heap.size, 1, none⟩ = some (.slice p1a n1a c1a) ∧ w'.cell? ⟨w.heap.size, 2, none⟩ = some (.slice p1b n1b c1b)) (go_keep) (first
    | (go_at_call 73; refine (rneg_whl HN1.out).mono ?_; rintro e w13 ⟨v, rfl, hv, hb⟩; obtain ⟨s4, p4, n4, c4, rfl⟩ := hv.opened; replace X1 := qx X1 hb; replace XQ := qx XQ hb; replace HN1 := wr HN1 hb; replace HD1 := wr HD1 hb; replace B := bb B hb; clear cc7a cc7b cc7c cc8a cc8b cc8c cc10a cc10b cc10c cc11a cc11b cc11c; have HM := hid hv; clear hb hv; obtain ⟨cc14a, cc14b, cc14c⟩ := X1.out.cells; obtain ⟨⟨cc15a, cc15b⟩, ⟨cc15c, cc15d⟩, cc15e, cc15f⟩ := XQ.out.stores; obtain ⟨r16a, r16b, r16c⟩ := XQ.out.last B.out (by omega) s4 p4 n4 c4 p1b n1b c1b; replace X1 := hid (((X1.out.other (g2 := w.heap.size + 1) (by omega) 0 (.bool s4)).other (g2 := w.heap.size + 1) (by omega) 1 (.slice p4 n4 c4)).other (g2 := w.heap.size + 1) (by omega) 2 (.slice p1b n1b c1b)); replace HN1 := hid (r16c HN1.out); replace HD1 := hid (r16c HD1.out); replace HM := hid (r16c HM.out); replace XQ := hid r16a; replace B := hid r16b; clear r16a r16b r16c; obtain ⟨cc17a, cc17b, cc17c⟩ := X1.out.cells; have mk12_0 := hid True.intro))
  go_wp2_with fail
  refine bodyPost_ret (res_q rfl rfl XQ.out) rfl ?_
  exact ⟨_, rfl, QR.mk2 (by rw [Rat.neg_num]; exact HM.out) (by rw [Rat.neg_den]; exact HD1.out), B.out⟩

set_option maxHeartbeats 4000000 in
theorem rsub {w : World} {v u : Value} {q r : Rat} {k : Nat} (h : QR w v q k) (h' : QR w u r k)  (hk : k ≤ 4294967296) :
    Calls Tryz.prog 31 #[v, u] w fun e w' => ∃ v, e = .returned v ∧ QR w' v (q - r) (k + k + 1) ∧ Below w.heap.size w w' := by
  obtain ⟨s1a, p1a, n1a, c1a, p1b, n1b, c1b, rfl⟩ := h.opened
  obtain ⟨ht1, hu1⟩ := h.two
  obtain ⟨s2a, p2a, n2a, c2a, p2b, n2b, c2b, rfl⟩ := h'.opened
  obtain ⟨ht2, hu2⟩ := h'.two
  have HK := hid hk
  have B := hid (Below.refl w.heap.size w)
  have HN1 := hid ht1
  have HD1 := hid hu1
  have HN2 := hid ht2
  have HD2 := hid hu2
  have hb1 := (Below.refl _ _).alloc (Nat.le_refl w.heap.size) (.cells #[.bool s1a, .slice p1a n1a c1a, .slice p1b n1b c1b] 30)
  have hx2 := Qbx.new w s1a p1a n1a c1a p1b n1b c1b
  replace HN1 := wr HN1 hb1
  replace HD1 := wr HD1 hb1
  replace HN2 := wr HN2 hb1
  replace HD2 := wr HD2 hb1
  replace B := bb B hb1
  have X1 := hid hx2
  have hs3 : (w.alloc (.cells #[.bool s1a, .slice p1a n1a c1a, .slice p1b n1b c1b] 30)).heap.size = w.heap.size + 1 := by simp
  clear hb1 hx2
  have hb4 := (Below.refl _ _).alloc (Nat.le_refl (w.alloc (.cells #[.bool s1a, .slice p1a n1a c1a, .slice p1b n1b c1b] 30)).heap.size) (.cells #[.bool s2a, .slice p2a n2a c2a, .slice p2b n2b c2b] 30)
  have hx5 := Qbx.new (w.alloc (.cells #[.bool s1a, .slice p1a n1a c1a, .slice p1b n1b c1b] 30)) s2a p2a n2a c2a p2b n2b c2b
  rw [hs3] at hx5
  replace X1 := qx X1 hb4
  replace HN1 := wr HN1 hb4
  replace HD1 := wr HD1 hb4
  replace HN2 := wr HN2 hb4
  replace HD2 := wr HD2 hb4
  replace B := bb B hb4
  have X2 := hid hx5
  have hs6 : ((w.alloc (.cells #[.bool s1a, .slice p1a n1a c1a, .slice p1b n1b c1b] 30)).alloc (.cells #[.bool s2a, .slice p2a n2a c2a, .slice p2b n2b c2b] 30)).heap.size = w.heap.size + 1 + 1 := by simp [hs3]
  clear hb4 hx5
  have hb7 := (Below.refl _ _).alloc (Nat.le_refl ((w.alloc (.cells #[.bool s1a, .slice p1a n1a c1a, .slice p1b n1b c1b] 30)).alloc (.cells #[.bool s2a, .slice p2a n2a c2a, .slice p2b n2b c2b] 30)).heap.size) (.cells #[.bool false, .slice none 0 0, .slice none 0 0] 30)
  have hx8 := Qbx.new ((w.alloc (.cells #[.bool s1a, .slice p1a n1a c1a, .slice p1b n1b c1b] 30)).alloc (.cells #[.bool s2a, .slice p2a n2a c2a, .slice p2b n2b c2b] 30)) false none 0 0 none 0 0
  rw [hs6] at hx8
  replace X1 := qx X1 hb7
  replace X2 := qx X2 hb7
  replace HN1 := wr HN1 hb7
  replace HD1 := wr HD1 hb7
  replace HN2 := wr HN2 hb7
  replace HD2 := wr HD2 hb7
  replace B := bb B hb7
  have XQ := hid hx8
  have hs9 : (((w.alloc (.cells #[.bool s1a, .slice p1a n1a c1a, .slice p1b n1b c1b] 30)).alloc (.cells #[.bool s2a, .slice p2a n2a c2a, .slice p2b n2b c2b] 30)).alloc (.cells #[.bool false, .slice none 0 0, .slice none 0 0] 30)).heap.size = w.heap.size + 1 + 1 + 1 := by simp [hs6]
  clear hb7 hx8
  clear hs9 h h' ht1 hu1 ht2 hu2 hk
  go_enter Tryz.func31, Tryz.ntmps31
  obtain ⟨cc10a, cc10b, cc10c⟩ := X1.out.cells
  obtain ⟨cc11a, cc11b, cc11c⟩ := X2.out.cells
  obtain ⟨cc12a, cc12b, cc12c⟩ := XQ.out.cells
  go_wp2_with fail
  generalize hW : ((w.alloc (.cells #[.bool s1a, .slice p1a n1a c1a, .slice p1b n1b c1b] 30)).alloc (.cells #[.bool s2a, .slice p2a n2a c2a, .slice p2b n2b c2b] 30)).alloc (.cells #[.bool false, .slice none 0 0, .slice none 0 0] 30) = W13 at *
  clear hW
  obtain ⟨cc14a, cc14b, cc14c⟩ := X1.out.cells
  obtain ⟨cc15a, cc15b, cc15c⟩ := X2.out.cells
  replace X1 := hid X1.out.dr
  replace X2 := hid X2.out.dr
  replace XQ := hid XQ.out.dr
  replace HN1 := hid HN1.out.drew
  replace HD1 := hid HD1.out.drew
  replace HN2 := hid HN2.out.drew
  replace HD2 := hid HD2.out.drew
  replace B := hid (Below.drew B.out)
  obtain ⟨cc16a, cc16b, cc16c⟩ := X1.out.cells
  obtain ⟨cc17a, cc17b, cc17c⟩ := X2.out.cells
  go_region_held3 (fun w' => w'.cell? ⟨w.heap.size, 0, none⟩ = some (.bool s1a) ∧ w'.cell? ⟨w.heap.size, 1, none⟩ = some (.slice p1a n1a c1a) ∧ w'.cell? ⟨w.heap.size, 2, none⟩ = some (.slice p1b n1b c1b) ∧ w'.cell? ⟨w.heap.size + 1, 0, none⟩ = some (.bool s2a) ∧ w'.cell? ⟨w.heap.size + 1, 1, none⟩ = some (.slice p2a n2a c2a) ∧ w'.cell? ⟨w.heap.size + 1, 2, none⟩ = some (.slice p2b n2b c2b)) (go_keep) (first
    | (have hm := mk18_0; clear hm; go_at_call 13; refine (radd (QR.mk2 HN1.out HD1.out) (QR.mk2 HN5.out HD5.out) (by have := HK.out; omega)).mono ?_; rintro e w22 ⟨v, rfl, hv, hb⟩; obtain ⟨s9a, p9a, n9a, c9a, p9b, n9b, c9b, rfl⟩ := hv.opened; obtain ⟨ht9, hu9⟩ := hv.two; replace X1 := qx X1 hb; replace X2 := qx X2 hb; replace XQ := qx XQ hb; replace HN1 := wr HN1 hb; replace HD1 := wr HD1 hb; replace HN2 := wr HN2 hb; replace HD2 := wr HD2 hb; replace HN5 := wr HN5 hb; replace HD5 := wr HD5 hb; replace B := bb B hb; clear cc20a cc20b cc20c cc21a cc21b cc21c; have HN9 := hid ht9; have HD9 := hid hu9; clear hb hv ht9 hu9; obtain ⟨cc23a, cc23b, cc23c⟩ := X1.out.cells; obtain ⟨cc24a, cc24b, cc24c⟩ := X2.out.cells; obtain ⟨⟨cc25a, cc25b⟩, ⟨cc25c, cc25d⟩, cc25e, cc25f⟩ := XQ.out.stores; obtain ⟨r26a, r26b, r26c⟩ := XQ.out.last B.out (by omega) s9a p9a n9a c9a p9b n9b c9b; replace X1 := hid (((X1.out.other (g2 := w.heap.size + 1 + 1) (by omega) 0 (.bool s9a)).other (g2 := w.heap.size + 1 + 1) (by omega) 1 (.slice p9a n9a c9a)).other (g2 := w.heap.size + 1 + 1) (by omega) 2 (.slice p9b n9b c9b)); replace X2 := hid (((X2.out.other (g2 := w.heap.size + 1 + 1) (by omega) 0 (.bool s9a)).other (g2 := w.heap.size + 1 + 1) (by omega) 1 (.slice p9a n9a c9a)).other (g2 := w.heap.size + 1 + 1) (by omega) 2 (.slice p9b n9b c9b)); replace HN1 := hid (r26c HN1.out); replace HD1 := hid (r26c HD1.out); replace HN2 := hid (r26c HN2.out); replace HD2 := hid (r26c HD2.out); replace HN5 := hid (r26c HN5.out); replace HD5 := hid (r26c HD5.out); replace HN9 := hid (r26c HN9.out); replace HD9 := hid (r26c HD9.out); replace XQ := hid r26a; replace B := hid r26b; clear r26a r26b r26c; obtain ⟨cc27a, cc27b, cc27c⟩ := X1.out.cells; obtain ⟨cc28a, cc28b, cc28c⟩ := X2.out.cells; have mk18_1 := hid True.intro)
    | (go_at_call 52; refine (rneg (QR.mk2 HN2.out HD2.out) (by have := HK.out; omega)).mono ?_; rintro e w19 ⟨v, rfl, hv, hb⟩; obtain ⟨s5a, p5a, n5a, c5a, p5b, n5b, c5b, rfl⟩ := hv.opened; obtain ⟨ht5, hu5⟩ := hv.two; replace X1 := qx X1 hb; replace X2 := qx X2 hb; replace XQ := qx XQ hb; replace HN1 := wr HN1 hb; replace HD1 := wr HD1 hb; replace HN2 := wr HN2 hb; replace HD2 := wr HD2 hb; replace B := bb B hb; clear cc10a cc10b cc10c cc11a cc11b cc11c cc12a cc12b cc12c cc14a cc14b cc14c cc15a cc15b cc15c cc16a cc16b cc16c cc17a cc17b cc17c; have HN5 := hid ht5; have HD5 := hid hu5; clear hb hv ht5 hu5; obtain ⟨cc20a, cc20b, cc20c⟩ := X1.out.cells; obtain ⟨cc21a, cc21b, cc21c⟩ := X2.out.cells; have mk18_0 := hid True.intro))
  go_wp2_with fail
  refine bodyPost_ret (res_q rfl rfl XQ.out) rfl ?_
  exact ⟨_, rfl, (by rw [Rat.sub_eq_add_neg]; exact QR.mk2 HN9.out HD9.out), B.out⟩

end Go.Proofs.YtkdeopikojgboaaGreatDoor

/-
  THE REFERENCE: Sign, Cmp, Floor.
-/
namespace Go.Proofs.YtkdeopikojgboaaGreatDoor
open Go.RowKit
open Num4
open Num (dg isNat dval)
set_option linter.unusedVariables false
set_option maxRecDepth 100000
set_option linter.unusedSimpArgs false

set_option maxHeartbeats 4000000 in
theorem rsgn_n {w : World} {v : Value} {q : Rat} {k : Nat} (h : QR w v q k) (hc : q.num < 0) (hk : k ≤ 4294967296) :
    Calls Tryz.prog 16 #[v] w fun e w' => e = .returned (.int .i64 q.num.sign) ∧ Below w.heap.size w w' := by
  obtain ⟨s1a, p1a, n1a, c1a, p1b, n1b, c1b, rfl⟩ := h.opened
  obtain ⟨ht1, hu1⟩ := h.two
  obtain ⟨hnn, hss⟩ := ht1.inside
  have e : s1a = true := by rw [hss]; exact decide_eq_true hc
  have hz : q.num.sign = -1 := Int.sign_eq_neg_one_of_neg hc
  rw [hz]
  subst e
  have B := hid (Below.refl w.heap.size w)
  have hb1 := (Below.refl _ _).alloc (Nat.le_refl w.heap.size) (.cells #[.bool true, .slice p1a n1a c1a, .slice p1b n1b c1b] 30)
  have hx2 := Qbx.new w true p1a n1a c1a p1b n1b c1b
  replace B := bb B hb1
  have X1 := hid hx2
  have hs3 : (w.alloc (.cells #[.bool true, .slice p1a n1a c1a, .slice p1b n1b c1b] 30)).heap.size = w.heap.size + 1 := by simp
  clear hb1 hx2
  clear hs3 h ht1 hu1 hnn hss hz hc
  go_enter Tryz.func16, Tryz.ntmps16
  obtain ⟨cc4a, cc4b, cc4c⟩ := X1.out.cells
  go_wp2_with fail
  go_ret
  exact ⟨rfl, B.out⟩

set_option maxHeartbeats 4000000 in
theorem rsgn_z {w : World} {v : Value} {q : Rat} {k : Nat} (h : QR w v q k) (hc : q.num = 0) (hk : k ≤ 4294967296) :
    Calls Tryz.prog 16 #[v] w fun e w' => e = .returned (.int .i64 q.num.sign) ∧ Below w.heap.size w w' := by
  obtain ⟨s1a, p1a, n1a, c1a, p1b, n1b, c1b, rfl⟩ := h.opened
  obtain ⟨ht1, hu1⟩ := h.two
  obtain ⟨hnn, hss⟩ := ht1.inside
  have e : s1a = false := by rw [hss]; exact decide_eq_false (by omega)
  have hz : q.num.sign = 0 := by rw [hc]; rfl
  have e0 : n1a = 0 := hnn.len.2 (by omega)
  subst e0
  rw [hz]
  subst e
  have B := hid (Below.refl w.heap.size w)
  have hb1 := (Below.refl _ _).alloc (Nat.le_refl w.heap.size) (.cells #[.bool false, .slice p1a 0 c1a, .slice p1b n1b c1b] 30)
  have hx2 := Qbx.new w false p1a 0 c1a p1b n1b c1b
  replace B := bb B hb1
  have X1 := hid hx2
  have hs3 : (w.alloc (.cells #[.bool false, .slice p1a 0 c1a, .slice p1b n1b c1b] 30)).heap.size = w.heap.size + 1 := by simp
  clear hb1 hx2
  clear hs3 h ht1 hu1 hnn hss hz hc
  go_enter Tryz.func16, Tryz.ntmps16
  obtain ⟨cc4a, cc4b, cc4c⟩ := X1.out.cells
  go_wp2_with fail
  go_ret
  exact ⟨rfl, B.out⟩

set_option maxHeartbeats 4000000 in
theorem rsgn_p {w : World} {v : Value} {q : Rat} {k : Nat} (h : QR w v q k) (hc : 0 < q.num) (hk : k ≤ 4294967296) :
    Calls Tryz.prog 16 #[v] w fun e w' => e = .returned (.int .i64 q.num.sign) ∧ Below w.heap.size w w' := by
  obtain ⟨s1a, p1a, n1a, c1a, p1b, n1b, c1b, rfl⟩ := h.opened
  obtain ⟨ht1, hu1⟩ := h.two
  obtain ⟨hnn, hss⟩ := ht1.inside
  have e : s1a = false := by rw [hss]; exact decide_eq_false (by omega)
  have hz : q.num.sign = 1 := by exact Int.sign_eq_one_of_pos hc
  have e0 : (0 : Int) < (n1a : Int) := by have := hnn.len; omega
  have e1 : ¬ ((n1a : Int) < 1) := by omega
  have e2 : (1 : Int) ≤ (n1a : Int) := by omega
  have e3 : min (1 : Int) (n1a : Int) = 1 := by omega
  rw [hz]
  subst e
  have B := hid (Below.refl w.heap.size w)
  have hb1 := (Below.refl _ _).alloc (Nat.le_refl w.heap.size) (.cells #[.bool false, .slice p1a n1a c1a, .slice p1b n1b c1b] 30)
  have hx2 := Qbx.new w false p1a n1a c1a p1b n1b c1b
  replace B := bb B hb1
  have X1 := hid hx2
  have hs3 : (w.alloc (.cells #[.bool false, .slice p1a n1a c1a, .slice p1b n1b c1b] 30)).heap.size = w.heap.size + 1 := by simp
  clear hb1 hx2
  clear hs3 h ht1 hu1 hnn hss hz hc
  go_enter Tryz.func16, Tryz.ntmps16
  obtain ⟨cc4a, cc4b, cc4c⟩ := X1.out.cells
  go_wp2_with fail
  go_ret
  exact ⟨rfl, B.out⟩

theorem rsgn {w : World} {v : Value} {q : Rat} {k : Nat} (h : QR w v q k) (hk : k ≤ 4294967296) :
    Calls Tryz.prog 16 #[v] w fun e w' => e = .returned (.int .i64 q.num.sign) ∧ Below w.heap.size w w' := by
  rcases (show q.num < 0 ∨ q.num = 0 ∨ 0 < q.num by omega) with hc | hc | hc
  · exact rsgn_n h hc hk
  · exact rsgn_z h hc hk
  · exact rsgn_p h hc hk

set_option maxHeartbeats 4000000 in
theorem rcmp {w : World} {v u : Value} {q r : Rat} {k : Nat} (h : QR w v q k) (h' : QR w u r k)  (hk : k ≤ 1073741824) :
    Calls Tryz.prog 11 #[v, u] w fun e w' => e = .returned (.int .i64 (q - r).num.sign) ∧ Below w.heap.size w w' := by
  obtain ⟨s1a, p1a, n1a, c1a, p1b, n1b, c1b, rfl⟩ := h.opened
  obtain ⟨ht1, hu1⟩ := h.two
  obtain ⟨s2a, p2a, n2a, c2a, p2b, n2b, c2b, rfl⟩ := h'.opened
  obtain ⟨ht2, hu2⟩ := h'.two
  have HK := hid hk
  have B := hid (Below.refl w.heap.size w)
  have HN1 := hid ht1
  have HD1 := hid hu1
  have HN2 := hid ht2
  have HD2 := hid hu2
  have hb1 := (Below.refl _ _).alloc (Nat.le_refl w.heap.size) (.cells #[.bool s1a, .slice p1a n1a c1a, .slice p1b n1b c1b] 30)
  have hx2 := Qbx.new w s1a p1a n1a c1a p1b n1b c1b
  replace HN1 := wr HN1 hb1
  replace HD1 := wr HD1 hb1
  replace HN2 := wr HN2 hb1
  replace HD2 := wr HD2 hb1
  replace B := bb B hb1
  have X1 := hid hx2
  have hs3 : (w.alloc (.cells #[.bool s1a, .slice p1a n1a c1a, .slice p1b n1b c1b] 30)).heap.size = w.heap.size + 1 := by simp
  clear hb1 hx2
  have hb4 := (Below.refl _ _).alloc (Nat.le_refl (w.alloc (.cells #[.bool s1a, .slice p1a n1a c1a, .slice p1b n1b c1b] 30)).heap.size) (.cells #[.bool s2a, .slice p2a n2a c2a, .slice p2b n2b c2b] 30)
  have hx5 := Qbx.new (w.alloc (.cells #[.bool s1a, .slice p1a n1a c1a, .slice p1b n1b c1b] 30)) s2a p2a n2a c2a p2b n2b c2b
  rw [hs3] at hx5
  replace X1 := qx X1 hb4
  replace HN1 := wr HN1 hb4
  replace HD1 := wr HD1 hb4
  replace HN2 := wr HN2 hb4
  replace HD2 := wr HD2 hb4
  replace B := bb B hb4
  have X2 := hid hx5
  have hs6 : ((w.alloc (.cells #[.bool s1a, .slice p1a n1a c1a, .slice p1b n1b c1b] 30)).alloc (.cells #[.bool s2a, .slice p2a n2a c2a, .slice p2b n2b c2b] 30)).heap.size = w.heap.size + 1 + 1 := by simp [hs3]
  clear hb4 hx5
  clear hs6 h h' ht1 hu1 ht2 hu2 hk
  go_enter Tryz.func11, Tryz.ntmps11
  obtain ⟨cc7a, cc7b, cc7c⟩ := X1.out.cells
  obtain ⟨cc8a, cc8b, cc8c⟩ := X2.out.cells
  go_wp2_with fail
  generalize hW : (w.alloc (.cells #[.bool s1a, .slice p1a n1a c1a, .slice p1b n1b c1b] 30)).alloc (.cells #[.bool s2a, .slice p2a n2a c2a, .slice p2b n2b c2b] 30) = W9 at *
  clear hW
  refine (rsub (QR.mk2 HN1.out HD1.out) (QR.mk2 HN2.out HD2.out) (by have := HK.out; omega)).mono ?_
  rintro e w10 ⟨v, rfl, hv, hb⟩
  obtain ⟨s9a, p9a, n9a, c9a, p9b, n9b, c9b, rfl⟩ := hv.opened
  obtain ⟨ht9, hu9⟩ := hv.two
  replace X1 := qx X1 hb
  replace X2 := qx X2 hb
  replace B := bb B hb
  clear cc7a cc7b cc7c cc8a cc8b cc8c
  have HN9 := hid ht9
  have HD9 := hid hu9
  clear hb hv ht9 hu9
  obtain ⟨cc11a, cc11b, cc11c⟩ := X1.out.cells
  obtain ⟨cc12a, cc12b, cc12c⟩ := X2.out.cells
  go_wp2_with fail
  refine (rsgn (QR.mk2 HN9.out HD9.out) (by have := HK.out; omega)).mono ?_
  rintro e w13 ⟨rfl, hb⟩
  replace B := bb B hb
  clear cc11a cc11b cc11c cc12a cc12b cc12c
  clear hb 
  go_wp2_with fail
  go_ret
  exact ⟨rfl, B.out⟩

end Go.Proofs.YtkdeopikojgboaaGreatDoor

/-
  THE REFERENCE: naturals once more; boxes that a region makes.
-/
namespace Go.Proofs.YtkdeopikojgboaaGreatDoor
open Go.RowKit
open Num4
open Num (dg isNat dval)
set_option linter.unusedVariables false
set_option maxRecDepth 100000
set_option linter.unusedSimpArgs false

theorem QR.on {w w' : World} {v : Value} {q : Rat} {k : Nat} (h : QR w v q k) (hb : Below w.heap.size w w') : QR w' v q k := by
  obtain ⟨s, p, n, c, p', n', c', h1, h2, h3⟩ := h
  exact ⟨s, p, n, c, p', n', c', h1, h2.on hb, h3.on hb⟩
theorem NatR.nil (w : World) (k : Nat) : NatR w (.slice none 0 0) 0 k := ⟨[], LimR.nil w, .inl rfl, Nat.zero_le _, rfl⟩
theorem NatR.fit {w : World} {v : Value} {n k : Nat} (m : Nat) (h : NatR w v n k) (hn : n < B ^ m) : NatR w v n m := by
  obtain ⟨xs, h1, h2, h3, rfl⟩ := h
  exact ⟨xs, h1, h2, length_le_of_val h2 m hn, rfl⟩
theorem raddn {w : World} {v u : Value} {a b k : Nat} (h : NatR w v a k) (h' : NatR w u b k) (hk : k ≤ 549755813888) :
    Calls Tryz.prog 47 #[v, u] w fun e w' => ∃ v, e = .returned v ∧ NatR w' v (a + b) (k + 1) ∧ Below w.heap.size w w' := by
  obtain ⟨xs, h1, h2, h3, rfl⟩ := h
  obtain ⟨ys, h1', h2', h3', rfl⟩ := h'
  refine (radd_lim h1 h1' (by omega) (by omega)).mono ?_
  rintro e w' ⟨v, zs, rfl, hz, ht, hv, hb⟩
  refine ⟨v, rfl, ⟨zs, hz, ht, ?_, hv⟩, hb⟩
  refine length_le_of_val ht (k + 1) ?_
  have ex := val_lt h1.1
  have ey := val_lt h1'.1
  have lx : B ^ xs.length ≤ B ^ k := Nat.pow_le_pow_right B_pos h3
  have ly : B ^ ys.length ≤ B ^ k := Nat.pow_le_pow_right B_pos h3'
  rw [hv, Nat.pow_succ]
  have hB : B = 10000 := rfl
  generalize B ^ k = m at *
  generalize B ^ xs.length = m1 at *
  generalize B ^ ys.length = m2 at *
  rw [hB]
  omega
/-- A whole number's box that the region has made. -/
def NewZ (w0 w : World) (u : Value) (b : Bool) (v : Value) : Prop := ∃ g, u = .pointer (some ⟨g, 0, none⟩) ∧ w0.heap.size ≤ g ∧ (b = false → BoxR w g false (.slice none 0 0)) ∧ (b = true → ∃ s p n c, v = .agg #[.bool s, .slice p n c] ∧ BoxR w g s (.slice p n c))
theorem NewZ.free {w0 w : World} {u v v' : Value} {b : Bool} (h : NewZ w0 w u b v) (hb : b = false) : NewZ w0 w u b v' := by
  obtain ⟨g, h1, h2, h3, h4⟩ := h
  exact ⟨g, h1, h2, h3, fun e => absurd (hb.symm.trans e) (by decide)⟩
theorem NewZ.on {w0 w w' : World} {u v : Value} {b : Bool} (h : NewZ w0 w u b v) (hb : Below w.heap.size w w') : NewZ w0 w' u b v := by
  obtain ⟨g, h1, h2, h3, h4⟩ := h
  refine ⟨g, h1, h2, fun e => (h3 e).below hb (h3 e).lt, fun e => ?_⟩
  obtain ⟨s, p, n, c, e1, e2⟩ := h4 e
  exact ⟨s, p, n, c, e1, e2.below hb e2.lt⟩
theorem NatR.on' {w w' : World} {v : Value} {n k : Nat} (h : NatR w v n k) (hb : Below w.heap.size w w') : NatR w' v n k := by
  obtain ⟨xs, h1, h2, h3, h4⟩ := h
  exact ⟨xs, h1.below hb (Nat.le_refl _), h2, h3, h4⟩
theorem NatR.mono' {w : World} {v : Value} {n k m : Nat} (h : NatR w v n k) (hk : k ≤ m) : NatR w v n m := by
  obtain ⟨xs, h1, h2, h3, h4⟩ := h
  exact ⟨xs, h1, h2, by omega, h4⟩
theorem NatR.moved {w w' : World} {v : Value} {n k : Nat} (h : NatR w v n k) (hm : ∀ v z k, WhlR w v z k → WhlR w' v z k) : NatR w' v n k := by
  obtain ⟨xs, h1, h2, h3, rfl⟩ := h
  obtain ⟨hn, _⟩ := (hm _ _ _ (show WhlR w (.agg #[.bool false, v]) ((val xs : Nat) : Int) k from ⟨false, v, xs, rfl, h1, h2, h3, (fun e => by cases e), rfl⟩)).inside
  simpa using hn
theorem QR.moved {w w' : World} {v : Value} {q : Rat} {k : Nat} (h : QR w v q k) (hm : ∀ v z k, WhlR w v z k → WhlR w' v z k) : QR w' v q k := by
  obtain ⟨s, p, n, c, p', n', c', h1, h2, h3⟩ := h
  exact ⟨s, p, n, c, p', n', c', h1, hm _ _ _ h2, hm _ _ _ h3⟩
/-- A fraction's box that the region has made. -/
def NewQ (w0 w : World) (u : Value) (b : Bool) (v : Value) : Prop := ∃ g, u = .pointer (some ⟨g, 0, none⟩) ∧ w0.heap.size ≤ g ∧ (b = false → Qbx w g false (.slice none 0 0) (.slice none 0 0)) ∧ (b = true → ∃ s p n c p' n' c', v = .agg #[.bool s, .slice p n c, .slice p' n' c'] ∧ Qbx w g s (.slice p n c) (.slice p' n' c'))
theorem NewQ.free {w0 w : World} {u v v' : Value} {b : Bool} (h : NewQ w0 w u b v) (hb : b = false) : NewQ w0 w u b v' := by
  obtain ⟨g, h1, h2, h3, h4⟩ := h
  exact ⟨g, h1, h2, h3, fun e => absurd (hb.symm.trans e) (by decide)⟩
theorem NewQ.on {w0 w w' : World} {u v : Value} {b : Bool} (h : NewQ w0 w u b v) (hb : Below w.heap.size w w') : NewQ w0 w' u b v := by
  obtain ⟨g, h1, h2, h3, h4⟩ := h
  refine ⟨g, h1, h2, fun e => (h3 e).below hb (h3 e).lt, fun e => ?_⟩
  obtain ⟨s, p, n, c, p', n', c', e1, e2⟩ := h4 e
  exact ⟨s, p, n, c, p', n', c', e1, e2.below hb e2.lt⟩
theorem NewQ.lt {w0 w : World} {u v : Value} {b : Bool} (h : NewQ w0 w u b v) : ∃ g, u = .pointer (some ⟨g, 0, none⟩) ∧ g < w.heap.size := by
  obtain ⟨g, h1, h2, h3, h4⟩ := h
  refine ⟨g, h1, ?_⟩
  cases b with
  | false => exact (h3 rfl).lt
  | true => obtain ⟨_, _, _, _, _, _, _, _, h⟩ := h4 rfl; exact h.lt

end Go.Proofs.YtkdeopikojgboaaGreatDoor

/-
  AN INTERVAL IN MEMORY: the reference's numbers stay.
-/
namespace Go.Proofs.YtkdeopikojgboaaGreatDoor
open Go.RowKit
open Num4
open Num (dg isNat dval)
set_option linter.unusedVariables false
set_option maxRecDepth 100000
set_option linter.unusedSimpArgs false

theorem LimR.vbx {w : World} {v : Value} {xs : List Nat} {g : Nat} {a b : ByteArray} (h : LimR w v xs) (hx : Vbx w g a b) (i : Nat) (u : Value) : LimR (w.setCell ⟨g, i, none⟩ u) v xs := by
  have hg : w.heap[g]? = some (.cells #[.string a, .string b] 23 (0, 0)) := hx
  obtain ⟨h1, p, c, h2, h3, h4, h5⟩ := h
  refine ⟨h1, p, c, h2, h3, h4, ?_⟩
  rcases h5 with h5 | ⟨bk, off, h6, h7, h8⟩
  · exact .inl h5
  · refine .inr ⟨bk, off, h6, by simpa [World.setCell] using h7, fun i hi => ?_⟩
    have h9 := h8 i hi
    by_cases hb : bk = g
    · subst hb
      simp only [World.cell?, hg] at h9
      have hh : ∀ k : Nat, (#[Value.string a, Value.string b] : Array Value)[k]? ≠ some (.int .i64 (dg xs i)) := by
        intro k
        rcases k with _ | _ | k <;> simp
      exact absurd h9 (hh _)
    · rw [← h9]
      exact World.cell?_of_block (Below.heap_setCell _ _ _ _ (by exact hb))
theorem WhlR.vbx {w : World} {v : Value} {z : Int} {k g : Nat} {a b : ByteArray} (h : WhlR w v z k) (hx : Vbx w g a b) (i : Nat) (u : Value) : WhlR (w.setCell ⟨g, i, none⟩ u) v z k := by
  obtain ⟨s', sv', xs, h1, h2, h3⟩ := h
  exact ⟨s', sv', xs, h1, h2.vbx hx i u, h3⟩
theorem Vbx.lastR {w0 w : World} {g K : Nat} {a b : ByteArray} (h : Vbx w g a b) (hb : Below K w0 w) (hg : K ≤ g) (x y : ByteArray) :
    Vbx ((w.setCell ⟨g, 0, none⟩ (.string x)).setCell ⟨g, 1, none⟩ (.string y)) g x y ∧ Below K w0 ((w.setCell ⟨g, 0, none⟩ (.string x)).setCell ⟨g, 1, none⟩ (.string y)) ∧
    (∀ {v z k}, WhlR w v z k → WhlR ((w.setCell ⟨g, 0, none⟩ (.string x)).setCell ⟨g, 1, none⟩ (.string y)) v z k) := by
  have h1 := h.set0 x
  refine ⟨h1.set1 y, (hb.setCell (p := ⟨g, 0, none⟩) hg _).setCell (p := ⟨g, 1, none⟩) hg _, fun hv => ?_⟩
  exact (hv.vbx h 0 _).vbx h1 1 _

end Go.Proofs.YtkdeopikojgboaaGreatDoor
