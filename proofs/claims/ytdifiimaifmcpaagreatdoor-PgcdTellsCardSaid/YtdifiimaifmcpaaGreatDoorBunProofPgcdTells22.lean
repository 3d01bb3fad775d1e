import Derived.Test.YtdifiimaifmcpaaGreatDoorBunProofPgcdTells18
import Derived.Test.YtdifiimaifmcpaaGreatDoorBunProofPgcdTells19
import Derived.Deep.RegionHeld3
import Derived.Test.YtdifiimaifmcpaaGreatDoorBunProofPgcdTells7
import Derived.Test.YtdifiimaifmcpaaGreatDoorBunProofPgcdTells13
import Derived.Test.YtdifiimaifmcpaaGreatDoorBunProofPgcdTells17
import Derived.Test.YtdifiimaifmcpaaGreatDoorBunProofPgcdTells1
import Derived.Test.YtdifiimaifmcpaaGreatDoorBunProofPgcdTells5
/-
  THE REFERENCE's FRACTIONS IN MEMORY; naturals as values; GcdN.
-/
namespace Go.Proofs.YtdifiimaifmcpaaGreatDoor
open Go.RowKit
open Num4
open Num (dg isNat dval)
set_option linter.unusedVariables false
set_option maxRecDepth 100000
set_option linter.unusedSimpArgs false

theorem BoxR.both {w : World} {g : Nat} {s : Bool} {sv : Value} (h : BoxR w g s sv) : w.cell? ⟨g, 0, none⟩ = some (.bool s) ∧ w.cell? ⟨g, 1, none⟩ = some sv := ⟨h.cell0, h.cell1⟩
theorem BoxR.dr {w : World} {g : Nat} {s : Bool} {sv : Value} (h : BoxR w g s sv) : BoxR w.drew g s sv := h

/-- A block of three cells: a fraction of the reference's. -/
def Qbx (w : World) (g : Nat) (s : Bool) (sv dv : Value) : Prop := w.heap[g]? = some (.cells #[.bool s, sv, dv] 45 (0, 0)) ∧ (∃ p n c, sv = .slice p n c) ∧ ∃ p n c, dv = .slice p n c
theorem Qbx.lt {w : World} {g : Nat} {s : Bool} {sv dv : Value} (h : Qbx w g s sv dv) : g < w.heap.size := lt_of_block h.1
theorem Qbx.cells {w : World} {g : Nat} {s : Bool} {sv dv : Value} (h : Qbx w g s sv dv) : w.cell? ⟨g, 0, none⟩ = some (.bool s) ∧ w.cell? ⟨g, 1, none⟩ = some sv ∧ w.cell? ⟨g, 2, none⟩ = some dv := by
  have := h.1
  refine ⟨?_, ?_, ?_⟩ <;> simp [World.cell?, this]
theorem Qbx.free {w : World} {g : Nat} {s : Bool} {sv dv : Value} (h : Qbx w g s sv dv) (i : Nat) : w.frozen? ⟨g, i, none⟩ = false := by
  have := h.1
  simp [World.frozen?, this]
theorem Qbx.below {w w' : World} {g K : Nat} {s : Bool} {sv dv : Value} (h : Qbx w g s sv dv) (hb : Below K w w') (hK : g < K) : Qbx w' g s sv dv := ⟨(hb.block g hK).trans h.1, h.2⟩
theorem Qbx.dr {w : World} {g : Nat} {s : Bool} {sv dv : Value} (h : Qbx w g s sv dv) : Qbx w.drew g s sv dv := h
theorem Qbx.new (w : World) (s : Bool) (p : Option Addr) (n c : Nat) (p' : Option Addr) (n' c' : Nat) : Qbx (w.alloc (.cells #[.bool s, .slice p n c, .slice p' n' c'] 45)) w.heap.size s (.slice p n c) (.slice p' n' c') := by
  refine ⟨?_, ⟨_, _, _, rfl⟩, ⟨_, _, _, rfl⟩⟩
  show (w.heap.push _)[w.heap.size]? = _
  simp
theorem Qbx.made (w : World) (s : Bool) (p : Option Addr) (n c : Nat) (p' : Option Addr) (n' c' : Nat) : Below w.heap.size w (w.alloc (.cells #[.bool s, .slice p n c, .slice p' n' c'] 45)) ∧ Qbx (w.alloc (.cells #[.bool s, .slice p n c, .slice p' n' c'] 45)) w.heap.size s (.slice p n c) (.slice p' n' c') ∧ (w.alloc (.cells #[.bool s, .slice p n c, .slice p' n' c'] 45)).heap.size = w.heap.size + 1 := ⟨(Below.refl _ _).alloc (Nat.le_refl _) _, Qbx.new w s p n c p' n' c', by simp⟩
theorem Qbx.kept {w w' : World} {g : Nat} {s : Bool} {sv dv : Value} (h : Qbx w g s sv dv) (e : w'.heap[g]? = w.heap[g]?) : Qbx w' g s sv dv := ⟨e.trans h.1, h.2⟩
theorem Qbx.other {w : World} {g g2 : Nat} {s : Bool} {sv dv : Value} (h : Qbx w g s sv dv) (hne : g ≠ g2) (i : Nat) (v : Value) : Qbx (w.setCell ⟨g2, i, none⟩ v) g s sv dv := by
  refine ⟨?_, h.2⟩
  rw [Below.heap_setCell _ _ _ _ (by exact hne)]; exact h.1
theorem Qbx.set0 {w : World} {g : Nat} {s : Bool} {sv dv : Value} (h : Qbx w g s sv dv) (x : Bool) : Qbx (w.setCell ⟨g, 0, none⟩ (.bool x)) g x sv dv := by
  refine ⟨?_, h.2⟩
  show (w.setCell ⟨g, 0, none⟩ (.bool x)).heap[g]? = _
  simp only [World.setCell, Array.getElem?_modify, h.1]
  simp
theorem Qbx.set1 {w : World} {g : Nat} {s : Bool} {sv dv : Value} (h : Qbx w g s sv dv) (p : Option Addr) (n c : Nat) : Qbx (w.setCell ⟨g, 1, none⟩ (.slice p n c)) g s (.slice p n c) dv := by
  refine ⟨?_, ⟨_, _, _, rfl⟩, h.2.2⟩
  show (w.setCell ⟨g, 1, none⟩ (.slice p n c)).heap[g]? = _
  simp only [World.setCell, Array.getElem?_modify, h.1]
  simp
theorem Qbx.set2 {w : World} {g : Nat} {s : Bool} {sv dv : Value} (h : Qbx w g s sv dv) (p : Option Addr) (n c : Nat) : Qbx (w.setCell ⟨g, 2, none⟩ (.slice p n c)) g s sv (.slice p n c) := by
  refine ⟨?_, h.2.1, ⟨_, _, _, rfl⟩⟩
  show (w.setCell ⟨g, 2, none⟩ (.slice p n c)).heap[g]? = _
  simp only [World.setCell, Array.getElem?_modify, h.1]
  simp
theorem Qbx.stores {w : World} {g : Nat} {s : Bool} {sv dv : Value} (h : Qbx w g s sv dv) :
    (w.cell? ⟨g, 0, none⟩ = some (.bool s) ∧ w.frozen? ⟨g, 0, none⟩ = false) ∧
    ((∀ x, (w.setCell ⟨g, 0, none⟩ (.bool x)).cell? ⟨g, 1, none⟩ = some sv) ∧ (∀ x, (w.setCell ⟨g, 0, none⟩ (.bool x)).frozen? ⟨g, 1, none⟩ = false)) ∧
    (∀ x p n c, ((w.setCell ⟨g, 0, none⟩ (.bool x)).setCell ⟨g, 1, none⟩ (.slice p n c)).cell? ⟨g, 2, none⟩ = some dv) ∧ (∀ x p n c, ((w.setCell ⟨g, 0, none⟩ (.bool x)).setCell ⟨g, 1, none⟩ (.slice p n c)).frozen? ⟨g, 2, none⟩ = false) :=
  ⟨⟨h.cells.1, h.free 0⟩, ⟨fun x => (h.set0 x).cells.2.1, fun x => (h.set0 x).free 1⟩, fun x p n c => ((h.set0 x).set1 p n c).cells.2.2, fun x p n c => ((h.set0 x).set1 p n c).free 2⟩
theorem LimR.qbx {w : World} {v : Value} {xs : List Nat} {g : Nat} {s : Bool} {sv dv : Value} (h : LimR w v xs) (hx : Qbx w g s sv dv) (i : Nat) (u : Value) : LimR (w.setCell ⟨g, i, none⟩ u) v xs := by
  obtain ⟨h1, p, c, h2, h3, h4, h5⟩ := h
  refine ⟨h1, p, c, h2, h3, h4, ?_⟩
  rcases h5 with h5 | ⟨b, off, h6, h7, h8⟩
  · exact .inl h5
  · refine .inr ⟨b, off, h6, by simpa [World.setCell] using h7, fun i hi => ?_⟩
    have h9 := h8 i hi
    by_cases hb : b = g
    · subst hb
      obtain ⟨hx1, ⟨p', n', c', hx2⟩, p2, n2, c2, hx3⟩ := hx
      subst hx2 hx3
      simp only [World.cell?, hx1] at h9
      have hh : ∀ k : Nat, (#[Value.bool s, Value.slice p' n' c', Value.slice p2 n2 c2] : Array Value)[k]? ≠ some (.int .i64 (dg xs i)) := by
        intro k
        rcases k with _ | _ | _ | k <;> simp
      exact absurd h9 (hh _)
    · rw [← h9]
      exact World.cell?_of_block (Below.heap_setCell _ _ _ _ (by exact hb))
theorem WhlR.qbx {w : World} {v : Value} {z : Int} {k g : Nat} {s : Bool} {sv dv : Value} (h : WhlR w v z k) (hx : Qbx w g s sv dv) (i : Nat) (u : Value) : WhlR (w.setCell ⟨g, i, none⟩ u) v z k := by
  obtain ⟨s', sv', xs, h1, h2, h3⟩ := h
  exact ⟨s', sv', xs, h1, h2.qbx hx i u, h3⟩
theorem Qbx.last {w0 w : World} {g K : Nat} {s : Bool} {sv dv : Value} (h : Qbx w g s sv dv) (hb : Below K w0 w) (hg : K ≤ g) (a : Bool) (p : Option Addr) (n c : Nat) (p' : Option Addr) (n' c' : Nat) :
    Qbx (((w.setCell ⟨g, 0, none⟩ (.bool a)).setCell ⟨g, 1, none⟩ (.slice p n c)).setCell ⟨g, 2, none⟩ (.slice p' n' c')) g a (.slice p n c) (.slice p' n' c') ∧
    Below K w0 (((w.setCell ⟨g, 0, none⟩ (.bool a)).setCell ⟨g, 1, none⟩ (.slice p n c)).setCell ⟨g, 2, none⟩ (.slice p' n' c')) ∧
    (∀ {v z k}, WhlR w v z k → WhlR (((w.setCell ⟨g, 0, none⟩ (.bool a)).setCell ⟨g, 1, none⟩ (.slice p n c)).setCell ⟨g, 2, none⟩ (.slice p' n' c')) v z k) := by
  have h1 := h.set0 a
  have h2 := h1.set1 p n c
  refine ⟨h2.set2 _ _ _, ((hb.setCell (p := ⟨g, 0, none⟩) hg _).setCell (p := ⟨g, 1, none⟩) hg _).setCell (p := ⟨g, 2, none⟩) hg _, fun hv => ?_⟩
  exact ((hv.qbx h 0 _).qbx h1 1 _).qbx h2 2 _
theorem load_q {w : World} {g : Nat} {s : Bool} {sv dv : Value} (h2 : Qbx w g s sv dv) : (loadVar 45 ⟨g, 0, none⟩).run Tryz.prog w = .ok (.agg #[.bool s, sv, dv]) w := by
  obtain ⟨h0, h1, h3⟩ := h2.cells
  simp [go_sem, h0, h1, h3]
theorem res_q {fn : Func} {t : Tmp} {tmps : Array Value} {w : World} {g : Nat} {s : Bool} {sv dv : Value} (hf : fn.results = #[.cell t 45]) (ht : tmps.getD t undef = .pointer (some ⟨g, 0, none⟩)) (h2 : Qbx w g s sv dv) :
    (results fn tmps).run Tryz.prog w = .ok (.agg #[.bool s, sv, dv]) w := by
  have h1 := at_addr (P := Tryz.prog) (w := w) ht
  have h3 := load_q h2
  simp only [Array.getD_eq_getD_getElem?] at h1
  simp [results, hf, Sem.run_bind, h1, h3]
theorem res_q_tmp {fn : Func} {t t' : Tmp} {tmps : Array Value} {w : World} {g : Nat} {s : Bool} {sv dv u : Value} (hf : fn.results = #[.cell t 45, .tmp t']) (ht : tmps.getD t undef = .pointer (some ⟨g, 0, none⟩)) (hu : tmps.getD t' undef = u) (h2 : Qbx w g s sv dv) :
    (results fn tmps).run Tryz.prog w = .ok (.tuple #[.agg #[.bool s, sv, dv], u]) w := by
  have h1 := at_addr (P := Tryz.prog) (w := w) ht
  have h3 := load_q h2
  simp only [Array.getD_eq_getD_getElem?] at h1 hu
  simp [results, hf, Sem.run_bind, h1, h3, hu]
/-- Facts that are carried past a call. -/
theorem br {w w' : World} {g : Nat} {s : Bool} {sv : Value} (h : Hid (BoxR w g s sv)) (hb : Below w.heap.size w w') : Hid (BoxR w' g s sv) := hid (h.out.below hb h.out.lt)
theorem qx {w w' : World} {g : Nat} {s : Bool} {sv dv : Value} (h : Hid (Qbx w g s sv dv)) (hb : Below w.heap.size w w') : Hid (Qbx w' g s sv dv) := hid (h.out.below hb h.out.lt)
theorem wr {w w' : World} {v : Value} {z : Int} {k : Nat} (h : Hid (WhlR w v z k)) (hb : Below w.heap.size w w') : Hid (WhlR w' v z k) := hid (h.out.on hb)

/-- A natural as a slice. -/
def NatR (w : World) (v : Value) (n k : Nat) : Prop := ∃ xs, LimR w v xs ∧ Trim xs ∧ xs.length ≤ k ∧ val xs = n
theorem WhlR.inside {w : World} {s : Bool} {v : Value} {z : Int} {k : Nat} (h : WhlR w (.agg #[.bool s, v]) z k) : NatR w v z.natAbs k ∧ s = decide (z < 0) := by
  obtain ⟨s', sv, xs, he, hl, ht, hk, hs, hz⟩ := h.neg
  simp only [Value.agg.injEq, Array.mk.injEq, List.cons.injEq, Value.bool.injEq, and_true] at he
  obtain ⟨rfl, rfl⟩ := he
  exact ⟨⟨xs, hl, ht, hk, hz⟩, hs⟩
theorem NatR.value {w : World} {v : Value} {n k : Nat} (h : NatR w v n k) : WhlR w (.agg #[.bool false, v]) n k := by
  obtain ⟨xs, hl, ht, hk, hv⟩ := h
  exact ⟨false, v, xs, rfl, hl, ht, hk, fun e => by simp at e, by rw [hv]; rfl⟩
theorem WhlR.abs {w : World} {s : Bool} {v : Value} {z : Int} {k : Nat} (h : WhlR w (.agg #[.bool s, v]) z k) : WhlR w (.agg #[.bool false, v]) z.natAbs k := h.inside.1.value
theorem WhlR.nat {w : World} {s : Bool} {v : Value} {n k : Nat} (h : WhlR w (.agg #[.bool s, v]) (n : Int) k) : NatR w v n k := by
  have := h.inside.1
  simpa using this
theorem NatR.slice {w : World} {v : Value} {n k : Nat} (h : NatR w v n k) : ∃ p m c, v = .slice p m c := by
  obtain ⟨xs, hl, _⟩ := h
  exact hl.slice
theorem NatR.len {w : World} {p : Option Addr} {m c n k : Nat} (h : NatR w (.slice p m c) n k) : m = 0 ↔ n = 0 := by
  obtain ⟨xs, hl, ht, hk, hv⟩ := h
  obtain ⟨p', c', e, _⟩ := limR_parts hl
  obtain ⟨_, rfl, _⟩ := Value.slice.inj e
  have := ht.zero_iff
  rw [hv] at this
  rw [this]
  exact List.length_eq_zero_iff

/-- MulN, DivN, CmpN, TextN of naturals as values. -/
theorem rmuln {w : World} {v u : Value} {a b k l : Nat} (h : NatR w v a k) (h' : NatR w u b l) (hk : k ≤ 549755813888) (hl : l ≤ 549755813888) :
    Calls Tryz.prog 58 #[v, u] w fun e w' => ∃ p n c, e = .returned (.slice p n c) ∧ NatR w' (.slice p n c) (a * b) (k + l) ∧ Below w.heap.size w w' := by
  obtain ⟨xs, h1, h2, h3, rfl⟩ := h
  obtain ⟨ys, g1, g2, g3, rfl⟩ := h'
  refine (rmul_lim h1 g1 (by omega) (by omega)).mono ?_
  rintro e w' ⟨v', zs, rfl, hz, tz, vz, hb⟩
  obtain ⟨p, n, c, rfl⟩ := hz.slice
  refine ⟨p, n, c, rfl, ⟨zs, hz, tz, length_le_of_val tz _ ?_, vz⟩, hb⟩
  rw [vz, Nat.pow_add]
  exact Nat.mul_lt_mul'' (few4 h1.1 h3) (few4 g1.1 g3)
theorem rdivn {w : World} {v u : Value} {a b k l : Nat} (h : NatR w v a k) (h' : NatR w u b l) (hb0 : 0 < b) (hk : k ≤ 549755813888) (hl : l ≤ 549755813888) :
    Calls Tryz.prog 86 #[v, u] w fun e w' => ∃ p n c p' n' c', e = .returned (.tuple #[.slice p n c, .slice p' n' c']) ∧ NatR w' (.slice p n c) (a / b) k ∧ NatR w' (.slice p' n' c') (a % b) l ∧ Below w.heap.size w w' := by
  obtain ⟨xs, h1, h2, h3, rfl⟩ := h
  obtain ⟨ys, g1, g2, g3, rfl⟩ := h'
  refine (rdiv_lim h1 g1 (by omega) (by omega) g2 hb0).mono ?_
  rintro e w' ⟨v', u', qs, zs, rfl, hq, hz, tq, tz, ex, lz, hb⟩
  obtain ⟨p, n, c, rfl⟩ := hq.slice
  obtain ⟨p', n', c', rfl⟩ := hz.slice
  have e1 : val xs / val ys = val qs := by
    rw [ex, Nat.mul_comm, Nat.mul_add_div hb0, Nat.div_eq_of_lt lz, Nat.add_zero]
  have e2 : val xs % val ys = val zs := by
    rw [ex, Nat.mul_comm, Nat.mul_add_mod, Nat.mod_eq_of_lt lz]
  refine ⟨p, n, c, p', n', c', rfl, ⟨qs, hq, tq, length_le_of_val tq _ ?_, e1.symm⟩, ⟨zs, hz, tz, length_le_of_val tz _ ?_, e2.symm⟩, hb⟩
  · rw [← e1]; exact Nat.lt_of_le_of_lt (Nat.div_le_self _ _) (few4 h1.1 h3)
  · exact Nat.lt_trans lz (few4 g1.1 g3)
theorem rcmpn {w : World} {v u : Value} {a b k l : Nat} (h : NatR w v a k) (h' : NatR w u b l) (hk : k ≤ 549755813888) (hl : l ≤ 549755813888) :
    Calls Tryz.prog 32 #[v, u] w fun e w' => e = .returned (.int .i64 (cmpv a b)) ∧ Below w.heap.size w w' := by
  obtain ⟨xs, h1, h2, h3, rfl⟩ := h
  obtain ⟨ys, g1, g2, g3, rfl⟩ := h'
  refine (cmp_lim h1 g1 (by omega) (by omega)).mono ?_
  rintro e w' ⟨rfl, rfl⟩
  exact ⟨rfl, Below.refl _ _⟩

theorem NatR.below {w w' : World} {v : Value} {n k : Nat} (h : NatR w v n k) (hb : Below w.heap.size w w') : NatR w' v n k := by
  obtain ⟨xs, h1, h2⟩ := h
  exact ⟨xs, h1.below hb (Nat.le_refl _), h2⟩

set_option maxHeartbeats 1000000 in
theorem rgcdn {w : World} {v u : Value} {a b K : Nat} (h1 : NatR w v a K) (h2 : NatR w u b K) (hK : K ≤ 549755813888) :
    Calls Tryz.prog 52 #[v, u] w fun e w' => ∃ p n c, e = .returned (.slice p n c) ∧ NatR w' (.slice p n c) (Nat.gcd a b) K ∧ Below w.heap.size w w' := by
  obtain ⟨p, n, c, rfl⟩ := h1.slice
  obtain ⟨p', n', c', rfl⟩ := h2.slice
  have H1 := hid h1
  have H2 := hid h2
  clear h1 h2
  go_enter Tryz.func52, Tryz.ntmps52
  go_wp2_with fail
  go_loopg [0, 1] b (fun g x y wr => ∃ (p : Option Addr) (n c : Nat) (q : Option Addr) (m d : Nat) (x0 y0 : Nat), x = .slice p n c ∧ y = .slice q m d ∧ Hid (NatR wr (.slice p n c) x0 K) ∧ Hid (NatR wr (.slice q m d) y0 K) ∧ Hid (y0 = g) ∧ Hid (Nat.gcd x0 y0 = Nat.gcd a b) ∧ Hid (Below w.heap.size w wr))
  case atStart => exact ⟨p, n, c, p', n', c', a, b, rfl, rfl, H1, H2, hid rfl, hid rfl, hid (Below.refl _ _)⟩
  case round =>
    obtain ⟨p, n, c, q, m, d, x0, y0, rfl, rfl, hA, hB, hy, hG, hbw⟩ := hrel
    by_cases h0 : m = 0
    · have hg0 := hB.out.len.1 h0
      have hG2 := hG.out
      rw [hg0, Nat.gcd_zero_right] at hG2
      have HG2 := hid hG2
      subst h0
      clear hG2 hg0
      go_wp2_with fail
      go_ret
      exact ⟨p, n, c, rfl, by rw [← HG2.out]; exact hA.out, hbw.out⟩
    · have hg0 : 0 < y0 := Nat.pos_of_ne_zero (fun e => h0 (hB.out.len.2 e))
      have HD := hid (rdivn hA.out hB.out hg0 hK hK)
      have HG0 := hid hg0
      have hpos : (0 : Int) < (m : Int) := by omega
      clear hg0 h0
      go_wp2_with fail
      refine HD.out.mono ?_
      rintro e w2 ⟨p1, n1, c1, p2, n2, c2, rfl, hq, hr, hb2⟩
      have HR := hid hr
      have HB2 := hid (hbw.out.trans (hb2.mono hbw.out.size))
      have HB' := hid (hB.out.below hb2)
      clear hq hr hb2 HD
      go_wp2_with fail
      go_roundg (x0 % y0)
      case rel =>
        refine ⟨q, m, d, p2, n2, c2, y0, x0 % y0, rfl, rfl, HB', HR, hid rfl, hid ?_, HB2⟩
        rw [Nat.gcd_comm, ← Nat.gcd_rec, Nat.gcd_comm]; exact hG.out
      case measure => rw [← hy.out]; exact Nat.mod_lt _ HG0.out

end Go.Proofs.YtdifiimaifmcpaaGreatDoor

/-
  THE REFERENCE: Over.
-/
namespace Go.Proofs.YtdifiimaifmcpaaGreatDoor
open Go.RowKit
open Num4
open Num (dg isNat dval)
set_option linter.unusedVariables false
set_option maxRecDepth 100000
set_option linter.unusedSimpArgs false

/-- A value reads as a fraction of the reference's, both parts of k limbs or fewer. -/
def QR (w : World) (v : Value) (q : Rat) (k : Nat) : Prop := ∃ s p n c p' n' c', v = .agg #[.bool s, .slice p n c, .slice p' n' c'] ∧ WhlR w (.agg #[.bool s, .slice p n c]) q.num k ∧ WhlR w (.agg #[.bool false, .slice p' n' c']) (q.den : Int) k
theorem QR.opened {w : World} {v : Value} {q : Rat} {k : Nat} (h : QR w v q k) : ∃ s p n c p' n' c', v = .agg #[.bool s, .slice p n c, .slice p' n' c'] := by
  obtain ⟨s, p, n, c, p', n', c', h1, _⟩ := h
  exact ⟨s, p, n, c, p', n', c', h1⟩
theorem QR.two {w : World} {q : Rat} {k : Nat} {s p n c p' n' c'} (h : QR w (.agg #[.bool s, .slice p n c, .slice p' n' c']) q k) : WhlR w (.agg #[.bool s, .slice p n c]) q.num k ∧ WhlR w (.agg #[.bool false, .slice p' n' c']) (q.den : Int) k := by
  obtain ⟨s1, p1, n1, c1, p2, n2, c2, h1, h2⟩ := h
  simp only [Value.agg.injEq, Array.mk.injEq, List.cons.injEq, Value.bool.injEq, Value.slice.injEq, and_true] at h1
  obtain ⟨rfl, ⟨rfl, rfl, rfl⟩, rfl, rfl, rfl⟩ := h1
  exact h2
theorem QR.mk2 {w : World} {q : Rat} {k : Nat} {s p n c p' n' c'} (h1 : WhlR w (.agg #[.bool s, .slice p n c]) q.num k) (h2 : WhlR w (.agg #[.bool false, .slice p' n' c']) (q.den : Int) k) : QR w (.agg #[.bool s, .slice p n c, .slice p' n' c']) q k :=
  ⟨_, _, _, _, _, _, _, rfl, h1, h2⟩
theorem QR.mono {w : World} {v : Value} {q : Rat} {k m : Nat} (h : QR w v q k) (hk : k ≤ m) : QR w v q m := by
  obtain ⟨s, p, n, c, p', n', c', h1, h2, h3⟩ := h
  exact ⟨s, p, n, c, p', n', c', h1, h2.mono hk, h3.mono hk⟩
theorem over_num (z : Int) (d : Nat) (hd : 0 < d) : zof (decide (z < 0)) (z.natAbs / Nat.gcd z.natAbs d) = (Rat.divInt z d).num ∧ ((d / Nat.gcd z.natAbs d : Nat) : Int) = (Rat.divInt z d).den := by
  obtain ⟨e1, e2⟩ := divInt_parts z d (by omega)
  have hg : (Int.gcd z d : Int) = (Nat.gcd z.natAbs d : Nat) := by simp [Int.gcd]
  rw [if_neg (by omega), hg] at e1 e2
  rw [e1, e2]
  refine ⟨?_, by rw [Int.natCast_ediv]⟩
  have hdv : (Nat.gcd z.natAbs d : Nat) ∣ z.natAbs := Nat.gcd_dvd_left _ _
  by_cases h : z < 0
  · have ez : z = -(z.natAbs : Int) := by omega
    rw [decide_eq_true h]
    show -((z.natAbs / Nat.gcd z.natAbs d : Nat) : Int) = _
    rw [Int.natCast_ediv]
    conv => rhs; rw [ez]
    rw [Int.neg_ediv_of_dvd (Int.natCast_dvd_natCast.2 (by simpa using hdv))]
    simp
  · have ez : z = (z.natAbs : Int) := by omega
    rw [decide_eq_false h]
    show ((z.natAbs / Nat.gcd z.natAbs d : Nat) : Int) = _
    rw [Int.natCast_ediv]
    conv => rhs; rw [ez]
    simp
theorem rsign {w : World} {v : Value} {n k : Nat} (s : Bool) (h : NatR w v n k) :
    Calls Tryz.prog 59 #[.bool s, v] w fun e w' => ∃ v, e = .returned v ∧ WhlR w' v (zof s n) k ∧ Below w.heap.size w w' := by
  obtain ⟨xs, h1, h2, h3, rfl⟩ := h
  exact rsigned_lim s h1 h2 h3

set_option maxHeartbeats 1000000 in
theorem rover {w : World} {v u : Value} {z : Int} {d k : Nat} (h : WhlR w v z k) (h' : NatR w u d k) (hd : 0 < d) (hk : k ≤ 549755813888) :
    Calls Tryz.prog 56 #[v, u] w fun e w' => ∃ v, e = .returned v ∧ QR w' v (Rat.divInt z d) k ∧ Below w.heap.size w w' := by
  obtain ⟨s1, p1, n1, c1, rfl⟩ := h.opened
  obtain ⟨p2, n2, c2, rfl⟩ := h'.slice
  have HK := hid hk
  have HSG := hid h.inside.2
  have HO := hid (over_num z d hd)
  have HG0 := hid (Nat.gcd_pos_of_pos_right z.natAbs hd)
  have B := hid (Below.refl w.heap.size w)
  have HA := hid h.abs
  have HD := hid h'.value
  obtain ⟨hb1, hx2, hs3⟩ := BoxR.made w s1 p1 n1 c1
  replace HA := wr HA hb1
  replace HD := wr HD hb1
  replace B := bb B hb1
  have X2 := hid hx2
  clear hb1 hx2
  obtain ⟨hb4, hx5, hs6⟩ := Qbx.made (w.alloc (.cells #[.bool s1, .slice p1 n1 c1] 43)) false none 0 0 none 0 0
  rw [hs3] at hx5 hs6
  replace X2 := br X2 hb4
  replace HA := wr HA hb4
  replace HD := wr HD hb4
  replace B := bb B hb4
  have XQ := hid hx5
  clear hb4 hx5
  clear hs6 h h' hk hd
  go_enter Tryz.func56, Tryz.ntmps56
  have cc7 := X2.out.both
  have cc8 := XQ.out.cells
  go_wp2_with fail
  generalize hW : (w.alloc (.cells #[.bool s1, .slice p1 n1 c1] 43)).alloc (.cells #[.bool false, .slice none 0 0, .slice none 0 0] 45) = W9 at *
  clear hW
  refine (rgcdn HA.out.nat HD.out.nat HK.out).mono ?_
  rintro e w10 ⟨p3, n3, c3, rfl, hv, hb⟩
  replace X2 := br X2 hb
  replace XQ := qx XQ hb
  replace HA := wr HA hb
  replace HD := wr HD hb
  replace B := bb B hb
  clear cc7 cc8
  have HG := hid hv.value
  clear hb hv
  have cc11 := X2.out.both
  have cc12 := XQ.out.cells
  go_wp2_with fail
  refine (rdivn HA.out.nat HG.out.nat HG0.out HK.out HK.out).mono ?_
  rintro e w13 ⟨p4, n4, c4, p5, n5, c5, rfl, hv, hu, hb⟩
  replace X2 := br X2 hb
  replace XQ := qx XQ hb
  replace HA := wr HA hb
  replace HD := wr HD hb
  replace HG := wr HG hb
  replace B := bb B hb
  clear cc11 cc12
  have HQ := hid hv.value
  clear hb hv hu
  have cc14 := X2.out.both
  have cc15 := XQ.out.cells
  go_wp2_with fail
  refine (rdivn HD.out.nat HG.out.nat HG0.out HK.out HK.out).mono ?_
  rintro e w16 ⟨p6, n6, c6, p7, n7, c7, rfl, hv, hu, hb⟩
  replace X2 := br X2 hb
  replace XQ := qx XQ hb
  replace HA := wr HA hb
  replace HD := wr HD hb
  replace HG := wr HG hb
  replace HQ := wr HQ hb
  replace B := bb B hb
  clear cc14 cc15
  have HE := hid hv.value
  clear hb hv hu
  have cc17 := X2.out.both
  have cc18 := XQ.out.cells
  go_wp2_with fail
  refine (rsign s1 HQ.out.nat).mono ?_
  rintro e w19 ⟨v, rfl, hv, hb⟩
  obtain ⟨s8, p8, n8, c8, rfl⟩ := hv.opened
  replace X2 := br X2 hb
  replace XQ := qx XQ hb
  replace HA := wr HA hb
  replace HD := wr HD hb
  replace HG := wr HG hb
  replace HQ := wr HQ hb
  replace HE := wr HE hb
  replace B := bb B hb
  clear cc17 cc18
  have HS := hid hv
  clear hb hv
  have cc20 := X2.out.both
  have cc21 := XQ.out.cells
  have cc22 := XQ.out.stores
  obtain ⟨r23a, r23b, r23c⟩ := XQ.out.last B.out (by omega) s8 p8 n8 c8 p6 n6 c6
  replace X2 := hid (X2.out.kept (heap3 (g := w.heap.size + 1) (by omega) (.bool s8) (.slice p8 n8 c8) (.slice p6 n6 c6)))
  replace HA := hid (r23c HA.out)
  replace HD := hid (r23c HD.out)
  replace HG := hid (r23c HG.out)
  replace HQ := hid (r23c HQ.out)
  replace HE := hid (r23c HE.out)
  replace HS := hid (r23c HS.out)
  replace XQ := hid r23a
  replace B := hid r23b
  clear r23a r23b r23c
  go_wp2_with fail
  refine bodyPost_ret (res_q rfl rfl XQ.out) rfl ?_
  obtain ⟨e1, e2⟩ := HO.out
  have t1 := HS.out
  rw [HSG.out, e1] at t1
  have t2 := HE.out
  rw [e2] at t2
  exact ⟨_, rfl, QR.mk2 t1 t2, B.out⟩

end Go.Proofs.YtdifiimaifmcpaaGreatDoor

/-
  THE REFERENCE: Text.
-/
namespace Go.Proofs.YtdifiimaifmcpaaGreatDoor
open Go.RowKit
open Num4
open Num (dg isNat dval)
set_option linter.unusedVariables false
set_option maxRecDepth 100000
set_option linter.unusedSimpArgs false

theorem natR_one (w : World) : NatR (w.alloc (.cells #[.int .i64 1] 3)) (.slice (some ⟨w.heap.size, 0, none⟩) 1 1) 1 1 := ⟨[1], limR_one rfl, .inr (by decide), Nat.le_refl _, by decide⟩
theorem cmpv_one {d : Nat} (h : 0 < d) : cmpv d 1 = if d = 1 then 0 else 1 := by
  unfold cmpv
  split
  · omega
  · split
    · rw [if_neg (by omega)]
    · rw [if_pos (by omega)]

theorem size_ztxt_k4 {z : Int} {k : Nat} (h : z.natAbs < B ^ k) : (ztxt z).size ≤ 10 * k + 2 := by
  refine size_ztxt_le (k := 10 * k + 1) (Nat.lt_of_lt_of_le h ?_) (by omega)
  refine Nat.le_trans (Nat.pow_le_pow_left (show B ≤ 10 ^ 10 by decide) _) ?_
  rw [← Nat.pow_mul]
  exact Nat.pow_le_pow_right (by omega) (by omega)

set_option maxHeartbeats 4000000 in
theorem rqtext_one {w : World} {v : Value} {q : Rat} {k : Nat} (h : QR w v q k) (hl : q.den = 1) (hk : k ≤ 4294967296) :
    Calls Tryz.prog 18 #[v] w fun e w' => e = .returned (.string (qtxt q)) ∧ Below w.heap.size w w' := by
  obtain ⟨s1a, p1a, n1a, c1a, p1b, n1b, c1b, rfl⟩ := h.opened
  obtain ⟨ht1, hu1⟩ := h.two
  have HK := hid hk
  have hc := cmpv_one q.den_pos
  rw [if_pos hl] at hc
  have HC := hid hc
  have HL := hid hl
  have B := hid (Below.refl w.heap.size w)
  have HN1 := hid ht1
  have HD1 := hid hu1
  obtain ⟨hb1, hx2, hs3⟩ := Qbx.made w s1a p1a n1a c1a p1b n1b c1b
  replace HN1 := wr HN1 hb1
  replace HD1 := wr HD1 hb1
  replace B := bb B hb1
  have X1 := hid hx2
  clear hb1 hx2
  clear hs3 h ht1 hu1 hk hl hc
  go_enter Tryz.func18, Tryz.ntmps18
  have cc4 := X1.out.cells
  go_wp2_with fail
  have h1o := (natR_one (w.alloc (.cells #[.bool s1a, .slice p1a n1a c1a, .slice p1b n1b c1b] 45))).value
  rw [show (w.alloc (.cells #[.bool s1a, .slice p1a n1a c1a, .slice p1b n1b c1b] 45)).heap.size = w.heap.size + 1 by simp] at h1o
  have hb5 := (Below.refl _ _).alloc (Nat.le_refl (w.alloc (.cells #[.bool s1a, .slice p1a n1a c1a, .slice p1b n1b c1b] 45)).heap.size) (.cells #[.int .i64 1] 3)
  replace X1 := qx X1 hb5
  replace HN1 := wr HN1 hb5
  replace HD1 := wr HD1 hb5
  replace B := bb B hb5
  have H1O := hid h1o
  clear h1o hb5
  generalize hW : (w.alloc (.cells #[.bool s1a, .slice p1a n1a c1a, .slice p1b n1b c1b] 45)).alloc (.cells #[.int .i64 1] 3) = W6 at *
  clear hW
  have HM := rcmpn HD1.out.nat H1O.out.nat (by have := HK.out; omega) (by omega)
  rw [HC.out] at HM
  refine (HM).mono ?_
  rintro e w7 ⟨rfl, hb⟩
  replace X1 := qx X1 hb
  replace HN1 := wr HN1 hb
  replace B := bb B hb
  clear cc4
  clear hb HM
  have cc8 := X1.out.cells
  go_wp2_with fail
  refine (rtextz HN1.out (by have := HK.out; omega)).mono ?_
  rintro e w9 ⟨rfl, hb⟩
  replace B := bb B hb
  clear cc8
  clear hb 
  go_wp2_with fail
  go_ret
  exact ⟨by rw [qtxt, if_pos HL.out]; rfl, B.out⟩

set_option maxHeartbeats 4000000 in
theorem rqtext_two {w : World} {v : Value} {q : Rat} {k : Nat} (h : QR w v q k) (hl : ¬ q.den = 1) (hk : k ≤ 4294967296) :
    Calls Tryz.prog 18 #[v] w fun e w' => e = .returned (.string (qtxt q)) ∧ Below w.heap.size w w' := by
  obtain ⟨s1a, p1a, n1a, c1a, p1b, n1b, c1b, rfl⟩ := h.opened
  obtain ⟨ht1, hu1⟩ := h.two
  have HK := hid hk
  have hc := cmpv_one q.den_pos
  rw [if_neg hl] at hc
  have HC := hid hc
  have HL := hid hl
  have hs1 := size_ztxt_k4 ht1.lt
  have hs3 := size_ztxt_k4 hu1.lt
  have hj1 : ¬ 9223372036854775807 < (ztxt q.num).size + 1 := by omega
  have hj2 : ¬ 9223372036854775807 < (ztxt q.num).size + 1 + (ztxt (q.den : Int)).size := by omega
  clear hs1 hs3
  have B := hid (Below.refl w.heap.size w)
  have HN1 := hid ht1
  have HD1 := hid hu1
  obtain ⟨hb1, hx2, hs3⟩ := Qbx.made w s1a p1a n1a c1a p1b n1b c1b
  replace HN1 := wr HN1 hb1
  replace HD1 := wr HD1 hb1
  replace B := bb B hb1
  have X1 := hid hx2
  clear hb1 hx2
  clear hs3 h ht1 hu1 hk hl hc
  go_enter Tryz.func18, Tryz.ntmps18
  have cc4 := X1.out.cells
  go_wp2_with fail
  have h1o := (natR_one (w.alloc (.cells #[.bool s1a, .slice p1a n1a c1a, .slice p1b n1b c1b] 45))).value
  rw [show (w.alloc (.cells #[.bool s1a, .slice p1a n1a c1a, .slice p1b n1b c1b] 45)).heap.size = w.heap.size + 1 by simp] at h1o
  have hb5 := (Below.refl _ _).alloc (Nat.le_refl (w.alloc (.cells #[.bool s1a, .slice p1a n1a c1a, .slice p1b n1b c1b] 45)).heap.size) (.cells #[.int .i64 1] 3)
  replace X1 := qx X1 hb5
  replace HN1 := wr HN1 hb5
  replace HD1 := wr HD1 hb5
  replace B := bb B hb5
  have H1O := hid h1o
  clear h1o hb5
  generalize hW : (w.alloc (.cells #[.bool s1a, .slice p1a n1a c1a, .slice p1b n1b c1b] 45)).alloc (.cells #[.int .i64 1] 3) = W6 at *
  clear hW
  have HM := rcmpn HD1.out.nat H1O.out.nat (by have := HK.out; omega) (by omega)
  rw [HC.out] at HM
  refine (HM).mono ?_
  rintro e w7 ⟨rfl, hb⟩
  replace X1 := qx X1 hb
  replace HN1 := wr HN1 hb
  replace HD1 := wr HD1 hb
  replace H1O := wr H1O hb
  replace B := bb B hb
  clear cc4
  clear hb HM
  have cc8 := X1.out.cells
  go_wp2_with fail
  have cc9 := X1.out.cells
  replace X1 := hid X1.out.dr
  replace HN1 := hid HN1.out.drew
  replace HD1 := hid HD1.out.drew
  replace H1O := hid H1O.out.drew
  replace B := hid (Below.drew B.out)
  have cc10 := X1.out.cells
  go_region_held3 (fun w' => w'.cell? ⟨w.heap.size, 0, none⟩ = some (.bool s1a) ∧ w'.cell? ⟨w.heap.size, 1, none⟩ = some (.slice p1a n1a c1a) ∧ w'.cell? ⟨w.heap.size, 2, none⟩ = some (.slice p1b n1b c1b)) (go_keep) (first
    | (have hm := mk11_0; clear hm; go_at_call 34; refine (rtextn HD1.out (by have := HK.out; omega)).mono ?_; rintro e w14 ⟨rfl, hb⟩; replace X1 := qx X1 hb; replace B := bb B hb; clear cc13; clear hb ; have cc15 := X1.out.cells; have mk11_1 := hid True.intro)
    | (go_at_call 33; refine (rtextz HN1.out (by have := HK.out; omega)).mono ?_; rintro e w12 ⟨rfl, hb⟩; replace X1 := qx X1 hb; replace HD1 := wr HD1 hb; replace B := bb B hb; clear cc8 cc9 cc10; clear hb ; have cc13 := X1.out.cells; have mk11_0 := hid True.intro))
  go_wp2_with fail
  go_ret
  exact ⟨by rw [qtxt, if_neg HL.out]; rfl, B.out⟩

theorem rqtext {w : World} {v : Value} {q : Rat} {k : Nat} (h : QR w v q k) (hk : k ≤ 4294967296) :
    Calls Tryz.prog 18 #[v] w fun e w' => e = .returned (.string (qtxt q)) ∧ Below w.heap.size w w' := by
  by_cases hl : q.den = 1
  · exact rqtext_one h hl hk
  · exact rqtext_two h hl hk

end Go.Proofs.YtdifiimaifmcpaaGreatDoor

/-
  THE REFERENCE: RatOf: where it parts.
-/
namespace Go.Proofs.YtdifiimaifmcpaaGreatDoor
open Go.RowKit
open Num4
open Num (dg isNat dval)
set_option linter.unusedVariables false
set_option maxRecDepth 100000
set_option linter.unusedSimpArgs false

theorem cutB_le (l : List UInt8) : (cutB l).length ≤ l.length := by
  rcases index_cut l with ⟨_, _, e⟩ | ⟨_, _, h, _⟩
  · rw [e]; exact Nat.le_refl _
  · omega
/-- The place of the first slash, or the end. -/
theorem cut_at (l : List UInt8) (i : Nat) (hi : i < (cutB l).length) : ∃ b, l[i]? = some b ∧ b ≠ 47 := by
  induction l generalizing i with
  | nil => simp [cutB] at hi
  | cons c l ih =>
    by_cases hc : c = 47
    · subst hc; simp [cutB] at hi
    · have h1 : (c != 47) = true := by simpa using hc
      have e2 : cutB (c :: l) = c :: cutB l := by simp [cutB, List.takeWhile_cons, h1]
      cases i with
      | zero => exact ⟨c, rfl, hc⟩
      | succ i =>
        rw [e2, List.length_cons] at hi
        simpa using ih i (by omega)
theorem cut_end (l : List UInt8) (h : hasSl l = true) : l[(cutB l).length]? = some 47 := by
  have h1 : l[(cutB l).length]? = (cutB l ++ 47 :: cutA l)[(cutB l).length]? := congrArg (fun m : List UInt8 => m[(cutB l).length]?) (slash_split h)
  rw [h1]
  simp
theorem u8_47 {b : UInt8} (h : (b.toNat : Int) = 47) : b = 47 := (u8_eq (n := 47) (by omega)).2 h
theorem cut_byte {s : ByteArray} {N k : Nat} (hN : (cutB s.data.toList).length = N) (hk : k < N) (hs : k < s.size) : ¬ (s[k].toNat : Int) = 47 := by
  obtain ⟨b, h1, h2⟩ := cut_at s.data.toList k (by rw [hN]; exact hk)
  rw [toList_at s k hs] at h1
  intro e
  exact h2 (by rw [← Option.some.inj h1]; exact u8_47 e)
theorem cut_front {s : ByteArray} {N : Nat} (hN : (cutB s.data.toList).length = N) : (s.extract 0 N).data.toList = cutB s.data.toList := by
  rw [extract_front, ← hN]
  rcases index_cut s.data.toList with ⟨_, _, e⟩ | ⟨_, _, _, e, _⟩
  · rw [e, List.take_of_length_le (Nat.le_refl _)]
  · exact e.symm
theorem cut_none {s : ByteArray} {N : Nat} (hN : (cutB s.data.toList).length = N) (h : hasSl s.data.toList = false) : N = s.size := by
  rcases index_cut s.data.toList with ⟨_, _, e⟩ | ⟨e, _⟩
  · rw [← hN, e]; rfl
  · rw [h] at e; cases e
theorem cut_some {s : ByteArray} {N : Nat} (hN : (cutB s.data.toList).length = N) (h : hasSl s.data.toList = true) : ∃ hl : N < s.size, (s[N].toNat : Int) = 47 ∧ (s.extract (N + 1) s.size).data.toList = cutA s.data.toList := by
  rcases index_cut s.data.toList with ⟨e, _⟩ | ⟨_, _, e, _, e2⟩
  · rw [h] at e; cases e
  · have hl : N < s.size := by rw [hN] at e; exact e
    refine ⟨hl, ?_, ?_⟩
    · have := cut_end s.data.toList h
      rw [hN, toList_at s N hl] at this
      rw [Option.some.inj this]; rfl
    · rw [extract_end, ← hN]; exact e2.symm
theorem natof_r {s : ByteArray} {l : List UInt8} (he : s.data.toList = l) (hs : s.size ≤ 100) (hn : isNat l = true) (w : World) :
    Calls Tryz.prog 51 #[.string s] w fun e w' => ∃ p n c, e = .returned (.tuple #[.slice p n c, .int .i64 0]) ∧ NatR w' (.slice p n c) (dval l) 100 ∧ Below w.heap.size w w' := by
  subst he
  refine (natof_num (s := s) ⟨hs, hn⟩ w).mono ?_
  rintro e w' ⟨v, xs, rfl, h1, h2, h3, h4, hb⟩
  obtain ⟨p, n, c, rfl⟩ := h1.slice
  exact ⟨p, n, c, rfl, ⟨xs, h1, h2, h4, h3⟩, hb⟩

theorem whlOf_nat {l : List UInt8} (h : isNat l = true) : whlOf l = (dval l : Int) := by
  rw [whlOf, head_dig (Num.isNat_all h)]; rfl
theorem isWhl_nat {l : List UInt8} (h : isNat l = true) : isWhl l = true := by
  rw [isWhl, head_dig (Num.isNat_all h)]; simpa using h

set_option maxHeartbeats 1000000 in
theorem ratof_long (s : ByteArray) (w : World) (h : 100 < s.size) (hs : s.size ≤ maxLen) :
    Calls Tryz.prog 30 #[.string s] w fun e w' => ∃ s p n c p' n' c', e = .returned (.tuple #[.agg #[.bool s, .slice p n c, .slice p' n' c'], .int .i64 4]) ∧ Below w.heap.size w w' := by
  have h' : (100 : Int) < (s.size : Int) := by omega
  unfold maxLen at hs
  have B := hid (Below.refl w.heap.size w)
  obtain ⟨hb1, hx2, hs3⟩ := Qbx.made w false none 0 0 none 0 0
  replace B := bb B hb1
  have XQ := hid hx2
  clear hb1 hx2
  clear hs3 h
  go_enter Tryz.func30, Tryz.ntmps30
  go_wp2_with fail
  refine bodyPost_ret (res_q_tmp rfl rfl rfl XQ.out) rfl ?_
  exact ⟨_, _, _, _, _, _, _, rfl, B.out⟩

end Go.Proofs.YtdifiimaifmcpaaGreatDoor

/-
  THE REFERENCE: RatOf, wrong fronts and wholes.
-/
namespace Go.Proofs.YtdifiimaifmcpaaGreatDoor
open Go.RowKit
open Num4
open Num (dg isNat dval)
set_option linter.unusedVariables false
set_option maxRecDepth 100000
set_option linter.unusedSimpArgs false

set_option maxHeartbeats 4000000 in
theorem ratofA (s : ByteArray) (w : World) (hs : s.size ≤ 100) (hsl0 : hasSl s.data.toList = false) (hA0 : isWhl (cutB s.data.toList) = false) :
    Calls Tryz.prog 30 #[.string s] w fun e w' => ∃ s p n c p' n' c', e = .returned (.tuple #[.agg #[.bool s, .slice p n c, .slice p' n' c'], .int .i64 1]) ∧ Below w.heap.size w w' := by
  have Hhsl0 := hid hsl0
  have HhA0 := hid hA0
  have HS := hid hs
  obtain ⟨N, hN⟩ : ∃ N, (cutB s.data.toList).length = N := ⟨_, rfl⟩
  have hNle : N ≤ s.size := by rw [← hN]; exact cutB_le _
  have HN := hid hN
  have HF := hid (cut_front hN)
  have hend := cut_none hN hsl0
  have HE := hid (show cutB s.data.toList = s.data.toList by rcases index_cut s.data.toList with ⟨_, _, e⟩ | ⟨e, _⟩; exact e; rw [hsl0] at e; cases e)
  have hsz : (s.size : Int) ≤ 100 := by omega
  have B := hid (Below.refl w.heap.size w)
  obtain ⟨hb1, hx2, hs3⟩ := Qbx.made w false none 0 0 none 0 0
  replace B := bb B hb1
  have XQ := hid hx2
  clear hb1 hx2
  clear hs3 hN hsl0 hA0
  go_enter Tryz.func30, Tryz.ntmps30
  have cc4 := XQ.out.cells
  go_wp2_with fail
  generalize hW : w.alloc (.cells #[.bool false, .slice none 0 0, .slice none 0 0] 45) = W5 at *
  clear hW
  go_loop [4] (fun i => ∃ k : Nat, k ≤ N ∧ i = .int .i64 k) (fun i => N - (intOf i).toNat)
  case atStart => exact ⟨0, Nat.zero_le _, rfl⟩
  case round =>
    obtain ⟨k, hk, rfl⟩ := hrel
    by_cases hkN : k < N
    · have hks : k < s.size := by omega
      have hby := cut_byte HN.out hkN hks
      go_wp2_with fail
      go_round
      case rel => exact ⟨k + 1, by omega, by go_num⟩
      case measure => simp [intOf]; omega
    · obtain rfl : k = N := by omega
      clear hkN hk
      have hi5 : (k : Int) = (s.size : Int) := by omega
      go_wp2_with fail
      refine (rwholeof_bad (s := s) (k := 1) (.inr ⟨HS.out, by have h := HhA0.out; rw [HE.out] at h; exact h, rfl⟩) _ (by have := HS.out; unfold maxLen; omega)).mono ?_
      rintro e w6 ⟨t5, p5, n5, c5, rfl, hb⟩
      replace XQ := qx XQ hb
      replace B := bb B hb
      clear cc4
      clear hb 
      obtain ⟨hb7, hx8, hs9⟩ := BoxR.made w6 t5 p5 n5 c5
      have L0 := hid XQ.out.lt
      replace XQ := qx XQ hb7
      replace B := bb B hb7
      have X5 := hid hx8
      clear hb7 hx8
      have cc10 := XQ.out.cells
      have cc11 := X5.out.both
      have h1o := (natR_one (w6.alloc (.cells #[.bool t5, .slice p5 n5 c5] 43))).value
      rw [show (w6.alloc (.cells #[.bool t5, .slice p5 n5 c5] 43)).heap.size = w6.heap.size + 1 by simp] at h1o
      have hb12 := (Below.refl _ _).alloc (Nat.le_refl (w6.alloc (.cells #[.bool t5, .slice p5 n5 c5] 43)).heap.size) (.cells #[.int .i64 1] 3)
      replace XQ := qx XQ hb12
      replace X5 := br X5 hb12
      replace B := bb B hb12
      have H1O := hid h1o
      clear h1o hb12
      have cc13 := XQ.out.cells
      have cc14 := X5.out.both
      have cc15 := XQ.out.stores
      obtain ⟨r16a, r16b, r16c⟩ := XQ.out.last B.out (by have := L0.out; omega) t5 p5 n5 c5 (some ⟨w6.heap.size + 1, 0, none⟩) 1 1
      replace X5 := hid (X5.out.kept (heap3 (g := w.heap.size) (by have := L0.out; omega) (.bool t5) (.slice p5 n5 c5) (.slice (some ⟨w6.heap.size + 1, 0, none⟩) 1 1)))
      replace H1O := hid (r16c H1O.out)
      replace XQ := hid r16a
      replace B := hid r16b
      clear r16a r16b r16c
      go_wp2_with fail
      refine bodyPost_ret (res_q_tmp rfl rfl rfl XQ.out) rfl ?_
      exact ⟨_, _, _, _, _, _, _, rfl, B.out⟩

set_option maxHeartbeats 4000000 in
theorem ratofA2 (s : ByteArray) (w : World) (hs : s.size ≤ 100) (hsl : hasSl s.data.toList = true) (hA0 : isWhl (cutB s.data.toList) = false) :
    Calls Tryz.prog 30 #[.string s] w fun e w' => ∃ s p n c p' n' c', e = .returned (.tuple #[.agg #[.bool s, .slice p n c, .slice p' n' c'], .int .i64 1]) ∧ Below w.heap.size w w' := by
  have Hhsl := hid hsl
  have HhA0 := hid hA0
  have HS := hid hs
  obtain ⟨N, hN⟩ : ∃ N, (cutB s.data.toList).length = N := ⟨_, rfl⟩
  have hNle : N ≤ s.size := by rw [← hN]; exact cutB_le _
  have HN := hid hN
  have HF := hid (cut_front hN)
  obtain ⟨hlt, h47, hbk⟩ := cut_some hN hsl
  have HBK := hid hbk
  clear hbk
  have hsz : (s.size : Int) ≤ 100 := by omega
  have B := hid (Below.refl w.heap.size w)
  obtain ⟨hb1, hx2, hs3⟩ := Qbx.made w false none 0 0 none 0 0
  replace B := bb B hb1
  have XQ := hid hx2
  clear hb1 hx2
  clear hs3 hN hsl hA0
  go_enter Tryz.func30, Tryz.ntmps30
  have cc4 := XQ.out.cells
  go_wp2_with fail
  generalize hW : w.alloc (.cells #[.bool false, .slice none 0 0, .slice none 0 0] 45) = W5 at *
  clear hW
  go_loop [4] (fun i => ∃ k : Nat, k ≤ N ∧ i = .int .i64 k) (fun i => N - (intOf i).toNat)
  case atStart => exact ⟨0, Nat.zero_le _, rfl⟩
  case round =>
    obtain ⟨k, hk, rfl⟩ := hrel
    by_cases hkN : k < N
    · have hks : k < s.size := by omega
      have hby := cut_byte HN.out hkN hks
      clear h47
      go_wp2_with fail
      go_round
      case rel => exact ⟨k + 1, by omega, by go_num⟩
      case measure => simp [intOf]; omega
    · obtain rfl : k = N := by omega
      clear hkN hk
      have hi1 : IntKind.i64.wrap ((k : Int) + 1) = (k : Int) + 1 := IntWalk.i64_in _ (by omega)
      have hi2 : ((k : Int) + 1).toNat = k + 1 := by omega
      have hi3 : (0 : Int) ≤ (k : Int) + 1 := by omega
      have hi4 : (k : Int) + 1 ≤ (s.size : Int) := by omega
      have hi5 : ¬ (k : Int) = (s.size : Int) := by omega
      go_wp2_with fail
      refine (rwholeof_bad (s := s.extract 0 k) (k := 1) (.inr ⟨(by rw [ByteArray.size_extract]; have := HS.out; omega), by rw [HF.out]; exact HhA0.out, rfl⟩) _ (by rw [ByteArray.size_extract]; have := HS.out; unfold maxLen; omega)).mono ?_
      rintro e w6 ⟨t5, p5, n5, c5, rfl, hb⟩
      replace XQ := qx XQ hb
      replace B := bb B hb
      clear cc4
      clear hb 
      obtain ⟨hb7, hx8, hs9⟩ := BoxR.made w6 t5 p5 n5 c5
      have L0 := hid XQ.out.lt
      replace XQ := qx XQ hb7
      replace B := bb B hb7
      have X5 := hid hx8
      clear hb7 hx8
      have cc10 := XQ.out.cells
      have cc11 := X5.out.both
      have h1o := (natR_one (w6.alloc (.cells #[.bool t5, .slice p5 n5 c5] 43))).value
      rw [show (w6.alloc (.cells #[.bool t5, .slice p5 n5 c5] 43)).heap.size = w6.heap.size + 1 by simp] at h1o
      have hb12 := (Below.refl _ _).alloc (Nat.le_refl (w6.alloc (.cells #[.bool t5, .slice p5 n5 c5] 43)).heap.size) (.cells #[.int .i64 1] 3)
      replace XQ := qx XQ hb12
      replace X5 := br X5 hb12
      replace B := bb B hb12
      have H1O := hid h1o
      clear h1o hb12
      have cc13 := XQ.out.cells
      have cc14 := X5.out.both
      have cc15 := XQ.out.stores
      obtain ⟨r16a, r16b, r16c⟩ := XQ.out.last B.out (by have := L0.out; omega) t5 p5 n5 c5 (some ⟨w6.heap.size + 1, 0, none⟩) 1 1
      replace X5 := hid (X5.out.kept (heap3 (g := w.heap.size) (by have := L0.out; omega) (.bool t5) (.slice p5 n5 c5) (.slice (some ⟨w6.heap.size + 1, 0, none⟩) 1 1)))
      replace H1O := hid (r16c H1O.out)
      replace XQ := hid r16a
      replace B := hid r16b
      clear r16a r16b r16c
      go_wp2_with fail
      refine bodyPost_ret (res_q_tmp rfl rfl rfl XQ.out) rfl ?_
      exact ⟨_, _, _, _, _, _, _, rfl, B.out⟩

set_option maxHeartbeats 4000000 in
theorem ratofB (s : ByteArray) (w : World) (hs : s.size ≤ 100) (hsl0 : hasSl s.data.toList = false) (hA : isWhl (cutB s.data.toList) = true) :
    Calls Tryz.prog 30 #[.string s] w fun e w' => ∃ v, e = .returned (.tuple #[v, .int .i64 0]) ∧ QR w' v (ratOf s.data.toList) 100 ∧ Below w.heap.size w w' := by
  have Hhsl0 := hid hsl0
  have HhA := hid hA
  have HS := hid hs
  obtain ⟨N, hN⟩ : ∃ N, (cutB s.data.toList).length = N := ⟨_, rfl⟩
  have hNle : N ≤ s.size := by rw [← hN]; exact cutB_le _
  have HN := hid hN
  have HF := hid (cut_front hN)
  have hend := cut_none hN hsl0
  have HE := hid (show cutB s.data.toList = s.data.toList by rcases index_cut s.data.toList with ⟨_, _, e⟩ | ⟨e, _⟩; exact e; rw [hsl0] at e; cases e)
  have hsz : (s.size : Int) ≤ 100 := by omega
  have B := hid (Below.refl w.heap.size w)
  obtain ⟨hb1, hx2, hs3⟩ := Qbx.made w false none 0 0 none 0 0
  replace B := bb B hb1
  have XQ := hid hx2
  clear hb1 hx2
  clear hs3 hN hsl0 hA
  go_enter Tryz.func30, Tryz.ntmps30
  have cc4 := XQ.out.cells
  go_wp2_with fail
  generalize hW : w.alloc (.cells #[.bool false, .slice none 0 0, .slice none 0 0] 45) = W5 at *
  clear hW
  go_loop [4] (fun i => ∃ k : Nat, k ≤ N ∧ i = .int .i64 k) (fun i => N - (intOf i).toNat)
  case atStart => exact ⟨0, Nat.zero_le _, rfl⟩
  case round =>
    obtain ⟨k, hk, rfl⟩ := hrel
    by_cases hkN : k < N
    · have hks : k < s.size := by omega
      have hby := cut_byte HN.out hkN hks
      go_wp2_with fail
      go_round
      case rel => exact ⟨k + 1, by omega, by go_num⟩
      case measure => simp [intOf]; omega
    · obtain rfl : k = N := by omega
      clear hkN hk
      have hi5 : (k : Int) = (s.size : Int) := by omega
      go_wp2_with fail
      refine (rwholeof_good (s := s) ⟨HS.out, by have h := HhA.out; rw [HE.out] at h; exact h⟩ _).mono ?_
      rintro e w6 ⟨v, rfl, hv, hb⟩
      unfold znum at hv
      rw [← HE.out] at hv
      obtain ⟨s5, p5, n5, c5, rfl⟩ := hv.opened
      replace XQ := qx XQ hb
      replace B := bb B hb
      clear cc4
      have HT := hid hv
      clear hb hv
      obtain ⟨hb7, hx8, hs9⟩ := BoxR.made w6 s5 p5 n5 c5
      have L0 := hid XQ.out.lt
      replace XQ := qx XQ hb7
      replace HT := wr HT hb7
      replace B := bb B hb7
      have X5 := hid hx8
      clear hb7 hx8
      have cc10 := XQ.out.cells
      have cc11 := X5.out.both
      have h1o := (natR_one (w6.alloc (.cells #[.bool s5, .slice p5 n5 c5] 43))).value
      rw [show (w6.alloc (.cells #[.bool s5, .slice p5 n5 c5] 43)).heap.size = w6.heap.size + 1 by simp] at h1o
      have hb12 := (Below.refl _ _).alloc (Nat.le_refl (w6.alloc (.cells #[.bool s5, .slice p5 n5 c5] 43)).heap.size) (.cells #[.int .i64 1] 3)
      replace XQ := qx XQ hb12
      replace X5 := br X5 hb12
      replace HT := wr HT hb12
      replace B := bb B hb12
      have H1O := hid h1o
      clear h1o hb12
      have cc13 := XQ.out.cells
      have cc14 := X5.out.both
      have cc15 := XQ.out.stores
      obtain ⟨r16a, r16b, r16c⟩ := XQ.out.last B.out (by have := L0.out; omega) s5 p5 n5 c5 (some ⟨w6.heap.size + 1, 0, none⟩) 1 1
      replace X5 := hid (X5.out.kept (heap3 (g := w.heap.size) (by have := L0.out; omega) (.bool s5) (.slice p5 n5 c5) (.slice (some ⟨w6.heap.size + 1, 0, none⟩) 1 1)))
      replace HT := hid (r16c HT.out)
      replace H1O := hid (r16c H1O.out)
      replace XQ := hid r16a
      replace B := hid r16b
      clear r16a r16b r16c
      go_wp2_with fail
      refine bodyPost_ret (res_q_tmp rfl rfl rfl XQ.out) rfl ?_
      refine ⟨_, rfl, QR.mk2 ?_ ?_, B.out⟩
      · rw [ratOf, if_neg (by rw [Hhsl0.out]; decide), Rat.num_intCast]
        have h := HT.out
        have e : cutB s.data.toList = s.data.toList := by rcases index_cut s.data.toList with ⟨_, _, e⟩ | ⟨e, _⟩; exact e; rw [Hhsl0.out] at e; cases e
        rw [e] at h; exact h
      · rw [ratOf, if_neg (by rw [Hhsl0.out]; decide), Rat.den_intCast]; exact H1O.out.mono (by omega)

end Go.Proofs.YtdifiimaifmcpaaGreatDoor

/-
  THE REFERENCE: RatOf, behind the slash.
-/
namespace Go.Proofs.YtdifiimaifmcpaaGreatDoor
open Go.RowKit
open Num4
open Num (dg isNat dval)
set_option linter.unusedVariables false
set_option maxRecDepth 100000
set_option linter.unusedSimpArgs false

set_option maxHeartbeats 4000000 in
theorem ratofC (s : ByteArray) (w : World) (hs : s.size ≤ 100) (hsl : hasSl s.data.toList = true) (hA : isWhl (cutB s.data.toList) = true) (hB0 : isNat (cutA s.data.toList) = false) :
    Calls Tryz.prog 30 #[.string s] w fun e w' => ∃ s p n c p' n' c', e = .returned (.tuple #[.agg #[.bool s, .slice p n c, .slice p' n' c'], .int .i64 1]) ∧ Below w.heap.size w w' := by
  have Hhsl := hid hsl
  have HhA := hid hA
  have HhB0 := hid hB0
  have HS := hid hs
  obtain ⟨N, hN⟩ : ∃ N, (cutB s.data.toList).length = N := ⟨_, rfl⟩
  have hNle : N ≤ s.size := by rw [← hN]; exact cutB_le _
  have HN := hid hN
  have HF := hid (cut_front hN)
  obtain ⟨hlt, h47, hbk⟩ := cut_some hN hsl
  have HBK := hid hbk
  clear hbk
  have hsz : (s.size : Int) ≤ 100 := by omega
  have B := hid (Below.refl w.heap.size w)
  obtain ⟨hb1, hx2, hs3⟩ := Qbx.made w false none 0 0 none 0 0
  replace B := bb B hb1
  have XQ := hid hx2
  clear hb1 hx2
  clear hs3 hN hsl hA hB0
  go_enter Tryz.func30, Tryz.ntmps30
  have cc4 := XQ.out.cells
  go_wp2_with fail
  generalize hW : w.alloc (.cells #[.bool false, .slice none 0 0, .slice none 0 0] 45) = W5 at *
  clear hW
  go_loop [4] (fun i => ∃ k : Nat, k ≤ N ∧ i = .int .i64 k) (fun i => N - (intOf i).toNat)
  case atStart => exact ⟨0, Nat.zero_le _, rfl⟩
  case round =>
    obtain ⟨k, hk, rfl⟩ := hrel
    by_cases hkN : k < N
    · have hks : k < s.size := by omega
      have hby := cut_byte HN.out hkN hks
      clear h47
      go_wp2_with fail
      go_round
      case rel => exact ⟨k + 1, by omega, by go_num⟩
      case measure => simp [intOf]; omega
    · obtain rfl : k = N := by omega
      clear hkN hk
      have hi1 : IntKind.i64.wrap ((k : Int) + 1) = (k : Int) + 1 := IntWalk.i64_in _ (by omega)
      have hi2 : ((k : Int) + 1).toNat = k + 1 := by omega
      have hi3 : (0 : Int) ≤ (k : Int) + 1 := by omega
      have hi4 : (k : Int) + 1 ≤ (s.size : Int) := by omega
      have hi5 : ¬ (k : Int) = (s.size : Int) := by omega
      go_wp2_with fail
      refine (rwholeof_good (s := s.extract 0 k) ⟨(by rw [ByteArray.size_extract]; have := HS.out; omega), by rw [HF.out]; exact HhA.out⟩ _).mono ?_
      rintro e w6 ⟨v, rfl, hv, hb⟩
      unfold znum at hv
      rw [HF.out] at hv
      obtain ⟨s5, p5, n5, c5, rfl⟩ := hv.opened
      replace XQ := qx XQ hb
      replace B := bb B hb
      clear cc4
      have HT := hid hv
      clear hb hv
      obtain ⟨hb7, hx8, hs9⟩ := BoxR.made w6 s5 p5 n5 c5
      have L0 := hid XQ.out.lt
      replace XQ := qx XQ hb7
      replace HT := wr HT hb7
      replace B := bb B hb7
      have X5 := hid hx8
      clear hb7 hx8
      have cc10 := XQ.out.cells
      have cc11 := X5.out.both
      go_wp2_with fail
      generalize hW : w6.alloc (.cells #[.bool s5, .slice p5 n5 c5] 43) = W12 at *
      clear hW
      refine (natof_bad (s := s.extract (k + 1) s.size) (k := 1) _ (by rw [ByteArray.size_extract]; have := HS.out; unfold maxLen; omega) (.inr ⟨(by rw [ByteArray.size_extract]; have := HS.out; omega), by rw [HBK.out]; exact HhB0.out, rfl⟩)).mono ?_
      rintro e w13 ⟨rfl, hb⟩
      replace XQ := qx XQ hb
      replace X5 := br X5 hb
      replace HT := wr HT hb
      replace B := bb B hb
      clear cc10 cc11
      clear hb 
      have cc14 := XQ.out.cells
      have cc15 := X5.out.both
      have cc16 := XQ.out.stores
      obtain ⟨r17a, r17b, r17c⟩ := XQ.out.last B.out (by have := L0.out; omega) false none 0 0 none 0 0
      replace X5 := hid (X5.out.kept (heap3 (g := w.heap.size) (by have := L0.out; omega) (.bool false) (.slice none 0 0) (.slice none 0 0)))
      replace HT := hid (r17c HT.out)
      replace XQ := hid r17a
      replace B := hid r17b
      clear r17a r17b r17c
      go_wp2_with fail
      refine bodyPost_ret (res_q_tmp rfl rfl rfl XQ.out) rfl ?_
      exact ⟨_, _, _, _, _, _, _, rfl, B.out⟩

set_option maxHeartbeats 4000000 in
theorem ratofD (s : ByteArray) (w : World) (hs : s.size ≤ 100) (hsl : hasSl s.data.toList = true) (hA : isWhl (cutB s.data.toList) = true) (hB : isNat (cutA s.data.toList) = true) (hZ0 : whlOf (cutB s.data.toList) = 0) :
    Calls Tryz.prog 30 #[.string s] w fun e w' => ∃ s p n c p' n' c', e = .returned (.tuple #[.agg #[.bool s, .slice p n c, .slice p' n' c'], .int .i64 1]) ∧ Below w.heap.size w w' := by
  have Hhsl := hid hsl
  have HhA := hid hA
  have HhB := hid hB
  have HhZ0 := hid hZ0
  have HS := hid hs
  obtain ⟨N, hN⟩ : ∃ N, (cutB s.data.toList).length = N := ⟨_, rfl⟩
  have hNle : N ≤ s.size := by rw [← hN]; exact cutB_le _
  have HN := hid hN
  have HF := hid (cut_front hN)
  obtain ⟨hlt, h47, hbk⟩ := cut_some hN hsl
  have HBK := hid hbk
  clear hbk
  have hsz : (s.size : Int) ≤ 100 := by omega
  have B := hid (Below.refl w.heap.size w)
  obtain ⟨hb1, hx2, hs3⟩ := Qbx.made w false none 0 0 none 0 0
  replace B := bb B hb1
  have XQ := hid hx2
  clear hb1 hx2
  clear hs3 hN hsl hA hB hZ0
  go_enter Tryz.func30, Tryz.ntmps30
  have cc4 := XQ.out.cells
  go_wp2_with fail
  generalize hW : w.alloc (.cells #[.bool false, .slice none 0 0, .slice none 0 0] 45) = W5 at *
  clear hW
  go_loop [4] (fun i => ∃ k : Nat, k ≤ N ∧ i = .int .i64 k) (fun i => N - (intOf i).toNat)
  case atStart => exact ⟨0, Nat.zero_le _, rfl⟩
  case round =>
    obtain ⟨k, hk, rfl⟩ := hrel
    by_cases hkN : k < N
    · have hks : k < s.size := by omega
      have hby := cut_byte HN.out hkN hks
      clear h47
      go_wp2_with fail
      go_round
      case rel => exact ⟨k + 1, by omega, by go_num⟩
      case measure => simp [intOf]; omega
    · obtain rfl : k = N := by omega
      clear hkN hk
      have hi1 : IntKind.i64.wrap ((k : Int) + 1) = (k : Int) + 1 := IntWalk.i64_in _ (by omega)
      have hi2 : ((k : Int) + 1).toNat = k + 1 := by omega
      have hi3 : (0 : Int) ≤ (k : Int) + 1 := by omega
      have hi4 : (k : Int) + 1 ≤ (s.size : Int) := by omega
      have hi5 : ¬ (k : Int) = (s.size : Int) := by omega
      go_wp2_with fail
      refine (rwholeof_good (s := s.extract 0 k) ⟨(by rw [ByteArray.size_extract]; have := HS.out; omega), by rw [HF.out]; exact HhA.out⟩ _).mono ?_
      rintro e w6 ⟨v, rfl, hv, hb⟩
      unfold znum at hv
      rw [HF.out] at hv
      obtain ⟨s5, p5, n5, c5, rfl⟩ := hv.opened
      replace XQ := qx XQ hb
      replace B := bb B hb
      clear cc4
      have HT := hid hv
      clear hb hv
      obtain ⟨hb7, hx8, hs9⟩ := BoxR.made w6 s5 p5 n5 c5
      have L0 := hid XQ.out.lt
      replace XQ := qx XQ hb7
      replace HT := wr HT hb7
      replace B := bb B hb7
      have X5 := hid hx8
      clear hb7 hx8
      have cc10 := XQ.out.cells
      have cc11 := X5.out.both
      go_wp2_with fail
      generalize hW : w6.alloc (.cells #[.bool s5, .slice p5 n5 c5] 43) = W12 at *
      clear hW
      refine (natof_r HBK.out (by rw [ByteArray.size_extract]; have := HS.out; omega) HhB.out _).mono ?_
      rintro e w13 ⟨p6, n6, c6, rfl, hv, hb⟩
      replace XQ := qx XQ hb
      replace X5 := br X5 hb
      replace HT := wr HT hb
      replace B := bb B hb
      clear cc10 cc11
      have HU := hid hv.value
      clear hb hv
      have cc14 := XQ.out.cells
      have cc15 := X5.out.both
      have hn5 : n5 = 0 := HT.out.inside.1.len.2 (by rw [HhZ0.out]; rfl)
      subst hn5
      have cc16 := XQ.out.stores
      obtain ⟨r17a, r17b, r17c⟩ := XQ.out.last B.out (by have := L0.out; omega) false none 0 0 none 0 0
      replace X5 := hid (X5.out.kept (heap3 (g := w.heap.size) (by have := L0.out; omega) (.bool false) (.slice none 0 0) (.slice none 0 0)))
      replace HT := hid (r17c HT.out)
      replace HU := hid (r17c HU.out)
      replace XQ := hid r17a
      replace B := hid r17b
      clear r17a r17b r17c
      go_wp2_with fail
      refine bodyPost_ret (res_q_tmp rfl rfl rfl XQ.out) rfl ?_
      exact ⟨_, _, _, _, _, _, _, rfl, B.out⟩

set_option maxHeartbeats 4000000 in
theorem ratofE (s : ByteArray) (w : World) (hs : s.size ≤ 100) (hsl : hasSl s.data.toList = true) (hA : isWhl (cutB s.data.toList) = true) (hB : isNat (cutA s.data.toList) = true) (hZ : whlOf (cutB s.data.toList) ≠ 0) (hD1 : dval (cutA s.data.toList) = 1) :
    Calls Tryz.prog 30 #[.string s] w fun e w' => ∃ s p n c p' n' c', e = .returned (.tuple #[.agg #[.bool s, .slice p n c, .slice p' n' c'], .int .i64 1]) ∧ Below w.heap.size w w' := by
  have Hhsl := hid hsl
  have HhA := hid hA
  have HhB := hid hB
  have HhZ := hid hZ
  have HhD1 := hid hD1
  have HS := hid hs
  obtain ⟨N, hN⟩ : ∃ N, (cutB s.data.toList).length = N := ⟨_, rfl⟩
  have hNle : N ≤ s.size := by rw [← hN]; exact cutB_le _
  have HN := hid hN
  have HF := hid (cut_front hN)
  obtain ⟨hlt, h47, hbk⟩ := cut_some hN hsl
  have HBK := hid hbk
  clear hbk
  have hsz : (s.size : Int) ≤ 100 := by omega
  have B := hid (Below.refl w.heap.size w)
  obtain ⟨hb1, hx2, hs3⟩ := Qbx.made w false none 0 0 none 0 0
  replace B := bb B hb1
  have XQ := hid hx2
  clear hb1 hx2
  clear hs3 hN hsl hA hB hZ hD1
  go_enter Tryz.func30, Tryz.ntmps30
  have cc4 := XQ.out.cells
  go_wp2_with fail
  generalize hW : w.alloc (.cells #[.bool false, .slice none 0 0, .slice none 0 0] 45) = W5 at *
  clear hW
  go_loop [4] (fun i => ∃ k : Nat, k ≤ N ∧ i = .int .i64 k) (fun i => N - (intOf i).toNat)
  case atStart => exact ⟨0, Nat.zero_le _, rfl⟩
  case round =>
    obtain ⟨k, hk, rfl⟩ := hrel
    by_cases hkN : k < N
    · have hks : k < s.size := by omega
      have hby := cut_byte HN.out hkN hks
      clear h47
      go_wp2_with fail
      go_round
      case rel => exact ⟨k + 1, by omega, by go_num⟩
      case measure => simp [intOf]; omega
    · obtain rfl : k = N := by omega
      clear hkN hk
      have hi1 : IntKind.i64.wrap ((k : Int) + 1) = (k : Int) + 1 := IntWalk.i64_in _ (by omega)
      have hi2 : ((k : Int) + 1).toNat = k + 1 := by omega
      have hi3 : (0 : Int) ≤ (k : Int) + 1 := by omega
      have hi4 : (k : Int) + 1 ≤ (s.size : Int) := by omega
      have hi5 : ¬ (k : Int) = (s.size : Int) := by omega
      go_wp2_with fail
      refine (rwholeof_good (s := s.extract 0 k) ⟨(by rw [ByteArray.size_extract]; have := HS.out; omega), by rw [HF.out]; exact HhA.out⟩ _).mono ?_
      rintro e w6 ⟨v, rfl, hv, hb⟩
      unfold znum at hv
      rw [HF.out] at hv
      obtain ⟨s5, p5, n5, c5, rfl⟩ := hv.opened
      replace XQ := qx XQ hb
      replace B := bb B hb
      clear cc4
      have HT := hid hv
      clear hb hv
      obtain ⟨hb7, hx8, hs9⟩ := BoxR.made w6 s5 p5 n5 c5
      have L0 := hid XQ.out.lt
      replace XQ := qx XQ hb7
      replace HT := wr HT hb7
      replace B := bb B hb7
      have X5 := hid hx8
      clear hb7 hx8
      have cc10 := XQ.out.cells
      have cc11 := X5.out.both
      go_wp2_with fail
      generalize hW : w6.alloc (.cells #[.bool s5, .slice p5 n5 c5] 43) = W12 at *
      clear hW
      refine (natof_r HBK.out (by rw [ByteArray.size_extract]; have := HS.out; omega) HhB.out _).mono ?_
      rintro e w13 ⟨p6, n6, c6, rfl, hv, hb⟩
      replace XQ := qx XQ hb
      replace X5 := br X5 hb
      replace HT := wr HT hb
      replace B := bb B hb
      clear cc10 cc11
      have HU := hid hv.value
      clear hb hv
      have cc14 := XQ.out.cells
      have cc15 := X5.out.both
      have hn5 : ¬ (n5 : Int) = 0 := by have h1 := HT.out.inside.1.len; have h2 := HhZ.out; omega
      go_wp2_with fail
      have h1o := (natR_one w13).value
      have hb16 := (Below.refl _ _).alloc (Nat.le_refl w13.heap.size) (.cells #[.int .i64 1] 3)
      replace XQ := qx XQ hb16
      replace X5 := br X5 hb16
      replace HT := wr HT hb16
      replace HU := wr HU hb16
      replace B := bb B hb16
      have H1O := hid h1o
      clear h1o hb16
      have hc := rcmpn HU.out.nat H1O.out.nat (by omega) (by omega)
      rw [HhD1.out] at hc
      rw [show cmpv 1 1 = 0 by decide] at hc
      refine (hc).mono ?_
      rintro e w17 ⟨rfl, hb⟩
      replace XQ := qx XQ hb
      replace X5 := br X5 hb
      replace HT := wr HT hb
      replace HU := wr HU hb
      replace H1O := wr H1O hb
      replace B := bb B hb
      clear cc14 cc15
      clear hb hc
      have cc18 := XQ.out.cells
      have cc19 := X5.out.both
      have cc20 := XQ.out.stores
      obtain ⟨r21a, r21b, r21c⟩ := XQ.out.last B.out (by have := L0.out; omega) false none 0 0 none 0 0
      replace X5 := hid (X5.out.kept (heap3 (g := w.heap.size) (by have := L0.out; omega) (.bool false) (.slice none 0 0) (.slice none 0 0)))
      replace HT := hid (r21c HT.out)
      replace HU := hid (r21c HU.out)
      replace H1O := hid (r21c H1O.out)
      replace XQ := hid r21a
      replace B := hid r21b
      clear r21a r21b r21c
      go_wp2_with fail
      refine bodyPost_ret (res_q_tmp rfl rfl rfl XQ.out) rfl ?_
      exact ⟨_, _, _, _, _, _, _, rfl, B.out⟩

end Go.Proofs.YtdifiimaifmcpaaGreatDoor

/-
  THE REFERENCE: RatOf, behind the slash, more.
-/
namespace Go.Proofs.YtdifiimaifmcpaaGreatDoor
open Go.RowKit
open Num4
open Num (dg isNat dval)
set_option linter.unusedVariables false
set_option maxRecDepth 100000
set_option linter.unusedSimpArgs false

set_option maxHeartbeats 4000000 in
theorem ratofH (s : ByteArray) (w : World) (hs : s.size ≤ 100) (hsl : hasSl s.data.toList = true) (hA : isWhl (cutB s.data.toList) = true) (hB : isNat (cutA s.data.toList) = true) (hZ : whlOf (cutB s.data.toList) ≠ 0) (hD0 : dval (cutA s.data.toList) = 0) :
    Calls Tryz.prog 30 #[.string s] w fun e w' => ∃ s p n c p' n' c', e = .returned (.tuple #[.agg #[.bool s, .slice p n c, .slice p' n' c'], .int .i64 1]) ∧ Below w.heap.size w w' := by
  have Hhsl := hid hsl
  have HhA := hid hA
  have HhB := hid hB
  have HhZ := hid hZ
  have HhD0 := hid hD0
  have HS := hid hs
  obtain ⟨N, hN⟩ : ∃ N, (cutB s.data.toList).length = N := ⟨_, rfl⟩
  have hNle : N ≤ s.size := by rw [← hN]; exact cutB_le _
  have HN := hid hN
  have HF := hid (cut_front hN)
  obtain ⟨hlt, h47, hbk⟩ := cut_some hN hsl
  have HBK := hid hbk
  clear hbk
  have hsz : (s.size : Int) ≤ 100 := by omega
  have B := hid (Below.refl w.heap.size w)
  obtain ⟨hb1, hx2, hs3⟩ := Qbx.made w false none 0 0 none 0 0
  replace B := bb B hb1
  have XQ := hid hx2
  clear hb1 hx2
  clear hs3 hN hsl hA hB hZ hD0
  go_enter Tryz.func30, Tryz.ntmps30
  have cc4 := XQ.out.cells
  go_wp2_with fail
  generalize hW : w.alloc (.cells #[.bool false, .slice none 0 0, .slice none 0 0] 45) = W5 at *
  clear hW
  go_loop [4] (fun i => ∃ k : Nat, k ≤ N ∧ i = .int .i64 k) (fun i => N - (intOf i).toNat)
  case atStart => exact ⟨0, Nat.zero_le _, rfl⟩
  case round =>
    obtain ⟨k, hk, rfl⟩ := hrel
    by_cases hkN : k < N
    · have hks : k < s.size := by omega
      have hby := cut_byte HN.out hkN hks
      clear h47
      go_wp2_with fail
      go_round
      case rel => exact ⟨k + 1, by omega, by go_num⟩
      case measure => simp [intOf]; omega
    · obtain rfl : k = N := by omega
      clear hkN hk
      have hi1 : IntKind.i64.wrap ((k : Int) + 1) = (k : Int) + 1 := IntWalk.i64_in _ (by omega)
      have hi2 : ((k : Int) + 1).toNat = k + 1 := by omega
      have hi3 : (0 : Int) ≤ (k : Int) + 1 := by omega
      have hi4 : (k : Int) + 1 ≤ (s.size : Int) := by omega
      have hi5 : ¬ (k : Int) = (s.size : Int) := by omega
      go_wp2_with fail
      refine (rwholeof_good (s := s.extract 0 k) ⟨(by rw [ByteArray.size_extract]; have := HS.out; omega), by rw [HF.out]; exact HhA.out⟩ _).mono ?_
      rintro e w6 ⟨v, rfl, hv, hb⟩
      unfold znum at hv
      rw [HF.out] at hv
      obtain ⟨s5, p5, n5, c5, rfl⟩ := hv.opened
      replace XQ := qx XQ hb
      replace B := bb B hb
      clear cc4
      have HT := hid hv
      clear hb hv
      obtain ⟨hb7, hx8, hs9⟩ := BoxR.made w6 s5 p5 n5 c5
      have L0 := hid XQ.out.lt
      replace XQ := qx XQ hb7
      replace HT := wr HT hb7
      replace B := bb B hb7
      have X5 := hid hx8
      clear hb7 hx8
      have cc10 := XQ.out.cells
      have cc11 := X5.out.both
      go_wp2_with fail
      generalize hW : w6.alloc (.cells #[.bool s5, .slice p5 n5 c5] 43) = W12 at *
      clear hW
      refine (natof_r HBK.out (by rw [ByteArray.size_extract]; have := HS.out; omega) HhB.out _).mono ?_
      rintro e w13 ⟨p6, n6, c6, rfl, hv, hb⟩
      replace XQ := qx XQ hb
      replace X5 := br X5 hb
      replace HT := wr HT hb
      replace B := bb B hb
      clear cc10 cc11
      have HU := hid hv.value
      clear hb hv
      have cc14 := XQ.out.cells
      have cc15 := X5.out.both
      have hn5 : ¬ (n5 : Int) = 0 := by have h1 := HT.out.inside.1.len; have h2 := HhZ.out; omega
      go_wp2_with fail
      have h1o := (natR_one w13).value
      have hb16 := (Below.refl _ _).alloc (Nat.le_refl w13.heap.size) (.cells #[.int .i64 1] 3)
      replace XQ := qx XQ hb16
      replace X5 := br X5 hb16
      replace HT := wr HT hb16
      replace HU := wr HU hb16
      replace B := bb B hb16
      have H1O := hid h1o
      clear h1o hb16
      have hc := rcmpn HU.out.nat H1O.out.nat (by omega) (by omega)
      rw [HhD0.out] at hc
      rw [show cmpv 0 1 = -1 by decide] at hc
      refine (hc).mono ?_
      rintro e w17 ⟨rfl, hb⟩
      replace XQ := qx XQ hb
      replace X5 := br X5 hb
      replace HT := wr HT hb
      replace HU := wr HU hb
      replace H1O := wr H1O hb
      replace B := bb B hb
      clear cc14 cc15
      clear hb hc
      have cc18 := XQ.out.cells
      have cc19 := X5.out.both
      have cc20 := XQ.out.stores
      obtain ⟨r21a, r21b, r21c⟩ := XQ.out.last B.out (by have := L0.out; omega) false none 0 0 none 0 0
      replace X5 := hid (X5.out.kept (heap3 (g := w.heap.size) (by have := L0.out; omega) (.bool false) (.slice none 0 0) (.slice none 0 0)))
      replace HT := hid (r21c HT.out)
      replace HU := hid (r21c HU.out)
      replace H1O := hid (r21c H1O.out)
      replace XQ := hid r21a
      replace B := hid r21b
      clear r21a r21b r21c
      go_wp2_with fail
      refine bodyPost_ret (res_q_tmp rfl rfl rfl XQ.out) rfl ?_
      exact ⟨_, _, _, _, _, _, _, rfl, B.out⟩

set_option maxHeartbeats 4000000 in
theorem ratofF (s : ByteArray) (w : World) (hs : s.size ≤ 100) (hsl : hasSl s.data.toList = true) (hA : isWhl (cutB s.data.toList) = true) (hB : isNat (cutA s.data.toList) = true) (hZ : whlOf (cutB s.data.toList) ≠ 0) (hD : 1 < dval (cutA s.data.toList)) (hG0 : Nat.gcd (whlOf (cutB s.data.toList)).natAbs (dval (cutA s.data.toList)) ≠ 1) :
    Calls Tryz.prog 30 #[.string s] w fun e w' => ∃ s p n c p' n' c', e = .returned (.tuple #[.agg #[.bool s, .slice p n c, .slice p' n' c'], .int .i64 1]) ∧ Below w.heap.size w w' := by
  have Hhsl := hid hsl
  have HhA := hid hA
  have HhB := hid hB
  have HhZ := hid hZ
  have HhD := hid hD
  have HhG0 := hid hG0
  have HS := hid hs
  obtain ⟨N, hN⟩ : ∃ N, (cutB s.data.toList).length = N := ⟨_, rfl⟩
  have hNle : N ≤ s.size := by rw [← hN]; exact cutB_le _
  have HN := hid hN
  have HF := hid (cut_front hN)
  obtain ⟨hlt, h47, hbk⟩ := cut_some hN hsl
  have HBK := hid hbk
  clear hbk
  have hsz : (s.size : Int) ≤ 100 := by omega
  have B := hid (Below.refl w.heap.size w)
  obtain ⟨hb1, hx2, hs3⟩ := Qbx.made w false none 0 0 none 0 0
  replace B := bb B hb1
  have XQ := hid hx2
  clear hb1 hx2
  clear hs3 hN hsl hA hB hZ hD hG0
  go_enter Tryz.func30, Tryz.ntmps30
  have cc4 := XQ.out.cells
  go_wp2_with fail
  generalize hW : w.alloc (.cells #[.bool false, .slice none 0 0, .slice none 0 0] 45) = W5 at *
  clear hW
  go_loop [4] (fun i => ∃ k : Nat, k ≤ N ∧ i = .int .i64 k) (fun i => N - (intOf i).toNat)
  case atStart => exact ⟨0, Nat.zero_le _, rfl⟩
  case round =>
    obtain ⟨k, hk, rfl⟩ := hrel
    by_cases hkN : k < N
    · have hks : k < s.size := by omega
      have hby := cut_byte HN.out hkN hks
      clear h47
      go_wp2_with fail
      go_round
      case rel => exact ⟨k + 1, by omega, by go_num⟩
      case measure => simp [intOf]; omega
    · obtain rfl : k = N := by omega
      clear hkN hk
      have hi1 : IntKind.i64.wrap ((k : Int) + 1) = (k : Int) + 1 := IntWalk.i64_in _ (by omega)
      have hi2 : ((k : Int) + 1).toNat = k + 1 := by omega
      have hi3 : (0 : Int) ≤ (k : Int) + 1 := by omega
      have hi4 : (k : Int) + 1 ≤ (s.size : Int) := by omega
      have hi5 : ¬ (k : Int) = (s.size : Int) := by omega
      go_wp2_with fail
      refine (rwholeof_good (s := s.extract 0 k) ⟨(by rw [ByteArray.size_extract]; have := HS.out; omega), by rw [HF.out]; exact HhA.out⟩ _).mono ?_
      rintro e w6 ⟨v, rfl, hv, hb⟩
      unfold znum at hv
      rw [HF.out] at hv
      obtain ⟨s5, p5, n5, c5, rfl⟩ := hv.opened
      replace XQ := qx XQ hb
      replace B := bb B hb
      clear cc4
      have HT := hid hv
      clear hb hv
      obtain ⟨hb7, hx8, hs9⟩ := BoxR.made w6 s5 p5 n5 c5
      have L0 := hid XQ.out.lt
      replace XQ := qx XQ hb7
      replace HT := wr HT hb7
      replace B := bb B hb7
      have X5 := hid hx8
      clear hb7 hx8
      have cc10 := XQ.out.cells
      have cc11 := X5.out.both
      go_wp2_with fail
      generalize hW : w6.alloc (.cells #[.bool s5, .slice p5 n5 c5] 43) = W12 at *
      clear hW
      refine (natof_r HBK.out (by rw [ByteArray.size_extract]; have := HS.out; omega) HhB.out _).mono ?_
      rintro e w13 ⟨p6, n6, c6, rfl, hv, hb⟩
      replace XQ := qx XQ hb
      replace X5 := br X5 hb
      replace HT := wr HT hb
      replace B := bb B hb
      clear cc10 cc11
      have HU := hid hv.value
      clear hb hv
      have cc14 := XQ.out.cells
      have cc15 := X5.out.both
      have hn5 : ¬ (n5 : Int) = 0 := by have h1 := HT.out.inside.1.len; have h2 := HhZ.out; omega
      go_wp2_with fail
      have h1o := (natR_one w13).value
      have hb16 := (Below.refl _ _).alloc (Nat.le_refl w13.heap.size) (.cells #[.int .i64 1] 3)
      replace XQ := qx XQ hb16
      replace X5 := br X5 hb16
      replace HT := wr HT hb16
      replace HU := wr HU hb16
      replace B := bb B hb16
      have H1O := hid h1o
      clear h1o hb16
      have hc := rcmpn HU.out.nat H1O.out.nat (by omega) (by omega)
      rw [cmpv_one (by have := HhD.out; omega), if_neg (by have := HhD.out; omega)] at hc
      refine (hc).mono ?_
      rintro e w17 ⟨rfl, hb⟩
      replace XQ := qx XQ hb
      replace X5 := br X5 hb
      replace HT := wr HT hb
      replace HU := wr HU hb
      replace H1O := wr H1O hb
      replace B := bb B hb
      clear cc14 cc15
      clear hb hc
      have cc18 := XQ.out.cells
      have cc19 := X5.out.both
      go_wp2_with fail
      refine (rgcdn HT.out.abs.nat HU.out.nat (by omega)).mono ?_
      rintro e w20 ⟨p7, n7, c7, rfl, hv, hb⟩
      replace XQ := qx XQ hb
      replace X5 := br X5 hb
      replace HT := wr HT hb
      replace HU := wr HU hb
      replace H1O := wr H1O hb
      replace B := bb B hb
      clear cc18 cc19
      have HV := hid hv.value
      clear hb hv
      have cc21 := XQ.out.cells
      have cc22 := X5.out.both
      go_wp2_with fail
      have h1o := (natR_one w20).value
      have hb23 := (Below.refl _ _).alloc (Nat.le_refl w20.heap.size) (.cells #[.int .i64 1] 3)
      replace XQ := qx XQ hb23
      replace X5 := br X5 hb23
      replace HT := wr HT hb23
      replace HU := wr HU hb23
      replace H1O := wr H1O hb23
      replace HV := wr HV hb23
      replace B := bb B hb23
      have H1O := hid h1o
      clear h1o hb23
      have hc := rcmpn HV.out.nat H1O.out.nat (by omega) (by omega)
      rw [cmpv_one (Nat.gcd_pos_of_pos_right _ (by have := HhD.out; omega)), if_neg HhG0.out] at hc
      refine (hc).mono ?_
      rintro e w24 ⟨rfl, hb⟩
      replace XQ := qx XQ hb
      replace X5 := br X5 hb
      replace HT := wr HT hb
      replace HU := wr HU hb
      replace H1O := wr H1O hb
      replace HV := wr HV hb
      replace B := bb B hb
      clear cc21 cc22
      clear hb hc
      have cc25 := XQ.out.cells
      have cc26 := X5.out.both
      have cc27 := XQ.out.stores
      obtain ⟨r28a, r28b, r28c⟩ := XQ.out.last B.out (by have := L0.out; omega) false none 0 0 none 0 0
      replace X5 := hid (X5.out.kept (heap3 (g := w.heap.size) (by have := L0.out; omega) (.bool false) (.slice none 0 0) (.slice none 0 0)))
      replace HT := hid (r28c HT.out)
      replace HU := hid (r28c HU.out)
      replace H1O := hid (r28c H1O.out)
      replace HV := hid (r28c HV.out)
      replace XQ := hid r28a
      replace B := hid r28b
      clear r28a r28b r28c
      go_wp2_with fail
      refine bodyPost_ret (res_q_tmp rfl rfl rfl XQ.out) rfl ?_
      exact ⟨_, _, _, _, _, _, _, rfl, B.out⟩

set_option maxHeartbeats 4000000 in
theorem ratofG (s : ByteArray) (w : World) (hs : s.size ≤ 100) (hsl : hasSl s.data.toList = true) (hA : isWhl (cutB s.data.toList) = true) (hB : isNat (cutA s.data.toList) = true) (hZ : whlOf (cutB s.data.toList) ≠ 0) (hD : 1 < dval (cutA s.data.toList)) (hG : Nat.gcd (whlOf (cutB s.data.toList)).natAbs (dval (cutA s.data.toList)) = 1) :
    Calls Tryz.prog 30 #[.string s] w fun e w' => ∃ v, e = .returned (.tuple #[v, .int .i64 0]) ∧ QR w' v (ratOf s.data.toList) 100 ∧ Below w.heap.size w w' := by
  have Hhsl := hid hsl
  have HhA := hid hA
  have HhB := hid hB
  have HhZ := hid hZ
  have HhD := hid hD
  have HhG := hid hG
  have HS := hid hs
  obtain ⟨N, hN⟩ : ∃ N, (cutB s.data.toList).length = N := ⟨_, rfl⟩
  have hNle : N ≤ s.size := by rw [← hN]; exact cutB_le _
  have HN := hid hN
  have HF := hid (cut_front hN)
  obtain ⟨hlt, h47, hbk⟩ := cut_some hN hsl
  have HBK := hid hbk
  clear hbk
  have hsz : (s.size : Int) ≤ 100 := by omega
  have B := hid (Below.refl w.heap.size w)
  obtain ⟨hb1, hx2, hs3⟩ := Qbx.made w false none 0 0 none 0 0
  replace B := bb B hb1
  have XQ := hid hx2
  clear hb1 hx2
  clear hs3 hN hsl hA hB hZ hD hG
  go_enter Tryz.func30, Tryz.ntmps30
  have cc4 := XQ.out.cells
  go_wp2_with fail
  generalize hW : w.alloc (.cells #[.bool false, .slice none 0 0, .slice none 0 0] 45) = W5 at *
  clear hW
  go_loop [4] (fun i => ∃ k : Nat, k ≤ N ∧ i = .int .i64 k) (fun i => N - (intOf i).toNat)
  case atStart => exact ⟨0, Nat.zero_le _, rfl⟩
  case round =>
    obtain ⟨k, hk, rfl⟩ := hrel
    by_cases hkN : k < N
    · have hks : k < s.size := by omega
      have hby := cut_byte HN.out hkN hks
      clear h47
      go_wp2_with fail
      go_round
      case rel => exact ⟨k + 1, by omega, by go_num⟩
      case measure => simp [intOf]; omega
    · obtain rfl : k = N := by omega
      clear hkN hk
      have hi1 : IntKind.i64.wrap ((k : Int) + 1) = (k : Int) + 1 := IntWalk.i64_in _ (by omega)
      have hi2 : ((k : Int) + 1).toNat = k + 1 := by omega
      have hi3 : (0 : Int) ≤ (k : Int) + 1 := by omega
      have hi4 : (k : Int) + 1 ≤ (s.size : Int) := by omega
      have hi5 : ¬ (k : Int) = (s.size : Int) := by omega
      go_wp2_with fail
      refine (rwholeof_good (s := s.extract 0 k) ⟨(by rw [ByteArray.size_extract]; have := HS.out; omega), by rw [HF.out]; exact HhA.out⟩ _).mono ?_
      rintro e w6 ⟨v, rfl, hv, hb⟩
      unfold znum at hv
      rw [HF.out] at hv
      obtain ⟨s5, p5, n5, c5, rfl⟩ := hv.opened
      replace XQ := qx XQ hb
      replace B := bb B hb
      clear cc4
      have HT := hid hv
      clear hb hv
      obtain ⟨hb7, hx8, hs9⟩ := BoxR.made w6 s5 p5 n5 c5
      have L0 := hid XQ.out.lt
      replace XQ := qx XQ hb7
      replace HT := wr HT hb7
      replace B := bb B hb7
      have X5 := hid hx8
      clear hb7 hx8
      have cc10 := XQ.out.cells
      have cc11 := X5.out.both
      go_wp2_with fail
      generalize hW : w6.alloc (.cells #[.bool s5, .slice p5 n5 c5] 43) = W12 at *
      clear hW
      refine (natof_r HBK.out (by rw [ByteArray.size_extract]; have := HS.out; omega) HhB.out _).mono ?_
      rintro e w13 ⟨p6, n6, c6, rfl, hv, hb⟩
      replace XQ := qx XQ hb
      replace X5 := br X5 hb
      replace HT := wr HT hb
      replace B := bb B hb
      clear cc10 cc11
      have HU := hid hv.value
      clear hb hv
      have cc14 := XQ.out.cells
      have cc15 := X5.out.both
      have hn5 : ¬ (n5 : Int) = 0 := by have h1 := HT.out.inside.1.len; have h2 := HhZ.out; omega
      go_wp2_with fail
      have h1o := (natR_one w13).value
      have hb16 := (Below.refl _ _).alloc (Nat.le_refl w13.heap.size) (.cells #[.int .i64 1] 3)
      replace XQ := qx XQ hb16
      replace X5 := br X5 hb16
      replace HT := wr HT hb16
      replace HU := wr HU hb16
      replace B := bb B hb16
      have H1O := hid h1o
      clear h1o hb16
      have hc := rcmpn HU.out.nat H1O.out.nat (by omega) (by omega)
      rw [cmpv_one (by have := HhD.out; omega), if_neg (by have := HhD.out; omega)] at hc
      refine (hc).mono ?_
      rintro e w17 ⟨rfl, hb⟩
      replace XQ := qx XQ hb
      replace X5 := br X5 hb
      replace HT := wr HT hb
      replace HU := wr HU hb
      replace H1O := wr H1O hb
      replace B := bb B hb
      clear cc14 cc15
      clear hb hc
      have cc18 := XQ.out.cells
      have cc19 := X5.out.both
      go_wp2_with fail
      refine (rgcdn HT.out.abs.nat HU.out.nat (by omega)).mono ?_
      rintro e w20 ⟨p7, n7, c7, rfl, hv, hb⟩
      replace XQ := qx XQ hb
      replace X5 := br X5 hb
      replace HT := wr HT hb
      replace HU := wr HU hb
      replace H1O := wr H1O hb
      replace B := bb B hb
      clear cc18 cc19
      have HV := hid hv.value
      clear hb hv
      have cc21 := XQ.out.cells
      have cc22 := X5.out.both
      go_wp2_with fail
      have h1o := (natR_one w20).value
      have hb23 := (Below.refl _ _).alloc (Nat.le_refl w20.heap.size) (.cells #[.int .i64 1] 3)
      replace XQ := qx XQ hb23
      replace X5 := br X5 hb23
      replace HT := wr HT hb23
      replace HU := wr HU hb23
      replace H1O := wr H1O hb23
      replace HV := wr HV hb23
      replace B := bb B hb23
      have H1O := hid h1o
      clear h1o hb23
      have hc := rcmpn HV.out.nat H1O.out.nat (by omega) (by omega)
      rw [cmpv_one (Nat.gcd_pos_of_pos_right _ (by have := HhD.out; omega)), if_pos HhG.out] at hc
      refine (hc).mono ?_
      rintro e w24 ⟨rfl, hb⟩
      replace XQ := qx XQ hb
      replace X5 := br X5 hb
      replace HT := wr HT hb
      replace HU := wr HU hb
      replace H1O := wr H1O hb
      replace HV := wr HV hb
      replace B := bb B hb
      clear cc21 cc22
      clear hb hc
      have cc25 := XQ.out.cells
      have cc26 := X5.out.both
      have cc27 := XQ.out.stores
      obtain ⟨r28a, r28b, r28c⟩ := XQ.out.last B.out (by have := L0.out; omega) s5 p5 n5 c5 p6 n6 c6
      replace X5 := hid (X5.out.kept (heap3 (g := w.heap.size) (by have := L0.out; omega) (.bool s5) (.slice p5 n5 c5) (.slice p6 n6 c6)))
      replace HT := hid (r28c HT.out)
      replace HU := hid (r28c HU.out)
      replace H1O := hid (r28c H1O.out)
      replace HV := hid (r28c HV.out)
      replace XQ := hid r28a
      replace B := hid r28b
      clear r28a r28b r28c
      go_wp2_with fail
      refine bodyPost_ret (res_q_tmp rfl rfl rfl XQ.out) rfl ?_
      have hwd : whlOf (cutA s.data.toList) = (dval (cutA s.data.toList) : Int) := whlOf_nat HhB.out
      obtain ⟨e1, e2⟩ := divInt_coprime (n := whlOf (cutB s.data.toList)) (d := whlOf (cutA s.data.toList)) (by rw [hwd]; have := HhD.out; omega) (by rw [hwd]; simpa [Int.gcd] using HhG.out)
      refine ⟨_, rfl, ?_, B.out⟩
      rw [ratOf, if_pos Hhsl.out]
      exact QR.mk2 (by rw [e1]; exact HT.out) (by rw [e2, hwd]; exact HU.out)

end Go.Proofs.YtdifiimaifmcpaaGreatDoor

/-
  THE REFERENCE: RatOf.
-/
namespace Go.Proofs.YtdifiimaifmcpaaGreatDoor
open Go.RowKit
open Num4
open Num (dg isNat dval)
set_option linter.unusedVariables false
set_option maxRecDepth 100000
set_option linter.unusedSimpArgs false

/-- A text with a slash that reads as a fraction: its parts. -/
theorem isRat_slash {l : List UInt8} (hs : hasSl l = true) (hA : isWhl (cutB l) = true) : isRat l = true ↔ (isNat (cutA l) = true ∧ whlOf (cutB l) ≠ 0 ∧ 1 < dval (cutA l) ∧ Nat.gcd (whlOf (cutB l)).natAbs (dval (cutA l)) = 1) := by
  rw [isRat, if_pos hs]
  simp only [hA, Bool.true_and, Bool.and_eq_true, decide_eq_true_eq]
  constructor
  · rintro ⟨⟨h1, h2⟩, h3⟩
    have hN : isNat (cutA l) = true := by
      cases hb : ((cutA l).head? == some 45)
      · rw [isWhl, hb] at h1; simpa using h1
      · exfalso
        have : whlOf (cutA l) = -(dval (cutA l).tail : Int) := by rw [whlOf, hb]; rfl
        omega
    have e := whlOf_nat hN
    rw [e] at h2 h3
    refine ⟨hN, ?_, by omega, by simpa [Int.gcd] using h3⟩
    intro e0
    rw [e0] at h3
    have h4 : Int.gcd 0 (dval (cutA l) : Int) = dval (cutA l) := by simp
    omega
  · rintro ⟨h1, h2, h3, h4⟩
    have e := whlOf_nat h1
    refine ⟨⟨isWhl_nat h1, by rw [e]; omega⟩, by rw [e]; simpa [Int.gcd] using h4⟩
theorem ratof_good {s : ByteArray} (h : GoodQ s) (w : World) :
    Calls Tryz.prog 30 #[.string s] w fun e w' => ∃ v, e = .returned (.tuple #[v, .int .i64 0]) ∧ QR w' v (qnum s) 100 ∧ Below w.heap.size w w' := by
  obtain ⟨hs, hn⟩ := h
  cases hsl : hasSl s.data.toList
  · have e : cutB s.data.toList = s.data.toList := by
      rcases index_cut s.data.toList with ⟨_, _, e⟩ | ⟨e, _⟩
      · exact e
      · rw [hsl] at e; cases e
    have hw : isWhl s.data.toList = true := by rw [isRat, hsl] at hn; simpa using hn
    exact ratofB s w hs hsl (by rw [e]; exact hw)
  · have hA : isWhl (cutB s.data.toList) = true := by
      rw [isRat, hsl] at hn
      simp only [if_true, Bool.and_eq_true] at hn
      exact hn.1.1.1
    obtain ⟨h1, h2, h3, h4⟩ := (isRat_slash hsl hA).1 hn
    exact ratofG s w hs hsl hA h1 h2 h3 h4
theorem ratof_bad {s : ByteArray} {k : Int} (h : BadQ s k) (w : World) (hm : s.size ≤ maxLen) :
    Calls Tryz.prog 30 #[.string s] w fun e w' => ∃ s p n c p' n' c', e = .returned (.tuple #[.agg #[.bool s, .slice p n c, .slice p' n' c'], .int .i64 k]) ∧ Below w.heap.size w w' := by
  rcases h with ⟨h, rfl⟩ | ⟨hs, hn, rfl⟩
  · exact ratof_long s w h hm
  · cases hA : isWhl (cutB s.data.toList)
    · cases hsl : hasSl s.data.toList
      · exact ratofA s w hs hsl hA
      · exact ratofA2 s w hs hsl hA
    · cases hsl : hasSl s.data.toList
      · exfalso
        have e : cutB s.data.toList = s.data.toList := by
          rcases index_cut s.data.toList with ⟨_, _, e⟩ | ⟨e, _⟩
          · exact e
          · rw [hsl] at e; cases e
        rw [e] at hA
        rw [isRat, hsl] at hn
        simp [hA] at hn
      · have hno := mt (isRat_slash hsl hA).2 (by rw [hn]; decide)
        cases hB : isNat (cutA s.data.toList)
        · exact ratofC s w hs hsl hA hB
        · by_cases hZ : whlOf (cutB s.data.toList) = 0
          · exact ratofD s w hs hsl hA hB hZ
          · rcases (show dval (cutA s.data.toList) = 0 ∨ dval (cutA s.data.toList) = 1 ∨ 1 < dval (cutA s.data.toList) by omega) with hd | hd | hd
            · exact ratofH s w hs hsl hA hB hZ hd
            · exact ratofE s w hs hsl hA hB hZ hd
            · by_cases hG : Nat.gcd (whlOf (cutB s.data.toList)).natAbs (dval (cutA s.data.toList)) = 1
              · exact absurd ⟨hB, hZ, hd, hG⟩ hno
              · exact ratofF s w hs hsl hA hB hZ hd hG

end Go.Proofs.YtdifiimaifmcpaaGreatDoor

/-
  THE REFERENCE: naturals once more; boxes that a region makes.
-/
namespace Go.Proofs.YtdifiimaifmcpaaGreatDoor
open Go.RowKit
open Num4
open Num (dg isNat dval)
set_option linter.unusedVariables false
set_option maxRecDepth 100000
set_option linter.unusedSimpArgs false

theorem QR.on {w w' : World} {v : Value} {q : Rat} {k : Nat} (h : QR w v q k) (hb : Below w.heap.size w w') : QR w' v q k := by
  obtain ⟨s, p, n, c, p', n', c', h1, h2, h3⟩ := h
  exact ⟨s, p, n, c, p', n', c', h1, h2.on hb, h3.on hb⟩
theorem NatR.nil (w : World) (k : Nat) : NatR w (.slice none 0 0) 0 k := ⟨[], LimR.nil w, .inl rfl, Nat.zero_le _, rfl⟩
theorem NatR.fit {w : World} {v : Value} {n k : Nat} (m : Nat) (h : NatR w v n k) (hn : n < B ^ m) : NatR w v n m := by
  obtain ⟨xs, h1, h2, h3, rfl⟩ := h
  exact ⟨xs, h1, h2, length_le_of_val h2 m hn, rfl⟩
/-- A whole number's box that the region has made. -/
def NewZ (w0 w : World) (u : Value) (b : Bool) (v : Value) : Prop := ∃ g, u = .pointer (some ⟨g, 0, none⟩) ∧ w0.heap.size ≤ g ∧ (b = false → BoxR w g false (.slice none 0 0)) ∧ (b = true → ∃ s p n c, v = .agg #[.bool s, .slice p n c] ∧ BoxR w g s (.slice p n c))
theorem NewZ.free {w0 w : World} {u v v' : Value} {b : Bool} (h : NewZ w0 w u b v) (hb : b = false) : NewZ w0 w u b v' := by
  obtain ⟨g, h1, h2, h3, h4⟩ := h
  exact ⟨g, h1, h2, h3, fun e => absurd (hb.symm.trans e) (by decide)⟩
theorem NewZ.on {w0 w w' : World} {u v : Value} {b : Bool} (h : NewZ w0 w u b v) (hb : Below w.heap.size w w') : NewZ w0 w' u b v := by
  obtain ⟨g, h1, h2, h3, h4⟩ := h
  refine ⟨g, h1, h2, fun e => (h3 e).below hb (h3 e).lt, fun e => ?_⟩
  obtain ⟨s, p, n, c, e1, e2⟩ := h4 e
  exact ⟨s, p, n, c, e1, e2.below hb e2.lt⟩
theorem NatR.moved {w w' : World} {v : Value} {n k : Nat} (h : NatR w v n k) (hm : ∀ v z k, WhlR w v z k → WhlR w' v z k) : NatR w' v n k := by
  obtain ⟨xs, h1, h2, h3, rfl⟩ := h
  obtain ⟨hn, _⟩ := (hm _ _ _ (show WhlR w (.agg #[.bool false, v]) ((val xs : Nat) : Int) k from ⟨false, v, xs, rfl, h1, h2, h3, (fun e => by cases e), rfl⟩)).inside
  simpa using hn
theorem QR.moved {w w' : World} {v : Value} {q : Rat} {k : Nat} (h : QR w v q k) (hm : ∀ v z k, WhlR w v z k → WhlR w' v z k) : QR w' v q k := by
  obtain ⟨s, p, n, c, p', n', c', h1, h2, h3⟩ := h
  exact ⟨s, p, n, c, p', n', c', h1, hm _ _ _ h2, hm _ _ _ h3⟩
/-- A fraction's box that the region has made. -/
def NewQ (w0 w : World) (u : Value) (b : Bool) (v : Value) : Prop := ∃ g, u = .pointer (some ⟨g, 0, none⟩) ∧ w0.heap.size ≤ g ∧ (b = false → Qbx w g false (.slice none 0 0) (.slice none 0 0)) ∧ (b = true → ∃ s p n c p' n' c', v = .agg #[.bool s, .slice p n c, .slice p' n' c'] ∧ Qbx w g s (.slice p n c) (.slice p' n' c'))
theorem NewQ.free {w0 w : World} {u v v' : Value} {b : Bool} (h : NewQ w0 w u b v) (hb : b = false) : NewQ w0 w u b v' := by
  obtain ⟨g, h1, h2, h3, h4⟩ := h
  exact ⟨g, h1, h2, h3, fun e => absurd (hb.symm.trans e) (by decide)⟩
theorem NewQ.on {w0 w w' : World} {u v : Value} {b : Bool} (h : NewQ w0 w u b v) (hb : Below w.heap.size w w') : NewQ w0 w' u b v := by
  obtain ⟨g, h1, h2, h3, h4⟩ := h
  refine ⟨g, h1, h2, fun e => (h3 e).below hb (h3 e).lt, fun e => ?_⟩
  obtain ⟨s, p, n, c, p', n', c', e1, e2⟩ := h4 e
  exact ⟨s, p, n, c, p', n', c', e1, e2.below hb e2.lt⟩
theorem NewQ.lt {w0 w : World} {u v : Value} {b : Bool} (h : NewQ w0 w u b v) : ∃ g, u = .pointer (some ⟨g, 0, none⟩) ∧ g < w.heap.size := by
  obtain ⟨g, h1, h2, h3, h4⟩ := h
  refine ⟨g, h1, ?_⟩
  cases b with
  | false => exact (h3 rfl).lt
  | true => obtain ⟨_, _, _, _, _, _, _, _, h⟩ := h4 rfl; exact h.lt

end Go.Proofs.YtdifiimaifmcpaaGreatDoor

/-
  THE REFERENCE: Whole, Int, Size.
-/
namespace Go.Proofs.YtdifiimaifmcpaaGreatDoor
open Go.RowKit
open Num4
open Num (dg isNat dval)
set_option linter.unusedVariables false
set_option maxRecDepth 100000
set_option linter.unusedSimpArgs false

/-- As many limbs as its parts need. -/
theorem QR.fit {w : World} {v : Value} {q : Rat} {k : Nat} (m : Nat) (h : QR w v q k) (hn : q.num.natAbs < B ^ m) (hd : q.den < B ^ m) : QR w v q m := by
  obtain ⟨s, p, n, c, p', n', c', h1, h2, h3⟩ := h
  exact ⟨s, p, n, c, p', n', c', h1, h2.fit m hn, h3.fit m (by simpa using hd)⟩
set_option maxHeartbeats 1000000 in
theorem rint (n : Int) (h1 : -1000 ≤ n) (h2 : n ≤ 1000) (w : World) :
    Calls Tryz.prog 21 #[.int .i64 n] w fun e w' => ∃ v, e = .returned v ∧ QR w' v (n : Rat) 1 ∧ Below w.heap.size w w' := by
  have HS := hid (fun w' => rsmallz n h1 h2 w')
  have B := hid (Below.refl w.heap.size w)
  obtain ⟨hb1, hx2, hs3⟩ := Qbx.made w false none 0 0 none 0 0
  replace B := bb B hb1
  have XQ := hid hx2
  clear hb1 hx2
  clear hs3 h1 h2
  go_enter Tryz.func21, Tryz.ntmps21
  have cc4 := XQ.out.cells
  go_wp2_with fail
  generalize hW : w.alloc (.cells #[.bool false, .slice none 0 0, .slice none 0 0] 45) = W5 at *
  clear hW
  refine (HS.out _).mono ?_
  rintro e w6 ⟨v, rfl, hv, hb⟩
  obtain ⟨s3, p3, n3, c3, rfl⟩ := hv.opened
  replace XQ := qx XQ hb
  replace B := bb B hb
  clear cc4
  have HM := hid hv
  clear hb hv
  have cc7 := XQ.out.cells
  have h1o := (natR_one w6).value
  have hb8 := (Below.refl _ _).alloc (Nat.le_refl w6.heap.size) (.cells #[.int .i64 1] 3)
  replace XQ := qx XQ hb8
  replace HM := wr HM hb8
  replace B := bb B hb8
  have H1O := hid h1o
  clear h1o hb8
  have cc9 := XQ.out.stores
  obtain ⟨r10a, r10b, r10c⟩ := XQ.out.last B.out (by omega) s3 p3 n3 c3 (some ⟨w6.heap.size, 0, none⟩) 1 1
  replace HM := hid (r10c HM.out)
  replace H1O := hid (r10c H1O.out)
  replace XQ := hid r10a
  replace B := hid r10b
  clear r10a r10b r10c
  go_wp2_with fail
  refine bodyPost_ret (res_q rfl rfl XQ.out) rfl ?_
  exact ⟨_, rfl, QR.mk2 (by rw [Rat.num_intCast]; exact HM.out) (by rw [Rat.den_intCast]; exact H1O.out), B.out⟩

end Go.Proofs.YtdifiimaifmcpaaGreatDoor

/-
  THE REFERENCE: Add, Neg, Sub.
-/
namespace Go.Proofs.YtdifiimaifmcpaaGreatDoor
open Go.RowKit
open Num4
open Num (dg isNat dval)
set_option linter.unusedVariables false
set_option maxRecDepth 100000
set_option linter.unusedSimpArgs false

set_option maxHeartbeats 4000000 in
theorem radd {w : World} {v u : Value} {q r : Rat} {k : Nat} (h : QR w v q k) (h' : QR w u r k)  (hk : k ≤ 4294967296) :
    Calls Tryz.prog 55 #[v, u] w fun e w' => ∃ v, e = .returned v ∧ QR w' v (q + r) (k + k + 1) ∧ Below w.heap.size w w' := by
  obtain ⟨s1a, p1a, n1a, c1a, p1b, n1b, c1b, rfl⟩ := h.opened
  obtain ⟨ht1, hu1⟩ := h.two
  obtain ⟨s2a, p2a, n2a, c2a, p2b, n2b, c2b, rfl⟩ := h'.opened
  obtain ⟨ht2, hu2⟩ := h'.two
  have HK := hid hk
  have B := hid (Below.refl w.heap.size w)
  have HN1 := hid ht1
  have HD1 := hid hu1
  have HN2 := hid ht2
  have HD2 := hid hu2
  obtain ⟨hb1, hx2, hs3⟩ := Qbx.made w s1a p1a n1a c1a p1b n1b c1b
  replace HN1 := wr HN1 hb1
  replace HD1 := wr HD1 hb1
  replace HN2 := wr HN2 hb1
  replace HD2 := wr HD2 hb1
  replace B := bb B hb1
  have X1 := hid hx2
  clear hb1 hx2
  obtain ⟨hb4, hx5, hs6⟩ := Qbx.made (w.alloc (.cells #[.bool s1a, .slice p1a n1a c1a, .slice p1b n1b c1b] 45)) s2a p2a n2a c2a p2b n2b c2b
  rw [hs3] at hx5 hs6
  replace X1 := qx X1 hb4
  replace HN1 := wr HN1 hb4
  replace HD1 := wr HD1 hb4
  replace HN2 := wr HN2 hb4
  replace HD2 := wr HD2 hb4
  replace B := bb B hb4
  have X2 := hid hx5
  clear hb4 hx5
  obtain ⟨hb7, hx8, hs9⟩ := Qbx.made ((w.alloc (.cells #[.bool s1a, .slice p1a n1a c1a, .slice p1b n1b c1b] 45)).alloc (.cells #[.bool s2a, .slice p2a n2a c2a, .slice p2b n2b c2b] 45)) false none 0 0 none 0 0
  rw [hs6] at hx8 hs9
  replace X1 := qx X1 hb7
  replace X2 := qx X2 hb7
  replace HN1 := wr HN1 hb7
  replace HD1 := wr HD1 hb7
  replace HN2 := wr HN2 hb7
  replace HD2 := wr HD2 hb7
  replace B := bb B hb7
  have XQ := hid hx8
  clear hb7 hx8
  clear hs9 h h' ht1 hu1 ht2 hu2 hk
  go_enter Tryz.func55, Tryz.ntmps55
  have cc10 := X1.out.cells
  have cc11 := X2.out.cells
  have cc12 := XQ.out.cells
  go_wp2_with fail
  generalize hW : ((w.alloc (.cells #[.bool s1a, .slice p1a n1a c1a, .slice p1b n1b c1b] 45)).alloc (.cells #[.bool s2a, .slice p2a n2a c2a, .slice p2b n2b c2b] 45)).alloc (.cells #[.bool false, .slice none 0 0, .slice none 0 0] 45) = W13 at *
  clear hW
  have cc14 := X1.out.cells
  have cc15 := X2.out.cells
  replace X1 := hid X1.out.dr
  replace X2 := hid X2.out.dr
  replace XQ := hid XQ.out.dr
  replace HN1 := hid HN1.out.drew
  replace HD1 := hid HD1.out.drew
  replace HN2 := hid HN2.out.drew
  replace HD2 := hid HD2.out.drew
  replace B := hid (Below.drew B.out)
  have cc16 := X1.out.cells
  have cc17 := X2.out.cells
  go_region_held3 (fun w' => w'.cell? ⟨w.heap.size, 0, none⟩ = some (.bool s1a) ∧ w'.cell? ⟨w.heap.size, 1, none⟩ = some (.slice p1a n1a c1a) ∧ w'.cell? ⟨w.heap.size, 2, none⟩ = some (.slice p1b n1b c1b) ∧ w'.cell? ⟨w.heap.size + 1, 0, none⟩ = some (.bool s2a) ∧ w'.cell? ⟨w.heap.size + 1, 1, none⟩ = some (.slice p2a n2a c2a) ∧ w'.cell? ⟨w.heap.size + 1, 2, none⟩ = some (.slice p2b n2b c2b)) (go_keep) (first
    | (have hm := mk18_3; clear hm; go_at_call 56; refine (rover (k := k + k + 1) (S1.out.mono (by omega)) (P3.out.mono (by omega)).nat (Nat.mul_pos q.den_pos r.den_pos) (by have := HK.out; omega)).mono ?_; rintro e w31 ⟨v, rfl, hv, hb⟩; obtain ⟨s9a, p9a, n9a, c9a, p9b, n9b, c9b, rfl⟩ := hv.opened; obtain ⟨ht9, hu9⟩ := hv.two; replace X1 := qx X1 hb; replace X2 := qx X2 hb; replace XQ := qx XQ hb; replace HN1 := wr HN1 hb; replace HD1 := wr HD1 hb; replace HN2 := wr HN2 hb; replace HD2 := wr HD2 hb; replace P1 := wr P1 hb; replace P2 := wr P2 hb; replace S1 := wr S1 hb; replace P3 := wr P3 hb; replace B := bb B hb; clear cc29 cc30; have HN9 := hid ht9; have HD9 := hid hu9; clear hb hv ht9 hu9; have cc32 := X1.out.cells; have cc33 := X2.out.cells; have cc34 := XQ.out.stores; obtain ⟨r35a, r35b, r35c⟩ := XQ.out.last B.out (by omega) s9a p9a n9a c9a p9b n9b c9b; replace X1 := hid (X1.out.kept (heap3 (g := w.heap.size + 1 + 1) (by omega) (.bool s9a) (.slice p9a n9a c9a) (.slice p9b n9b c9b))); replace X2 := hid (X2.out.kept (heap3 (g := w.heap.size + 1 + 1) (by omega) (.bool s9a) (.slice p9a n9a c9a) (.slice p9b n9b c9b))); replace HN1 := hid (r35c HN1.out); replace HD1 := hid (r35c HD1.out); replace HN2 := hid (r35c HN2.out); replace HD2 := hid (r35c HD2.out); replace P1 := hid (r35c P1.out); replace P2 := hid (r35c P2.out); replace S1 := hid (r35c S1.out); replace P3 := hid (r35c P3.out); replace HN9 := hid (r35c HN9.out); replace HD9 := hid (r35c HD9.out); replace XQ := hid r35a; replace B := hid r35b; clear r35a r35b r35c; have cc36 := X1.out.cells; have cc37 := X2.out.cells; have mk18_4 := hid True.intro)
    | (have hm := mk18_2; clear hm; go_at_call 58; refine (rmuln HD1.out.nat HD2.out.nat (by have := HK.out; omega) (by have := HK.out; omega)).mono ?_; rintro e w28 ⟨p7, n7, c7, rfl, hv, hb⟩; replace X1 := qx X1 hb; replace X2 := qx X2 hb; replace XQ := qx XQ hb; replace HN1 := wr HN1 hb; replace HD1 := wr HD1 hb; replace HN2 := wr HN2 hb; replace HD2 := wr HD2 hb; replace P1 := wr P1 hb; replace P2 := wr P2 hb; replace S1 := wr S1 hb; replace B := bb B hb; clear cc26 cc27; have P3 := hid hv.value; clear hb hv; have cc29 := X1.out.cells; have cc30 := X2.out.cells; have mk18_3 := hid True.intro)
    | (have hm := mk18_1; clear hm; go_at_call 87; refine (raddz P1.out P2.out (by have := HK.out; omega) (by have := HK.out; omega)).mono ?_; rintro e w25 ⟨v, rfl, hv, hb⟩; obtain ⟨s6, p6, n6, c6, rfl⟩ := hv.opened; replace X1 := qx X1 hb; replace X2 := qx X2 hb; replace XQ := qx XQ hb; replace HN1 := wr HN1 hb; replace HD1 := wr HD1 hb; replace HN2 := wr HN2 hb; replace HD2 := wr HD2 hb; replace P1 := wr P1 hb; replace P2 := wr P2 hb; replace B := bb B hb; clear cc23 cc24; have S1 := hid hv; clear hb hv; have cc26 := X1.out.cells; have cc27 := X2.out.cells; have mk18_2 := hid True.intro)
    | (have hm := mk18_0; clear hm; go_at_call 57; refine (rmulz HN2.out HD1.out (by have := HK.out; omega) (by have := HK.out; omega)).mono ?_; rintro e w22 ⟨v, rfl, hv, hb⟩; obtain ⟨s5, p5, n5, c5, rfl⟩ := hv.opened; replace X1 := qx X1 hb; replace X2 := qx X2 hb; replace XQ := qx XQ hb; replace HN1 := wr HN1 hb; replace HD1 := wr HD1 hb; replace HN2 := wr HN2 hb; replace HD2 := wr HD2 hb; replace P1 := wr P1 hb; replace B := bb B hb; clear cc20 cc21; have P2 := hid hv; clear hb hv; have cc23 := X1.out.cells; have cc24 := X2.out.cells; have mk18_1 := hid True.intro)
    | (go_at_call 57; refine (rmulz HN1.out HD2.out (by have := HK.out; omega) (by have := HK.out; omega)).mono ?_; rintro e w19 ⟨v, rfl, hv, hb⟩; obtain ⟨s4, p4, n4, c4, rfl⟩ := hv.opened; replace X1 := qx X1 hb; replace X2 := qx X2 hb; replace XQ := qx XQ hb; replace HN1 := wr HN1 hb; replace HD1 := wr HD1 hb; replace HN2 := wr HN2 hb; replace HD2 := wr HD2 hb; replace B := bb B hb; clear cc10 cc11 cc12 cc14 cc15 cc16 cc17; have P1 := hid hv; clear hb hv; have cc20 := X1.out.cells; have cc21 := X2.out.cells; have mk18_0 := hid True.intro))
  go_wp2_with fail
  refine bodyPost_ret (res_q rfl rfl XQ.out) rfl ?_
  exact ⟨_, rfl, (by rw [add_parts, ← Int.natCast_mul]; exact QR.mk2 HN9.out HD9.out), B.out⟩

end Go.Proofs.YtdifiimaifmcpaaGreatDoor

/-
  THE REFERENCE: Mul, Div.
-/
namespace Go.Proofs.YtdifiimaifmcpaaGreatDoor
open Go.RowKit
open Num4
open Num (dg isNat dval)
set_option linter.unusedVariables false
set_option maxRecDepth 100000
set_option linter.unusedSimpArgs false

set_option maxHeartbeats 4000000 in
theorem rmul {w : World} {v u : Value} {q r : Rat} {k : Nat} (h : QR w v q k) (h' : QR w u r k)  (hk : k ≤ 4294967296) :
    Calls Tryz.prog 36 #[v, u] w fun e w' => ∃ v, e = .returned v ∧ QR w' v (q * r) (k + k + 1) ∧ Below w.heap.size w w' := by
  obtain ⟨s1a, p1a, n1a, c1a, p1b, n1b, c1b, rfl⟩ := h.opened
  obtain ⟨ht1, hu1⟩ := h.two
  obtain ⟨s2a, p2a, n2a, c2a, p2b, n2b, c2b, rfl⟩ := h'.opened
  obtain ⟨ht2, hu2⟩ := h'.two
  have HK := hid hk
  have B := hid (Below.refl w.heap.size w)
  have HN1 := hid ht1
  have HD1 := hid hu1
  have HN2 := hid ht2
  have HD2 := hid hu2
  obtain ⟨hb1, hx2, hs3⟩ := Qbx.made w s1a p1a n1a c1a p1b n1b c1b
  replace HN1 := wr HN1 hb1
  replace HD1 := wr HD1 hb1
  replace HN2 := wr HN2 hb1
  replace HD2 := wr HD2 hb1
  replace B := bb B hb1
  have X1 := hid hx2
  clear hb1 hx2
  obtain ⟨hb4, hx5, hs6⟩ := Qbx.made (w.alloc (.cells #[.bool s1a, .slice p1a n1a c1a, .slice p1b n1b c1b] 45)) s2a p2a n2a c2a p2b n2b c2b
  rw [hs3] at hx5 hs6
  replace X1 := qx X1 hb4
  replace HN1 := wr HN1 hb4
  replace HD1 := wr HD1 hb4
  replace HN2 := wr HN2 hb4
  replace HD2 := wr HD2 hb4
  replace B := bb B hb4
  have X2 := hid hx5
  clear hb4 hx5
  obtain ⟨hb7, hx8, hs9⟩ := Qbx.made ((w.alloc (.cells #[.bool s1a, .slice p1a n1a c1a, .slice p1b n1b c1b] 45)).alloc (.cells #[.bool s2a, .slice p2a n2a c2a, .slice p2b n2b c2b] 45)) false none 0 0 none 0 0
  rw [hs6] at hx8 hs9
  replace X1 := qx X1 hb7
  replace X2 := qx X2 hb7
  replace HN1 := wr HN1 hb7
  replace HD1 := wr HD1 hb7
  replace HN2 := wr HN2 hb7
  replace HD2 := wr HD2 hb7
  replace B := bb B hb7
  have XQ := hid hx8
  clear hb7 hx8
  clear hs9 h h' ht1 hu1 ht2 hu2 hk
  go_enter Tryz.func36, Tryz.ntmps36
  have cc10 := X1.out.cells
  have cc11 := X2.out.cells
  have cc12 := XQ.out.cells
  go_wp2_with fail
  generalize hW : ((w.alloc (.cells #[.bool s1a, .slice p1a n1a c1a, .slice p1b n1b c1b] 45)).alloc (.cells #[.bool s2a, .slice p2a n2a c2a, .slice p2b n2b c2b] 45)).alloc (.cells #[.bool false, .slice none 0 0, .slice none 0 0] 45) = W13 at *
  clear hW
  have cc14 := X1.out.cells
  have cc15 := X2.out.cells
  replace X1 := hid X1.out.dr
  replace X2 := hid X2.out.dr
  replace XQ := hid XQ.out.dr
  replace HN1 := hid HN1.out.drew
  replace HD1 := hid HD1.out.drew
  replace HN2 := hid HN2.out.drew
  replace HD2 := hid HD2.out.drew
  replace B := hid (Below.drew B.out)
  have cc16 := X1.out.cells
  have cc17 := X2.out.cells
  go_region_held3 (fun w' => w'.cell? ⟨w.heap.size, 0, none⟩ = some (.bool s1a) ∧ w'.cell? ⟨w.heap.size, 1, none⟩ = some (.slice p1a n1a c1a) ∧ w'.cell? ⟨w.heap.size, 2, none⟩ = some (.slice p1b n1b c1b) ∧ w'.cell? ⟨w.heap.size + 1, 0, none⟩ = some (.bool s2a) ∧ w'.cell? ⟨w.heap.size + 1, 1, none⟩ = some (.slice p2a n2a c2a) ∧ w'.cell? ⟨w.heap.size + 1, 2, none⟩ = some (.slice p2b n2b c2b)) (go_keep) (first
    | (have hm := mk18_1; clear hm; go_at_call 56; refine (rover (k := k + k + 1) (P1.out.mono (by omega)) (P3.out.mono (by omega)).nat (Nat.mul_pos q.den_pos r.den_pos) (by have := HK.out; omega)).mono ?_; rintro e w25 ⟨v, rfl, hv, hb⟩; obtain ⟨s9a, p9a, n9a, c9a, p9b, n9b, c9b, rfl⟩ := hv.opened; obtain ⟨ht9, hu9⟩ := hv.two; replace X1 := qx X1 hb; replace X2 := qx X2 hb; replace XQ := qx XQ hb; replace HN1 := wr HN1 hb; replace HD1 := wr HD1 hb; replace HN2 := wr HN2 hb; replace HD2 := wr HD2 hb; replace P1 := wr P1 hb; replace P3 := wr P3 hb; replace B := bb B hb; clear cc23 cc24; have HN9 := hid ht9; have HD9 := hid hu9; clear hb hv ht9 hu9; have cc26 := X1.out.cells; have cc27 := X2.out.cells; have cc28 := XQ.out.stores; obtain ⟨r29a, r29b, r29c⟩ := XQ.out.last B.out (by omega) s9a p9a n9a c9a p9b n9b c9b; replace X1 := hid (X1.out.kept (heap3 (g := w.heap.size + 1 + 1) (by omega) (.bool s9a) (.slice p9a n9a c9a) (.slice p9b n9b c9b))); replace X2 := hid (X2.out.kept (heap3 (g := w.heap.size + 1 + 1) (by omega) (.bool s9a) (.slice p9a n9a c9a) (.slice p9b n9b c9b))); replace HN1 := hid (r29c HN1.out); replace HD1 := hid (r29c HD1.out); replace HN2 := hid (r29c HN2.out); replace HD2 := hid (r29c HD2.out); replace P1 := hid (r29c P1.out); replace P3 := hid (r29c P3.out); replace HN9 := hid (r29c HN9.out); replace HD9 := hid (r29c HD9.out); replace XQ := hid r29a; replace B := hid r29b; clear r29a r29b r29c; have cc30 := X1.out.cells; have cc31 := X2.out.cells; have mk18_2 := hid True.intro)
    | (have hm := mk18_0; clear hm; go_at_call 58; refine (rmuln HD1.out.nat HD2.out.nat (by have := HK.out; omega) (by have := HK.out; omega)).mono ?_; rintro e w22 ⟨p7, n7, c7, rfl, hv, hb⟩; replace X1 := qx X1 hb; replace X2 := qx X2 hb; replace XQ := qx XQ hb; replace HN1 := wr HN1 hb; replace HD1 := wr HD1 hb; replace HN2 := wr HN2 hb; replace HD2 := wr HD2 hb; replace P1 := wr P1 hb; replace B := bb B hb; clear cc20 cc21; have P3 := hid hv.value; clear hb hv; have cc23 := X1.out.cells; have cc24 := X2.out.cells; have mk18_1 := hid True.intro)
    | (go_at_call 57; refine (rmulz HN1.out HN2.out (by have := HK.out; omega) (by have := HK.out; omega)).mono ?_; rintro e w19 ⟨v, rfl, hv, hb⟩; obtain ⟨s4, p4, n4, c4, rfl⟩ := hv.opened; replace X1 := qx X1 hb; replace X2 := qx X2 hb; replace XQ := qx XQ hb; replace HN1 := wr HN1 hb; replace HD1 := wr HD1 hb; replace HN2 := wr HN2 hb; replace HD2 := wr HD2 hb; replace B := bb B hb; clear cc10 cc11 cc12 cc14 cc15 cc16 cc17; have P1 := hid hv; clear hb hv; have cc20 := X1.out.cells; have cc21 := X2.out.cells; have mk18_0 := hid True.intro))
  go_wp2_with fail
  refine bodyPost_ret (res_q rfl rfl XQ.out) rfl ?_
  exact ⟨_, rfl, (by rw [mul_parts, ← Int.natCast_mul]; exact QR.mk2 HN9.out HD9.out), B.out⟩

theorem inv_parts (r : Rat) (hr : r ≠ 0) : zof (decide (r.num < 0)) r.den = (r⁻¹).num ∧ (r.num.natAbs : Int) = (r⁻¹).den := by
  have hn : r.num ≠ 0 := by rw [Ne, Rat.num_eq_zero]; exact hr
  have hg : Int.gcd r.den r.num = 1 := by rw [Int.gcd_comm]; exact r.reduced
  obtain ⟨e1, e2⟩ := divInt_parts r.den r.num hn
  rw [Rat.inv_def, e1, e2, hg]
  by_cases h : r.num < 0
  · rw [if_pos h, decide_eq_true h]
    refine ⟨?_, ?_⟩
    · show -(r.den : Int) = _
      simp
    · simp; omega
  · rw [if_neg h, decide_eq_false h]
    refine ⟨?_, ?_⟩
    · show (r.den : Int) = _
      simp
    · simp; omega
theorem WhlR.resign {w : World} {v : Value} {n k : Nat} (s : Bool) (h : NatR w v n k) (hn : n ≠ 0) : WhlR w (.agg #[.bool s, v]) (zof s n) k := by
  obtain ⟨xs, h1, h2, h3, rfl⟩ := h
  exact ⟨s, v, xs, rfl, h1, h2, h3, fun _ => hn, rfl⟩

set_option maxHeartbeats 4000000 in
theorem rdivq {w : World} {v u : Value} {q r : Rat} {k : Nat} (h : QR w v q k) (h' : QR w u r k) (hr : r ≠ 0) (hk : k ≤ 4294967296) :
    Calls Tryz.prog 20 #[v, u] w fun e w' => ∃ v, e = .returned v ∧ QR w' v (q / r) (k + k + 1) ∧ Below w.heap.size w w' := by
  have HI := hid (inv_parts r hr)
  have HR := hid hr
  obtain ⟨s1a, p1a, n1a, c1a, p1b, n1b, c1b, rfl⟩ := h.opened
  obtain ⟨ht1, hu1⟩ := h.two
  obtain ⟨s2a, p2a, n2a, c2a, p2b, n2b, c2b, rfl⟩ := h'.opened
  obtain ⟨ht2, hu2⟩ := h'.two
  have HK := hid hk
  have B := hid (Below.refl w.heap.size w)
  have HN1 := hid ht1
  have HD1 := hid hu1
  have HN2 := hid ht2
  have HD2 := hid hu2
  obtain ⟨hb1, hx2, hs3⟩ := Qbx.made w s1a p1a n1a c1a p1b n1b c1b
  replace HN1 := wr HN1 hb1
  replace HD1 := wr HD1 hb1
  replace HN2 := wr HN2 hb1
  replace HD2 := wr HD2 hb1
  replace B := bb B hb1
  have X1 := hid hx2
  clear hb1 hx2
  obtain ⟨hb4, hx5, hs6⟩ := Qbx.made (w.alloc (.cells #[.bool s1a, .slice p1a n1a c1a, .slice p1b n1b c1b] 45)) s2a p2a n2a c2a p2b n2b c2b
  rw [hs3] at hx5 hs6
  replace X1 := qx X1 hb4
  replace HN1 := wr HN1 hb4
  replace HD1 := wr HD1 hb4
  replace HN2 := wr HN2 hb4
  replace HD2 := wr HD2 hb4
  replace B := bb B hb4
  have X2 := hid hx5
  clear hb4 hx5
  obtain ⟨hb7, hx8, hs9⟩ := Qbx.made ((w.alloc (.cells #[.bool s1a, .slice p1a n1a c1a, .slice p1b n1b c1b] 45)).alloc (.cells #[.bool s2a, .slice p2a n2a c2a, .slice p2b n2b c2b] 45)) false none 0 0 none 0 0
  rw [hs6] at hx8 hs9
  replace X1 := qx X1 hb7
  replace X2 := qx X2 hb7
  replace HN1 := wr HN1 hb7
  replace HD1 := wr HD1 hb7
  replace HN2 := wr HN2 hb7
  replace HD2 := wr HD2 hb7
  replace B := bb B hb7
  have XQ := hid hx8
  clear hb7 hx8
  clear hs9 h h' ht1 hu1 ht2 hu2 hk
  go_enter Tryz.func20, Tryz.ntmps20
  have cc10 := X1.out.cells
  have cc11 := X2.out.cells
  have cc12 := XQ.out.cells
  go_wp2_with fail
  go_wp2_with fail
  have hi1 := WhlR.resign s2a HD2.out.nat (by have := r.den_pos; omega)
  rw [HN2.out.inside.2, HI.out.1] at hi1
  have hi2 := HN2.out.abs
  rw [HI.out.2] at hi2
  have hs2 := HN2.out.inside.2
  rw [← hs2] at hi1
  refine (rmul (QR.mk2 HN1.out HD1.out) (QR.mk2 hi1 hi2) (by have := HK.out; omega)).mono ?_
  rintro e w14 ⟨v, rfl, hv, hb⟩
  obtain ⟨s9a, p9a, n9a, c9a, p9b, n9b, c9b, rfl⟩ := hv.opened
  obtain ⟨ht9, hu9⟩ := hv.two
  replace X1 := qx X1 hb
  replace X2 := qx X2 hb
  replace XQ := qx XQ hb
  replace HN1 := wr HN1 hb
  replace HD1 := wr HD1 hb
  replace HN2 := wr HN2 hb
  replace HD2 := wr HD2 hb
  replace B := bb B hb
  clear cc10 cc11 cc12
  have HN9 := hid ht9
  have HD9 := hid hu9
  clear hb hv ht9 hu9
  clear hi1 hi2 hs2
  have cc15 := X1.out.cells
  have cc16 := X2.out.cells
  have cc17 := XQ.out.cells
  have cc18 := XQ.out.stores
  obtain ⟨r19a, r19b, r19c⟩ := XQ.out.last B.out (by omega) s9a p9a n9a c9a p9b n9b c9b
  replace X1 := hid (X1.out.kept (heap3 (g := w.heap.size + 1 + 1) (by omega) (.bool s9a) (.slice p9a n9a c9a) (.slice p9b n9b c9b)))
  replace X2 := hid (X2.out.kept (heap3 (g := w.heap.size + 1 + 1) (by omega) (.bool s9a) (.slice p9a n9a c9a) (.slice p9b n9b c9b)))
  replace HN1 := hid (r19c HN1.out)
  replace HD1 := hid (r19c HD1.out)
  replace HN2 := hid (r19c HN2.out)
  replace HD2 := hid (r19c HD2.out)
  replace HN9 := hid (r19c HN9.out)
  replace HD9 := hid (r19c HD9.out)
  replace XQ := hid r19a
  replace B := hid r19b
  clear r19a r19b r19c
  go_wp2_with fail
  refine bodyPost_ret (res_q rfl rfl XQ.out) rfl ?_
  exact ⟨_, rfl, (by rw [Rat.div_def]; exact QR.mk2 HN9.out HD9.out), B.out⟩

end Go.Proofs.YtdifiimaifmcpaaGreatDoor

/-
  THE REFERENCE: Sign, Cmp, Floor.
-/
namespace Go.Proofs.YtdifiimaifmcpaaGreatDoor
open Go.RowKit
open Num4
open Num (dg isNat dval)
set_option linter.unusedVariables false
set_option maxRecDepth 100000
set_option linter.unusedSimpArgs false

set_option maxHeartbeats 4000000 in
theorem rsgn_n {w : World} {v : Value} {q : Rat} {k : Nat} (h : QR w v q k) (hc : q.num < 0) (hk : k ≤ 4294967296) :
    Calls Tryz.prog 31 #[v] w fun e w' => e = .returned (.int .i64 q.num.sign) ∧ Below w.heap.size w w' := by
  obtain ⟨s1a, p1a, n1a, c1a, p1b, n1b, c1b, rfl⟩ := h.opened
  obtain ⟨ht1, hu1⟩ := h.two
  obtain ⟨hnn, hss⟩ := ht1.inside
  have e : s1a = true := by rw [hss]; exact decide_eq_true hc
  have hz : q.num.sign = -1 := Int.sign_eq_neg_one_of_neg hc
  rw [hz]
  subst e
  have B := hid (Below.refl w.heap.size w)
  obtain ⟨hb1, hx2, hs3⟩ := Qbx.made w true p1a n1a c1a p1b n1b c1b
  replace B := bb B hb1
  have X1 := hid hx2
  clear hb1 hx2
  clear hs3 h ht1 hu1 hnn hss hz hc
  go_enter Tryz.func31, Tryz.ntmps31
  have cc4 := X1.out.cells
  go_wp2_with fail
  go_ret
  exact ⟨rfl, B.out⟩

set_option maxHeartbeats 4000000 in
theorem rsgn_z {w : World} {v : Value} {q : Rat} {k : Nat} (h : QR w v q k) (hc : q.num = 0) (hk : k ≤ 4294967296) :
    Calls Tryz.prog 31 #[v] w fun e w' => e = .returned (.int .i64 q.num.sign) ∧ Below w.heap.size w w' := by
  obtain ⟨s1a, p1a, n1a, c1a, p1b, n1b, c1b, rfl⟩ := h.opened
  obtain ⟨ht1, hu1⟩ := h.two
  obtain ⟨hnn, hss⟩ := ht1.inside
  have e : s1a = false := by rw [hss]; exact decide_eq_false (by omega)
  have hz : q.num.sign = 0 := by rw [hc]; rfl
  have e0 : n1a = 0 := hnn.len.2 (by omega)
  subst e0
  rw [hz]
  subst e
  have B := hid (Below.refl w.heap.size w)
  obtain ⟨hb1, hx2, hs3⟩ := Qbx.made w false p1a 0 c1a p1b n1b c1b
  replace B := bb B hb1
  have X1 := hid hx2
  clear hb1 hx2
  clear hs3 h ht1 hu1 hnn hss hz hc
  go_enter Tryz.func31, Tryz.ntmps31
  have cc4 := X1.out.cells
  go_wp2_with fail
  go_ret
  exact ⟨rfl, B.out⟩

set_option maxHeartbeats 4000000 in
theorem rsgn_p {w : World} {v : Value} {q : Rat} {k : Nat} (h : QR w v q k) (hc : 0 < q.num) (hk : k ≤ 4294967296) :
    Calls Tryz.prog 31 #[v] w fun e w' => e = .returned (.int .i64 q.num.sign) ∧ Below w.heap.size w w' := by
  obtain ⟨s1a, p1a, n1a, c1a, p1b, n1b, c1b, rfl⟩ := h.opened
  obtain ⟨ht1, hu1⟩ := h.two
  obtain ⟨hnn, hss⟩ := ht1.inside
  have e : s1a = false := by rw [hss]; exact decide_eq_false (by omega)
  have hz : q.num.sign = 1 := by exact Int.sign_eq_one_of_pos hc
  have e0 : (0 : Int) < (n1a : Int) := by have := hnn.len; omega
  have e1 : ¬ ((n1a : Int) < 1) := by omega
  have e2 : (1 : Int) ≤ (n1a : Int) := by omega
  have e3 : min (1 : Int) (n1a : Int) = 1 := by omega
  rw [hz]
  subst e
  have B := hid (Below.refl w.heap.size w)
  obtain ⟨hb1, hx2, hs3⟩ := Qbx.made w false p1a n1a c1a p1b n1b c1b
  replace B := bb B hb1
  have X1 := hid hx2
  clear hb1 hx2
  clear hs3 h ht1 hu1 hnn hss hz hc
  go_enter Tryz.func31, Tryz.ntmps31
  have cc4 := X1.out.cells
  go_wp2_with fail
  go_ret
  exact ⟨rfl, B.out⟩

theorem rsgn {w : World} {v : Value} {q : Rat} {k : Nat} (h : QR w v q k) (hk : k ≤ 4294967296) :
    Calls Tryz.prog 31 #[v] w fun e w' => e = .returned (.int .i64 q.num.sign) ∧ Below w.heap.size w w' := by
  rcases (show q.num < 0 ∨ q.num = 0 ∨ 0 < q.num by omega) with hc | hc | hc
  · exact rsgn_n h hc hk
  · exact rsgn_z h hc hk
  · exact rsgn_p h hc hk

end Go.Proofs.YtdifiimaifmcpaaGreatDoor

/-
  THE REFERENCE: fractions by their size.
-/
namespace Go.Proofs.YtdifiimaifmcpaaGreatDoor
open Go.RowKit
open Num4
open Num (dg isNat dval)
set_option linter.unusedVariables false
set_option maxRecDepth 100000
set_option linter.unusedSimpArgs false

/-- A value reads as a fraction of the reference's. -/
def QF (w : World) (v : Value) (q : Rat) : Prop := ∃ k, QR w v q k
theorem QR.qf {w : World} {v : Value} {q : Rat} {k : Nat} (h : QR w v q k) : QF w v q := ⟨k, h⟩
theorem QF.sm {w : World} {v : Value} {q : Rat} {m : Nat} (h : QF w v q) (hs : Sm q m) : QR w v q m := by
  obtain ⟨k, s, p, n, c, p', n', c', h1, h2, h3⟩ := h
  exact ⟨s, p, n, c, p', n', c', h1, h2.fit m hs.1, h3.fit m (by simpa using hs.2)⟩
theorem QF.on {w w' : World} {v : Value} {q : Rat} (h : QF w v q) (hb : Below w.heap.size w w') : QF w' v q := by
  obtain ⟨k, h⟩ := h
  exact ⟨k, h.on hb⟩
theorem QF.moved {w w' : World} {v : Value} {q : Rat} (h : QF w v q) (hm : ∀ v z k, WhlR w v z k → WhlR w' v z k) : QF w' v q := by
  obtain ⟨k, h⟩ := h
  exact ⟨k, h.moved hm⟩
theorem QF.opened {w : World} {v : Value} {q : Rat} (h : QF w v q) : ∃ s p n c p' n' c', v = .agg #[.bool s, .slice p n c, .slice p' n' c'] := by
  obtain ⟨k, h⟩ := h
  exact h.opened
theorem QF.cast {w : World} {v : Value} {q r : Rat} (h : QF w v q) (e : q = r) : QF w v r := by rw [← e]; exact h
theorem radd_f {w : World} {v u : Value} {q r : Rat} {m n : Nat} (h : QF w v q) (h' : QF w u r) (hq : Sm q m) (hr : Sm r n) (hm : m ≤ 1073741824) (hn : n ≤ 1073741824) :
    Calls Tryz.prog 55 #[v, u] w fun e w' => ∃ v, e = .returned v ∧ QF w' v (q + r) ∧ Below w.heap.size w w' := by
  refine (radd ((h.sm hq).mono (Nat.le_max_left m n)) ((h'.sm hr).mono (Nat.le_max_right m n)) (by omega)).mono ?_
  rintro e w' ⟨v, rfl, hv, hb⟩
  exact ⟨v, rfl, hv.qf, hb⟩
theorem rmul_f {w : World} {v u : Value} {q r : Rat} {m n : Nat} (h : QF w v q) (h' : QF w u r) (hq : Sm q m) (hr : Sm r n) (hm : m ≤ 1073741824) (hn : n ≤ 1073741824) :
    Calls Tryz.prog 36 #[v, u] w fun e w' => ∃ v, e = .returned v ∧ QF w' v (q * r) ∧ Below w.heap.size w w' := by
  refine (rmul ((h.sm hq).mono (Nat.le_max_left m n)) ((h'.sm hr).mono (Nat.le_max_right m n)) (by omega)).mono ?_
  rintro e w' ⟨v, rfl, hv, hb⟩
  exact ⟨v, rfl, hv.qf, hb⟩
theorem rdiv_f {w : World} {v u : Value} {q r : Rat} {m n : Nat} (h : QF w v q) (h' : QF w u r) (hq : Sm q m) (hr : Sm r n) (h0 : r ≠ 0) (hm : m ≤ 1073741824) (hn : n ≤ 1073741824) :
    Calls Tryz.prog 20 #[v, u] w fun e w' => ∃ v, e = .returned v ∧ QF w' v (q / r) ∧ Below w.heap.size w w' := by
  refine (rdivq ((h.sm hq).mono (Nat.le_max_left m n)) ((h'.sm hr).mono (Nat.le_max_right m n)) h0 (by omega)).mono ?_
  rintro e w' ⟨v, rfl, hv, hb⟩
  exact ⟨v, rfl, hv.qf, hb⟩
/-- Is it nought? As the sign tells it. -/
theorem rsgn_f {w : World} {v : Value} {q : Rat} {m : Nat} {z : Int} (h : QF w v q) (hq : Sm q m) (hm : m ≤ 1073741824) (hz : q.num.sign = z) :
    Calls Tryz.prog 31 #[v] w fun e w' => e = .returned (.int .i64 z) ∧ Below w.heap.size w w' := by
  rw [← hz]
  exact rsgn (h.sm hq) (by omega)
theorem rtext_f {w : World} {v : Value} {q : Rat} {m : Nat} (h : QF w v q) (hq : Sm q m) (hm : m ≤ 1073741824) :
    Calls Tryz.prog 18 #[v] w fun e w' => e = .returned (.string (qtxt q)) ∧ Below w.heap.size w w' := rqtext (h.sm hq) (by omega)
theorem rint_f (n : Int) (h1 : -1000 ≤ n) (h2 : n ≤ 1000) (w : World) :
    Calls Tryz.prog 21 #[.int .i64 n] w fun e w' => ∃ v, e = .returned v ∧ QF w' v (n : Rat) ∧ Below w.heap.size w w' := by
  refine (rint n h1 h2 w).mono ?_
  rintro e w' ⟨v, rfl, hv, hb⟩
  exact ⟨v, rfl, hv.qf, hb⟩

end Go.Proofs.YtdifiimaifmcpaaGreatDoor

/-
  THE REFERENCE: rows of fractions.
-/
namespace Go.Proofs.YtdifiimaifmcpaaGreatDoor
open Go.RowKit
open Num4
open Num (dg isNat dval)
set_option linter.unusedVariables false
set_option maxRecDepth 100000
set_option linter.unusedSimpArgs false

/-- A fraction's three cells. -/
abbrev Qt := Bool × (Option Addr × Nat × Nat) × (Option Addr × Nat × Nat)
def qcs (r : Qt) : List Value := [.bool r.1, .slice r.2.1.1 r.2.1.2.1 r.2.1.2.2, .slice r.2.2.1 r.2.2.2.1 r.2.2.2.2]
def qag (r : Qt) : Value := .agg #[.bool r.1, .slice r.2.1.1 r.2.1.2.1 r.2.1.2.2, .slice r.2.2.1 r.2.2.2.1 r.2.2.2.2]
def qrat (vs : List Qt) (i : Nat) : Qt := vs[i]?.getD (false, (none, 0, 0), (none, 0, 0))
def flq (vs : List Qt) : Array Value := (vs.map qcs).flatten.toArray
theorem qcs_len (vs : List Qt) : ∀ r ∈ vs.map qcs, r.length = 3 := by
  intro r hr
  obtain ⟨x, _, rfl⟩ := List.mem_map.1 hr
  rfl
theorem flq_get (vs : List Qt) (i : Nat) (h : i < vs.length) : (flq vs)[i * 3]? = some (.bool (qrat vs i).1) ∧ (flq vs)[i * 3 + 1]? = some (.slice (qrat vs i).2.1.1 (qrat vs i).2.1.2.1 (qrat vs i).2.1.2.2) ∧ (flq vs)[i * 3 + 2]? = some (.slice (qrat vs i).2.2.1 (qrat vs i).2.2.2.1 (qrat vs i).2.2.2.2) := by
  have h0 := flat_get 3 (vs.map qcs) (qcs_len vs) i 0 (by simpa using h) (by omega)
  have h1 := flat_get 3 (vs.map qcs) (qcs_len vs) i 1 (by simpa using h) (by omega)
  have h2 := flat_get 3 (vs.map qcs) (qcs_len vs) i 2 (by simpa using h) (by omega)
  simp only [Nat.add_zero] at h0
  refine ⟨?_, ?_, ?_⟩
  · rw [flq, List.getElem?_toArray, h0]; simp [qrat, h, qcs]
  · rw [flq, List.getElem?_toArray, h1]; simp [qrat, h, qcs]
  · rw [flq, List.getElem?_toArray, h2]; simp [qrat, h, qcs]
/-- Block b holds m fractions, that read as these. -/
def Qrw (w : World) (b m : Nat) (qf : Nat → Rat) (k : Nat) : Prop := ∃ (vs : List Qt) (T : TypeId) (fr : Nat × Nat), w.heap[b]? = some (.cells (flq vs) T fr) ∧ vs.length = m ∧ ∀ i, i < m → QR w (qag (qrat vs i)) (qf i) k
theorem Qrw.lt {w : World} {b m : Nat} {qf : Nat → Rat} {k : Nat} (h : Qrw w b m qf k) : b < w.heap.size := by
  obtain ⟨vs, T, fr, h1, _⟩ := h
  exact (Array.getElem?_eq_some_iff.1 h1).1
theorem Qrw.on {w w' : World} {b m : Nat} {qf : Nat → Rat} {k : Nat} (h : Qrw w b m qf k) (hb : Below w.heap.size w w') : Qrw w' b m qf k := by
  have hl := h.lt
  obtain ⟨vs, T, fr, h1, h2, h3⟩ := h
  exact ⟨vs, T, fr, (hb.block b hl).trans h1, h2, fun i hi => (h3 i hi).on hb⟩
theorem Qrw.moved {w w' : World} {b m : Nat} {qf : Nat → Rat} {k : Nat} (h : Qrw w b m qf k) (he : w'.heap[b]? = w.heap[b]?) (hm : ∀ v z k, WhlR w v z k → WhlR w' v z k) : Qrw w' b m qf k := by
  obtain ⟨vs, T, fr, h1, h2, h3⟩ := h
  exact ⟨vs, T, fr, he.trans h1, h2, fun i hi => (h3 i hi).moved hm⟩
theorem Qrw.at {w : World} {b m : Nat} {qf : Nat → Rat} {k : Nat} (h : Qrw w b m qf k) {i : Nat} (hi : i < m) : ∃ (s1 : Bool) (p1 : Option Addr) (n1 c1 : Nat) (p2 : Option Addr) (n2 c2 : Nat),
    w.cell? ⟨b, i * 3, none⟩ = some (.bool s1) ∧ w.cell? ⟨b, i * 3 + 1, none⟩ = some (.slice p1 n1 c1) ∧ w.cell? ⟨b, i * 3 + 2, none⟩ = some (.slice p2 n2 c2) ∧ QR w (.agg #[.bool s1, .slice p1 n1 c1, .slice p2 n2 c2]) (qf i) k := by
  obtain ⟨vs, T, fr, h1, h2, h3⟩ := h
  obtain ⟨g0, g1, g2⟩ := flq_get vs i (by omega)
  refine ⟨_, _, _, _, _, _, _, ?_, ?_, ?_, h3 i hi⟩ <;> simp [World.cell?, h1, g0, g1, g2]

end Go.Proofs.YtdifiimaifmcpaaGreatDoor

/-
  THE REFERENCE: numbers stay where a list of one's own grows.
-/
namespace Go.Proofs.YtdifiimaifmcpaaGreatDoor
open Go.RowKit
open Num4
open Num (dg isNat dval)
set_option linter.unusedVariables false
set_option maxRecDepth 100000
set_option linter.unusedSimpArgs false

theorem LimR.grown {w w' : World} {v : Value} {xs : List Nat} {g : Nat} (h : LimR w v xs) (hn : NoInt w g) (hg : w.grownBy w' (some g)) : LimR w' v xs := by
  obtain ⟨h1, p, c, h2, h3, h4, h5⟩ := h
  refine ⟨h1, p, c, h2, h3, h4, ?_⟩
  rcases h5 with h5 | ⟨b, off, h6, h7, h8⟩
  · exact .inl h5
  · refine .inr ⟨b, off, h6, Nat.lt_of_lt_of_le h7 hg.size, fun i hi => ?_⟩
    have h9 := h8 i hi
    by_cases hb : b = g
    · exfalso
      subst hb
      simp only [World.cell?] at h9
      split at h9
      · rename_i cur T f e
        have := hn cur T f e _ (by have := Array.mem_of_getElem? h9; simpa using this)
        exact this _ _ rfl
      all_goals simp at h9
    · rw [← h9]
      exact World.cell?_of_block (hg.block b h7 (by simpa using hb))
theorem WhlR.grown {w w' : World} {v : Value} {z : Int} {k g : Nat} (h : WhlR w v z k) (hn : NoInt w g) (hg : w.grownBy w' (some g)) : WhlR w' v z k := by
  obtain ⟨s, sv, xs, h1, h2, h3⟩ := h
  exact ⟨s, sv, xs, h1, h2.grown hn hg, h3⟩

end Go.Proofs.YtdifiimaifmcpaaGreatDoor

/-
  THE REFERENCE: lists of fractions.
-/
namespace Go.Proofs.YtdifiimaifmcpaaGreatDoor
open Go.RowKit
open Num4
open Num (dg isNat dval)
set_option linter.unusedVariables false
set_option maxRecDepth 100000
set_option linter.unusedSimpArgs false

theorem infoRQ : (Tryz.prog.info? 45).map (fun i => (i.zero, i.size, i.bytes)) = some (some (.agg #[.bool false, .slice none 0 0, .slice none 0 0]), 3, 56) := by kernel_rfl
/-- A slice value reads as these fractions. -/
def PF (w : World) (v : Value) (l : List Rat) : Prop := ∃ a c, v = .slice a l.length c ∧ l.length ≤ c ∧ c ≤ maxLen ∧ ∀ i, i < l.length → ∃ b s1 p1 n1 c1 p2 n2 c2, a = some ⟨b, 0, none⟩ ∧ b < w.heap.size ∧
  w.cell? ⟨b, i * 3, none⟩ = some (.bool s1) ∧ w.cell? ⟨b, i * 3 + 1, none⟩ = some (.slice p1 n1 c1) ∧ w.cell? ⟨b, i * 3 + 2, none⟩ = some (.slice p2 n2 c2) ∧ QF w (.agg #[.bool s1, .slice p1 n1 c1, .slice p2 n2 c2]) (co l i)
theorem PF.on {w w' : World} {v : Value} {l : List Rat} (h : PF w v l) (hb : Below w.heap.size w w') : PF w' v l := by
  obtain ⟨a, c, h1, h2, h3, h4⟩ := h
  refine ⟨a, c, h1, h2, h3, fun i hi => ?_⟩
  obtain ⟨b, s1, p1, n1, c1, p2, n2, c2, e, hl, q0, q1, q2, hq⟩ := h4 i hi
  exact ⟨b, s1, p1, n1, c1, p2, n2, c2, e, Nat.lt_of_lt_of_le hl hb.size, (World.cell?_of_block (hb.block b hl)).trans q0, (World.cell?_of_block (hb.block b hl)).trans q1, (World.cell?_of_block (hb.block b hl)).trans q2, hq.on hb⟩
theorem PF.opened {w : World} {v : Value} {l : List Rat} (h : PF w v l) : ∃ a c, v = .slice a l.length c ∧ l.length ≤ c ∧ c ≤ maxLen := by
  obtain ⟨a, c, h1, h2, h3, _⟩ := h
  exact ⟨a, c, h1, h2, h3⟩
theorem PF.nil (w : World) {a : Option Addr} {c : Nat} (hc : c ≤ maxLen) : PF w (.slice a 0 c) [] := ⟨a, c, rfl, Nat.zero_le _, hc, fun i hi => absurd hi (Nat.not_lt_zero _)⟩
theorem PF.at {w : World} {l : List Rat} {a : Option Addr} {n c : Nat} (h : PF w (.slice a n c) l) {i : Nat} (hi : i < l.length) : ∃ b s1 p1 n1 c1 p2 n2 c2, a = some ⟨b, 0, none⟩ ∧ b < w.heap.size ∧
    w.cell? ⟨b, i * 3, none⟩ = some (.bool s1) ∧ w.cell? ⟨b, i * 3 + 1, none⟩ = some (.slice p1 n1 c1) ∧ w.cell? ⟨b, i * 3 + 2, none⟩ = some (.slice p2 n2 c2) ∧ QF w (.agg #[.bool s1, .slice p1 n1 c1, .slice p2 n2 c2]) (co l i) := by
  obtain ⟨a', c', h1, _, _, h4⟩ := h
  obtain ⟨rfl, rfl, rfl⟩ := Value.slice.inj h1
  exact h4 i hi
/-- The first so many. -/
theorem PF.take {w : World} {l : List Rat} {a : Option Addr} {n c m : Nat} (h : PF w (.slice a n c) l) (hm : m ≤ l.length) : PF w (.slice a m c) (l.take m) := by
  obtain ⟨a', c', h1, h2, h3, h4⟩ := h
  obtain ⟨rfl, rfl, rfl⟩ := Value.slice.inj h1
  have hl : (l.take m).length = m := by rw [List.length_take]; omega
  refine ⟨a, c, by rw [hl], by omega, h3, fun i hi => ?_⟩
  rw [hl] at hi
  rw [co_take hi]
  exact h4 i (by omega)
/-- A list of the call's own, in blocks from K on. -/
def OwnP (w : World) (K : Nat) (v : Value) (l : List Rat) : Prop := ∃ vs : List Qt, vs.length = l.length ∧ w.ownsRow K 45 3 v vs.length (vs.map qcs).flatten ∧ (∀ g, v.ownBlock = some g → NoInt w g) ∧ ∀ i, i < l.length → QF w (qag (qrat vs i)) (co l i)
theorem OwnP.nil (w : World) (K : Nat) : OwnP w K (.slice none 0 0) [] := ⟨[], rfl, World.ownsRow_nil w K _ 3, fun g h => by simp [Value.ownBlock] at h, fun i hi => absurd hi (Nat.not_lt_zero _)⟩
theorem OwnP.lt {w : World} {K : Nat} {v : Value} {l : List Rat} (h : OwnP w K v l) {g : Nat} (hg : v.ownBlock = some g) : K ≤ g ∧ g < w.heap.size := by
  obtain ⟨vs, h0, h1, h2, h3⟩ := h
  rcases h1.2 with ⟨rfl, _⟩ | ⟨g', cap, cur, rfl, hK, h1, _⟩
  · simp [Value.ownBlock] at hg
  · simp [Value.ownBlock] at hg
    subst hg
    exact ⟨hK, (Array.getElem?_eq_some_iff.1 h1).1⟩
theorem OwnP.on {w w' : World} {K : Nat} {v : Value} {l : List Rat} (h : OwnP w K v l) (hb : Below w.heap.size w w') : OwnP w' K v l := by
  have hlt := fun g hg => (h.lt (g := g) hg).2
  obtain ⟨vs, h0, h1, h2, h3⟩ := h
  refine ⟨vs, h0, ⟨h1.1, ?_⟩, fun g hg => (h2 g hg).below hb (hlt g hg), fun i hi => (h3 i hi).on hb⟩
  rcases h1.2 with h | ⟨g, cap, cur, rfl, hK, h4, h5⟩
  · exact .inl h
  · exact .inr ⟨g, cap, cur, rfl, hK, (hb.block g (Array.getElem?_eq_some_iff.1 h4).1).trans h4, h5⟩
theorem OwnP.len {w : World} {K : Nat} {v : Value} {l : List Rat} (h : OwnP w K v l) : ∃ a c, v = .slice a l.length c ∧ l.length ≤ c ∧ c ≤ maxLen := by
  obtain ⟨vs, h0, h1, h2, h3⟩ := h
  rcases h1.2 with ⟨rfl, h4⟩ | ⟨g, cap, cur, rfl, hK, h4, h5, h6, _⟩
  · exact ⟨none, 0, by rw [← h0, h4], by omega, Nat.zero_le _⟩
  · exact ⟨_, cap, by rw [h0], by omega, h6⟩
theorem OwnP.pf {w : World} {K : Nat} {v : Value} {l : List Rat} (h : OwnP w K v l) : PF w v l := by
  obtain ⟨a, c, e, h5, h6⟩ := h.len
  obtain ⟨vs, h0, h1, h2, h3⟩ := h
  refine ⟨a, c, e, h5, h6, fun i hi => ?_⟩
  rcases h1.2 with ⟨_, h4⟩ | ⟨g, cap, cur, e2, hK, h4, h7, h8, h9, h10⟩
  · omega
  · rw [e2] at e
    obtain ⟨rfl, _, rfl⟩ := Value.slice.inj e
    obtain ⟨f0, f1, f2⟩ := flq_get vs i (by omega)
    have hl : (vs.map qcs).flatten.length = vs.length * 3 := by rw [flat_len 3 _ (qcs_len vs), List.length_map]
    have hc : ∀ j u, j < vs.length * 3 → (flq vs)[j]? = some u → cur[j]? = some u := by
      intro j u hj hu
      unfold flq at hu
      rw [List.getElem?_toArray, ← h10, List.getElem?_take, if_pos hj, Array.getElem?_toList] at hu
      exact hu
    refine ⟨g, _, _, _, _, _, _, _, rfl, (Array.getElem?_eq_some_iff.1 h4).1, ?_, ?_, ?_, h3 i hi⟩
    · simp [World.cell?, h4, hc _ _ (by omega) f0]
    · simp [World.cell?, h4, hc _ _ (by omega) f1]
    · simp [World.cell?, h4, hc _ _ (by omega) f2]
theorem WhlR.ownp {w w' : World} {v u : Value} {z : Int} {k K : Nat} {l : List Rat} (h : WhlR w v z k) (ho : OwnP w K u l) (hg : w.grownBy w' u.ownBlock) : WhlR w' v z k := by
  cases hu : u.ownBlock with
  | none =>
    rw [hu] at hg
    exact h.below (K := w.heap.size) ⟨hg.os, hg.tape, hg.output, hg.size, fun b hb => hg.block b hb (by simp)⟩ (Nat.le_refl _)
  | some g =>
    rw [hu] at hg
    obtain ⟨vs, h0, h1, h2, h3⟩ := ho
    exact h.grown (h2 g hu) hg
theorem qrat_snoc (vs : List Qt) (r : Qt) (m : Nat) : qrat (vs ++ [r]) m = if m < vs.length then qrat vs m else if m = vs.length then r else (false, (none, 0, 0), (none, 0, 0)) := by
  unfold qrat
  by_cases h : m < vs.length
  · rw [if_pos h, List.getElem?_append_left h]
  · rw [if_neg h, List.getElem?_append_right (by omega)]
    by_cases h2 : m = vs.length
    · subst h2; simp
    · rw [if_neg h2, List.getElem?_eq_none (by simp; omega)]; rfl
theorem co_snoc (l : List Rat) (q : Rat) (m : Nat) : co (l ++ [q]) m = if m < l.length then co l m else if m = l.length then q else 0 := by
  unfold co
  by_cases h : m < l.length
  · rw [if_pos h, List.getElem?_append_left h]
  · rw [if_neg h, List.getElem?_append_right (by omega)]
    by_cases h2 : m = l.length
    · subst h2; simp
    · rw [if_neg h2, List.getElem?_eq_none (by simp; omega)]; rfl
/-- 'append(out, q)'. -/
theorem wpList_append_p {w : World} {ops : Array Oper} {rest : List Oper} {o : Oper} {a : Act} {Q : Exit → Act → World → Prop} (hgd : o.guard = none) (s x : Operand)
    (ho : o.op = .call { callee := .builtin .append, args := #[s, x], argTypes := #[24, 24] })
    (K : Nat) (v : Value) (l : List Rat) (hs : a.eval s = v) (hown : OwnP w K v l) (hK : K ≤ w.heap.size) (hl : l.length ≤ 1000)
    (ad : Nat) (c : Nat) (hx : a.eval x = .slice (some ⟨ad, 0, none⟩) 1 c) {s1 : Bool} {p1 : Option Addr} {n1 c1 : Nat} {p2 : Option Addr} {n2 c2 : Nat} {q : Rat}
    (q0 : w.cell? ⟨ad, 0, none⟩ = some (.bool s1)) (q1 : w.cell? ⟨ad, 1, none⟩ = some (.slice p1 n1 c1)) (q2 : w.cell? ⟨ad, 2, none⟩ = some (.slice p2 n2 c2)) (hq : QF w (.agg #[.bool s1, .slice p1 n1 c1, .slice p2 n2 c2]) q)
    {w0 : World} {K0 : Nat} (hK0 : K0 ≤ K) (hB : Below K0 w0 w)
    (h : ∀ v' w', OwnP w' K v' (l ++ [q]) → Below K0 w0 w' → (∀ {u z k}, WhlR w u z k → WhlR w' u z k) → (∀ g, v.ownBlock ≠ some g → g < w.heap.size → w'.heap[g]? = w.heap[g]?) → w.heap.size ≤ w'.heap.size → wpList Tryz.prog ops Q rest (a.put o.dst v') w') : wpList Tryz.prog ops Q (o :: rest) a w := by
  obtain ⟨i, hi, hz0, hz1, hz2⟩ := info_parts infoRQ
  have hO := hown
  obtain ⟨vs, h0, h1, h2, h3⟩ := hown
  refine wpList_append_ni hgd s x 24 ho K 45 i (.agg #[.bool false, .slice none 0 0, .slice none 0 0]) 3 56 Tryz.underlying24 hi hz0 hz1 hz2 rfl (by decide) v vs.length _ hs h1 h2 ?_ ⟨ad, 0, none⟩ 1 c [.bool s1, .slice p1 n1 c1, .slice p2 n2 c2] hx rfl ?_ ?_ ?_ ?_ ?_ hK ?_
  · intro u hu; simp [Value.cells] at hu; rcases hu with rfl | rfl; exact NI.bool _; exact NI.slc _ _ _
  · intro j u hj
    match j, hj with
    | 0, hj => simp at hj; subst hj; simpa [Addr.add] using q0
    | 1, hj => simp at hj; subst hj; simpa [Addr.add] using q1
    | 2, hj => simp at hj; subst hj; simpa [Addr.add] using q2
  · intro u hu; simp at hu; rcases hu with rfl | rfl | rfl <;> rfl
  · intro u hu; simp at hu; rcases hu with rfl | rfl | rfl; exact NI.bool _; exact NI.slc _ _ _; exact NI.slc _ _ _
  · unfold maxLen; omega
  · omega
  · intro v' w' g1 g2 g3
    have hwr : ∀ {u z k}, WhlR w u z k → WhlR w' u z k := fun hu => hu.ownp hO g2
    refine h v' w' ⟨vs ++ [(s1, (p1, n1, c1), (p2, n2, c2))], by simp [h0], ?_, g3, fun m hm => ?_⟩ (hB.grown g2 (by omega) fun g hg => Nat.le_trans hK0 (hO.lt hg).1) hwr (fun g hg hlt => g2.block g hlt (fun e => hg e.symm)) g2.size
    · rw [List.map_append, List.flatten_append, List.length_append]
      exact g1
    · rw [qrat_snoc, co_snoc, h0]
      rw [List.length_append] at hm
      by_cases hlt : m < l.length
      · rw [if_pos hlt, if_pos hlt]
        exact (h3 m hlt).moved (fun v z k hu => hwr hu)
      · obtain rfl : m = l.length := by simp at hm; omega
        rw [if_neg hlt, if_pos rfl, if_neg hlt, if_pos rfl]
        exact hq.moved (fun v z k hu => hwr hu)

end Go.Proofs.YtdifiimaifmcpaaGreatDoor

/-
  THE REFERENCE: TrimP.
-/
namespace Go.Proofs.YtdifiimaifmcpaaGreatDoor
open Go.RowKit
open Num4
open Num (dg isNat dval)
set_option linter.unusedVariables false
set_option maxRecDepth 100000
set_option linter.unusedSimpArgs false

/-- One of them, at a later world. -/
theorem pf_at {w w' : World} {l : List Rat} {a : Option Addr} {n c : Nat} (h : PF w (.slice a n c) l) (hb : Below w.heap.size w w') {i : Nat} (hi : i < l.length) :
    ∃ b s1 p1 n1 c1 p2 n2 c2, a = some ⟨b, 0, none⟩ ∧ b < w.heap.size ∧ (w'.cell? ⟨b, i * 3, none⟩ = some (.bool s1) ∧ w'.cell? ⟨b, i * 3 + 1, none⟩ = some (.slice p1 n1 c1) ∧ w'.cell? ⟨b, i * 3 + 2, none⟩ = some (.slice p2 n2 c2)) ∧ QF w' (.agg #[.bool s1, .slice p1 n1 c1, .slice p2 n2 c2]) (co l i) := by
  obtain ⟨b, s1, p1, n1, c1, p2, n2, c2, e, hl, q0, q1, q2, hq⟩ := h.at hi
  exact ⟨b, s1, p1, n1, c1, p2, n2, c2, e, hl, ⟨(World.cell?_of_block (hb.block b hl)).trans q0, (World.cell?_of_block (hb.block b hl)).trans q1, (World.cell?_of_block (hb.block b hl)).trans q2⟩, hq.on hb⟩
theorem PF.trim {w : World} {a : Option Addr} {n c : Nat} {l : List Rat} (h : PF w (.slice a n c) l) : PF w (.slice a (trimQ l).length c) (trimQ l) := by
  have hz : ∀ j, (trimQ l).length ≤ j → co l j = 0 := fun j hj => by rw [← co_trim]; exact co_ge hj
  have e := (trim_stop (trim_len l) hz (by
    by_cases h0 : trimQ l = []
    · exact .inl (by rw [h0]; rfl)
    · exact .inr (by rw [← co_trim]; exact trm_last (trm_trim l) h0))).1
  have h1 := h.take (trim_len l)
  rw [← e] at h1
  exact h1
set_option maxHeartbeats 2000000 in
theorem rtrim_s {w : World} {a : Option Addr} {n c m : Nat} {l : List Rat} (h : PF w (.slice a n c) l) (hs : Sml l m) (hm : m ≤ 1073741824) :
    Calls Tryz.prog 17 #[.slice a n c] w fun e w' => e = .returned (.slice a (trimQ l).length c) ∧ Below w.heap.size w w' := by
  have HP := hid h
  obtain ⟨a', c', h1, hn, hc⟩ := h.opened
  obtain ⟨rfl, rfl, rfl⟩ := Value.slice.inj h1
  obtain ⟨n, hN⟩ : ∃ n, l.length = n := ⟨_, rfl⟩
  rw [hN] at hn HP ⊢
  have HN := hid hN
  have HS := hid hs
  have HM := hid hm
  unfold maxLen at hc
  clear hN h1 h hs hm
  go_enter Tryz.func17, Tryz.ntmps17
  go_wp2_with fail
  go_loopw [0] (fun pv wr => ∃ k : Nat, k ≤ n ∧ pv = .slice a k c ∧ Hid (∀ j, k ≤ j → co l j = 0) ∧ Hid (Below w.heap.size w wr)) (fun pv _ => match pv with | .slice _ m _ => m | _ => 0)
  case atStart => exact ⟨n, Nat.le_refl _, rfl, hid (fun j hj => co_ge (by rw [HN.out]; exact hj)), hid (Below.refl _ _)⟩
  case round =>
    obtain ⟨k, hk, rfl, HZ, B⟩ := hrel
    rcases k with _ | j
    · have HE := hid (trim_stop (l := l) (k := 0) (Nat.zero_le _) HZ.out (.inl rfl)).2
      go_wp2_with fail
      go_ret
      exact ⟨by rw [HE.out]; rfl, B.out⟩
    · obtain ⟨b, s1, p1, n1, c1, p2, n2, c2, rfl, hb, cc, hq⟩ := pf_at HP.out B.out (i := j) (by rw [HN.out]; omega)
      have HQ := hid hq
      clear hq hb
      by_cases h0 : co l j = 0
      · have HZ2 : Hid (∀ i, j ≤ i → co l i = 0) := hid (fun i hi => if h : i = j then h ▸ h0 else HZ.out i (by omega))
        have hs := (sgn_eq_zero _).2 h0
        clear h0
        go_wp2_with fail
        refine (rsgn_f HQ.out (HS.out.2 j) HM.out hs).mono ?_
        rintro e w1 ⟨rfl, hb1⟩
        replace B := bb B hb1
        clear hb1 hs
        go_wp2_with fail
        go_roundw
        case rel => exact ⟨j, by omega, by go_num, HZ2, B⟩
        case measure => simp
      · have HE := hid (trim_stop (l := l) (k := j + 1) (by rw [HN.out]; exact hk) HZ.out (.inr (by simpa using h0))).2
        obtain ⟨z, hz⟩ : ∃ z, (co l j).num.sign = z := ⟨_, rfl⟩
        have hne : (z == 0) = false := by rw [beq_eq_false_iff_ne]; rintro rfl; exact h0 ((sgn_eq_zero _).1 hz)
        have HS2 := hid hz
        clear h0 hz
        go_wp2_with fail
        refine (rsgn_f HQ.out (HS.out.2 j) HM.out HS2.out).mono ?_
        rintro e w1 ⟨rfl, hb1⟩
        replace B := bb B hb1
        clear hb1
        go_wp2_with fail
        go_ret
        exact ⟨by rw [HE.out]; rfl, B.out⟩
/-- Without noughts at the end. -/
theorem rtrim_p {w : World} {v : Value} {l : List Rat} {m : Nat} (h : PF w v l) (hs : Sml l m) (hm : m ≤ 1073741824) :
    Calls Tryz.prog 17 #[v] w fun e w' => ∃ v', e = .returned v' ∧ PF w' v' (trimQ l) ∧ Below w.heap.size w w' := by
  obtain ⟨a, c, rfl, hn, hc⟩ := h.opened
  refine (rtrim_s h hs hm).mono ?_
  rintro e w' ⟨rfl, hb⟩
  exact ⟨_, rfl, h.trim.on hb, hb⟩

end Go.Proofs.YtdifiimaifmcpaaGreatDoor

/-
  THE REFERENCE: Texts of fractions.
-/
namespace Go.Proofs.YtdifiimaifmcpaaGreatDoor
open Go.RowKit
open Num4
open Num (dg isNat dval)
set_option linter.unusedVariables false
set_option maxRecDepth 100000
set_option linter.unusedSimpArgs false

/-- 'append(out, text)'. -/
theorem wpList_append_t {w : World} {ops : Array Oper} {rest : List Oper} {o : Oper} {a : Act} {Q : Exit → Act → World → Prop} (hgd : o.guard = none) (s x : Operand)
    (ho : o.op = .call { callee := .builtin .append, args := #[s, x], argTypes := #[22, 22] })
    (K : Nat) (v : Value) (ss : List ByteArray) (hs : a.eval s = v) (hown : OwnT w K v ss) (hK : K ≤ w.heap.size) (hl : ss.length ≤ 1000)
    (ad : Nat) (c : Nat) (hx : a.eval x = .slice (some ⟨ad, 0, none⟩) 1 c) {t : ByteArray} (q0 : w.cell? ⟨ad, 0, none⟩ = some (.string t))
    {w0 : World} {K0 : Nat} (hK0 : K0 ≤ K) (hB : Below K0 w0 w)
    (h : ∀ v' w', OwnT w' K v' (ss ++ [t]) → Below K0 w0 w' → wpList Tryz.prog ops Q rest (a.put o.dst v') w') : wpList Tryz.prog ops Q (o :: rest) a w := by
  obtain ⟨i, hi, hz0, hz1, hz2⟩ := info_parts infoStr
  refine wpList_append_own _ hgd s x 22 ho K 9 i (.string ⟨#[]⟩) 1 16 Tryz.underlying22 hi hz0 hz1 hz2 rfl (by decide) v ss.length _ hs hown ⟨ad, 0, none⟩ 1 c [.string t] hx rfl ?_ ?_ ?_ ?_ hK ?_
  · intro j u hj
    match j, hj with
    | 0, hj => simp at hj; subst hj; simpa [Addr.add] using q0
  · intro u hu; simp at hu; subst hu; rfl
  · unfold maxLen; omega
  · omega
  · intro v' w' g1 g2 _
    refine h v' w' ?_ (hB.grown g2 (by omega) fun g hg => Nat.le_trans hK0 (World.ownsRow.lt hown g hg).1)
    show w'.ownsRow _ _ _ _ _ _
    rw [List.map_append, List.length_append]
    exact g1
theorem qtxt_take {l : List Rat} {j : Nat} (h : j < l.length) : (l.map qtxt).take j ++ [qtxt (co l j)] = (l.map qtxt).take (j + 1) := by
  rw [List.take_succ_eq_append_getElem (by rw [List.length_map]; exact h), co_lt h, List.getElem_map]
set_option maxHeartbeats 4000000 in
theorem rtexts {w : World} {v : Value} {l : List Rat} {m : Nat} (h : PF w v l) (hs : Sml l m) (hm : m ≤ 1073741824) (hl : l.length ≤ 1000) :
    Calls Tryz.prog 6 #[v] w fun e w' => ∃ v', e = .returned v' ∧ OwnT w' w.heap.size v' (l.map qtxt) ∧ Below w.heap.size w w' := by
  have HP := hid h
  have HS := hid hs
  have HM := hid hm
  obtain ⟨a, c, rfl, hn, hc⟩ := h.opened
  obtain ⟨n, hN⟩ : ∃ n, l.length = n := ⟨_, rfl⟩
  rw [hN] at hn HP hl ⊢
  have HN := hid hN
  have HL := hid hl
  unfold maxLen at hc
  have B := hid (Below.refl w.heap.size w)
  clear hN h hs hm hl
  go_enter Tryz.func6, Tryz.ntmps6
  go_wp2_with fail
  go_loopw [4, 3] (fun i zv wr => ∃ j : Nat, j ≤ n ∧ i = .int .i64 j ∧ Hid (OwnT wr w.heap.size zv ((l.map qtxt).take j)) ∧ Hid (Below w.heap.size w wr)) (fun i _ _ => n - (intOf i).toNat)
  case atStart => exact ⟨0, by omega, rfl, hid (OwnT.nil _ _), B⟩
  case round =>
    clear B
    obtain ⟨j, hj, rfl, HO, B⟩ := hrel
    by_cases hlt : j < n
    · obtain ⟨b, s1, p1, n1, c1, p2, n2, c2, rfl, hb, cc, hq⟩ := pf_at HP.out B.out (i := j) (by rw [HN.out]; exact hlt)
      have HQ := hid hq
      clear hq
      go_wp2_with fail
      refine (rtext_f HQ.out (HS.out.2 j) HM.out).mono ?_
      rintro e w1 ⟨rfl, hb1⟩
      replace HO := hid (HO.out.on hb1)
      replace B := bb B hb1
      clear hb1
      have hb2 := (Below.refl _ _).alloc (Nat.le_refl w1.heap.size) (.cells #[.string (qtxt (co l j))] 9)
      replace HO := hid (HO.out.on hb2)
      replace B := bb B hb2
      clear hb2
      have cd0 : (w1.alloc (.cells #[.string (qtxt (co l j))] 9)).cell? ⟨w1.heap.size, 0, none⟩ = some (.string (qtxt (co l j))) := by simp
      have hKK : w.heap.size ≤ (w1.alloc (.cells #[.string (qtxt (co l j))] 9)).heap.size := B.out.size
      have hll : ((l.map qtxt).take j).length ≤ 1000 := by rw [List.length_take]; have := HL.out; omega
      go_wp2_with (at_builtin; refine wpList_append_t rfl _ _ rfl w.heap.size _ ((l.map qtxt).take j) rfl HO.out hKK hll w1.heap.size 1 rfl cd0 (Nat.le_refl _) B.out ?_)
      intro v' wa hown hB2
      rw [qtxt_take (by rw [HN.out]; exact hlt)] at hown
      replace HO := hid hown
      replace B := hid hB2
      clear hown hB2 hKK hll cd0 cc HQ
      go_wp2_with fail
      go_roundw
      case rel => exact ⟨j + 1, by omega, by go_num, HO, B⟩
      case measure => simp [intOf]; omega
    · obtain rfl : j = n := by omega
      have HO2 : Hid (OwnT wr w.heap.size u3 (l.map qtxt)) := hid (by have h := HO.out; rw [List.take_of_length_le (by rw [List.length_map, HN.out]; exact Nat.le_refl _)] at h; exact h)
      go_wp2_with fail
      go_ret
      exact ⟨_, rfl, HO2.out, B.out⟩

end Go.Proofs.YtdifiimaifmcpaaGreatDoor

/-
  THE REFERENCE: At.
-/
namespace Go.Proofs.YtdifiimaifmcpaaGreatDoor
open Go.RowKit
open Num4
open Num (dg isNat dval)
set_option linter.unusedVariables false
set_option maxRecDepth 100000
set_option linter.unusedSimpArgs false

set_option maxHeartbeats 2000000 in
theorem rat_p {w : World} {v : Value} {l : List Rat} (h : PF w v l) (i : Nat) (hi : i ≤ 1000000) :
    Calls Tryz.prog 61 #[v, .int .i64 i] w fun e w' => ∃ v', e = .returned v' ∧ QF w' v' (co l i) ∧ Below w.heap.size w w' := by
  have HP := hid h
  obtain ⟨a, c, rfl, hn, hc⟩ := h.opened
  obtain ⟨n, hN⟩ : ∃ n, l.length = n := ⟨_, rfl⟩
  rw [hN] at hn HP ⊢
  have HN := hid hN
  unfold maxLen at hc
  clear hN h
  have B := hid ((Below.refl w.heap.size w).alloc (Nat.le_refl _) (.cells #[.bool false, .slice none 0 0, .slice none 0 0] 45))
  have X0 := hid (Qbx.new w false none 0 0 none 0 0)
  have h0 : (0 : Int) ≤ (i : Int) := by omega
  by_cases hlt : i < n
  · obtain ⟨b, s1, p1, n1, c1, p2, n2, c2, rfl, hb, cc, hq⟩ := pf_at HP.out B.out (i := i) (by rw [HN.out]; omega)
    have hlt' : (i : Int) < (n : Int) := by omega
    have hm := Qbx.made w s1 p1 n1 c1 p2 n2 c2
    have Y0 := hid hm.2.1
    obtain ⟨b', s1', p1', n1', c1', p2', n2', c2', e', _, cc', hq'⟩ := pf_at HP.out (Below.refl _ _) (i := i) (by rw [HN.out]; omega)
    cases e'
    have hcc : w.cell? ⟨b, i * 3, none⟩ = some (.bool s1) ∧ w.cell? ⟨b, i * 3 + 1, none⟩ = some (.slice p1 n1 c1) ∧ w.cell? ⟨b, i * 3 + 2, none⟩ = some (.slice p2 n2 c2) := ⟨(B.out.cell (p := ⟨b, _, none⟩) hb).symm.trans cc.1, (B.out.cell (p := ⟨b, _, none⟩) hb).symm.trans cc.2.1, (B.out.cell (p := ⟨b, _, none⟩) hb).symm.trans cc.2.2⟩
    obtain ⟨rfl⟩ : s1' = s1 := by have := cc'.1.symm.trans hcc.1; simpa using this
    have e2 := cc'.2.1.symm.trans hcc.2.1
    have e3 := cc'.2.2.symm.trans hcc.2.2
    simp only [Option.some.injEq, Value.slice.injEq] at e2 e3
    obtain ⟨rfl, rfl, rfl⟩ := e2
    obtain ⟨rfl, rfl, rfl⟩ := e3
    have HQ := hid (hq'.on hm.1)
    replace B := hid hm.1
    clear hm hq hq' cc' hcc X0
    go_enter Tryz.func61, Tryz.ntmps61
    go_wp2_with fail
    refine bodyPost_ret (res_q rfl rfl Y0.out) rfl ?_
    exact ⟨_, rfl, HQ.out, B.out⟩
  · have hlt' : ¬ (i : Int) < (n : Int) := by omega
    have HE := hid (co_ge (l := l) (i := i) (by rw [HN.out]; omega))
    go_enter Tryz.func61, Tryz.ntmps61
    go_wp2_with fail
    refine (rint_f 0 (by decide) (by decide) _).mono ?_
    rintro e w1 ⟨v1, rfl, hv, hb1⟩
    obtain ⟨s5, p5, n5, c5, p5', n5', c5', rfl⟩ := hv.opened
    replace X0 := qx X0 hb1
    replace B := bb B hb1
    have hl := X0.out.last B.out (Nat.le_refl _) s5 p5 n5 c5 p5' n5' c5'
    have Y0 := hid hl.1
    have HQ := hid (hv.moved (fun v z k hu => hl.2.2 hu))
    obtain ⟨⟨c1_, c2_⟩, ⟨c3, c4⟩, c5x, c6x⟩ := X0.out.stores
    replace B := hid hl.2.1
    clear hl hv hb1
    go_wp2_with fail
    refine bodyPost_ret (res_q rfl rfl Y0.out) rfl ?_
    exact ⟨_, rfl, HQ.out.cast (by rw [HE.out]; rfl), B.out⟩

end Go.Proofs.YtdifiimaifmcpaaGreatDoor

/-
  THE REFERENCE: AddP.
-/
namespace Go.Proofs.YtdifiimaifmcpaaGreatDoor
open Go.RowKit
open Num4
open Num (dg isNat dval)
set_option linter.unusedVariables false
set_option maxRecDepth 100000
set_option linter.unusedSimpArgs false

theorem lof_succ (f : Nat → Rat) (j : Nat) : lof j f ++ [f j] = lof (j + 1) f := by
  unfold lof
  rw [List.range_succ, List.map_append]
  rfl
theorem lof_len (f : Nat → Rat) (j : Nat) : (lof j f).length = j := by simp [lof]
theorem Sml.lof {f : Nat → Rat} {n m : Nat} (h1 : 1 ≤ m) (h : ∀ i, i < n → Sm (f i) m) : Sml (lof n f) m := ⟨h1, fun i => by
  rw [co_lof]
  split
  · exact h i (by assumption)
  · exact Sm.zero h1⟩
set_option maxHeartbeats 4000000 in
theorem radd_p {w : World} {v u : Value} {l r : List Rat} {m n : Nat} (h : PF w v l) (h' : PF w u r) (hs : Sml l m) (hs' : Sml r n) (hm : m + n + 1 ≤ 1073741824) (hl : l.length ≤ 1000) (hr : r.length ≤ 1000) :
    Calls Tryz.prog 38 #[v, u] w fun e w' => ∃ v', e = .returned v' ∧ PF w' v' (addp l r) ∧ Below w.heap.size w w' := by
  have HP := hid h
  have HP' := hid h'
  have HS := hid hs
  have HS' := hid hs'
  have HM := hid hm
  obtain ⟨a, c, rfl, hn, hc⟩ := h.opened
  obtain ⟨a', c', rfl, hn', hc'⟩ := h'.opened
  obtain ⟨N, hN⟩ : ∃ N, l.length = N := ⟨_, rfl⟩
  obtain ⟨N', hN'⟩ : ∃ N', r.length = N' := ⟨_, rfl⟩
  rw [hN] at hn HP hl ⊢
  rw [hN'] at hn' HP' hr ⊢
  have HN := hid hN
  have HN' := hid hN'
  have HL := hid (And.intro hl hr)
  unfold maxLen at hc hc'
  obtain ⟨M, hM⟩ : ∃ M : Nat, max N N' = M := ⟨_, rfl⟩
  have hMI : max (N : Int) (N' : Int) = (M : Int) := by omega
  have HMX := hid hM
  have HSM : Hid (Sml (lof M fun i => co l i + co r i) (m + n + 1)) := hid (Sml.lof (by omega) fun i _ => (HS.out.2 i).add (HS'.out.2 i))
  have B := hid (Below.refl w.heap.size w)
  clear h h' hs hs' hm hN hN' hl hr
  go_enter Tryz.func38, Tryz.ntmps38
  go_wp2_with fail
  go_loopw [6, 5] (fun i zv wr => ∃ j : Nat, j ≤ M ∧ i = .int .i64 j ∧ Hid (OwnP wr w.heap.size zv (lof j fun i => co l i + co r i)) ∧ Hid (Below w.heap.size w wr)) (fun i _ _ => M - (intOf i).toNat)
  case atStart => exact ⟨0, by omega, rfl, hid (OwnP.nil _ _), B⟩
  case round =>
    clear B
    obtain ⟨j, hj, rfl, HO, B⟩ := hrel
    have hMI2 := hMI
    by_cases hlt : j < M
    · have hj3 : j ≤ 1000 := by have := HL.out; omega
      go_wp2_with fail
      refine (rat_p (HP.out.on B.out) j (by omega)).mono ?_
      rintro e w1 ⟨v1, rfl, hv1, hb1⟩
      replace HO := hid (HO.out.on hb1)
      replace B := bb B hb1
      have HV1 := hid hv1
      clear hb1 hv1
      go_wp2_with fail
      refine (rat_p (HP'.out.on B.out) j (by omega)).mono ?_
      rintro e w2 ⟨v2, rfl, hv2, hb2⟩
      replace HO := hid (HO.out.on hb2)
      replace HV1 := hid (HV1.out.on hb2)
      replace B := bb B hb2
      have HV2 := hid hv2
      clear hb2 hv2
      go_wp2_with fail
      refine (radd_f HV1.out HV2.out (HS.out.2 j) (HS'.out.2 j) (by have := HM.out; omega) (by have := HM.out; omega)).mono ?_
      rintro e w3 ⟨v3, rfl, hv3, hb4⟩
      obtain ⟨s5, p5, n5, c5, p5', n5', c5', rfl⟩ := hv3.opened
      replace HO := hid (HO.out.on hb4)
      replace B := bb B hb4
      have HV := hid hv3
      clear hb4 hv3 HV1 HV2
      have hb3 := (Below.refl _ _).alloc (Nat.le_refl w3.heap.size) (.cells #[.bool s5, .slice p5 n5 c5, .slice p5' n5' c5'] 45)
      have XR := hid (Qbx.new w3 s5 p5 n5 c5 p5' n5' c5')
      replace HO := hid (HO.out.on hb3)
      replace HV := hid (HV.out.on hb3)
      replace B := bb B hb3
      clear hb3
      obtain ⟨cd0, cd1, cd2⟩ := XR.out.cells
      have hKK : w.heap.size ≤ (w3.alloc (.cells #[.bool s5, .slice p5 n5 c5, .slice p5' n5' c5'] 45)).heap.size := B.out.size
      have hll : (lof j fun i => co l i + co r i).length ≤ 1000 := by rw [lof_len]; exact hj3
      go_wp2_with (at_builtin; refine wpList_append_p rfl _ _ rfl w.heap.size _ (lof j fun i => co l i + co r i) rfl HO.out hKK hll w3.heap.size 1 rfl cd0 cd1 cd2 HV.out (Nat.le_refl _) B.out ?_)
      intro v' wa hown hB2 _ _ _
      replace HO := hid (lof_succ (fun i => co l i + co r i) j ▸ hown)
      replace B := hid hB2
      clear hown hB2 hKK hll cd0 cd1 cd2 HV XR
      go_wp2_with fail
      go_roundw
      case rel => exact ⟨j + 1, by omega, by go_num, HO, B⟩
      case measure => simp [intOf]; omega
    · obtain rfl : j = M := by omega
      clear hlt hj
      go_wp2_with fail
      refine (rtrim_p HO.out.pf HSM.out HM.out).mono ?_
      rintro e w1 ⟨v1, rfl, hv1, hb1⟩
      replace B := bb B hb1
      have HV1 := hid hv1
      clear hb1 hv1
      go_wp2_with fail
      go_ret
      refine ⟨_, rfl, ?_, B.out⟩
      unfold addp
      rw [HN.out, HN'.out, HMX.out]
      exact HV1.out

end Go.Proofs.YtdifiimaifmcpaaGreatDoor
