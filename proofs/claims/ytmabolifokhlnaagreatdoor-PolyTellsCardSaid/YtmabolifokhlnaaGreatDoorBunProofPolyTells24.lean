import Derived.OwnWalkIn
import Derived.Test.YtmabolifokhlnaaGreatDoorBunProofPolyTells23
import Derived.Test.YtmabolifokhlnaaGreatDoorBunProofPolyTells19
import Derived.Test.YtmabolifokhlnaaGreatDoorBunProofPolyTells12
import Derived.Test.YtmabolifokhlnaaGreatDoorBunProofPolyTells5
import Derived.Test.YtmabolifokhlnaaGreatDoorBunProofPolyTells9
import Derived.Test.YtmabolifokhlnaaGreatDoorBunProofPolyTells13
import Derived.Test.YtmabolifokhlnaaGreatDoorBunProofPolyTells20
/-
  PACKAGE poly: slices.Backward over Numbers.
-/
namespace Go.Proofs.YtmabolifokhlnaaGreatDoor
open Go.RowKit Go.Shelf
open Num
set_option linter.unusedVariables false
set_option maxRecDepth 100000
set_option linter.unusedSimpArgs false
attribute [local go_sem] Oper.semAt_some

set_option maxHeartbeats 4000000 in
/-- Each round is handed an x of this kind: its place (ix), its Number's cells (rv). -/
theorem pbk1_in (F : Fence) (m : Nat) (hF : F.fn 84) (hro : F.round = none) (hm : 1 ≤ m) {α : Type} (ix : α → Nat) (rv : α → Nr) (l Bs n c : Nat) (a : Option Addr) (hn : n ≤ 4398046511104) (Kp : World → World → Prop) (hKr : ∀ W, Kp W W) (hKt : ∀ {A B C}, Kp A B → Kp B C → Kp A C) (W : World) (hbox : ∀ W', Kp W W' → W'.cell? ⟨Bs, 0, none⟩ = some (.slice a n c))
    (hget : ∀ W', Kp W W' → ∀ i, i < n → ∃ x : α, ix x = i ∧ ∃ b, a = some ⟨b, 0, none⟩ ∧ At4 W' b (i * 4) (rv x)) (J Jx : List α → World → Prop)
    (hY : ∀ pre (x : α) W, J pre W → pre.length < n → YieldAt F (m - 1) Tryz.prog l #[.int .i64 (ix x : Int), nag (rv x)] W fun e W' =>
      (e = .returned (.bool true) ∧ J (pre ++ [x]) W' ∧ Kp W W') ∨ (e = .returned (.bool false) ∧ Jx (pre ++ [x]) W')) (h0 : J [] W) :
    CallsIn F m Tryz.prog 84 #[.func (.yield l) #[] #[], .pointer (some ⟨Bs, 0, none⟩)] W fun e W' => (∃ v, e = .returned v) ∧
      ((∃ ys : List α, ys.map ix = dwn n n ∧ J ys W') ∨ (∃ pre, Jx pre W')) := by
  refine callsIn_of_wp Tryz.func84 rfl hF ?_ hro
  simp only [Tryz.ntmps84, List.size_toArray, List.length_cons, List.length_nil, Nat.reduceAdd, Nat.reduceSub, Array.replicate_succ, Array.replicate_zero, List.push_toArray, List.append_toArray, List.nil_append, List.cons_append]
  have hB1 := hbox W (hKr W)
  gi_wp2
  gi_loopw [3] (fun i wr => ∃ (k : Nat) (ys : List α), k ≤ n ∧ i = .int .i64 ((n : Int) - 1 - k) ∧ ys.map ix = dwn n k ∧ J ys wr ∧ Kp W wr)
    (fun i _ => (intOf i + 1).toNat)
  case atStart => exact ⟨0, [], Nat.zero_le _, by simp, rfl, h0, hKr _⟩
  case round =>
    obtain ⟨k, ys, hk, rfl, hys, hJs, hnx⟩ := hrel
    have hB2 := hbox _ hnx
    by_cases hlt : k < n
    · obtain ⟨i, hi⟩ : ∃ i : Nat, (n : Int) - 1 - k = i ∧ i < n := ⟨n - 1 - k, by omega, by omega⟩
      obtain ⟨x, hx, b, rfl, c1, c2, c3, c4⟩ := hget _ hnx i hi.2
      have hlen : ys.length < n := by have := congrArg List.length hys; rw [List.length_map, dwn_len] at this; omega
      obtain ⟨fn, tmps, assign, body, hy, hR⟩ := hY _ x wr hJs hlen
      have hi0 := hi.2
      rw [hi.1]
      rw [hx] at hy
      dsimp only [nag] at hy
      gi_wp2
      refine hR.mono ?_
      rintro e W3 (⟨rfl, hJ3, hk3⟩ | ⟨rfl, hJx3⟩)
      · gi_wp2
        go_roundw
        case rel => exact ⟨k + 1, ys ++ [x], by omega, by have := hi.1; go_num, by rw [List.map_append, hys, dwn_succ, show n - 1 - k = i by omega, ← hx]; rfl, hJ3, hKt hnx hk3⟩
        case measure => simp [intOf]
      · gi_wp2
        refine bodyPost_ret (results_none rfl _ _ _) rfl ?_
        exact ⟨⟨_, rfl⟩, .inr ⟨_, hJx3⟩⟩
    · obtain rfl : k = n := by omega
      gi_wp2
      go_end0
      exact ⟨⟨_, rfl⟩, .inl ⟨ys, hys, hJs⟩⟩

set_option maxHeartbeats 1000000 in
theorem pbk_in (F : Fence) (m : Nat) (hF : F.fn 66) (hro : F.round = none) (a : Option Addr) (len cap : Nat) (w : World) :
    CallsIn F m Tryz.prog 66 #[.slice a len cap] w fun e w' => e = .returned (.func (.func 84) #[] #[.pointer (some ⟨w.heap.size, 0, none⟩)]) ∧ w' = w.alloc (.cells #[.slice a len cap] 61) := by
  refine callsIn_of_wp Tryz.func66 rfl hF ?_ hro
  simp only [Tryz.ntmps66, List.size_toArray, List.length_cons, List.length_nil, Nat.reduceAdd, Nat.reduceSub, Array.replicate_succ, Array.replicate_zero, List.push_toArray, List.append_toArray, List.nil_append, List.cons_append]
  gi_wp2
  go_ret
  exact ⟨rfl, rfl⟩

theorem pbk_stops (F : Fence) (m : Nat) (hF : F.fn 84) (hro : F.round = none) (hm : 1 ≤ m) {α : Type} (ix : α → Nat) (rv : α → Nr) (Bs n c : Nat) (a : Option Addr) (hn : n ≤ 4398046511104) (Kp : World → World → Prop) (hKr : ∀ W, Kp W W) (hKt : ∀ {A B C}, Kp A B → Kp B C → Kp A C) (w : World) (hKb : ∀ W, Below w.heap.size w W → Kp w W) (hbox : ∀ W', Kp w W' → W'.cell? ⟨Bs, 0, none⟩ = some (.slice a n c))
    (hget : ∀ W', Kp w W' → ∀ i, i < n → ∃ x : α, ix x = i ∧ ∃ b, a = some ⟨b, 0, none⟩ ∧ At4 W' b (i * 4) (rv x)) :
    SeqStopsK F m Tryz.prog 84 #[.pointer (some ⟨Bs, 0, none⟩)] (fun x : α => #[Value.int .i64 (ix x : Int), nag (rv x)]) Kp (fun ys => ys.map ix = dwn n n) (fun _ => True) n w := fun l J Jx W hW _ _ hY h0 => by
  refine (pbk1_in F m hF hro hm ix rv l Bs n c a hn Kp hKr hKt W (fun W' h => hbox W' (hKt (hKb W hW) h)) (fun W' h => hget W' (hKt (hKb W hW) h)) J Jx hY h0).mono ?_
  rintro e W' ⟨he, ⟨ys, hys, hj⟩ | ⟨pre, hj⟩⟩
  · exact ⟨he, .inl ⟨_, hys, hj⟩⟩
  · exact ⟨he, .inr ⟨_, trivial, hj⟩⟩
theorem NF.turned {w w' : World} {v : Value} {q : Rat} {row : Option Nat} (h : NF w v q) (hg : w.grownBy w' row) (hr : ∀ r, row = some r → ∃ o : Obj, w.heap[r]? = some o ∧ o.isCells = false) : NF w' v q := h.moved fun _ _ _ hv => hv.turned hg hr

end Go.Proofs.YtmabolifokhlnaaGreatDoor

/-
  PACKAGE poly: boxes of polynomials.
-/
namespace Go.Proofs.YtmabolifokhlnaaGreatDoor
open Go.RowKit Go.Shelf
open Num
set_option linter.unusedVariables false
set_option maxRecDepth 100000
set_option linter.unusedSimpArgs false
attribute [local go_sem] Oper.semAt_some

/-- A block of one cell: a polynomial's box. -/
def Sbx (w : World) (g : Nat) (p : Option Addr) (n c : Nat) : Prop := w.heap[g]? = some (.cells #[.slice p n c] 61 (0, 0))
section
variable {w w' : World} {g : Nat} {p : Option Addr} {n c : Nat}
theorem Sbx.lt (h : Sbx w g p n c) : g < w.heap.size := lt_of_block h
theorem Sbx.cells (h : Sbx w g p n c) : w.cell? ⟨g, 0, none⟩ = some (.slice p n c) := by
  have hh : w.heap[g]? = some (.cells #[.slice p n c] 61 (0, 0)) := h
  simp [World.cell?, hh]
theorem Sbx.free (h : Sbx w g p n c) (i : Nat) : w.frozen? ⟨g, i, none⟩ = false := by
  have hh : w.heap[g]? = some (.cells #[.slice p n c] 61 (0, 0)) := h
  simp [World.frozen?, hh]
theorem Sbx.stores (h : Sbx w g p n c) : w.cell? ⟨g, 0, none⟩ = some (.slice p n c) ∧ w.frozen? ⟨g, 0, none⟩ = false := ⟨h.cells, h.free 0⟩
theorem Sbx.below {K : Nat} (h : Sbx w g p n c) (hb : Below K w w') (hK : g < K) : Sbx w' g p n c := (hb.block g hK).trans h
theorem Sbx.dr (h : Sbx w g p n c) : Sbx w.drew g p n c := h
theorem Sbx.kept (h : Sbx w g p n c) (e : w'.heap[g]? = w.heap[g]?) : Sbx w' g p n c := e.trans h
theorem Sbx.made (w : World) (p : Option Addr) (n c : Nat) : Below w.heap.size w (w.alloc (.cells #[.slice p n c] 61)) ∧ Sbx (w.alloc (.cells #[.slice p n c] 61)) w.heap.size p n c ∧ (w.alloc (.cells #[.slice p n c] 61)).heap.size = w.heap.size + 1 :=
  ⟨(Below.refl _ _).alloc (Nat.le_refl _) _, by show (w.heap.push _)[w.heap.size]? = _; simp, by simp⟩
theorem Sbx.set0 (h : Sbx w g p n c) (q : Option Addr) (m d : Nat) : Sbx (w.setCell ⟨g, 0, none⟩ (.slice q m d)) g q m d := by
  have hh : w.heap[g]? = some (.cells #[.slice p n c] 61 (0, 0)) := h
  exact heap_set hh _
theorem heap1 {b g : Nat} (hne : b ≠ g) (x0 : Value) : (w.setCell ⟨g, 0, none⟩ x0).heap[b]? = w.heap[b]? := by
  rw [Below.heap_setCell _ _ _ _ (by exact hne)]
theorem Lim.sbx {v : Value} {xs : List Nat} (h : Lim w v xs) (hx : Sbx w g p n c) (i : Nat) (u : Value) : Lim (w.setCell ⟨g, i, none⟩ u) v xs := by
  have hg : w.heap[g]? = some (.cells #[.slice p n c] 61 (0, 0)) := hx
  obtain ⟨h1, q, d, h2, h3, h4, h5⟩ := h
  refine ⟨h1, q, d, h2, h3, h4, ?_⟩
  rcases h5 with h5 | ⟨b, off, h6, h7, h8⟩
  · exact .inl h5
  · refine .inr ⟨b, off, h6, by simpa [World.setCell] using h7, fun i hi => ?_⟩
    have h9 := h8 i hi
    by_cases hb : b = g
    · subst hb
      simp only [World.cell?, hg] at h9
      have hh : ∀ k : Nat, (#[Value.slice p n c] : Array Value)[k]? ≠ some (.int .u32 (dg xs i)) := by
        intro k
        rcases k with _ | k <;> simp
      exact absurd h9 (hh _)
    · rw [← h9]
      exact World.cell?_of_block (Below.heap_setCell _ _ _ _ (by exact hb))
theorem Whl.sbx {v : Value} {z : Int} {k : Nat} (h : Whl w v z k) (hx : Sbx w g p n c) (i : Nat) (u : Value) : Whl (w.setCell ⟨g, i, none⟩ u) v z k := by
  obtain ⟨s', sv', xs, h1, h2, h3⟩ := h
  exact ⟨s', sv', xs, h1, h2.sbx hx i u, h3⟩
theorem Sbx.last {w0 : World} {K : Nat} (h : Sbx w g p n c) (hb : Below K w0 w) (hg : K ≤ g) (q : Option Addr) (m d : Nat) :
    Sbx (w.setCell ⟨g, 0, none⟩ (.slice q m d)) g q m d ∧ Below K w0 (w.setCell ⟨g, 0, none⟩ (.slice q m d)) ∧ (∀ {v z k}, Whl w v z k → Whl (w.setCell ⟨g, 0, none⟩ (.slice q m d)) v z k) :=
  ⟨h.set0 q m d, hb.setCell (p := ⟨g, 0, none⟩) hg _, fun hv => hv.sbx h 0 _⟩
theorem sx (h : Hid (Sbx w g p n c)) (hb : Below w.heap.size w w') : Hid (Sbx w' g p n c) := hid (h.out.below hb h.out.lt)
theorem pno {v : Value} {l : List Rat} (h : Hid (PN w v l)) (hb : Below w.heap.size w w') : Hid (PN w' v l) := hid (h.out.on hb)
theorem PN.sbx {v : Value} {l : List Rat} (h : PN w v l) (hx : Sbx w g p n c) (q : Option Addr) (m d : Nat) : PN (w.setCell ⟨g, 0, none⟩ (.slice q m d)) v l := by
  have hg : w.heap[g]? = some (.cells #[.slice p n c] 61 (0, 0)) := hx
  obtain ⟨a, c', rs, h1, h2, h3, h4⟩ := h
  refine ⟨a, c', rs, h1, h2, h3, fun i hi => ?_⟩
  obtain ⟨b, e, hl, hA, hq⟩ := h4 i hi
  have hne : b ≠ g := by
    rintro rfl
    obtain ⟨c0, _⟩ := hA
    simp only [World.cell?, hg] at c0
    rcases hj : i * 4 with _ | j
    · rw [hj] at c0; simp at c0
    · rw [hj] at c0; simp at c0
  exact ⟨b, e, by simpa [World.setCell] using hl, hA.kept (heap1 hne _), hq.moved fun _ _ _ hv => hv.sbx hx 0 _⟩
theorem Sbx.turned {row : Option Nat} (h : Sbx w g p n c) (hg : w.grownBy w' row) (hr : ∀ r, row = some r → ∃ o : Obj, w.heap[r]? = some o ∧ o.isCells = false) : Sbx w' g p n c := by
  refine (hg.block g h.lt (fun e => ?_)).trans h
  obtain ⟨o, ho, hc⟩ := hr g e.symm
  rw [show w.heap[g]? = _ from h] at ho
  cases ho
  cases hc
theorem PN.turned {v : Value} {l : List Rat} {row : Option Nat} (h : PN w v l) (hg : w.grownBy w' row) (hr : ∀ r, row = some r → ∃ o : Obj, w.heap[r]? = some o ∧ o.isCells = false) : PN w' v l := by
  obtain ⟨a, c', rs, h1, h2, h3, h4⟩ := h
  refine ⟨a, c', rs, h1, h2, h3, fun i hi => ?_⟩
  obtain ⟨b, e, hl, hA, hq⟩ := h4 i hi
  refine ⟨b, e, Nat.lt_of_lt_of_le hl hg.size, hA.kept (hg.block b hl fun e => ?_), hq.turned hg hr⟩
  obtain ⟨o, ho, hc⟩ := hr b e.symm
  obtain ⟨c0, _⟩ := hA
  simp only [World.cell?, ho] at c0
  cases o <;> simp_all [Obj.isCells]
end
theorem res_tmp {fn : Func} {t : Tmp} {tmps : Array Value} {w : World} {u : Value} (hf : fn.results = #[.tmp t]) (hu : tmps.getD t undef = u) : (results fn tmps).run Tryz.prog w = .ok u w := by
  simp only [Array.getD_eq_getD_getElem?] at hu
  simp [results, hf, Sem.run_bind, hu]
/-- A box of a slice that a region has made. -/
def NewS (w0 w : World) (u : Value) (b : Bool) (v : Value) : Prop := ∃ g, u = .pointer (some ⟨g, 0, none⟩) ∧ w0.heap.size ≤ g ∧ (b = false → Sbx w g none 0 0) ∧ (b = true → ∃ p n c, v = .slice p n c ∧ Sbx w g p n c)
theorem NewS.free {w0 w : World} {u v v' : Value} {b : Bool} (h : NewS w0 w u b v) (hb : b = false) : NewS w0 w u b v' := by
  obtain ⟨g, h1, h2, h3, h4⟩ := h
  exact ⟨g, h1, h2, h3, fun e => absurd (hb.symm.trans e) (by decide)⟩
theorem NewS.on {w0 w w' : World} {u v : Value} {b : Bool} (h : NewS w0 w u b v) (hb : Below w.heap.size w w') : NewS w0 w' u b v := by
  obtain ⟨g, h1, h2, h3, h4⟩ := h
  refine ⟨g, h1, h2, fun e => (h3 e).below hb (h3 e).lt, fun e => ?_⟩
  obtain ⟨p, n, c, e1, e2⟩ := h4 e
  exact ⟨p, n, c, e1, e2.below hb e2.lt⟩
theorem pn_new1 {w : World} {q : Rat} {s1a : Bool} {p1a : Option Addr} {n1a c1a : Nat} {s1b : Bool} {p1b : Option Addr} {n1b c1b : Nat} (h : NF w (.agg #[.bool s1a, .slice p1a n1a c1a, .bool s1b, .slice p1b n1b c1b]) q) :
    PN (w.alloc (.cells #[.bool s1a, .slice p1a n1a c1a, .bool s1b, .slice p1b n1b c1b] 79)) (.slice (some ⟨w.heap.size, 0, none⟩) 1 1) [q] := by
  have hb := (Below.refl w.heap.size w).alloc (Nat.le_refl _) (.cells #[.bool s1a, .slice p1a n1a c1a, .bool s1b, .slice p1b n1b c1b] 79)
  refine ⟨_, 1, fun _ => ((s1a, p1a, n1a, c1a), (s1b, p1b, n1b, c1b)), rfl, by simp, by decide, fun i hi => ⟨_, rfl, by simp, ?_, ?_⟩⟩
  · obtain rfl : i = 0 := by simpa using hi
    exact At4.of (cur := #[.bool s1a, .slice p1a n1a c1a, .bool s1b, .slice p1b n1b c1b]) (T := 79) (f := (0, 0)) (by show (w.heap.push _)[w.heap.size]? = _; simp) ⟨rfl, rfl, rfl, rfl⟩
  · obtain rfl : i = 0 := by simpa using hi
    exact h.on hb
theorem pn_new2 {w : World} {q r : Rat} {s1a : Bool} {p1a : Option Addr} {n1a c1a : Nat} {s1b : Bool} {p1b : Option Addr} {n1b c1b : Nat} {s2a : Bool} {p2a : Option Addr} {n2a c2a : Nat} {s2b : Bool} {p2b : Option Addr} {n2b c2b : Nat} (h : NF w (.agg #[.bool s1a, .slice p1a n1a c1a, .bool s1b, .slice p1b n1b c1b]) q) (h' : NF w (.agg #[.bool s2a, .slice p2a n2a c2a, .bool s2b, .slice p2b n2b c2b]) r) :
    PN (w.alloc (.cells #[.bool s1a, .slice p1a n1a c1a, .bool s1b, .slice p1b n1b c1b, .bool s2a, .slice p2a n2a c2a, .bool s2b, .slice p2b n2b c2b] 79)) (.slice (some ⟨w.heap.size, 0, none⟩) 2 2) [q, r] := by
  have hb := (Below.refl w.heap.size w).alloc (Nat.le_refl _) (.cells #[.bool s1a, .slice p1a n1a c1a, .bool s1b, .slice p1b n1b c1b, .bool s2a, .slice p2a n2a c2a, .bool s2b, .slice p2b n2b c2b] 79)
  refine ⟨_, 2, fun i => if i = 0 then ((s1a, p1a, n1a, c1a), (s1b, p1b, n1b, c1b)) else ((s2a, p2a, n2a, c2a), (s2b, p2b, n2b, c2b)), rfl, by simp, by decide, fun i hi => ⟨_, rfl, by simp, ?_, ?_⟩⟩
  · rcases (show i = 0 ∨ i = 1 by simp at hi; omega) with rfl | rfl
    · exact At4.of (cur := #[.bool s1a, .slice p1a n1a c1a, .bool s1b, .slice p1b n1b c1b, .bool s2a, .slice p2a n2a c2a, .bool s2b, .slice p2b n2b c2b]) (T := 79) (f := (0, 0)) (by show (w.heap.push _)[w.heap.size]? = _; simp) ⟨rfl, rfl, rfl, rfl⟩
    · exact At4.of (cur := #[.bool s1a, .slice p1a n1a c1a, .bool s1b, .slice p1b n1b c1b, .bool s2a, .slice p2a n2a c2a, .bool s2b, .slice p2b n2b c2b]) (T := 79) (f := (0, 0)) (by show (w.heap.push _)[w.heap.size]? = _; simp) ⟨rfl, rfl, rfl, rfl⟩
  · rcases (show i = 0 ∨ i = 1 by simp at hi; omega) with rfl | rfl
    · exact h.on hb
    · exact h'.on hb

end Go.Proofs.YtmabolifokhlnaaGreatDoor

/-
  PACKAGE poly: what may be handed in.
-/
namespace Go.Proofs.YtmabolifokhlnaaGreatDoor
open Go.RowKit Go.Shelf
open Num
set_option linter.unusedVariables false
set_option maxRecDepth 100000
set_option linter.unusedSimpArgs false
attribute [local go_sem] Oper.semAt_some

/-- The numbers of texts. -/
def rdp (ss : List ByteArray) : List Rat := ss.map qnum
theorem rdp_len (ss : List ByteArray) : (rdp ss).length = ss.length := List.length_map _
theorem co_rdp {ss : List ByteArray} {i : Nat} (h : i < ss.length) : co (rdp ss) i = qnum (tx ss i) := by
  rw [co_lt (by rw [rdp_len]; exact h), tx_lt h]; simp [rdp]
/-- May be handed in. -/
def GoodP (ss : List ByteArray) : Prop := ss.length ≤ 9 ∧ (∀ i, i < ss.length → GoodQ (tx ss i)) ∧ Trm (rdp ss)
/-- What is wrong with a list. -/
def BadP (ss : List ByteArray) (k : Int) : Prop := (9 < ss.length ∧ k = 4) ∨ (ss.length ≤ 9 ∧ ∃ i, i < ss.length ∧ (∀ j, j < i → GoodQ (tx ss j)) ∧ BadQ (tx ss i) k) ∨ (ss.length ≤ 9 ∧ (∀ i, i < ss.length → GoodQ (tx ss i)) ∧ ¬ Trm (rdp ss) ∧ k = 1)
theorem BadP.ne {ss : List ByteArray} {k : Int} (h : BadP ss k) : k ≠ 0 := by
  rcases h with ⟨_, rfl⟩ | ⟨_, i, _, _, h⟩ | ⟨_, _, _, rfl⟩
  · decide
  · exact h.ne
  · decide
theorem BadP.not {ss : List ByteArray} {k : Int} (h : BadP ss k) : ¬ GoodP ss := by
  rintro ⟨h1, h2, h3⟩
  rcases h with ⟨h, _⟩ | ⟨_, i, hi, _, h⟩ | ⟨_, _, h, _⟩
  · omega
  · exact h.not (h2 i hi)
  · exact h h3
theorem sml_rdp {ss : List ByteArray} (h : ∀ i, i < ss.length → GoodQ (tx ss i)) : Sml (rdp ss) 25 := ⟨by decide, fun i => by
  by_cases hi : i < ss.length
  · rw [co_rdp hi]; exact Sm.good (h i hi)
  · rw [co_ge (by rw [rdp_len]; omega)]; exact Sm.zero (by decide)⟩
theorem GoodP.sml {ss : List ByteArray} (h : GoodP ss) : Sml (rdp ss) 25 := sml_rdp h.2.1
theorem trm_of_len {l : List Rat} (h : (trimQ l).length = l.length) : Trm l := by
  have hz : ∀ j, (trimQ l).length ≤ j → co l j = 0 := fun j hj => by rw [← co_trim]; exact co_ge hj
  have e := (trim_stop (trim_len l) hz (by
    by_cases h0 : trimQ l = []
    · exact .inl (by rw [h0]; rfl)
    · exact .inr (by rw [← co_trim]; exact trm_last (trm_trim l) h0))).1
  rw [h, List.take_length] at e
  exact e
/-- No text is too long for a machine. -/
def Szs (ss : List ByteArray) : Prop := ∀ i, i < ss.length → (tx ss i).size ≤ maxLen
theorem Szs.nil : Szs [] := fun i hi => absurd hi (Nat.not_lt_zero i)
theorem size_sm {q : Rat} {m : Nat} (h : Sm q m) (hm : m ≤ 68719476736) : (qtxt q).size ≤ maxLen := by
  have e : Num4.B ^ m = 10 ^ (4 * m) := by rw [Nat.pow_mul]; rfl
  have h1 := size_qtxt (q := q) (4 * m) (by have := h.pos; omega) (by rw [← e]; exact h.1) (by rw [← e]; exact h.2)
  unfold maxLen
  omega
theorem Szs.map {l : List Rat} {m : Nat} (h : Sml l m) (hm : m ≤ 68719476736) : Szs (l.map qtxt) := fun i hi => by
  rw [List.length_map] at hi
  have h2 := h.2 i
  rw [co_lt hi] at h2
  rw [tx_lt (by rw [List.length_map]; exact hi), List.getElem_map]
  exact size_sm h2 hm
/-- What Read tells. -/
def PRead (ss : List ByteArray) (k : Int) (w : World) (v : Value) : Prop := (k = 0 ∧ GoodP ss ∧ PN w v (rdp ss)) ∨ (k ≠ 0 ∧ BadP ss k ∧ v = .slice none 0 0)

end Go.Proofs.YtmabolifokhlnaaGreatDoor

/-
  PACKAGE poly: Read.
-/
namespace Go.Proofs.YtmabolifokhlnaaGreatDoor
open Go.RowKit
open Num
set_option linter.unusedVariables false
set_option maxRecDepth 100000
set_option linter.unusedSimpArgs false

set_option maxHeartbeats 4000000 in
theorem pread_any {w : World} {v : Value} {ss : List ByteArray} (h : TxsW w v ss) (hs : Szs ss) :
    Calls Tryz.prog 28 #[v] w fun e w' => ∃ v' k, e = .returned (.tuple #[v', errv k]) ∧ PRead ss k w' v' ∧ (∀ g, v'.ownBlock = some g → w.heap.size ≤ g) ∧ Below w.heap.size w w' := by
  obtain ⟨p, c, rfl, hn, hc, hA⟩ := h
  obtain ⟨n, hN⟩ : ∃ n, ss.length = n := ⟨_, rfl⟩
  unfold Szs at hs
  rw [hN] at hn hA hs ⊢
  have HN := hid hN
  have HA := hid hA
  have HS := hid hs
  have hne := errv_neq
  have hgd := errv_guard
  unfold maxLen at hc
  clear hA hs hN
  by_cases h9 : 9 < n
  · go_enter Tryz.func28, Tryz.ntmps28
    go_wp2_with fail
    go_ret2
    exact ⟨_, 4, by rw [errv_some (by decide)]; rfl, .inr ⟨by decide, .inl ⟨by rw [HN.out]; exact h9, rfl⟩, rfl⟩, fun g hg => by simp [Value.ownBlock] at hg, Below.refl _ _⟩
  have h9i : ¬ (9 : Int) < (n : Int) := by omega
  go_enter Tryz.func28, Tryz.ntmps28
  go_wp2_with (refine wpList_make_ns _ rfl _ _ _ rfl Tryz.underlying61 n rfl rfl (by omega) ?_)
  intro w0 hrow hb0 hs0
  have B0 := hid (Below.refl w.heap.size w)
  have B := hid hb0
  have ROW := hid hrow
  clear hrow hb0 hs0
  go_wp2_with fail
  obtain ⟨b0, hb0⟩ : ∃ b0, b0 = w.heap.size := ⟨_, rfl⟩
  have HB := hid (show w.heap.size ≤ b0 by omega)
  rw [← hb0] at ROW ⊢
  clear hb0
  have W0 : ∃ rs : Nat → Nr, Hid (NRw w0 b0 n rs) := ⟨_, ROW⟩
  clear ROW
  obtain ⟨rs0, ROW⟩ := W0
  go_loopw [18] (fun x wr => ∃ (k : Nat) (rs : Nat → Nr), k ≤ n ∧ x = .int .i64 k ∧ Hid (∀ l, l < k → GoodQ (tx ss l)) ∧ Hid (NRw wr b0 n rs) ∧ Hid (∀ j, j < k → NF wr (nag (rs j)) (qnum (tx ss j))) ∧ Hid (Below w.heap.size w wr)) (fun x _ => n - (intOf x).toNat)
  case atStart => exact ⟨0, rs0, by omega, rfl, hid (fun l hl => by omega), ROW, hid (fun j hj => by omega), B⟩
  case round =>
    clear ROW B
    obtain ⟨k, rs, hk, rfl, HG, ROW, HW, B⟩ := hrel
    by_cases hlt : k < n
    · obtain ⟨b, off, rfl, hb, cu⟩ := HA.out k hlt
      have cu' := (B.out.cell (p := ⟨b, off + k, none⟩) hb).trans cu
      clear cu
      rcases goodQ_or_bad (tx ss k) with hg | ⟨z, hk⟩
      · go_wp2_with fail
        refine (qread_good hg _).mono ?_
        rintro e w101 ⟨v, rfl, hv, hb⟩
        obtain ⟨s5a, p5a, n5a, c5a, s5b, p5b, n5b, c5b, rfl⟩ := hv.opened
        replace ROW := rwo ROW hb
        replace HW := hid (fun q_ hq_ => (HW.out q_ hq_).on hb)
        replace B := bb B hb
        have HV := hid hv.nf
        clear hb hv
        have LB := hid ROW.out.lt
        obtain ⟨hb102, hx103, hs104⟩ := Nbx.made w101 s5a s5b (.slice p5a n5a c5a) (.slice p5b n5b c5b)
        replace HV := nf HV hb102
        replace ROW := rwo ROW hb102
        replace HW := hid (fun q_ hq_ => (HW.out q_ hq_).on hb102)
        replace B := bb B hb102
        have X7 := hid hx103
        clear hb102 hx103
        have cc105 := X7.out.cells
        have cc106 := ROW.out.stores hlt
        replace X7 := hid (X7.out.kept (ROW.out.far k (by have := HB.out; have := LB.out; omega) s5a p5a n5a c5a s5b p5b n5b c5b))
        replace HV := hid (HV.out.put ROW.out k s5a p5a n5a c5a s5b p5b n5b c5b)
        replace HW := hid (fun q_ hq_ => (HW.out q_ hq_).put ROW.out k s5a p5a n5a c5a s5b p5b n5b c5b)
        replace B := hid (ROW.out.below B.out k (by have := HB.out; have := LB.out; omega) s5a p5a n5a c5a s5b p5b n5b c5b)
        replace ROW := hid (ROW.out.put hlt s5a p5a n5a c5a s5b p5b n5b c5b)
        go_wp2_with fail
        go_roundw
        case rel => exact ⟨k + 1, _, by omega, by go_num, hid (fun l hl => if h : l < k then HG.out l h else (show k = l by omega) ▸ hg), ROW, hid (fun j hj => by
            by_cases hjk : j = k
            · subst hjk; rw [upd_self]; exact HV.out
            · rw [upd_ne _ _ hjk]; exact HW.out j (by omega)), B⟩
        case measure => simp [intOf]; omega
      · have hkk := errv_some hk.ne
        have HK := hid hk
        go_wp2_with fail
        refine (qread_bad hk _ (HS.out k hlt)).mono ?_
        rintro e w301 ⟨rfl, hb⟩
        replace B := bb B hb
        clear hb 
        obtain ⟨hb302, hx303, hs304⟩ := Nbx.made w301 false false (.slice none 0 0) (.slice none 0 0)
        replace B := bb B hb302
        have X7 := hid hx303
        clear hb302 hx303
        have cc305 := X7.out.cells
        go_wp2_with fail
        go_ret2
        exact ⟨.slice none 0 0, z, by rw [hkk]; rfl, .inr ⟨HK.out.ne, .inr (.inl ⟨by rw [HN.out]; omega, k, by rw [HN.out]; exact hlt, HG.out, HK.out⟩), rfl⟩, fun g hg => by simp [Value.ownBlock] at hg, B0.out.trans (B.out.mono B0.out.size)⟩
    · obtain rfl : k = n := by omega
      have HP : Hid (PN wr (.slice (some ⟨b0, 0, none⟩) k k) (rdp ss)) := hid (ROW.out.pn (by rw [rdp_len]; exact HN.out) (Nat.le_refl _) (by unfold maxLen; omega) (fun i hi => (HW.out i hi).cast (co_rdp (by rw [HN.out]; exact hi)).symm))
      obtain ⟨t, ht⟩ : ∃ t, (trimQ (rdp ss)).length = t := ⟨_, rfl⟩
      have hle : t ≤ k := by rw [← ht, ← HN.out, ← rdp_len]; exact trim_len _
      have HT := trim_pn HP.out
      rw [ht] at HT
      have HT := hid HT
      have HTT := hid ht
      clear ht
      by_cases hlt2 : t < k
      · have hlti : (t : Int) < (k : Int) := by omega
        go_wp2_with fail
        refine HT.out.mono ?_
        rintro e w1 ⟨rfl, hb1⟩
        replace B := bb B hb1
        clear hb1
        go_wp2_with fail
        go_ret2
        exact ⟨_, 1, by rw [errv_some (by decide)]; rfl, .inr ⟨by decide, .inr (.inr ⟨by rw [HN.out]; omega, fun i hi => HG.out i (by rw [HN.out] at hi; exact hi), fun ht => by have h1 := HTT.out; rw [ht, rdp_len, HN.out] at h1; omega, rfl⟩), rfl⟩, fun g hg => by simp [Value.ownBlock] at hg, B.out⟩
      · obtain rfl : t = k := by omega
        go_wp2_with fail
        refine HT.out.mono ?_
        rintro e w1 ⟨rfl, hb1⟩
        replace HP := pno HP hb1
        replace B := bb B hb1
        clear hb1
        go_wp2_with fail
        go_ret2
        exact ⟨_, 0, rfl, .inl ⟨rfl, ⟨by rw [HN.out]; omega, fun i hi => HG.out i (by rw [HN.out] at hi; exact hi), trm_of_len (by rw [HTT.out, rdp_len, HN.out])⟩, HP.out⟩, fun g hg => by simp [Value.ownBlock] at hg; have := HB.out; omega, B.out⟩

end Go.Proofs.YtmabolifokhlnaaGreatDoor

/-
  PACKAGE poly: Check, readBoth, readWithNumber.
-/
namespace Go.Proofs.YtmabolifokhlnaaGreatDoor
open Go.RowKit
open Num
set_option linter.unusedVariables false
set_option maxRecDepth 100000
set_option linter.unusedSimpArgs false

def WrongP (p q : List ByteArray) (k : Int) : Prop := BadP p k ∨ (GoodP p ∧ BadP q k)
def WrongX (p : List ByteArray) (x : ByteArray) (k : Int) : Prop := BadP p k ∨ (GoodP p ∧ BadQ x k)
theorem WrongP.ne {p q : List ByteArray} {k : Int} (h : WrongP p q k) : k ≠ 0 := by rcases h with h | ⟨_, h⟩ <;> exact h.ne
theorem WrongX.ne {p : List ByteArray} {x : ByteArray} {k : Int} (h : WrongX p x k) : k ≠ 0 := by rcases h with h | ⟨_, h⟩ <;> exact h.ne
theorem WrongP.not {p q : List ByteArray} {k : Int} (h : WrongP p q k) : ¬ (GoodP p ∧ GoodP q) := by
  rintro ⟨h1, h2⟩
  rcases h with h | ⟨_, h⟩
  · exact h.not h1
  · exact h.not h2
theorem WrongX.not {p : List ByteArray} {x : ByteArray} {k : Int} (h : WrongX p x k) : ¬ (GoodP p ∧ GoodQ x) := by
  rintro ⟨h1, h2⟩
  rcases h with h | ⟨_, h⟩
  · exact h.not h1
  · exact h.not h2
theorem TxsW.on {w w' : World} {v : Value} {ss : List ByteArray} (h : TxsW w v ss) (hb : Below w.heap.size w w') : TxsW w' v ss := h.below hb (Nat.le_refl _)
theorem PRead.on {w w' : World} {v : Value} {ss : List ByteArray} {k : Int} (h : PRead ss k w v) (hb : Below w.heap.size w w') : PRead ss k w' v := by
  rcases h with ⟨h1, h2, h3⟩ | h
  · exact .inl ⟨h1, h2, h3.on hb⟩
  · exact .inr h
theorem PRead.yes {w : World} {v : Value} {ss : List ByteArray} {k : Int} (h : PRead ss k w v) (hk : k = 0) : GoodP ss ∧ PN w v (rdp ss) := by
  rcases h with ⟨_, h⟩ | ⟨h, _⟩
  · exact h
  · exact absurd hk h
theorem PRead.no {w : World} {v : Value} {ss : List ByteArray} {k : Int} (h : PRead ss k w v) (hk : k ≠ 0) : BadP ss k ∧ v = .slice none 0 0 := by
  rcases h with ⟨h, _⟩ | ⟨_, h⟩
  · exact absurd h hk
  · exact h
theorem PN.nbx {w : World} {v : Value} {l : List Rat} {g : Nat} {s s' : Bool} {p p' : Option Addr} {n n' c c' : Nat} (h : PN w v l) (hx : Nbx w g s (.slice p n c) s' (.slice p' n' c')) (hne : v.ownBlock ≠ some g) (x0 x1 x2 x3 : Value) : PN ((((w.setCell ⟨g, 0, none⟩ x0).setCell ⟨g, 1, none⟩ x1).setCell ⟨g, 2, none⟩ x2).setCell ⟨g, 3, none⟩ x3) v l := by
  obtain ⟨a, c', rs, h1, h2, h3, h4⟩ := h
  refine ⟨a, c', rs, h1, h2, h3, fun i hi => ?_⟩
  obtain ⟨b, e, hl, hA, hq⟩ := h4 i hi
  have hbg : b ≠ g := by
    rintro rfl
    subst e
    rw [h1] at hne
    exact hne (by simp [Value.ownBlock])
  have hni : NoInt w g := by
    intro cur T f hh u hu
    rw [show w.heap[g]? = _ from hx] at hh
    cases hh
    simp at hu
    rcases hu with rfl | rfl | rfl | rfl
    · exact NI.bool _
    · exact NI.slc _ _ _
    · exact NI.bool _
    · exact NI.slc _ _ _
  refine ⟨b, e, by simpa [World.setCell] using hl, hA.kept (heap4 hbg _ _ _ _), hq.grown hni ⟨rfl, rfl, rfl, by simp [World.setCell], fun k _ hk => heap4 (fun e => hk (by rw [e])) _ _ _ _⟩⟩
theorem res_tct {fn : Func} {t t' t'' : Tmp} {tmps : Array Value} {w : World} {g : Nat} {s s' : Bool} {sv sv' u u'' : Value} (hf : fn.results = #[.tmp t, .cell t' 79, .tmp t'']) (hu : tmps.getD t undef = u) (ht : tmps.getD t' undef = .pointer (some ⟨g, 0, none⟩)) (hu'' : tmps.getD t'' undef = u'') (h2 : Nbx w g s sv s' sv') :
    (results fn tmps).run Tryz.prog w = .ok (.tuple #[u, .agg #[.bool s, sv, .bool s', sv'], u'']) w := by
  have h1 := at_addr (P := Tryz.prog) (w := w) ht
  have h3 := load_num h2
  simp only [Array.getD_eq_getD_getElem?] at h1 hu hu''
  simp [results, hf, Sem.run_bind, h1, h3, hu, hu'']

set_option maxHeartbeats 1000000 in
theorem pcheck_any {w : World} {v : Value} {ss : List ByteArray} (h : TxsW w v ss) (hs : Szs ss) :
    Calls Tryz.prog 7 #[v] w fun e w' => ∃ k, e = .returned (errv k) ∧ ((k = 0 ∧ GoodP ss) ∨ (k ≠ 0 ∧ BadP ss k)) ∧ Below w.heap.size w w' := by
  have H1 := hid (pread_any h hs)
  clear h hs
  go_enter Tryz.func7, Tryz.ntmps7
  go_wp2_with fail
  refine H1.out.mono ?_
  rintro e w1 ⟨x, k, rfl, hr, _, hb⟩
  have B := hid hb
  have R := hid hr
  clear hb hr
  go_wp2_with fail
  go_ret
  refine ⟨k, rfl, ?_, B.out⟩
  rcases R.out with ⟨h1, h2, _⟩ | ⟨h1, h2, _⟩
  · exact .inl ⟨h1, h2⟩
  · exact .inr ⟨h1, h2⟩

/-- What readBoth tells. -/
def PBoth (p q : List ByteArray) (k : Int) (w : World) (v u : Value) : Prop := (k = 0 ∧ GoodP p ∧ GoodP q ∧ PN w v (rdp p) ∧ PN w u (rdp q)) ∨ (k ≠ 0 ∧ WrongP p q k ∧ v = .slice none 0 0 ∧ u = .slice none 0 0)
set_option maxHeartbeats 1000000 in
theorem pboth_any {w : World} {v u : Value} {p q : List ByteArray} (h : TxsW w v p) (h' : TxsW w u q) (hs : Szs p) (hs' : Szs q) :
    Calls Tryz.prog 50 #[v, u] w fun e w' => ∃ x y k, e = .returned (.tuple #[x, y, errv k]) ∧ PBoth p q k w' x y ∧ Below w.heap.size w w' := by
  have H1 := hid (pread_any h hs)
  have H2 := hid (fun (w' : World) (hb : Below w.heap.size w w') => pread_any (h'.on hb) hs')
  have hne := errv_neq
  have hgd := errv_guard
  clear h h' hs hs'
  go_enter Tryz.func50, Tryz.ntmps50
  go_wp2_with fail
  refine H1.out.mono ?_
  rintro e w1 ⟨x, k, rfl, hr, _, hb⟩
  have B := hid hb
  have R := hid hr
  clear hb hr
  by_cases hk : k = 0
  · obtain ⟨hg, hp⟩ := R.out.yes hk
    have HG := hid hg
    have HP := hid hp
    clear hg hp
    subst hk
    go_wp2_with fail
    refine (H2.out _ B.out).mono ?_
    rintro e w2 ⟨y, z, rfl, hr2, _, hb2⟩
    replace HP := pno HP hb2
    replace B := bb B hb2
    have R2 := hid hr2
    clear hb2 hr2
    by_cases hk2 : z = 0
    · obtain ⟨hg2, hp2⟩ := R2.out.yes hk2
      have HG2 := hid hg2
      have HP2 := hid hp2
      clear hg2 hp2
      subst hk2
      go_wp2_with fail
      go_ret3
      exact ⟨_, _, 0, rfl, .inl ⟨rfl, HG.out, HG2.out, HP.out, HP2.out⟩, B.out⟩
    · have HB := hid (R2.out.no hk2).1
      have HK2 := hid hk2
      have f2 : (z != 0) = true := by simpa using hk2
      go_wp2_with fail
      go_ret3
      exact ⟨_, _, z, rfl, .inr ⟨HK2.out, .inr ⟨HG.out, HB.out⟩, rfl, rfl⟩, B.out⟩
  · have HB := hid (R.out.no hk).1
    have HK := hid hk
    have f1 : (k != 0) = true := by simpa using hk
    go_wp2_with fail
    go_ret3
    exact ⟨_, _, k, rfl, .inr ⟨HK.out, .inl HB.out, rfl, rfl⟩, B.out⟩

/-- What readWithNumber tells. -/
def PWith (p : List ByteArray) (x : ByteArray) (k : Int) (w : World) (v u : Value) : Prop := (k = 0 ∧ GoodP p ∧ GoodQ x ∧ PN w v (rdp p) ∧ NF w u (qnum x)) ∨ (k ≠ 0 ∧ WrongX p x k ∧ v = .slice none 0 0 ∧ u = .agg #[.bool false, .slice none 0 0, .bool false, .slice none 0 0])
set_option maxHeartbeats 2000000 in
theorem pwith_any {w : World} {v : Value} {p : List ByteArray} {x : ByteArray} (h : TxsW w v p) (hs : Szs p) (hx : x.size ≤ maxLen) :
    Calls Tryz.prog 39 #[v, .string x] w fun e w' => ∃ y z k, e = .returned (.tuple #[y, z, errv k]) ∧ PWith p x k w' y z ∧ Below w.heap.size w w' := by
  have H1 := hid (fun (w' : World) (hb : Below w.heap.size w w') => pread_any (h.on hb) hs)
  have HX := hid hx
  have hne := errv_neq
  have hgd := errv_guard
  have B := hid (Below.refl w.heap.size w)
  obtain ⟨hb1, hx2, hs3⟩ := Nbx.made w false false (.slice none 0 0) (.slice none 0 0)
  replace B := bb B hb1
  have X5 := hid hx2
  clear hb1 hx2
  clear hs3 h hs hx
  go_enter Tryz.func39, Tryz.ntmps39
  have cc4 := X5.out.cells
  go_wp2_with fail
  generalize hW : w.alloc (.cells #[.bool false, .slice none 0 0, .bool false, .slice none 0 0] 79) = W5 at *
  clear hW
  have LX := hid X5.out.lt
  refine (H1.out _ B.out).mono ?_
  rintro e w6 ⟨y, k, rfl, hr, hog, hb⟩
  have R := hid hr
  have NE_HP := hid (show y.ownBlock ≠ some w.heap.size from fun e => by have := hog _ e; have := LX.out; omega)
  clear hr hog
  replace X5 := nx X5 hb
  replace B := bb B hb
  clear cc4
  clear hb 
  by_cases hk : k = 0
  · obtain ⟨hg, hp⟩ := R.out.yes hk
    have HG := hid hg
    have HP := hid hp
    clear hg hp R
    subst hk
    go_wp2_with fail
    rcases goodQ_or_bad x with hq | ⟨z, hq⟩
    · refine (qread_good hq _).mono ?_
      rintro e w407 ⟨v, rfl, hv, hb⟩
      obtain ⟨s3a, p3a, n3a, c3a, s3b, p3b, n3b, c3b, rfl⟩ := hv.opened
      replace X5 := nx X5 hb
      replace HP := pno HP hb
      replace B := bb B hb
      have HV := hid hv.nf
      clear hb hv
      obtain ⟨hb408, hx409, hs410⟩ := Nbx.made w407 s3a s3b (.slice p3a n3a c3a) (.slice p3b n3b c3b)
      have L0 := hid X5.out.lt
      replace X5 := nx X5 hb408
      replace HV := nf HV hb408
      replace HP := pno HP hb408
      replace B := bb B hb408
      have X9 := hid hx409
      clear hb408 hx409
      have cc411 := X5.out.cells
      have cc412 := X9.out.cells
      go_wp2_with fail
      generalize hW : w407.alloc (.cells #[.bool s3a, .slice p3a n3a c3a, .bool s3b, .slice p3b n3b c3b] 79) = W413 at *
      clear hW
      have cc414 := X9.out.cells
      have cc415 := X5.out.stores
      obtain ⟨r416a, r416b, r416c⟩ := X5.out.last B.out (by have := L0.out; omega) s3a s3b p3a p3b n3a n3b c3a c3b
      replace X9 := hid (X9.out.kept (heap4 (g := w.heap.size) (by have := L0.out; omega) (.bool s3a) (.slice p3a n3a c3a) (.bool s3b) (.slice p3b n3b c3b)))
      replace HV := hid (HV.out.moved fun _ _ _ hv => r416c hv)
      replace HP := hid (HP.out.nbx X5.out NE_HP.out (.bool s3a) (.slice p3a n3a c3a) (.bool s3b) (.slice p3b n3b c3b))
      replace X5 := hid r416a
      replace B := hid r416b
      clear r416a r416b r416c
      have cc417 := X9.out.cells
      go_region_held3 (fun w' => w'.cell? ⟨w407.heap.size, 0, none⟩ = some (.bool s3a) ∧ w'.cell? ⟨w407.heap.size, 1, none⟩ = some (.slice p3a n3a c3a) ∧ w'.cell? ⟨w407.heap.size, 2, none⟩ = some (.bool s3b) ∧ w'.cell? ⟨w407.heap.size, 3, none⟩ = some (.slice p3b n3b c3b)) (go_keep) (first | fail)
      replace X5 := hid X5.out.dr
      replace X9 := hid X9.out.dr
      replace HV := hid HV.out.drew
      replace HP := hid (HP.out.on (Below.drew (Below.refl _ _)))
      replace B := hid (Below.drew B.out)
      go_wp2_with fail
      refine bodyPost_ret (res_tct rfl rfl rfl rfl X5.out) rfl ?_
      exact ⟨_, _, 0, rfl, .inl ⟨rfl, HG.out, hq, HP.out, HV.out⟩, B.out⟩
    · have hkk := errv_some hq.ne
      have HQ := hid hq
      refine (qread_bad hq _ HX.out).mono ?_
      rintro e w607 ⟨rfl, hb⟩
      replace X5 := nx X5 hb
      replace HP := pno HP hb
      replace B := bb B hb
      clear hb 
      obtain ⟨hb608, hx609, hs610⟩ := Nbx.made w607 false false (.slice none 0 0) (.slice none 0 0)
      have L0 := hid X5.out.lt
      replace X5 := nx X5 hb608
      replace HP := pno HP hb608
      replace B := bb B hb608
      have X9 := hid hx609
      clear hb608 hx609
      have cc611 := X5.out.cells
      have cc612 := X9.out.cells
      have cc613 := X5.out.stores
      obtain ⟨r614a, r614b, r614c⟩ := X5.out.last B.out (by have := L0.out; omega) false false none none 0 0 0 0
      replace X9 := hid (X9.out.kept (heap4 (g := w.heap.size) (by have := L0.out; omega) (.bool false) (.slice none 0 0) (.bool false) (.slice none 0 0)))
      replace HP := hid (HP.out.nbx X5.out NE_HP.out (.bool false) (.slice none 0 0) (.bool false) (.slice none 0 0))
      replace X5 := hid r614a
      replace B := hid r614b
      clear r614a r614b r614c
      go_wp2_with fail
      refine bodyPost_ret (res_tct rfl rfl rfl rfl X5.out) rfl ?_
      exact ⟨_, _, z, by rw [hkk]; rfl, .inr ⟨HQ.out.ne, .inr ⟨HG.out, HQ.out⟩, rfl, rfl⟩, B.out⟩
  · have HB := hid (R.out.no hk).1
    have HK := hid hk
    have f1 : (k != 0) = true := by simpa using hk
    have cc57 := X5.out.cells
    have cc58 := X5.out.stores
    obtain ⟨r59a, r59b, r59c⟩ := X5.out.last B.out (by omega) false false none none 0 0 0 0
    replace X5 := hid r59a
    replace B := hid r59b
    clear r59a r59b r59c
    have cc60 := X5.out.cells
    go_wp2_with fail
    refine bodyPost_ret (res_tct rfl rfl rfl rfl X5.out) rfl ?_
    exact ⟨_, _, k, rfl, .inr ⟨HK.out, .inl HB.out, rfl, rfl⟩, B.out⟩

end Go.Proofs.YtmabolifokhlnaaGreatDoor

/-
  PACKAGE poly: Shift's mathematics.
-/
namespace Go.Proofs.YtmabolifokhlnaaGreatDoor
open Go.RowKit
open Num
set_option linter.unusedVariables false
set_option maxRecDepth 100000
set_option linter.unusedSimpArgs false

/-- What Shift has, in the order in which the places come. -/
def mvf (l : List Rat) (a : Rat) (pre : List Nat) : List Rat := pre.foldl (fun s i => addp (mulp s [a, 1]) [co l i]) []
theorem mvf_snoc (l : List Rat) (a : Rat) (pre : List Nat) (i : Nat) : mvf l a (pre ++ [i]) = addp (mulp (mvf l a pre) [a, 1]) [co l i] := by simp [mvf]
theorem moved_cons (c : Rat) (l : List Rat) (a : Rat) : addp (mulp (moved l a) [a, 1]) [c] = moved (c :: l) a := by
  refine trm_pv (trm_addp _ _) (trm_moved _ _) fun x => ?_
  rw [pv_addp, pv_mulp, pv_moved, pv_moved, pv_cons, pv_cons, pv_cons, pv_cons, pv_nil]
  grind
theorem mvf_dwn (l : List Rat) (a : Rat) : ∀ k, k ≤ l.length → mvf l a (dwn l.length k) = moved (l.drop (l.length - k)) a := by
  intro k
  induction k with
  | zero => intro _; rw [Nat.sub_zero, List.drop_length]; rfl
  | succ k ih =>
    intro hk
    rw [dwn_succ, mvf_snoc, ih (by omega), moved_cons, List.drop_eq_getElem_cons (i := l.length - (k + 1)) (by omega), co_lt (by omega)]
    congr 2
    · congr 1; omega
    · congr 1; omega
theorem mvf_all {l : List Rat} {n : Nat} (h : l.length = n) (a : Rat) : mvf l a (dwn n n) = moved l a := by
  subst h
  rw [mvf_dwn l a _ (Nat.le_refl _), Nat.sub_self, List.drop_zero]
theorem mvf_len (l : List Rat) (a : Rat) : ∀ (pre : List Nat) (s : List Rat), (pre.foldl (fun s i => addp (mulp s [a, 1]) [co l i]) s).length ≤ s.length + pre.length := by
  intro pre
  induction pre with
  | nil => intro s; exact Nat.le_refl _
  | cons i pre ih =>
    intro s
    have h1 := ih (addp (mulp s [a, 1]) [co l i])
    have h2 : (mulp s [a, 1]).length ≤ s.length + 1 := Nat.le_trans (trim_len _) (by simp [lof])
    have h3 : (addp (mulp s [a, 1]) [co l i]).length ≤ s.length + 1 := Nat.le_trans (trim_len _) (by simp [lof]; omega)
    rw [List.length_cons]
    exact Nat.le_trans h1 (by omega)
theorem Sml.mvf {l : List Rat} {a : Rat} {m n : Nat} (h : Sml l m) (ha : Sm a n) : ∀ (pre : List Nat) (s : List Rat) (k : Nat), Sml s ((m + n + 4) * 2 ^ k - (m + n + 3)) → Sml (pre.foldl (fun s i => addp (mulp s [a, 1]) [co l i]) s) ((m + n + 4) * 2 ^ (k + pre.length) - (m + n + 3)) := by
  intro pre
  induction pre with
  | nil => intro s k hs; exact hs
  | cons i pre ih =>
    intro s k hs
    rw [List.length_cons, show k + (pre.length + 1) = k + 1 + pre.length by omega]
    refine ih _ (k + 1) (((hs.linp ha).sum (Sml.one (h.2 i))).mono ?_)
    have hp : 1 ≤ 2 ^ k := Nat.one_le_two_pow
    have h1 := Nat.mul_le_mul_left (m + n + 4) hp
    rw [Nat.pow_succ, ← Nat.mul_assoc]
    omega

theorem Sml.lin {a : Rat} {n : Nat} (ha : Sm a n) : Sml [a, 1] n := Sml.cons ha (Sml.one ((Sm.int (z := 1) (m := 1) (by decide) (by decide)).mono ha.pos))
/-- What a round of Shift may take. -/
def shb (n m q : Nat) : Prop := (n + 2) * ((m + q + 4) * 2 ^ n + m + q + 4) ≤ 68719476736
theorem shb_mul {n m q k : Nat} {s : List Rat} (h : shb n m q) (hk : k ≤ n) (hs : s.length ≤ k) : s.length * ((m + q + 4) * 2 ^ k - (m + q + 3) + q + 1) + ((m + q + 4) * 2 ^ k - (m + q + 3)) + q + 2 ≤ 68719476736 := by
  have h1 : 2 ^ k ≤ 2 ^ n := Nat.pow_le_pow_right (by omega) hk
  have h2 := Nat.mul_le_mul_left (m + q + 4) h1
  have h3 : (m + q + 4) * 2 ^ k - (m + q + 3) + q + 1 ≤ (m + q + 4) * 2 ^ n + m + q + 4 := by omega
  have h4 := Nat.mul_le_mul (Nat.le_trans hs hk) h3
  have h5 : shb n m q := h
  unfold shb at h5
  rw [Nat.add_mul] at h5
  omega
theorem shb_add {n m q k : Nat} (h : shb n m q) (hk : k ≤ n) : ((m + q + 4) * 2 ^ k - (m + q + 3)) + ((m + q + 4) * 2 ^ k - (m + q + 3)) + q + 2 ≤ 68719476736 ∧ m ≤ 68719476736 := by
  have h1 : 2 ^ k ≤ 2 ^ n := Nat.pow_le_pow_right (by omega) hk
  have h2 := Nat.mul_le_mul_left (m + q + 4) h1
  have h5 : shb n m q := h
  unfold shb at h5
  have h6 : 2 * ((m + q + 4) * 2 ^ n + m + q + 4) ≤ (n + 2) * ((m + q + 4) * 2 ^ n + m + q + 4) := Nat.mul_le_mul_right _ (by omega)
  omega

end Go.Proofs.YtmabolifokhlnaaGreatDoor

/-
  PACKAGE poly: Polynomial.Eval.
-/
namespace Go.Proofs.YtmabolifokhlnaaGreatDoor
open Go.RowKit Go.Shelf
open Num
set_option linter.unusedVariables false
set_option maxRecDepth 100000
set_option linter.unusedSimpArgs false
attribute [local go_sem] Oper.semAt_some

/-- Horner, in the order in which the places come. -/
def evf (l : List Rat) (x : Rat) (pre : List Nat) : Rat := pre.foldl (fun v i => v * x + co l i) 0
theorem evf_snoc (l : List Rat) (x : Rat) (pre : List Nat) (i : Nat) : evf l x (pre ++ [i]) = evf l x pre * x + co l i := by simp [evf]
theorem pv_drop (l : List Rat) (x : Rat) {i : Nat} (h : i < l.length) : pv (l.drop i) x = co l i + x * pv (l.drop (i + 1)) x := by
  rw [List.drop_eq_getElem_cons h, pv_cons, co_lt h]
theorem evf_dwn (l : List Rat) (x : Rat) : ∀ k, k ≤ l.length → evf l x (dwn l.length k) = pv (l.drop (l.length - k)) x := by
  intro k
  induction k with
  | zero => intro _; rw [Nat.sub_zero, List.drop_length]; rfl
  | succ k ih =>
    intro hk
    rw [dwn_succ, evf_snoc, ih (by omega), pv_drop l x (i := l.length - (k + 1)) (by omega), show l.length - 1 - k = l.length - (k + 1) by omega, show l.length - (k + 1) + 1 = l.length - k by omega]
    grind
theorem evf_all {l : List Rat} {n : Nat} (h : l.length = n) (x : Rat) : evf l x (dwn n n) = pv l x := by
  subst h
  rw [evf_dwn l x _ (Nat.le_refl _), Nat.sub_self, List.drop_zero]
theorem Sm.evf {l : List Rat} {x : Rat} {m n : Nat} (h : Sml l m) (hx : Sm x n) : ∀ (pre : List Nat) (v : Rat) (k : Nat), Sm v (k * (m + n + 1) + 1) → Sm (pre.foldl (fun v i => v * x + co l i) v) ((k + pre.length) * (m + n + 1) + 1) := by
  intro pre
  induction pre with
  | nil => intro v k hv; exact hv
  | cons i pre ih =>
    intro v k hv
    have h1 := ih (v * x + co l i) (k + 1) (((hv.mul hx).add (h.2 i)).mono (by rw [Nat.succ_mul]; omega))
    rw [List.length_cons, show k + (pre.length + 1) = k + 1 + pre.length by omega]
    exact h1

/-- What holds between two rounds. -/
def EI (w : World) (lp : List Rat) (n : Nat) (rs : Nat → Nr) (q : Rat) (s1a : Bool) (p1a : Option Addr) (n1a c1a : Nat) (s1b : Bool) (p1b : Option Addr) (n1b c1b : Nat) (pre : List {i : Nat // i < n}) (W : World) : Prop :=
  (∃ s5a p5a n5a c5a s5b p5b n5b c5b, Nbx W (w.heap.size + 1 + 1) s5a (.slice p5a n5a c5a) s5b (.slice p5b n5b c5b) ∧ NF W (.agg #[.bool s5a, .slice p5a n5a c5a, .bool s5b, .slice p5b n5b c5b]) (evf lp q (pre.map (·.1)))) ∧
  (∀ i, i < n → NF W (nag (rs i)) (co lp i)) ∧ Nbx W w.heap.size s1a (.slice p1a n1a c1a) s1b (.slice p1b n1b c1b) ∧ NF W (.agg #[.bool s1a, .slice p1a n1a c1a, .bool s1b, .slice p1b n1b c1b]) q ∧
  Nbx W (w.heap.size + 1) false (.slice none 0 0) false (.slice none 0 0) ∧ Below w.heap.size w W ∧ w.heap.size + 1 + 1 + 1 < W.heap.size
section
variable {w : World} {lp : List Rat} {n : Nat} {rs : Nat → Nr} {q : Rat} {s1a : Bool} {p1a : Option Addr} {n1a c1a : Nat} {s1b : Bool} {p1b : Option Addr} {n1b c1b : Nat}
theorem EI.own {K : Nat} (hK : w.heap.size ≤ K) : OwnFrom K (EI w lp n rs q s1a p1a n1a c1a s1b p1b n1b c1b) := by
  rintro s W W' row ⟨⟨s5a, p5a, n5a, c5a, s5b, p5b, n5b, c5b, h1, h2⟩, h3, h4, h5, h6, h7, h8⟩ hg hr
  have hr' := fun r e => (hr r e).2
  exact ⟨⟨s5a, p5a, n5a, c5a, s5b, p5b, n5b, c5b, h1.turned hg hr', h2.turned hg hr'⟩, fun i hi => (h3 i hi).turned hg hr', h4.turned hg hr', h5.turned hg hr', h6.turned hg hr', h7.grown hg h7.size (fun g e => Nat.le_trans hK (hr g e).1), Nat.lt_of_lt_of_le h8 hg.size⟩
theorem EI.alloc {pre : List {i : Nat // i < n}} {W : World} (h : EI w lp n rs q s1a p1a n1a c1a s1b p1b n1b c1b pre W) (o : Obj) : EI w lp n rs q s1a p1a n1a c1a s1b p1b n1b c1b pre (W.alloc o) := by
  have hb := (Below.refl W.heap.size W).alloc (Nat.le_refl _) o
  obtain ⟨⟨s5a, p5a, n5a, c5a, s5b, p5b, n5b, c5b, h1, h2⟩, h3, h4, h5, h6, h7, h8⟩ := h
  exact ⟨⟨s5a, p5a, n5a, c5a, s5b, p5b, n5b, c5b, h1.below hb h1.lt, h2.on hb⟩, fun i hi => (h3 i hi).on hb, h4.below hb h4.lt, h5.on hb, h6.below hb h6.lt, h7.trans (hb.mono h7.size), Nat.lt_of_lt_of_le h8 hb.size⟩
end

set_option maxHeartbeats 8000000 in
theorem peval_p {w : World} {v xv : Value} {lp : List Rat} {q : Rat} {m nq : Nat} (h : PN w v lp) (hx : NF w xv q) (hs : Sml lp m) (hsx : Sm q nq) (hm : lp.length * (m + nq + 1) + 2 * m + 2 * nq + 4 ≤ 68719476736) (hl : lp.length ≤ 1000000) :
    Calls Tryz.prog 40 #[v, xv] w fun e w' => ∃ v', e = .returned v' ∧ NF w' v' (pv lp q) ∧ Below w.heap.size w w' := by
  refine (callsIn_wide (n := 10)).1 ?_
  obtain ⟨a, c, rs, rfl, hn, hc, hA⟩ := h
  obtain ⟨n, hN⟩ : ∃ n, lp.length = n := ⟨_, rfl⟩
  have HN := hid hN
  rw [hN] at hn hA hm hl ⊢
  obtain ⟨s1a, p1a, n1a, c1a, s1b, p1b, n1b, c1b, rfl⟩ := hx.opened
  have HA := hid hA
  have SL := hid hs
  have SX := hid hsx
  have HM := hid hm
  have HW : Hid (∀ i, i < n → NF w (nag (rs i)) (co lp i)) := hid (fun i hi => by obtain ⟨_, _, _, _, h⟩ := hA i hi; exact h)
  have B := hid (Below.refl w.heap.size w)
  have HX := hid hx
  obtain ⟨hb1, hx2, hs3⟩ := Nbx.made w s1a s1b (.slice p1a n1a c1a) (.slice p1b n1b c1b)
  replace HX := nf HX hb1
  replace HW := hid (fun q_ hq_ => (HW.out q_ hq_).on hb1)
  replace B := bb B hb1
  have X3 := hid hx2
  clear hb1 hx2
  obtain ⟨hb4, hx5, hs6⟩ := Nbx.made (w.alloc (.cells #[.bool s1a, .slice p1a n1a c1a, .bool s1b, .slice p1b n1b c1b] 79)) false false (.slice none 0 0) (.slice none 0 0)
  rw [hs3] at hx5 hs6
  replace X3 := nx X3 hb4
  replace HX := nf HX hb4
  replace HW := hid (fun q_ hq_ => (HW.out q_ hq_).on hb4)
  replace B := bb B hb4
  have X4 := hid hx5
  clear hb4 hx5
  obtain ⟨hb7, hx8, hs9⟩ := Nbx.made ((w.alloc (.cells #[.bool s1a, .slice p1a n1a c1a, .bool s1b, .slice p1b n1b c1b] 79)).alloc (.cells #[.bool false, .slice none 0 0, .bool false, .slice none 0 0] 79)) false false (.slice none 0 0) (.slice none 0 0)
  rw [hs6] at hx8 hs9
  replace X3 := nx X3 hb7
  replace X4 := nx X4 hb7
  replace HX := nf HX hb7
  replace HW := hid (fun q_ hq_ => (HW.out q_ hq_).on hb7)
  replace B := bb B hb7
  have X5 := hid hx8
  clear hb7 hx8
  have hS8 := hs9
  clear hA hs hsx hx hm hN hs9
  refine callsIn_of_wp_marks Tryz.func40 rfl trivial ?_ rfl
  simp only [Tryz.ntmps40, List.size_toArray, List.length_cons, List.length_nil, Nat.reduceAdd, Nat.reduceSub, Array.replicate_succ, Array.replicate_zero, List.push_toArray, List.append_toArray, List.nil_append, List.cons_append]
  gi_wp2
  generalize hW8 : ((w.alloc (.cells #[.bool s1a, .slice p1a n1a c1a, .bool s1b, .slice p1b n1b c1b] 79)).alloc (.cells #[.bool false, .slice none 0 0, .bool false, .slice none 0 0] 79)).alloc (.cells #[.bool false, .slice none 0 0, .bool false, .slice none 0 0] 79) = W8 at *
  clear hW8
  refine ⟨trivial, (pbk_in Fence.wide _ trivial rfl _ _ _ _).mono ?_⟩
  rintro e w' ⟨rfl, rfl⟩
  have hbS := (Below.refl _ _).alloc (Nat.le_refl W8.heap.size) (.cells #[.slice a n c] 61)
  have cS : (W8.alloc (.cells #[.slice a n c] 61)).cell? ⟨w.heap.size + 1 + 1 + 1, 0, none⟩ = some (.slice a n c) := by rw [← hS8]; simp
  replace X3 := nx X3 hbS
  replace X4 := nx X4 hbS
  replace X5 := nx X5 hbS
  replace HX := nf HX hbS
  replace HW := hid (fun q_ hq_ => (HW.out q_ hq_).on hbS)
  replace B := bb B hbS
  have hS9 : (W8.alloc (.cells #[.slice a n c] 61)).heap.size = w.heap.size + 1 + 1 + 1 + 1 := by simp [hS8]
  rw [hS8]
  clear hbS
  generalize hW9 : W8.alloc (.cells #[.slice a n c] 61) = W0 at *
  clear hW9
  gi_wp2
  have hsz := B.out.size
  have hI0 : EI w lp n rs q s1a p1a n1a c1a s1b p1b n1b c1b [] W0 := ⟨⟨_, _, _, _, _, _, _, _, X5.out, (NF.zero W0)⟩, HW.out, X3.out, HX.out, X4.out, B.out, by omega⟩
  have hget : ∀ W', KB w.heap.size (w.heap.size + 1 + 1 + 1) W0 W' → ∀ i, i < n → ∃ x : {i : Nat // i < n}, x.1 = i ∧ ∃ b, a = some ⟨b, 0, none⟩ ∧ At4 W' b (i * 4) (rs x.1) := fun W' h i hi => by
    obtain ⟨b, e, hb, hA, _⟩ := HA.out i hi
    exact ⟨⟨i, hi⟩, rfl, b, e, (hA.kept (B.out.block b hb)).kept (h.1.block b hb)⟩
  clear HX X3 X4 X5 HW
  refine wpIn_rangeFunc_ownH (F := Fence.wide) rfl (by decide) (gf := 84) (lb := #[.pointer (some ⟨w.heap.size + 1 + 1 + 1, 0, none⟩)]) rfl trivial (enters_of Tryz.func84 (by kernel_rfl) rfl)
    (pbk_stops Fence.wide (10 - 1) trivial rfl (by decide) (fun x : {i : Nat // i < n} => x.1) (fun x => rs x.1) (w.heap.size + 1 + 1 + 1) n c a (by omega) (KB w.heap.size (w.heap.size + 1 + 1 + 1)) (KB.refl _ _) (fun h h' => h.trans h') W0 (fun W hW => ⟨hW.mono hsz, hW.block _ (by omega)⟩) (fun W' h => (h.cell 0).trans cS) hget)
    (fun h h' => h.trans h') (fun W l o o' h1 h2 h3 h4 => ⟨belowK_b hsz W l o o' h1 h2 h3 h4, World.putObj_heap_other (fun e => by omega)⟩) (Below.refl _ _) (fun _ => rfl)
    (EI w lp n rs q s1a p1a n1a c1a s1b p1b n1b c1b) (fun _ _ _ => False) (EI.own hsz) (fun _ _ _ _ _ hs _ _ => hs) hI0
    (fun x a' W => ∃ Bx, w.heap.size + 1 + 1 + 1 < Bx ∧ Nbx W Bx (rs x.1).1.1 (.slice (rs x.1).1.2.1 (rs x.1).1.2.2.1 (rs x.1).1.2.2.2) (rs x.1).2.1 (.slice (rs x.1).2.2.1 (rs x.1).2.2.2.1 (rs x.1).2.2.2.2) ∧ a' = { tmps := #[Value.slice a n c, (.agg #[.bool s1a, .slice p1a n1a c1a, .bool s1b, .slice p1b n1b c1b]), undef, Value.pointer (some ⟨w.heap.size, 0, none⟩), Value.pointer (some ⟨w.heap.size + 1, 0, none⟩), Value.pointer (some ⟨w.heap.size + 1 + 1, 0, none⟩), undef, Value.pointer (some ⟨Bx, 0, none⟩), Value.slice a n c, Value.func (Fn.func 84) #[] #[Value.pointer (some ⟨w.heap.size + 1 + 1 + 1, 0, none⟩)], Value.int IntKind.i64 (x.1 : Int), (.agg #[.bool (rs x.1).1.1, .slice (rs x.1).1.2.1 (rs x.1).1.2.2.1 (rs x.1).1.2.2.2, .bool (rs x.1).2.1, .slice (rs x.1).2.2.1 (rs x.1).2.2.2.1 (rs x.1).2.2.2.2]), undef, undef, undef, undef, undef, undef], defers := [] })
    (fun x a' _ X Y row hs hg hr => by obtain ⟨Bx, h1, h2, h3⟩ := hs; exact ⟨Bx, h1, h2.turned hg (fun r e => (hr r e).2), h3⟩)
    ?assign ?body ?done ?stop
  case assign =>
    intro l pre x W K hi hK
    have hs1 : w.heap.size + 1 + 1 + 1 < W.heap.size := hi.2.2.2.2.2.2
    have hX := Nbx.new W (rs x.1).1.1 (rs x.1).2.1 (.slice (rs x.1).1.2.1 (rs x.1).1.2.2.1 (rs x.1).1.2.2.2) (.slice (rs x.1).2.2.1 (rs x.1).2.2.2.1 (rs x.1).2.2.2.2)
    simp only [nag] at hK ⊢
    gi_wp2
    exact hK _ _ ((KeepsOthers.alloc _ _).from _) ⟨(Below.refl _ W).alloc (by omega) _, Below.heap_alloc _ _ _ (by omega)⟩ (hi.alloc _) ⟨W.heap.size, by omega, hX, rfl⟩
  case body =>
    rintro l pre x a' W hl_ _ hi ⟨Bx, hBx, hX, rfl⟩ hlt
    obtain ⟨⟨s5a, p5a, n5a, c5a, s5b, p5b, n5b, c5b, hT, hV⟩, hZ, hx3, hxq, hx4, hBw, hs1⟩ := hi
    have hC := hZ x.1 x.2
    obtain ⟨s7a, p7a, n7a, c7a, s7b, p7b, n7b, c7b, hz7⟩ : ∃ s7a p7a n7a c7a s7b p7b n7b c7b, rs x.1 = ((s7a, p7a, n7a, c7a), (s7b, p7b, n7b, c7b)) := ⟨_, _, _, _, _, _, _, _, rfl⟩
    rw [hz7] at hX hC ⊢
    simp only [nag] at hX hC
    simp only [] at hX ⊢
    have X5 := hid hT
    have HV := hid hV
    have HW := hid hZ
    have X3 := hid hx3
    have HX := hid hxq
    have X4 := hid hx4
    have B := hid hBw
    have HS1 := hid hs1
    have XX := hid hX
    have HC := hid hC
    have LX := hid hBx
    have HKB := hid (show KB w.heap.size (w.heap.size + 1 + 1 + 1) W W.drew from ⟨Below.drew (Below.refl _ _), rfl⟩)
    have HKO := hid (KeepsOthers.drew W)
    have SV : Hid (Sm (evf lp q (pre.map (·.1))) (pre.length * (m + nq + 1) + 1)) := hid (by have := Sm.evf SL.out SX.out (pre.map (·.1)) 0 0 (Sm.zero (by omega)); rw [List.length_map, Nat.zero_add] at this; exact this)
    have HB1 : Hid (pre.length * (m + nq + 1) + 1 + m + nq + 1 ≤ 68719476736) := hid (by have := Nat.mul_le_mul_right (m + nq + 1) (Nat.le_of_lt hlt); have := HM.out; omega)
    have HE := hid (evf_snoc lp q (pre.map (·.1)) x.1)
    have hmx : Tryz.prog.follows .mixedOrders = true := by kernel_rfl
    clear hT hV hZ hx3 hxq hx4 hBw hs1 hX hC hBx hz7 hI0 cS hget hlt
    generalize evf lp q (pre.map (·.1)) = vv at *
    replace X5 := hid X5.out.dr
    replace X3 := hid X3.out.dr
    replace X4 := hid X4.out.dr
    replace XX := hid XX.out.dr
    replace HV := hid HV.out.drew
    replace HX := hid HX.out.drew
    replace HC := hid HC.out.drew
    replace HW := hid (fun q_ hq_ => (HW.out q_ hq_).drew)
    replace B := hid (Below.drew B.out)
    replace HS1 := hid (show w.heap.size + 1 + 1 + 1 < W.drew.heap.size from HS1.out)
    have cc501 := X5.out.cells
    have cc502 := X3.out.cells
    have cc503 := XX.out.cells
    gi_wp2
    gi_region_with_o (first
      | (have hm := mk_0; clear hm; refine ⟨trivial, ?_⟩; gi_at_call 68; refine (CallsIn.inRound l (callsIn_wide.2 (nadd_f HP.out HC.out (SV.out.mul SX.out) (SL.out.2 x.1) (by have := HB1.out; omega) (by have := HB1.out; omega)))).mono ?_; rintro e w508 ⟨v, rfl, hv, hb⟩; obtain ⟨s9a, p9a, n9a, c9a, s9b, p9b, n9b, c9b, rfl⟩ := hv.opened; replace X5 := nx X5 hb; replace X3 := nx X3 hb; replace X4 := nx X4 hb; replace XX := nx XX hb; replace HV := nf HV hb; replace HX := nf HX hb; replace HC := nf HC hb; replace HP := nf HP hb; replace HW := hid (fun q_ hq_ => (HW.out q_ hq_).on hb); replace B := bb B hb; replace HKB := hid (HKB.out.on hb (by have := HS1.out; omega) HS1.out); replace HKO := hid (HKO.out.trans (KeepsOthers.of_below hb)); replace HS1 := hid (Nat.lt_of_lt_of_le HS1.out (hb).size); clear cc505 cc506 cc507; have HS := hid hv; clear hb hv; have cc509 := X5.out.cells; have cc510 := X3.out.cells; have cc511 := XX.out.cells; replace HKB := hid ((((HKB.out.set (g := w.heap.size + 1 + 1) (by have := HS1.out; omega) (by omega) 0 (.bool s9a)).set (g := w.heap.size + 1 + 1) (by have := HS1.out; omega) (by omega) 1 (.slice p9a n9a c9a)).set (g := w.heap.size + 1 + 1) (by have := HS1.out; omega) (by omega) 2 (.bool s9b)).set (g := w.heap.size + 1 + 1) (by have := HS1.out; omega) (by omega) 3 (.slice p9b n9b c9b)); replace HKO := hid ((((HKO.out.trans (KeepsOthers.setCell _ ⟨w.heap.size + 1 + 1, 0, none⟩ (.bool s9a))).trans (KeepsOthers.setCell _ ⟨w.heap.size + 1 + 1, 1, none⟩ (.slice p9a n9a c9a))).trans (KeepsOthers.setCell _ ⟨w.heap.size + 1 + 1, 2, none⟩ (.bool s9b))).trans (KeepsOthers.setCell _ ⟨w.heap.size + 1 + 1, 3, none⟩ (.slice p9b n9b c9b))); have cc512 := X5.out.stores; obtain ⟨r513a, r513b, r513c⟩ := X5.out.last B.out (by have := LX.out; omega) s9a s9b p9a p9b n9a n9b c9a c9b; replace X3 := hid (X3.out.kept (heap4 (g := w.heap.size + 1 + 1) (by have := LX.out; omega) (.bool s9a) (.slice p9a n9a c9a) (.bool s9b) (.slice p9b n9b c9b))); replace X4 := hid (X4.out.kept (heap4 (g := w.heap.size + 1 + 1) (by have := LX.out; omega) (.bool s9a) (.slice p9a n9a c9a) (.bool s9b) (.slice p9b n9b c9b))); replace XX := hid (XX.out.kept (heap4 (g := w.heap.size + 1 + 1) (by have := LX.out; omega) (.bool s9a) (.slice p9a n9a c9a) (.bool s9b) (.slice p9b n9b c9b))); replace HV := hid (HV.out.moved fun _ _ _ hv => r513c hv); replace HX := hid (HX.out.moved fun _ _ _ hv => r513c hv); replace HC := hid (HC.out.moved fun _ _ _ hv => r513c hv); replace HP := hid (HP.out.moved fun _ _ _ hv => r513c hv); replace HS := hid (HS.out.moved fun _ _ _ hv => r513c hv); replace HW := hid (fun q_ hq_ => (HW.out q_ hq_).moved fun _ _ _ hv => r513c hv); replace X5 := hid r513a; replace B := hid r513b; clear r513a r513b r513c; replace HS1 := hid (show w.heap.size + 1 + 1 + 1 < ((((w508.setCell ⟨w.heap.size + 1 + 1, 0, none⟩ (.bool s9a)).setCell ⟨w.heap.size + 1 + 1, 1, none⟩ (.slice p9a n9a c9a)).setCell ⟨w.heap.size + 1 + 1, 2, none⟩ (.bool s9b)).setCell ⟨w.heap.size + 1 + 1, 3, none⟩ (.slice p9b n9b c9b)).heap.size by simpa [World.setCell] using HS1.out))
      | (refine ⟨trivial, ?_⟩; gi_at_call 67; refine (CallsIn.inRound l (callsIn_wide.2 (nmul_f HV.out HX.out SV.out SX.out (by have := HB1.out; omega) (by have := HB1.out; omega)))).mono ?_; rintro e w504 ⟨v, rfl, hv, hb⟩; obtain ⟨s8a, p8a, n8a, c8a, s8b, p8b, n8b, c8b, rfl⟩ := hv.opened; replace X5 := nx X5 hb; replace X3 := nx X3 hb; replace X4 := nx X4 hb; replace XX := nx XX hb; replace HV := nf HV hb; replace HX := nf HX hb; replace HC := nf HC hb; replace HW := hid (fun q_ hq_ => (HW.out q_ hq_).on hb); replace B := bb B hb; replace HKB := hid (HKB.out.on hb (by have := HS1.out; omega) HS1.out); replace HKO := hid (HKO.out.trans (KeepsOthers.of_below hb)); replace HS1 := hid (Nat.lt_of_lt_of_le HS1.out (hb).size); clear cc501 cc502 cc503; have HP := hid hv; clear hb hv; have cc505 := X5.out.cells; have cc506 := X3.out.cells; have cc507 := XX.out.cells; have mk_0 := hid True.intro))
    all_goals gi_wp2
    all_goals exact ⟨HKO.out.from _, HKB.out, ⟨⟨_, _, _, _, _, _, _, _, X5.out, HS.out.cast (by rw [List.map_append]; exact HE.out.symm)⟩, HW.out, X3.out, HX.out, X4.out, B.out, HS1.out⟩⟩
  case done =>
    rintro D ys W hD hys ⟨⟨s5a, p5a, n5a, c5a, s5b, p5b, n5b, c5b, hT, hV⟩, hZ, hx3, hxq, hx4, hBw, hs1⟩ hK
    have X5 := hid hT
    have HV := hid (hV.cast (show evf lp q (ys.map (·.1)) = pv lp q by rw [hys]; exact evf_all HN.out q))
    have X4 := hid hx4
    have B := hid hBw
    have HKD := hid hK
    have LD := hid (show w.heap.size + 1 + 1 + 1 < D by omega)
    clear hT hV hZ hx3 hxq hx4 hBw hs1 hK hI0 cS hget
    have cc701 := X5.out.cells
    have cc702 := X4.out.cells
    have cc703 := X4.out.stores
    obtain ⟨r704a, r704b, r704c⟩ := X4.out.last B.out (by omega) s5a s5b p5a p5b n5a n5b c5a c5b
    replace X5 := hid (X5.out.kept (heap4 (g := w.heap.size + 1) (by omega) (.bool s5a) (.slice p5a n5a c5a) (.bool s5b) (.slice p5b n5b c5b)))
    replace HV := hid (HV.out.moved fun _ _ _ hv => r704c hv)
    replace X4 := hid r704a
    replace B := hid r704b
    clear r704a r704b r704c
    have hKD : ((((W.setCell ⟨w.heap.size + 1, 0, none⟩ (.bool s5a)).setCell ⟨w.heap.size + 1, 1, none⟩ (.slice p5a n5a c5a)).setCell ⟨w.heap.size + 1, 2, none⟩ (.bool s5b)).setCell ⟨w.heap.size + 1, 3, none⟩ (.slice p5b n5b c5b)).heap[D]? = some (.deferred (some [])) := by
      rw [Below.heap_setCell _ _ _ _ (by have := LD.out; simp; omega), Below.heap_setCell _ _ _ _ (by have := LD.out; simp; omega), Below.heap_setCell _ _ _ _ (by have := LD.out; simp; omega), Below.heap_setCell _ _ _ _ (by have := LD.out; simp; omega)]; exact HKD.out
    gi_wp2
    have hgp := grownBy_putObj' ((((W.setCell ⟨w.heap.size + 1, 0, none⟩ (.bool s5a)).setCell ⟨w.heap.size + 1, 1, none⟩ (.slice p5a n5a c5a)).setCell ⟨w.heap.size + 1, 2, none⟩ (.bool s5b)).setCell ⟨w.heap.size + 1, 3, none⟩ (.slice p5b n5b c5b)) D (.deferred none)
    have hgr : ∀ r, some D = some r → ∃ o : Obj, ((((W.setCell ⟨w.heap.size + 1, 0, none⟩ (.bool s5a)).setCell ⟨w.heap.size + 1, 1, none⟩ (.slice p5a n5a c5a)).setCell ⟨w.heap.size + 1, 2, none⟩ (.bool s5b)).setCell ⟨w.heap.size + 1, 3, none⟩ (.slice p5b n5b c5b)).heap[r]? = some o ∧ o.isCells = false := fun r e => by cases e; exact ⟨_, hKD, rfl⟩
    refine ⟨by simp, .inl ⟨_, _, rfl, run_takeDeferred hKD, ?_⟩⟩
    refine ⟨_, res_num rfl rfl (X4.out.turned hgp hgr), ?_⟩
    exact ⟨_, rfl, HV.out.turned hgp hgr, B.out.grown hgp B.out.size (fun g e => by cases e; have := LD.out; omega)⟩
  case stop =>
    rintro D c pre W _ _ h _
    exact h.elim

end Go.Proofs.YtmabolifokhlnaaGreatDoor

/-
  PACKAGE poly: what its functions tell.
-/
namespace Go.Proofs.YtmabolifokhlnaaGreatDoor
open Go.RowKit
open Num
set_option linter.unusedVariables false
set_option maxRecDepth 100000
set_option linter.unusedSimpArgs false

/-- What a function of two lists tells: a list, or nothing and an error. -/
def PTells (f : List Rat → List Rat → List Rat) (p q ss : List ByteArray) (k : Int) : Prop := (k = 0 ∧ GoodP p ∧ GoodP q ∧ ss = (f (rdp p) (rdp q)).map qtxt) ∨ (k ≠ 0 ∧ WrongP p q k ∧ ss = [])
def PEvals (p : List ByteArray) (x s : ByteArray) (k : Int) : Prop := (k = 0 ∧ GoodP p ∧ GoodQ x ∧ s = qtxt (pv (rdp p) (qnum x))) ∨ (k ≠ 0 ∧ WrongX p x k ∧ s = ⟨#[]⟩)
def PShifts (p : List ByteArray) (x : ByteArray) (ss : List ByteArray) (k : Int) : Prop := (k = 0 ∧ GoodP p ∧ GoodQ x ∧ ss = (moved (rdp p) (qnum x)).map qtxt) ∨ (k ≠ 0 ∧ WrongX p x k ∧ ss = [])
def PDerivs (p ss : List ByteArray) (k : Int) : Prop := (k = 0 ∧ GoodP p ∧ ss = (slope (rdp p)).map qtxt) ∨ (k ≠ 0 ∧ BadP p k ∧ ss = [])
def PDivs (p q ks rs : List ByteArray) (k : Int) : Prop :=
  (k = 0 ∧ GoodP p ∧ GoodP q ∧ rdp q ≠ [] ∧ ∃ y r, Trm y ∧ Trm r ∧ r.length < (rdp q).length ∧ y.length ≤ (rdp p).length ∧ (∀ x, pv (rdp p) x = pv y x * pv (rdp q) x + pv r x) ∧ ks = y.map qtxt ∧ rs = r.map qtxt) ∨
  (k = 5 ∧ GoodP p ∧ GoodP q ∧ rdp q = [] ∧ ks = [] ∧ rs = []) ∨ (k ≠ 0 ∧ WrongP p q k ∧ ks = [] ∧ rs = [])
/-- A list of texts of the call's own, none too long. -/
def OwnS (w : World) (K : Nat) (v : Value) (ss : List ByteArray) : Prop := OwnT w K v ss ∧ Szs ss
theorem OwnS.nil (w : World) (K : Nat) : OwnS w K (.slice none 0 0) [] := ⟨OwnT.nil w K, Szs.nil⟩
/-- Texts of a trimmed list. -/
theorem texts_s {w : World} {v : Value} {l : List Rat} {m : Nat} (h : PN w v l) (ht : Trm l) (hs : Sml l m) (hm : m ≤ 4294967296) (hl : l.length ≤ 1000000) :
    Calls Tryz.prog 43 #[v] w fun e w' => ∃ u, e = .returned u ∧ OwnS w' w.heap.size u (l.map qtxt) ∧ Below w.heap.size w w' := by
  refine (texts_p h hs hm hl).mono ?_
  rintro e w' ⟨u, rfl, ho, hb⟩
  have e : trimQ l = l := ht
  rw [e] at ho
  exact ⟨u, rfl, ⟨ho, Szs.map hs (by omega)⟩, hb⟩
theorem mulp_len (l r : List Rat) : (mulp l r).length ≤ l.length + r.length := Nat.le_trans (trim_len _) (by simp [lof])
theorem addp_len (l r : List Rat) : (addp l r).length ≤ max l.length r.length := Nat.le_trans (trim_len _) (by simp [lof])
theorem slope_len (l : List Rat) : (slope l).length ≤ l.length := Nat.le_trans (trim_len _) (by simp [lof])
theorem sml_slope {l : List Rat} {m : Nat} (h : Sml l m) (hl : l.length ≤ 1000) : Sml (slope l) (m + 1) := ⟨by omega, fun i => by
  rw [co_slope, co_pder]
  by_cases hi : i + 1 < l.length
  · have e : ((i : Rat) + 1) = (((i : Int) + 1 : Int) : Rat) := by push_cast; rfl
    rw [e]
    exact (h.2 (i + 1)).mul (Sm.int (by have : Num4.B ^ 1 = 10000 := rfl; omega) (by decide))
  · rw [co_ge (by omega), show (0 : Rat) * ((i : Rat) + 1) = 0 by grind]; exact Sm.zero (by omega)⟩
theorem sml_moved {l : List Rat} {a : Rat} {m n : Nat} (h : Sml l m) (ha : Sm a n) : Sml (moved l a) ((m + n + 4) * 2 ^ l.length) := by
  have h1 := Sml.mvf h ha (dwn l.length l.length) [] 0 (Sml.nil (by omega))
  have e : mvf l a (dwn l.length l.length) = moved l a := mvf_all rfl a
  unfold mvf at e
  rw [e, dwn_len, Nat.zero_add] at h1
  exact h1.mono (by omega)
theorem sm_pv {l : List Rat} {a : Rat} {m n : Nat} (h : Sml l m) (ha : Sm a n) : Sm (pv l a) (l.length * (m + n + 1) + 1) := by
  have h1 := Sm.evf h ha (dwn l.length l.length) 0 0 (Sm.zero (by omega))
  have e : evf l a (dwn l.length l.length) = pv l a := evf_all rfl a
  unfold evf at e
  rw [e, dwn_len, Nat.zero_add] at h1
  exact h1

end Go.Proofs.YtmabolifokhlnaaGreatDoor

/-
  What is told is told again.
-/
namespace Go.Proofs.YtmabolifokhlnaaGreatDoor
open Go.RowKit
open Num
set_option linter.unusedVariables false
set_option maxRecDepth 100000
set_option linter.unusedSimpArgs false

/-! ### What is told is told again -/
theorem BadQ.det {s : ByteArray} {k l : Int} (h : BadQ s k) (h' : BadQ s l) : k = l := by
  rcases h with ⟨h, rfl⟩ | ⟨h, _, rfl⟩ <;> rcases h' with ⟨h', rfl⟩ | ⟨h', _, rfl⟩
  · rfl
  · omega
  · omega
  · rfl
theorem BadP.det {p : List ByteArray} {k l : Int} (h : BadP p k) (h' : BadP p l) : k = l := by
  rcases h with ⟨h, rfl⟩ | ⟨h, i, hi, hg, hb⟩ | ⟨h, hg, ht, rfl⟩ <;> rcases h' with ⟨h', rfl⟩ | ⟨h', j, hj, hg', hb'⟩ | ⟨h', hg', ht', rfl⟩
  · rfl
  · omega
  · omega
  · omega
  · have e : i = j := by
      rcases Nat.lt_trichotomy i j with h1 | h1 | h1
      · exact absurd (hg' i h1) hb.not
      · exact h1
      · exact absurd (hg j h1) hb'.not
    subst e
    exact hb.det hb'
  · exact absurd (hg' i hi) hb.not
  · omega
  · exact absurd (hg j hj) hb'.not
  · rfl
theorem WrongP.det {p q : List ByteArray} {k l : Int} (h : WrongP p q k) (h' : WrongP p q l) : k = l := by
  rcases h with h | ⟨hg, h⟩ <;> rcases h' with h' | ⟨hg', h'⟩
  · exact h.det h'
  · exact absurd hg' h.not
  · exact absurd hg h'.not
  · exact h.det h'
theorem WrongX.det {p : List ByteArray} {x : ByteArray} {k l : Int} (h : WrongX p x k) (h' : WrongX p x l) : k = l := by
  rcases h with h | ⟨hg, h⟩ <;> rcases h' with h' | ⟨hg', h'⟩
  · exact h.det h'
  · exact absurd hg' h.not
  · exact absurd hg h'.not
  · exact h.det h'
theorem PTells.det {f : List Rat → List Rat → List Rat} {p q ss tt : List ByteArray} {k l : Int} (h : PTells f p q ss k) (h' : PTells f p q tt l) : k = l ∧ ss = tt := by
  rcases h with ⟨rfl, h1, h2, rfl⟩ | ⟨_, h1, rfl⟩ <;> rcases h' with ⟨rfl, h1', h2', rfl⟩ | ⟨_, h1', rfl⟩
  · exact ⟨rfl, rfl⟩
  · exact absurd ⟨h1, h2⟩ h1'.not
  · exact absurd ⟨h1', h2'⟩ h1.not
  · exact ⟨h1.det h1', rfl⟩
theorem PShifts.det {p : List ByteArray} {x : ByteArray} {ss tt : List ByteArray} {k l : Int} (h : PShifts p x ss k) (h' : PShifts p x tt l) : k = l ∧ ss = tt := by
  rcases h with ⟨rfl, h1, h2, rfl⟩ | ⟨_, h1, rfl⟩ <;> rcases h' with ⟨rfl, h1', h2', rfl⟩ | ⟨_, h1', rfl⟩
  · exact ⟨rfl, rfl⟩
  · exact absurd ⟨h1, h2⟩ h1'.not
  · exact absurd ⟨h1', h2'⟩ h1.not
  · exact ⟨h1.det h1', rfl⟩
theorem PDerivs.det {p ss tt : List ByteArray} {k l : Int} (h : PDerivs p ss k) (h' : PDerivs p tt l) : k = l ∧ ss = tt := by
  rcases h with ⟨rfl, h1, rfl⟩ | ⟨_, h1, rfl⟩ <;> rcases h' with ⟨rfl, h1', rfl⟩ | ⟨_, h1', rfl⟩
  · exact ⟨rfl, rfl⟩
  · exact absurd h1 h1'.not
  · exact absurd h1' h1.not
  · exact ⟨h1.det h1', rfl⟩
theorem PDivs.det {p q ks rs ks' rs' : List ByteArray} {k l : Int} (h : PDivs p q ks rs k) (h' : PDivs p q ks' rs' l) : k = l ∧ ks = ks' ∧ rs = rs' := by
  rcases h with ⟨rfl, h1, h2, h3, y, r, ty, tr, hl, _, hx, rfl, rfl⟩ | ⟨rfl, h1, h2, h3, rfl, rfl⟩ | ⟨_, h1, rfl, rfl⟩ <;> rcases h' with ⟨rfl, h1', h2', h3', y', r', ty', tr', hl', _, hx', rfl, rfl⟩ | ⟨rfl, h1', h2', h3', rfl, rfl⟩ | ⟨_, h1', rfl, rfl⟩
  · obtain ⟨rfl, rfl⟩ := div_unique h2.2.2 h3 ty tr ty' tr' hl hl' (fun x => (hx x).symm.trans (hx' x))
    exact ⟨rfl, rfl, rfl⟩
  · exact absurd h3' h3
  · exact absurd ⟨h1, h2⟩ h1'.not
  · exact absurd h3 h3'
  · exact ⟨rfl, rfl, rfl⟩
  · exact absurd ⟨h1, h2⟩ h1'.not
  · exact absurd ⟨h1', h2'⟩ h1.not
  · exact absurd ⟨h1', h2'⟩ h1.not
  · exact ⟨h1.det h1', rfl, rfl⟩

end Go.Proofs.YtmabolifokhlnaaGreatDoor

/-
  LAWS of package poly: what they have in common.
-/
namespace Go.Proofs.YtmabolifokhlnaaGreatDoor
open Go.RowKit
open Num
set_option linter.unusedVariables false
set_option maxRecDepth 100000
set_option linter.unusedSimpArgs false
theorem qtxt_rdp {ss : List ByteArray} (h : ∀ i, i < ss.length → GoodQ (tx ss i)) : (rdp ss).map qtxt = ss := by
  apply List.ext_getElem
  · rw [List.length_map, rdp_len]
  · intro i h1 h2
    have h3 := qtxt_good (h i h2)
    rw [tx_lt h2] at h3
    simp only [List.getElem_map, rdp]
    exact h3
def one11 : List ByteArray := [⟨#[49]⟩, ⟨#[49]⟩]
def one121 : List ByteArray := [⟨#[49]⟩, ⟨#[50]⟩, ⟨#[49]⟩]
theorem good_11 : GoodP one11 := by
  refine ⟨by decide, fun i hi => ?_, trm_of_last (.inr (by decide +kernel))⟩
  rcases (show i = 0 ∨ i = 1 by simp [one11] at hi; omega) with rfl | rfl <;> exact ⟨by decide, by decide⟩
theorem all_121 : ∀ i, i < one121.length → GoodQ (tx one121 i) := fun i hi => by
  rcases (show i = 0 ∨ i = 1 ∨ i = 2 by simp [one121] at hi; omega) with rfl | rfl | rfl <;> exact ⟨by decide, by decide⟩
theorem sq_11 : mulp (rdp one11) (rdp one11) = rdp one121 := by decide +kernel
theorem szs_11 : Szs one11 := fun i hi => by
  rcases (show i = 0 ∨ i = 1 by simp [one11] at hi; omega) with rfl | rfl <;> decide
theorem PTells.yes {f : List Rat → List Rat → List Rat} {p q ss : List ByteArray} {k : Int} (h : PTells f p q ss k) (hp : GoodP p) (hq : GoodP q) : k = 0 ∧ ss = (f (rdp p) (rdp q)).map qtxt := by
  rcases h with ⟨h1, _, _, h2⟩ | ⟨_, h, _⟩
  · exact ⟨h1, h2⟩
  · exact absurd ⟨hp, hq⟩ h.not
theorem PTells.ok {f : List Rat → List Rat → List Rat} {p q ss : List ByteArray} {k : Int} (h : PTells f p q ss k) (hk : k = 0) : GoodP p ∧ GoodP q ∧ ss = (f (rdp p) (rdp q)).map qtxt := by
  rcases h with ⟨_, h⟩ | ⟨h, _⟩
  · exact h
  · exact absurd hk h
theorem PTells.no {f : List Rat → List Rat → List Rat} {p q ss : List ByteArray} {k : Int} (h : PTells f p q ss k) (hk : k ≠ 0) : WrongP p q k ∧ ss = [] := by
  rcases h with ⟨h, _⟩ | ⟨_, h⟩
  · exact absurd h hk
  · exact h
theorem PEvals.ok {p : List ByteArray} {x s : ByteArray} {k : Int} (h : PEvals p x s k) (hk : k = 0) : GoodP p ∧ GoodQ x ∧ s = qtxt (pv (rdp p) (qnum x)) := by
  rcases h with ⟨_, h⟩ | ⟨h, _⟩
  · exact h
  · exact absurd hk h
theorem PEvals.yes {p : List ByteArray} {x s : ByteArray} {k : Int} (h : PEvals p x s k) (hp : GoodP p) (hx : GoodQ x) : k = 0 ∧ s = qtxt (pv (rdp p) (qnum x)) := by
  rcases h with ⟨h1, _, _, h2⟩ | ⟨_, h, _⟩
  · exact ⟨h1, h2⟩
  · exact absurd ⟨hp, hx⟩ h.not
theorem PShifts.ok {p : List ByteArray} {x : ByteArray} {ss : List ByteArray} {k : Int} (h : PShifts p x ss k) (hk : k = 0) : GoodP p ∧ GoodQ x ∧ ss = (moved (rdp p) (qnum x)).map qtxt := by
  rcases h with ⟨_, h⟩ | ⟨h, _⟩
  · exact h
  · exact absurd hk h
theorem PShifts.no {p : List ByteArray} {x : ByteArray} {ss : List ByteArray} {k : Int} (h : PShifts p x ss k) (hk : k ≠ 0) : WrongX p x k ∧ ss = [] := by
  rcases h with ⟨h, _⟩ | ⟨_, h⟩
  · exact absurd h hk
  · exact h
theorem PDerivs.ok {p ss : List ByteArray} {k : Int} (h : PDerivs p ss k) (hk : k = 0) : GoodP p ∧ ss = (slope (rdp p)).map qtxt := by
  rcases h with ⟨_, h⟩ | ⟨h, _⟩
  · exact h
  · exact absurd hk h
theorem PDerivs.yes {p ss : List ByteArray} {k : Int} (h : PDerivs p ss k) (hp : GoodP p) : k = 0 ∧ ss = (slope (rdp p)).map qtxt := by
  rcases h with ⟨h1, _, h2⟩ | ⟨_, h, _⟩
  · exact ⟨h1, h2⟩
  · exact absurd hp h.not
theorem PDivs.ok {p q ks rs : List ByteArray} {k : Int} (h : PDivs p q ks rs k) (hk : k = 0) : GoodP p ∧ GoodP q ∧ rdp q ≠ [] ∧ ∃ y r, Trm y ∧ Trm r ∧ r.length < (rdp q).length ∧ (∀ x, pv (rdp p) x = pv y x * pv (rdp q) x + pv r x) ∧ ks = y.map qtxt ∧ rs = r.map qtxt := by
  rcases h with ⟨_, h1, h2, h3, y, r, h4, h5, h6, _, h7, h8, h9⟩ | ⟨h, _⟩ | ⟨h, _⟩
  · exact ⟨h1, h2, h3, y, r, h4, h5, h6, h7, h8, h9⟩
  · rw [h] at hk; exact absurd hk (by decide)
  · exact absurd hk h
theorem PDivs.no {p q ks rs : List ByteArray} {k : Int} (h : PDivs p q ks rs k) (hk : k ≠ 0) : ks = [] ∧ rs = [] := by
  rcases h with ⟨h, _⟩ | ⟨_, _, _, _, h⟩ | ⟨_, _, h⟩
  · exact absurd h hk
  · exact h
  · exact h
theorem ba_eq_self (s : ByteArray) : (s.toList == s.toList) = true := by simp
theorem one_text {w : World} {K : Nat} (hK : K ≤ w.heap.size) (ss : List ByteArray) (hs : ss.length ≤ 1000) : OwnT (w.alloc (.cells (ss.map Value.string).toArray 9)) K (.slice (some ⟨w.heap.size, 0, none⟩) ss.length ss.length) ss := OwnT.new w K hK ss (by unfold maxLen; omega)
end Go.Proofs.YtmabolifokhlnaaGreatDoor

/-
  PACKAGE poly: Polynomial.Shift.
-/
namespace Go.Proofs.YtmabolifokhlnaaGreatDoor
open Go.RowKit Go.Shelf
open Num
set_option linter.unusedVariables false
set_option maxRecDepth 100000
set_option linter.unusedSimpArgs false
attribute [local go_sem] Oper.semAt_some

/-- What holds between two rounds. -/
def SI (w : World) (lp : List Rat) (n : Nat) (rs : Nat → Nr) (q : Rat) (g5 G bf : Nat) (pre : List {i : Nat // i < n}) (W : World) : Prop :=
  (∃ p6 n6 c6, Sbx W G p6 n6 c6 ∧ PN W (.slice p6 n6 c6) (mvf lp q (pre.map (·.1)))) ∧ (∀ i, i < n → NF W (nag (rs i)) (co lp i)) ∧ Sbx W g5 (some ⟨bf, 0, none⟩) 2 2 ∧ PN W (.slice (some ⟨bf, 0, none⟩) 2 2) [q, 1] ∧ Below w.heap.size w W ∧ G + 1 < W.heap.size
section
variable {w : World} {lp : List Rat} {n : Nat} {rs : Nat → Nr} {q : Rat} {g5 G bf : Nat}
theorem SI.own {K : Nat} (hK : w.heap.size ≤ K) : OwnFrom K (SI w lp n rs q g5 G bf) := by
  rintro s W W' row ⟨⟨p6, n6, c6, h1, h2⟩, h3, h4, h5, h7, h8⟩ hg hr
  have hr' := fun r e => (hr r e).2
  exact ⟨⟨p6, n6, c6, h1.turned hg hr', h2.turned hg hr'⟩, fun i hi => (h3 i hi).turned hg hr', h4.turned hg hr', h5.turned hg hr', h7.grown hg h7.size (fun g e => Nat.le_trans hK (hr g e).1), Nat.lt_of_lt_of_le h8 hg.size⟩
theorem SI.alloc {pre : List {i : Nat // i < n}} {W : World} (h : SI w lp n rs q g5 G bf pre W) (o : Obj) : SI w lp n rs q g5 G bf pre (W.alloc o) := by
  have hb := (Below.refl W.heap.size W).alloc (Nat.le_refl _) o
  obtain ⟨⟨p6, n6, c6, h1, h2⟩, h3, h4, h5, h7, h8⟩ := h
  exact ⟨⟨p6, n6, c6, h1.below hb h1.lt, h2.on hb⟩, fun i hi => (h3 i hi).on hb, h4.below hb h4.lt, h5.on hb, h7.trans (hb.mono h7.size), Nat.lt_of_lt_of_le h8 hb.size⟩
end

set_option maxHeartbeats 8000000 in
theorem pshift_p {w : World} {v xv : Value} {lp : List Rat} {q : Rat} {m nq : Nat} (h : PN w v lp) (hx : NF w xv q) (hs : Sml lp m) (hsx : Sm q nq) (hm : shb lp.length m nq) (hl : lp.length ≤ 1000) :
    Calls Tryz.prog 44 #[v, xv] w fun e w' => ∃ v', e = .returned v' ∧ PN w' v' (moved lp q) ∧ Below w.heap.size w w' := by
  refine (callsIn_wide (n := 10)).1 ?_
  obtain ⟨a, c, rs, rfl, hn, hc, hA⟩ := h
  obtain ⟨n, hN⟩ : ∃ n, lp.length = n := ⟨_, rfl⟩
  have HN := hid hN
  rw [hN] at hn hA hm hl ⊢
  obtain ⟨s1a, p1a, n1a, c1a, s1b, p1b, n1b, c1b, rfl⟩ := hx.opened
  have HA := hid hA
  have SL := hid hs
  have SX := hid hsx
  have HM := hid hm
  have HW : Hid (∀ i, i < n → NF w (nag (rs i)) (co lp i)) := hid (fun i hi => by obtain ⟨_, _, _, _, h⟩ := hA i hi; exact h)
  have B := hid (Below.refl w.heap.size w)
  have HX := hid hx
  obtain ⟨hb1, hx2, hs3⟩ := Nbx.made w s1a s1b (.slice p1a n1a c1a) (.slice p1b n1b c1b)
  replace HX := nf HX hb1
  replace HW := hid (fun q_ hq_ => (HW.out q_ hq_).on hb1)
  replace B := bb B hb1
  have X3 := hid hx2
  clear hb1 hx2
  clear hA hs hsx hx hm hN hs3
  refine callsIn_of_wp_marks Tryz.func44 rfl trivial ?_ rfl
  simp only [Tryz.ntmps44, List.size_toArray, List.length_cons, List.length_nil, Nat.reduceAdd, Nat.reduceSub, Array.replicate_succ, Array.replicate_zero, List.push_toArray, List.append_toArray, List.nil_append, List.cons_append]
  gi_wp2
  generalize hW : w.alloc (.cells #[.bool s1a, .slice p1a n1a c1a, .bool s1b, .slice p1b n1b c1b] 79) = W4 at *
  clear hW
  refine wpIn_wide.2 ?_
  refine region_ops (by kernel_rfl) (by kernel_rfl) (fun a f a' w' => ∃ u5 u9 u10 u11 u12 v9 : Value, a' = { tmps := (((((a.tmps.setIfInBounds 5 u5).setIfInBounds 9 u9).setIfInBounds 10 u10).setIfInBounds 11 u11).setIfInBounds 12 u12), defers := a.defers } ∧ Hid (Below W4.heap.size W4 w') ∧ Hid (f 0 = true → u9 = (.agg #[.bool s1a, .slice p1a n1a c1a, .bool s1b, .slice p1b n1b c1b])) ∧ Hid (f 1 = true → Whl w' u10 1 1) ∧ Hid (f 2 = true → NF w' u11 1) ∧ Hid (f 3 = true → ((∃ bf, u12 = .slice (some ⟨bf, 0, none⟩) 2 2) ∧ u12 = v9 ∧ PN w' u12 [q, 1])) ∧ Hid (f 4 = true → NewS W4 w' u5 (f 5) v9) ∧ (f 5 = true → f 4 = true) ∧ (f 5 = true → f 3 = true)) ?h0 ⟨?s0, ?s1, ?s2, ?s3, ?s4, ?s5, trivial⟩ ?hend
  case h0 =>
    simp only [List.setIfInBounds_toArray, List.set_cons_zero, List.set_cons_succ]
    exact ⟨_, _, _, _, _, .nilIface, rfl, hid (Below.drew (Below.refl _ _)), hid (fun h => by cases h), hid (fun h => by cases h), hid (fun h => by cases h), hid (fun h => by cases h), hid (fun h => by cases h), fun h => h, fun h => h⟩
  case s0 =>
    rintro f a1 w1 ⟨u5, u9, u10, u11, u12, v9, rfl, HBW, h0, h1, h2, h3, h4, o5_4, o5_3⟩ hf hd K hK
    simp only [List.setIfInBounds_toArray, List.set_cons_zero, List.set_cons_succ] at hK ⊢
    replace hK := hid hK
    obtain ⟨y1, y2, y3, y4⟩ := (X3.out.below HBW.out X3.out.lt).cells
    go_simp
    exact hK.out _ _ ⟨_, _, _, _, _, v9, rfl, HBW, hid (fun h => rfl), hid (fun h => h1.out h), hid (fun h => h2.out h), hid (fun h => h3.out h), hid (fun h => h4.out h), fun h => o5_4 h, fun h => o5_3 h⟩
  case s1 =>
    rintro f a1 w1 ⟨u5, u9, u10, u11, u12, v9, rfl, HBW, h0, h1, h2, h3, h4, o5_4, o5_3⟩ hf hd K hK
    simp only [List.setIfInBounds_toArray, List.set_cons_zero, List.set_cons_succ] at hK ⊢
    replace hK := hid hK
    go_simp
    refine (of_small 1 (by decide) _).mono ?_
    rintro e w2 ⟨v, rfl, hv, hb⟩
    go_wp2_with fail
    exact hK.out _ _ ⟨_, _, _, _, _, v9, rfl, hid (below_next HBW.out hb), hid (fun h => h0.out h), hid (fun h => hv), hid (fun h => (h2.out h).on hb), hid (fun h => ⟨(h3.out h).1, (h3.out h).2.1, (h3.out h).2.2.on hb⟩), hid (fun h => (h4.out h).on hb), fun h => o5_4 h, fun h => o5_3 h⟩
  case s2 =>
    rintro f a1 w1 ⟨u5, u9, u10, u11, u12, v9, rfl, HBW, h0, h1, h2, h3, h4, o5_4, o5_3⟩ hf hd K hK
    simp only [List.setIfInBounds_toArray, List.set_cons_zero, List.set_cons_succ] at hK ⊢
    replace hK := hid hK
    simp [Region.binds] at hd
    have hw := h1.out (by simp only [hd])
    obtain ⟨s6, p6, n6, c6, rfl⟩ := hw.opened
    go_simp
    refine (wholeq hw).mono ?_
    rintro e w2 ⟨v, rfl, hv, hb⟩
    go_wp2_with fail
    exact hK.out _ _ ⟨_, _, _, _, _, v9, rfl, hid (below_next HBW.out hb), hid (fun h => h0.out h), hid (fun h => (h1.out h).on hb), hid (fun h => hv.nf.cast (by simp)), hid (fun h => ⟨(h3.out h).1, (h3.out h).2.1, (h3.out h).2.2.on hb⟩), hid (fun h => (h4.out h).on hb), fun h => o5_4 h, fun h => o5_3 h⟩
  case s3 =>
    rintro f a1 w1 ⟨u5, u9, u10, u11, u12, v9, rfl, HBW, h0, h1, h2, h3, h4, o5_4, o5_3⟩ hf hd K hK
    simp only [List.setIfInBounds_toArray, List.set_cons_zero, List.set_cons_succ] at hK ⊢
    replace hK := hid hK
    simp [Region.binds] at hd
    obtain rfl := h0.out (by simp only [hd])
    have hn6 := h2.out (by simp only [hd])
    obtain ⟨s6a, p6a, n6a, c6a, s6b, p6b, n6b, c6b, rfl⟩ := hn6.opened
    go_simp
    exact hK.out _ _ ⟨_, _, _, _, _, .slice (some ⟨w1.heap.size, 0, none⟩) 2 2, rfl, hid (below_next HBW.out ((Below.refl _ _).alloc (Nat.le_refl _) _)), hid (fun h => rfl), hid (fun h => (h1.out h).on ((Below.refl _ _).alloc (Nat.le_refl _) _)), hid (fun h => (h2.out h).on ((Below.refl _ _).alloc (Nat.le_refl _) _)), hid (fun h => ⟨⟨_, rfl⟩, rfl, pn_new2 (HX.out.on HBW.out) hn6⟩), hid (fun h => ((h4.out h).on ((Below.refl _ _).alloc (Nat.le_refl _) _)).free (by cases e : f 5 with | false => rfl | true => exact absurd (o5_3 e) (by rw [hf]; decide))), fun h => o5_4 h, fun _ => rfl⟩
  case s4 =>
    rintro f a1 w1 ⟨u5, u9, u10, u11, u12, v9, rfl, HBW, h0, h1, h2, h3, h4, o5_4, o5_3⟩ hf hd K hK
    simp only [List.setIfInBounds_toArray, List.set_cons_zero, List.set_cons_succ] at hK ⊢
    replace hK := hid hK
    go_simp
    exact hK.out _ _ ⟨_, _, _, _, _, v9, rfl, hid (below_next HBW.out ((Below.refl _ _).alloc (Nat.le_refl _) _)), hid (fun h => h0.out h), hid (fun h => (h1.out h).on ((Below.refl _ _).alloc (Nat.le_refl _) _)), hid (fun h => (h2.out h).on ((Below.refl _ _).alloc (Nat.le_refl _) _)), hid (fun h => ⟨(h3.out h).1, (h3.out h).2.1, (h3.out h).2.2.on ((Below.refl _ _).alloc (Nat.le_refl _) _)⟩), hid (fun h => ⟨w1.heap.size, rfl, HBW.out.size, fun _ => (Sbx.made w1 none 0 0).2.1, fun e => absurd (o5_4 e) (by rw [hf]; decide)⟩), fun _ => rfl, fun h => o5_3 h⟩
  case s5 =>
    rintro f a1 w1 ⟨u5, u9, u10, u11, u12, v9, rfl, HBW, h0, h1, h2, h3, h4, o5_4, o5_3⟩ hf hd K hK
    simp only [List.setIfInBounds_toArray, List.set_cons_zero, List.set_cons_succ] at hK ⊢
    replace hK := hid hK
    simp [Region.binds] at hd
    have g3 : f 3 = true := by simp only [hd]
    have g4 : f 4 = true := by simp only [hd]
    obtain ⟨⟨bf, e8⟩, e9, hp⟩ := h3.out g3
    subst e9
    subst e8
    obtain ⟨g, rfl, hg, hn, _⟩ := h4.out g4
    replace hn := hn hf
    obtain ⟨c1, c2⟩ := hn.stores
    obtain ⟨n1, n2, n3⟩ := hn.last HBW.out hg (some ⟨bf, 0, none⟩) 2 2
    have HN2 := hid (And.intro n1 n2)
    have HV := hid (fun v z k h => @n3 v z k h)
    have HP9 := hid (hp.sbx hn (some ⟨bf, 0, none⟩) 2 2)
    clear n1 n2 n3
    go_simp
    exact hK.out _ _ ⟨_, _, _, _, _, _, rfl, hid HN2.out.2, hid (fun h => h0.out h), hid (fun h => HV.out _ _ _ (h1.out h)), hid (fun h => (h2.out h).moved HV.out), hid (fun h => ⟨⟨bf, rfl⟩, rfl, HP9.out⟩), hid (fun h => ⟨g, rfl, hg, fun e => by simp [more] at e, fun _ => ⟨_, _, _, rfl, HN2.out.1⟩⟩), fun _ => g4, fun _ => g3⟩
  case hend =>
    rintro f a1 w1 ⟨u5, u9, u10, u11, u12, v9, rfl, HBW, h0, h1, h2, h3, h4, _⟩ hall
    simp only [List.setIfInBounds_toArray, List.set_cons_zero, List.set_cons_succ]
    obtain ⟨⟨bf, e8⟩, e9, hp⟩ := h3.out (hall 3 (by decide))
    subst e9
    subst e8
    obtain ⟨g5, rfl, hg, _, hn5⟩ := h4.out (hall 4 (by decide))
    obtain ⟨p5, n5, c5, e10, hn2⟩ := hn5 (hall 5 (by decide))
    cases e10
    have X5 := hid hn2
    have HF := hid hp
    replace HW := hid (fun i hi => (HW.out i hi).on HBW.out)
    replace B := bb B HBW.out
    have LW0 := hid (show w.heap.size ≤ w1.heap.size from B.out.size)
    clear h0 h1 h2 h3 h4 hall hn5 hn2 hp HBW X3 HX
    have LG5 := hid X5.out.lt
    obtain ⟨hb301, hx302, hs303⟩ := Sbx.made w1 none 0 0
    have L0 := hid X5.out.lt
    replace X5 := sx X5 hb301
    replace HW := hid (fun q_ hq_ => (HW.out q_ hq_).on hb301)
    replace HF := pno HF hb301
    replace B := bb B hb301
    have X6 := hid hx302
    clear hb301 hx302
    have hS8 := hs303
    gi_wp2
    generalize hW8 : w1.alloc (.cells #[.slice none 0 0] 61) = W8 at *
    clear hW8
    generalize hG : w1.heap.size = G at *
    clear hG
    refine ⟨trivial, (pbk_in Fence.wide _ trivial rfl _ _ _ _).mono ?_⟩
    rintro e w' ⟨rfl, rfl⟩
    have hbS := (Below.refl _ _).alloc (Nat.le_refl W8.heap.size) (.cells #[.slice a n c] 61)
    have cS : (W8.alloc (.cells #[.slice a n c] 61)).cell? ⟨G + 1, 0, none⟩ = some (.slice a n c) := by rw [← hS8]; simp
    replace X5 := sx X5 hbS
    replace X6 := sx X6 hbS
    replace HW := hid (fun q_ hq_ => (HW.out q_ hq_).on hbS)
    replace HF := pno HF hbS
    replace B := bb B hbS
    have hS9 : (W8.alloc (.cells #[.slice a n c] 61)).heap.size = G + 1 + 1 := by simp [hS8]
    rw [hS8]
    clear hbS
    generalize hW9 : W8.alloc (.cells #[.slice a n c] 61) = W0 at *
    clear hW9
    gi_wp2
    have hsz := B.out.size
    have hI0 : SI w lp n rs q g5 G bf [] W0 := ⟨⟨_, _, _, X6.out, PN.nil W0 (Nat.zero_le _)⟩, HW.out, X5.out, HF.out, B.out, by omega⟩
    have hget : ∀ W', KB w.heap.size (G + 1) W0 W' → ∀ i, i < n → ∃ x : {i : Nat // i < n}, x.1 = i ∧ ∃ b, a = some ⟨b, 0, none⟩ ∧ At4 W' b (i * 4) (rs x.1) := fun W' h i hi => by
      obtain ⟨b, e, hb, hA, _⟩ := HA.out i hi
      exact ⟨⟨i, hi⟩, rfl, b, e, (hA.kept (B.out.block b hb)).kept (h.1.block b hb)⟩
    clear X5 X6 HF HW
    refine wpIn_rangeFunc_ownH (F := Fence.wide) rfl (by decide) (gf := 84) (lb := #[.pointer (some ⟨G + 1, 0, none⟩)]) rfl trivial (enters_of Tryz.func84 (by kernel_rfl) rfl)
      (pbk_stops Fence.wide (10 - 1) trivial rfl (by decide) (fun x : {i : Nat // i < n} => x.1) (fun x => rs x.1) (G + 1) n c a (by omega) (KB w.heap.size (G + 1)) (KB.refl _ _) (fun h h' => h.trans h') W0 (fun W hW => ⟨hW.mono hsz, hW.block _ (by omega)⟩) (fun W' h => (h.cell 0).trans cS) hget)
      (fun h h' => h.trans h') (fun W l o o' h1 h2 h3 h4 => ⟨belowK_b hsz W l o o' h1 h2 h3 h4, World.putObj_heap_other (fun e => by omega)⟩) (Below.refl _ _) (fun _ => rfl)
      (SI w lp n rs q g5 G bf) (fun _ _ _ => False) (SI.own hsz) (fun _ _ _ _ _ hs _ _ => hs) hI0
      (fun x a' W => ∃ Bx, G + 1 < Bx ∧ Nbx W Bx (rs x.1).1.1 (.slice (rs x.1).1.2.1 (rs x.1).1.2.2.1 (rs x.1).1.2.2.2) (rs x.1).2.1 (.slice (rs x.1).2.2.1 (rs x.1).2.2.2.1 (rs x.1).2.2.2.2) ∧ a' = { tmps := #[Value.slice a n c, (.agg #[.bool s1a, .slice p1a n1a c1a, .bool s1b, .slice p1b n1b c1b]), undef, Value.pointer (some ⟨w.heap.size, 0, none⟩), Value.slice none 0 0, Value.pointer (some ⟨g5, 0, none⟩), Value.pointer (some ⟨G, 0, none⟩), undef, Value.pointer (some ⟨Bx, 0, none⟩), u9, u10, u11, Value.slice (some ⟨bf, 0, none⟩) 2 2, Value.slice a n c, Value.func (Fn.func 84) #[] #[Value.pointer (some ⟨G + 1, 0, none⟩)], Value.int IntKind.i64 (x.1 : Int), (.agg #[.bool (rs x.1).1.1, .slice (rs x.1).1.2.1 (rs x.1).1.2.2.1 (rs x.1).1.2.2.2, .bool (rs x.1).2.1, .slice (rs x.1).2.2.1 (rs x.1).2.2.2.1 (rs x.1).2.2.2.2]), undef, undef, undef, undef, undef, undef, undef], defers := [] })
      (fun x a' _ X Y row hs hg hr => by obtain ⟨Bx, h1, h2, h3⟩ := hs; exact ⟨Bx, h1, h2.turned hg (fun r e => (hr r e).2), h3⟩)
      ?assign ?body ?done ?stop
    case assign =>
      intro l pre x W K hi hK
      have hs1 : G + 1 < W.heap.size := hi.2.2.2.2.2
      have hlw := LW0.out
      have hX := Nbx.new W (rs x.1).1.1 (rs x.1).2.1 (.slice (rs x.1).1.2.1 (rs x.1).1.2.2.1 (rs x.1).1.2.2.2) (.slice (rs x.1).2.2.1 (rs x.1).2.2.2.1 (rs x.1).2.2.2.2)
      simp only [nag] at hK ⊢
      gi_wp2
      exact hK _ _ ((KeepsOthers.alloc _ _).from _) ⟨(Below.refl _ W).alloc (by omega) _, Below.heap_alloc _ _ _ (by omega)⟩ (hi.alloc _) ⟨W.heap.size, by omega, hX, rfl⟩
    case body =>
      rintro l pre x a' W hl_ _ hi ⟨Bx, hBx, hX, rfl⟩ hlt
      obtain ⟨⟨p6, n6, c6, hT, hV⟩, hZ, hx5, hf5, hBw, hs1⟩ := hi
      have hC := hZ x.1 x.2
      obtain ⟨s7a, p7a, n7a, c7a, s7b, p7b, n7b, c7b, hz7⟩ : ∃ s7a p7a n7a c7a s7b p7b n7b c7b, rs x.1 = ((s7a, p7a, n7a, c7a), (s7b, p7b, n7b, c7b)) := ⟨_, _, _, _, _, _, _, _, rfl⟩
      rw [hz7] at hX hC ⊢
      simp only [nag] at hX hC
      simp only [] at hX ⊢
      have X6 := hid hT
      have HS := hid hV
      have HW := hid hZ
      have X5 := hid hx5
      have HF := hid hf5
      have B := hid hBw
      have HS1 := hid hs1
      have XX := hid hX
      have HC := hid hC
      have LX := hid hBx
      have HPL := hid (show (pre.map (·.1)).length = pre.length from List.length_map _)
      have HLL := hid (show (mvf lp q (pre.map (·.1))).length ≤ pre.length by have := mvf_len lp q (pre.map (·.1)) []; rw [HPL.out, List.length_nil, Nat.zero_add] at this; exact this)
      have SV := hid (show Sml (mvf lp q (pre.map (·.1))) ((m + nq + 4) * 2 ^ pre.length - (m + nq + 3)) by have := Sml.mvf SL.out SX.out (pre.map (·.1)) [] 0 (Sml.nil (by omega)); rw [HPL.out, Nat.zero_add] at this; exact this)
      have SF := hid (Sml.lin SX.out)
      have HB1 := hid (shb_mul HM.out (Nat.le_of_lt hlt) HLL.out)
      have HB2 := hid (shb_add HM.out (Nat.le_of_lt hlt))
      have HE := hid (mvf_snoc lp q (pre.map (·.1)) x.1)
      have HPN := hid (show pre.length ≤ 1000 by omega)
      clear hT hV hZ hx5 hf5 hBw hs1 hX hC hBx hz7 hI0 cS hget hlt
      generalize mvf lp q (pre.map (·.1)) = mm at *
      generalize hM : (m + nq + 4) * 2 ^ pre.length - (m + nq + 3) = M at *
      clear hM
      gi_wp2
      refine region_ops_in (by kernel_rfl) (by kernel_rfl) (by kernel_rfl) (fun a f a' w' => ∃ u17 u18 u19 u20 u21 u22 : Value, a' = { tmps := ((((((a.tmps.setIfInBounds 17 u17).setIfInBounds 18 u18).setIfInBounds 19 u19).setIfInBounds 20 u20).setIfInBounds 21 u21).setIfInBounds 22 u22), defers := a.defers } ∧ Hid (Below W.heap.size W w' ∨ f 6 = true) ∧ Hid (f 0 = true → u17 = .slice p6 n6 c6) ∧ Hid (f 1 = true → u18 = .slice (some ⟨bf, 0, none⟩) 2 2) ∧ Hid (f 2 = true → PN w' u19 (mulp mm [q, 1])) ∧ Hid (f 3 = true → u20 = (.agg #[.bool s7a, .slice p7a n7a c7a, .bool s7b, .slice p7b n7b c7b])) ∧ Hid (f 4 = true → PN w' u21 [co lp x.1]) ∧ Hid (f 5 = true → (PN w' u22 (addp (mulp mm [q, 1]) [co lp x.1]) ∧ ∃ p n c, u22 = .slice p n c)) ∧ Hid (f 6 = true → ((∃ p8 n8 c8, Sbx w' G p8 n8 c8 ∧ PN w' (.slice p8 n8 c8) (addp (mulp mm [q, 1]) [co lp x.1])) ∧ (∀ i, i < n → NF w' (nag (rs i)) (co lp i)) ∧ Sbx w' g5 (some ⟨bf, 0, none⟩) 2 2 ∧ PN w' (.slice (some ⟨bf, 0, none⟩) 2 2) [q, 1] ∧ Below w.heap.size w w' ∧ G + 1 < w'.heap.size ∧ KB w.heap.size (G + 1) W w' ∧ KeepsOthers W w')) ∧ (f 6 = true → f 0 = true) ∧ (f 6 = true → f 1 = true) ∧ (f 6 = true → f 2 = true) ∧ (f 6 = true → f 3 = true) ∧ (f 6 = true → f 4 = true) ∧ (f 6 = true → f 5 = true)) ?h0 ⟨?s0, ?s1, ?s2, ?s3, ?s4, ?s5, ?s6, trivial⟩ ?hend
      case h0 =>
        simp only [List.setIfInBounds_toArray, List.set_cons_zero, List.set_cons_succ]
        exact ⟨_, _, _, _, _, _, rfl, hid (.inl (Below.drew (Below.refl _ _))), hid (fun h => by cases h), hid (fun h => by cases h), hid (fun h => by cases h), hid (fun h => by cases h), hid (fun h => by cases h), hid (fun h => by cases h), hid (fun h => by cases h), fun h => h, fun h => h, fun h => h, fun h => h, fun h => h, fun h => h⟩
      case s0 =>
        rintro f a1 w1 ⟨u17, u18, u19, u20, u21, u22, rfl, HBW, h0, h1, h2, h3, h4, h5, h6, o6_0, o6_1, o6_2, o6_3, o6_4, o6_5⟩ hf hd K hK
        replace HBW := hid (HBW.out.resolve_right (fun e => absurd (o6_0 e) (by rw [hf]; decide)))
        simp only [List.setIfInBounds_toArray, List.set_cons_zero, List.set_cons_succ] at hK ⊢
        replace hK := hid hK
        have y1 := (X6.out.below HBW.out X6.out.lt).cells
        go_simp
        exact hK.out _ _ ⟨_, _, _, _, _, _, rfl, hid (.inl (HBW).out), hid (fun h => rfl), hid (fun h => h1.out h), hid (fun h => h2.out h), hid (fun h => h3.out h), hid (fun h => h4.out h), hid (fun h => h5.out h), hid (fun h => absurd (o6_0 h) (by rw [hf]; decide)), fun _ => rfl, fun h => o6_1 h, fun h => o6_2 h, fun h => o6_3 h, fun h => o6_4 h, fun h => o6_5 h⟩
      case s1 =>
        rintro f a1 w1 ⟨u17, u18, u19, u20, u21, u22, rfl, HBW, h0, h1, h2, h3, h4, h5, h6, o6_0, o6_1, o6_2, o6_3, o6_4, o6_5⟩ hf hd K hK
        replace HBW := hid (HBW.out.resolve_right (fun e => absurd (o6_1 e) (by rw [hf]; decide)))
        simp only [List.setIfInBounds_toArray, List.set_cons_zero, List.set_cons_succ] at hK ⊢
        replace hK := hid hK
        have y1 := (X5.out.below HBW.out X5.out.lt).cells
        go_simp
        exact hK.out _ _ ⟨_, _, _, _, _, _, rfl, hid (.inl (HBW).out), hid (fun h => h0.out h), hid (fun h => rfl), hid (fun h => h2.out h), hid (fun h => h3.out h), hid (fun h => h4.out h), hid (fun h => h5.out h), hid (fun h => absurd (o6_1 h) (by rw [hf]; decide)), fun h => o6_0 h, fun _ => rfl, fun h => o6_2 h, fun h => o6_3 h, fun h => o6_4 h, fun h => o6_5 h⟩
      case s2 =>
        rintro f a1 w1 ⟨u17, u18, u19, u20, u21, u22, rfl, HBW, h0, h1, h2, h3, h4, h5, h6, o6_0, o6_1, o6_2, o6_3, o6_4, o6_5⟩ hf hd K hK
        replace HBW := hid (HBW.out.resolve_right (fun e => absurd (o6_2 e) (by rw [hf]; decide)))
        simp only [List.setIfInBounds_toArray, List.set_cons_zero, List.set_cons_succ] at hK ⊢
        replace hK := hid hK
        simp [Region.binds] at hd
        obtain rfl := h0.out (by simp only [hd])
        obtain rfl := h1.out (by simp only [hd])
        go_simp
        refine (pmul_p (HS.out.on HBW.out) (HF.out.on HBW.out) SV.out SF.out HB1.out (by have := HLL.out; have := HPN.out; omega) (by simp)).mono ?_
        rintro e w2 ⟨v, rfl, hv, hb⟩
        go_wp2_with fail
        exact hK.out _ _ ⟨_, _, _, _, _, _, rfl, hid (.inl (hid (below_next HBW.out hb)).out), hid (fun h => rfl), hid (fun h => rfl), hid (fun h => hv), hid (fun h => h3.out h), hid (fun h => (h4.out h).on hb), hid (fun h => ⟨(h5.out h).1.on hb, (h5.out h).2⟩), hid (fun h => absurd (o6_2 h) (by rw [hf]; decide)), fun h => o6_0 h, fun h => o6_1 h, fun _ => rfl, fun h => o6_3 h, fun h => o6_4 h, fun h => o6_5 h⟩
      case s3 =>
        rintro f a1 w1 ⟨u17, u18, u19, u20, u21, u22, rfl, HBW, h0, h1, h2, h3, h4, h5, h6, o6_0, o6_1, o6_2, o6_3, o6_4, o6_5⟩ hf hd K hK
        replace HBW := hid (HBW.out.resolve_right (fun e => absurd (o6_3 e) (by rw [hf]; decide)))
        simp only [List.setIfInBounds_toArray, List.set_cons_zero, List.set_cons_succ] at hK ⊢
        replace hK := hid hK
        obtain ⟨y1, y2, y3, y4⟩ := (XX.out.below HBW.out XX.out.lt).cells
        go_simp
        exact hK.out _ _ ⟨_, _, _, _, _, _, rfl, hid (.inl (HBW).out), hid (fun h => h0.out h), hid (fun h => h1.out h), hid (fun h => h2.out h), hid (fun h => rfl), hid (fun h => h4.out h), hid (fun h => h5.out h), hid (fun h => absurd (o6_3 h) (by rw [hf]; decide)), fun h => o6_0 h, fun h => o6_1 h, fun h => o6_2 h, fun _ => rfl, fun h => o6_4 h, fun h => o6_5 h⟩
      case s4 =>
        rintro f a1 w1 ⟨u17, u18, u19, u20, u21, u22, rfl, HBW, h0, h1, h2, h3, h4, h5, h6, o6_0, o6_1, o6_2, o6_3, o6_4, o6_5⟩ hf hd K hK
        replace HBW := hid (HBW.out.resolve_right (fun e => absurd (o6_4 e) (by rw [hf]; decide)))
        simp only [List.setIfInBounds_toArray, List.set_cons_zero, List.set_cons_succ] at hK ⊢
        replace hK := hid hK
        simp [Region.binds] at hd
        obtain rfl := h3.out (by simp only [hd])
        go_simp
        exact hK.out _ _ ⟨_, _, _, _, _, _, rfl, hid (.inl (hid (below_next HBW.out ((Below.refl _ _).alloc (Nat.le_refl _) _))).out), hid (fun h => h0.out h), hid (fun h => h1.out h), hid (fun h => (h2.out h).on ((Below.refl _ _).alloc (Nat.le_refl _) _)), hid (fun h => rfl), hid (fun h => pn_new1 (HC.out.on HBW.out)), hid (fun h => ⟨(h5.out h).1.on ((Below.refl _ _).alloc (Nat.le_refl _) _), (h5.out h).2⟩), hid (fun h => absurd (o6_4 h) (by rw [hf]; decide)), fun h => o6_0 h, fun h => o6_1 h, fun h => o6_2 h, fun h => o6_3 h, fun _ => rfl, fun h => o6_5 h⟩
      case s5 =>
        rintro f a1 w1 ⟨u17, u18, u19, u20, u21, u22, rfl, HBW, h0, h1, h2, h3, h4, h5, h6, o6_0, o6_1, o6_2, o6_3, o6_4, o6_5⟩ hf hd K hK
        replace HBW := hid (HBW.out.resolve_right (fun e => absurd (o6_5 e) (by rw [hf]; decide)))
        simp only [List.setIfInBounds_toArray, List.set_cons_zero, List.set_cons_succ] at hK ⊢
        replace hK := hid hK
        simp [Region.binds] at hd
        have g2 : f 2 = true := by simp only [hd]
        have g4 : f 4 = true := by simp only [hd]
        go_simp
        refine (padd_p (h2.out g2) (h4.out g4) (SV.out.linp SX.out) (Sml.one (SL.out.2 x.1)) HB2.out.1 HB2.out.2 (Nat.le_trans (trim_len _) (by have := HLL.out; have := HPN.out; simp [lof]; omega)) (by simp)).mono ?_
        rintro e w2 ⟨v, rfl, hv, hb⟩
        have hv2 : ∃ p n c, v = .slice p n c := by obtain ⟨a, c, e, _⟩ := hv.opened; exact ⟨_, _, _, e⟩
        go_wp2_with fail
        exact hK.out _ _ ⟨_, _, _, _, _, _, rfl, hid (.inl (hid (below_next HBW.out hb)).out), hid (fun h => h0.out h), hid (fun h => h1.out h), hid (fun h => (h2.out h).on hb), hid (fun h => h3.out h), hid (fun h => (h4.out h).on hb), hid (fun h => ⟨hv, hv2⟩), hid (fun h => absurd (o6_5 h) (by rw [hf]; decide)), fun h => o6_0 h, fun h => o6_1 h, fun h => o6_2 h, fun h => o6_3 h, fun h => o6_4 h, fun _ => rfl⟩
      case s6 =>
        rintro f a1 w1 ⟨u17, u18, u19, u20, u21, u22, rfl, HBW, h0, h1, h2, h3, h4, h5, h6, o6_0, o6_1, o6_2, o6_3, o6_4, o6_5⟩ hf hd K hK
        replace HBW := hid (HBW.out.resolve_right (fun e => by rw [hf] at e; cases e))
        simp only [List.setIfInBounds_toArray, List.set_cons_zero, List.set_cons_succ] at hK ⊢
        replace hK := hid hK
        simp [Region.binds] at hd
        obtain ⟨hp9, p9, n9, c9, rfl⟩ := h5.out (by simp only [hd])
        have hx6 := X6.out.below HBW.out X6.out.lt
        obtain ⟨y1, y2⟩ := hx6.stores
        have hlw := LW0.out
        have hb1 := B.out.trans (HBW.out.mono B.out.size)
        have hs1 := Nat.lt_of_lt_of_le HS1.out HBW.out.size
        have hlg := LG5.out
        have HFIN : Hid ((∃ p8 n8 c8, Sbx (w1.setCell ⟨G, 0, none⟩ (.slice p9 n9 c9)) G p8 n8 c8 ∧ PN (w1.setCell ⟨G, 0, none⟩ (.slice p9 n9 c9)) (.slice p8 n8 c8) (addp (mulp mm [q, 1]) [co lp x.1])) ∧ (∀ i, i < n → NF (w1.setCell ⟨G, 0, none⟩ (.slice p9 n9 c9)) (nag (rs i)) (co lp i)) ∧ Sbx (w1.setCell ⟨G, 0, none⟩ (.slice p9 n9 c9)) g5 (some ⟨bf, 0, none⟩) 2 2 ∧ PN (w1.setCell ⟨G, 0, none⟩ (.slice p9 n9 c9)) (.slice (some ⟨bf, 0, none⟩) 2 2) [q, 1] ∧ Below w.heap.size w (w1.setCell ⟨G, 0, none⟩ (.slice p9 n9 c9)) ∧ G + 1 < (w1.setCell ⟨G, 0, none⟩ (.slice p9 n9 c9)).heap.size ∧ KB w.heap.size (G + 1) W (w1.setCell ⟨G, 0, none⟩ (.slice p9 n9 c9)) ∧ KeepsOthers W (w1.setCell ⟨G, 0, none⟩ (.slice p9 n9 c9))) := hid ⟨⟨p9, n9, c9, hx6.set0 p9 n9 c9, hp9.sbx hx6 p9 n9 c9⟩, fun i hi => ((HW.out i hi).on HBW.out).moved fun _ _ _ h => h.sbx hx6 0 _, (X5.out.below HBW.out X5.out.lt).kept (heap1 (by omega) _), (HF.out.on HBW.out).sbx hx6 p9 n9 c9, hb1.setCell (p := ⟨G, 0, none⟩) hlw _, by simpa [World.setCell] using hs1, KB.set ⟨HBW.out.mono B.out.size, HBW.out.block (G + 1) HS1.out⟩ hlw (by omega) 0 _, (KeepsOthers.of_below HBW.out).trans (KeepsOthers.setCell _ ⟨G, 0, none⟩ _)⟩
        have HX6 := hid hx6
        clear hb1 hs1 hx6 hp9
        have g0 : f 0 = true := by simp only [hd]
        have g1 : f 1 = true := by simp only [hd]
        have g2 : f 2 = true := by simp only [hd]
        have g3 : f 3 = true := by simp only [hd]
        have g4 : f 4 = true := by simp only [hd]
        have g5 : f 5 = true := by simp only [hd]
        go_simp
        exact hK.out _ _ ⟨_, _, _, _, _, _, rfl, hid (.inr rfl), hid (fun h => h0.out h), hid (fun h => h1.out h), hid (fun h => (h2.out h).sbx HX6.out p9 n9 c9), hid (fun h => h3.out h), hid (fun h => (h4.out h).sbx HX6.out p9 n9 c9), hid (fun h => ⟨(h5.out h).1.sbx HX6.out p9 n9 c9, (h5.out h).2⟩), hid (fun h => HFIN.out), fun _ => g0, fun _ => g1, fun _ => g2, fun _ => g3, fun _ => g4, fun _ => g5⟩
      case hend =>
        rintro f a1 w1 ⟨u17, u18, u19, u20, u21, u22, rfl, _, h0, h1, h2, h3, h4, h5, h6, _⟩ hall
        simp only [List.setIfInBounds_toArray, List.set_cons_zero, List.set_cons_succ]
        obtain ⟨h1, h2, h3, h4, h5, h6, h7, h8⟩ := h6.out (hall 6 (by decide))
        gi_wp2
        exact ⟨h8.from _, h7, ⟨by rw [List.map_append]; exact HE.out ▸ h1, h2, h3, h4, h5, h6⟩⟩
    case done =>
      rintro D ys W hD hys ⟨⟨p6, n6, c6, hT, hV⟩, hZ, hx5, hf5, hBw, hs1⟩ hK
      have y1 := hT.cells
      have HV : Hid (PN W (.slice p6 n6 c6) (moved lp q)) := hid (by have e : mvf lp q (ys.map (·.1)) = moved lp q := (by rw [hys]; exact mvf_all HN.out q); rw [← e]; exact hV)
      have B := hid hBw
      have LD := hid (show w.heap.size ≤ D by omega)
      have hKD := hK
      clear hT hV hZ hx5 hf5 hBw hs1 hK hI0 cS hget
      gi_wp2
      have hgp := grownBy_putObj' W D (.deferred none)
      have hgr : ∀ r, some D = some r → ∃ o : Obj, W.heap[r]? = some o ∧ o.isCells = false := fun r e => by cases e; exact ⟨_, hKD, rfl⟩
      refine ⟨by simp, .inl ⟨_, _, rfl, run_takeDeferred hKD, ?_⟩⟩
      refine ⟨_, res_tmp rfl rfl, ?_⟩
      exact ⟨_, rfl, HV.out.turned hgp hgr, B.out.grown hgp B.out.size (fun g e => by cases e; have := LD.out; omega)⟩
    case stop =>
      rintro D c pre W _ _ h _
      exact h.elim

end Go.Proofs.YtmabolifokhlnaaGreatDoor

/-
  PACKAGE poly: Shift.
-/
namespace Go.Proofs.YtmabolifokhlnaaGreatDoor
open Go.RowKit
open Num
set_option linter.unusedVariables false
set_option maxRecDepth 100000
set_option linter.unusedSimpArgs false

theorem shb_nine {n : Nat} (h : n ≤ 9) : (n + 2) * ((25 + 25 + 4) * 2 ^ n + 25 + 25 + 4) ≤ 68719476736 := by
  have h1 : 2 ^ n ≤ 2 ^ 9 := Nat.pow_le_pow_right (by omega) h
  have h2 := Nat.mul_le_mul (show n + 2 ≤ 11 by omega) (show (25 + 25 + 4) * 2 ^ n + 25 + 25 + 4 ≤ (25 + 25 + 4) * 2 ^ 9 + 25 + 25 + 4 by omega)
  omega
theorem two_nine {n m : Nat} (h : n ≤ 9) (hm : m ≤ 1000) : m * 2 ^ n ≤ 512000 := by
  have h1 : 2 ^ n ≤ 2 ^ 9 := Nat.pow_le_pow_right (by omega) h
  exact Nat.le_trans (Nat.mul_le_mul hm h1) (by decide)
set_option maxHeartbeats 1000000 in
theorem pshifts_any {w : World} {v : Value} {p : List ByteArray} {x : ByteArray} (h : TxsW w v p) (hs : Szs p) (hx : x.size ≤ maxLen) :
    Calls Tryz.prog 18 #[v, .string x] w fun e w' => ∃ r ss k, e = .returned (.tuple #[r, errv k]) ∧ OwnS w' w.heap.size r ss ∧ PShifts p x ss k ∧ Below w.heap.size w w' := by
  have H1 := hid (pwith_any h hs hx)
  have hne := errv_neq
  have hgd := errv_guard
  clear h hs hx
  have B := hid (Below.refl w.heap.size w)
  go_enter Tryz.func18, Tryz.ntmps18
  go_wp2_with fail
  refine H1.out.mono ?_
  rintro e w1 ⟨y, z, k, rfl, hr, hb⟩
  replace B := bb B hb
  rcases hr with ⟨rfl, hg, hq, hp, hn⟩ | ⟨hk, hw, rfl, rfl⟩
  · obtain ⟨s3a, p3a, n3a, c3a, s3b, p3b, n3b, c3b, rfl⟩ := hn.opened
    have HG := hid hg
    have HQ := hid hq
    have HP := hid hp
    have HN := hid hn
    clear hb hg hq hp hn
    obtain ⟨hb101, hx102, hs103⟩ := Nbx.made w1 s3a s3b (.slice p3a n3a c3a) (.slice p3b n3b c3b)
    replace HN := nf HN hb101
    replace HP := pno HP hb101
    replace B := bb B hb101
    have X7 := hid hx102
    clear hb101 hx102
    have cc104 := X7.out.cells
    go_wp2_with fail
    generalize hW : w1.alloc (.cells #[.bool s3a, .slice p3a n3a c3a, .bool s3b, .slice p3b n3b c3b] 79) = W105 at *
    clear hW
    refine (pshift_p HP.out HN.out HG.out.sml (Sm.good HQ.out) (by have := HG.out.1; unfold shb; rw [rdp_len]; exact shb_nine this) (by have := HG.out.1; rw [rdp_len]; omega)).mono ?_
    rintro e w106 ⟨v2, rfl, hv, hb⟩
    have HV := hid hv
    replace X7 := nx X7 hb
    replace HN := nf HN hb
    replace HP := pno HP hb
    replace B := bb B hb
    clear cc104
    clear hb hv
    go_wp2_with fail
    refine (texts_s HV.out (trm_moved _ _) ((sml_moved HG.out.sml (Sm.good HQ.out)).mono (two_nine (by have := HG.out.1; rw [rdp_len]; exact this) (by decide))) (by decide) (by rw [moved_len HG.out.2.2, rdp_len]; have := HG.out.1; omega)).mono ?_
    rintro e w9 ⟨s, rfl, ho, hb⟩
    have HO := hid (show OwnS w9 w.heap.size s _ from ⟨ho.1.mono B.out.size, ho.2⟩)
    replace B := bb B hb
    clear hb ho
    go_wp2_with fail
    go_ret2
    exact ⟨_, _, 0, rfl, HO.out, .inl ⟨rfl, HG.out, HQ.out, rfl⟩, B.out⟩
  · have HK := hid hk
    have HW := hid hw
    have f1 : (k != 0) = true := by simpa using hk
    clear hb hw
    obtain ⟨hb301, hx302, hs303⟩ := Nbx.made w1 false false (.slice none 0 0) (.slice none 0 0)
    replace B := bb B hb301
    have X7 := hid hx302
    clear hb301 hx302
    have cc304 := X7.out.cells
    go_wp2_with fail
    go_ret2
    exact ⟨_, [], k, rfl, OwnS.nil _ _, .inr ⟨HK.out, HW.out, rfl⟩, B.out⟩

end Go.Proofs.YtmabolifokhlnaaGreatDoor

/-
  PACKAGE poly: Mul.
-/
namespace Go.Proofs.YtmabolifokhlnaaGreatDoor
open Go.RowKit
open Num
set_option linter.unusedVariables false
set_option maxRecDepth 100000
set_option linter.unusedSimpArgs false

set_option maxHeartbeats 1000000 in
theorem comb_mulp {w : World} {v u : Value} {p q : List ByteArray} (h : TxsW w v p) (h' : TxsW w u q) (hs : Szs p) (hs' : Szs q) :
    Calls Tryz.prog 47 #[v, u, .func (.func 49) #[] #[]] w fun e w' => ∃ r ss k, e = .returned (.tuple #[r, errv k]) ∧ OwnS w' w.heap.size r ss ∧ PTells mulp p q ss k ∧ Below w.heap.size w w' := by
  have H1 := hid (pboth_any h h' hs hs')
  have hne := errv_neq
  have hgd := errv_guard
  clear h h' hs hs'
  go_enter Tryz.func47, Tryz.ntmps47
  go_wp2_with fail
  refine H1.out.mono ?_
  rintro e w1 ⟨x, y, k, rfl, hr, hb⟩
  have B := hid hb
  rcases hr with ⟨rfl, hg, hg2, hp, hp2⟩ | ⟨hk, hw, rfl, rfl⟩
  · have HG := hid hg
    have HG2 := hid hg2
    have HP := hid hp
    have HP2 := hid hp2
    clear hb hg hg2 hp hp2
    go_wp2_with fail
    refine (pmul_p HP.out HP2.out HG.out.sml HG2.out.sml (by have := HG.out.1; rw [rdp_len]; omega) (by have := HG.out.1; rw [rdp_len]; omega) (by have := HG2.out.1; rw [rdp_len]; omega)).mono ?_
    rintro e w2 ⟨r, rfl, hr, hb2⟩
    replace B := bb B hb2
    have HR := hid hr
    clear hb2 hr
    go_wp2_with fail
    refine (texts_s HR.out (trm_mulp _ _) (HG.out.sml.prod HG2.out.sml) (by have := HG.out.1; rw [rdp_len]; omega) (Nat.le_trans (mulp_len _ _) (by have := HG.out.1; have := HG2.out.1; rw [rdp_len, rdp_len]; omega))).mono ?_
    rintro e w3 ⟨s, rfl, ho, hb3⟩
    have HO := hid (show OwnS w3 w.heap.size s _ from ⟨ho.1.mono B.out.size, ho.2⟩)
    replace B := bb B hb3
    clear hb3 ho
    go_wp2_with fail
    go_ret2
    exact ⟨_, _, 0, rfl, HO.out, .inl ⟨rfl, HG.out, HG2.out, rfl⟩, B.out⟩
  · have HK := hid hk
    have HW := hid hw
    have f1 : (k != 0) = true := by simpa using hk
    clear hb hw
    go_wp2_with fail
    go_ret2
    exact ⟨_, [], k, rfl, OwnS.nil _ _, .inr ⟨HK.out, HW.out, rfl⟩, B.out⟩

set_option maxHeartbeats 1000000 in
theorem pmuls_any {w : World} {v u : Value} {p q : List ByteArray} (h : TxsW w v p) (h' : TxsW w u q) (hs : Szs p) (hs' : Szs q) :
    Calls Tryz.prog 23 #[v, u] w fun e w' => ∃ r ss k, e = .returned (.tuple #[r, errv k]) ∧ OwnS w' w.heap.size r ss ∧ PTells mulp p q ss k ∧ Below w.heap.size w w' := by
  have H1 := hid (comb_mulp h h' hs hs')
  clear h h' hs hs'
  go_enter Tryz.func23, Tryz.ntmps23
  go_wp2_with fail
  refine H1.out.mono ?_
  rintro e w1 ⟨r, ss, k, rfl, ho, ht, hb⟩
  have HO := hid ho
  have HT := hid ht
  have B := hid hb
  clear ho ht hb
  go_wp2_with fail
  go_ret2
  exact ⟨_, _, k, rfl, HO.out, HT.out, B.out⟩

end Go.Proofs.YtmabolifokhlnaaGreatDoor

/-
  LAWS of package poly: squared.
-/
namespace Go.Proofs.YtmabolifokhlnaaGreatDoor
open Go.RowKit
open Num
set_option linter.unusedVariables false
set_option maxRecDepth 100000
set_option linter.unusedSimpArgs false

set_option maxHeartbeats 2000000 in
theorem squared_true (w : World) :
    Calls Tryz.prog 4 #[] w fun e w' => e = .returned (.bool true) ∧ Below w.heap.size w w' := by
  have hne := errv_neq
  have heq := errv_eql
  have hgd := errv_guard
  have t1 := one_text (Nat.le_refl w.heap.size) one11 (by decide)
  have hb1 := (Below.refl w.heap.size w).alloc (Nat.le_refl _) (.cells #[.string ⟨#[49]⟩, .string ⟨#[49]⟩] 9)
  have t2 := one_text (Nat.le_refl (w.alloc (.cells #[.string ⟨#[49]⟩, .string ⟨#[49]⟩] 9)).heap.size) one11 (by decide)
  have hb2 := (Below.refl (w.alloc (.cells #[.string ⟨#[49]⟩, .string ⟨#[49]⟩] 9)).heap.size _).alloc (Nat.le_refl _) (.cells #[.string ⟨#[49]⟩, .string ⟨#[49]⟩] 9)
  have B := hid (hb1.trans (hb2.mono hb1.size))
  have HM := pmuls_any (t1.on hb2).txs.weak t2.txs.weak szs_11 szs_11
  have hs : (w.alloc (.cells #[.string ⟨#[49]⟩, .string ⟨#[49]⟩] 9)).heap.size = w.heap.size + 1 := by simp
  rw [hs] at HM
  have HM := hid HM
  clear t1 t2 hb1 hb2 hs
  go_enter Tryz.func4, Tryz.ntmps4
  go_wp2_with fail
  refine HM.out.mono ?_
  rintro e w3 ⟨r, ss, k, rfl, ho, ht, hb⟩
  replace B := bb B hb
  obtain ⟨rfl, rfl⟩ := ht.yes good_11 good_11
  rw [sq_11, qtxt_rdp all_121] at ho
  have t3 := one_text (Nat.le_refl w3.heap.size) one121 (by decide)
  have hb3 := (Below.refl w3.heap.size w3).alloc (Nat.le_refl _) (.cells #[.string ⟨#[49]⟩, .string ⟨#[50]⟩, .string ⟨#[49]⟩] 9)
  have HS := same_texts (ho.1.on hb3).txs t3.txs
  rw [decide_eq_true rfl] at HS
  have HS := hid HS
  replace B := bb B hb3
  clear ho hb hb3 t3 HM ht
  go_wp2_with fail
  refine HS.out.mono ?_
  rintro e w4 ⟨rfl, hb⟩
  replace B := bb B hb
  clear hb HS
  go_wp2_with fail
  go_ret
  exact ⟨rfl, B.out⟩

end Go.Proofs.YtmabolifokhlnaaGreatDoor

/-
  PACKAGE poly: Add.
-/
namespace Go.Proofs.YtmabolifokhlnaaGreatDoor
open Go.RowKit
open Num
set_option linter.unusedVariables false
set_option maxRecDepth 100000
set_option linter.unusedSimpArgs false

set_option maxHeartbeats 1000000 in
theorem comb_addp {w : World} {v u : Value} {p q : List ByteArray} (h : TxsW w v p) (h' : TxsW w u q) (hs : Szs p) (hs' : Szs q) :
    Calls Tryz.prog 47 #[v, u, .func (.func 48) #[] #[]] w fun e w' => ∃ r ss k, e = .returned (.tuple #[r, errv k]) ∧ OwnS w' w.heap.size r ss ∧ PTells addp p q ss k ∧ Below w.heap.size w w' := by
  have H1 := hid (pboth_any h h' hs hs')
  have hne := errv_neq
  have hgd := errv_guard
  clear h h' hs hs'
  go_enter Tryz.func47, Tryz.ntmps47
  go_wp2_with fail
  refine H1.out.mono ?_
  rintro e w1 ⟨x, y, k, rfl, hr, hb⟩
  have B := hid hb
  rcases hr with ⟨rfl, hg, hg2, hp, hp2⟩ | ⟨hk, hw, rfl, rfl⟩
  · have HG := hid hg
    have HG2 := hid hg2
    have HP := hid hp
    have HP2 := hid hp2
    clear hb hg hg2 hp hp2
    go_wp2_with fail
    refine (padd_p HP.out HP2.out HG.out.sml HG2.out.sml (by decide) (by decide) (by have := HG.out.1; rw [rdp_len]; omega) (by have := HG2.out.1; rw [rdp_len]; omega)).mono ?_
    rintro e w2 ⟨r, rfl, hr, hb2⟩
    replace B := bb B hb2
    have HR := hid hr
    clear hb2 hr
    go_wp2_with fail
    refine (texts_s HR.out (trm_addp _ _) (HG.out.sml.sum HG2.out.sml) (by decide) (Nat.le_trans (addp_len _ _) (by have := HG.out.1; have := HG2.out.1; rw [rdp_len, rdp_len]; omega))).mono ?_
    rintro e w3 ⟨s, rfl, ho, hb3⟩
    have HO := hid (show OwnS w3 w.heap.size s _ from ⟨ho.1.mono B.out.size, ho.2⟩)
    replace B := bb B hb3
    clear hb3 ho
    go_wp2_with fail
    go_ret2
    exact ⟨_, _, 0, rfl, HO.out, .inl ⟨rfl, HG.out, HG2.out, rfl⟩, B.out⟩
  · have HK := hid hk
    have HW := hid hw
    have f1 : (k != 0) = true := by simpa using hk
    clear hb hw
    go_wp2_with fail
    go_ret2
    exact ⟨_, [], k, rfl, OwnS.nil _ _, .inr ⟨HK.out, HW.out, rfl⟩, B.out⟩

set_option maxHeartbeats 1000000 in
theorem padds_any {w : World} {v u : Value} {p q : List ByteArray} (h : TxsW w v p) (h' : TxsW w u q) (hs : Szs p) (hs' : Szs q) :
    Calls Tryz.prog 22 #[v, u] w fun e w' => ∃ r ss k, e = .returned (.tuple #[r, errv k]) ∧ OwnS w' w.heap.size r ss ∧ PTells addp p q ss k ∧ Below w.heap.size w w' := by
  have H1 := hid (comb_addp h h' hs hs')
  clear h h' hs hs'
  go_enter Tryz.func22, Tryz.ntmps22
  go_wp2_with fail
  refine H1.out.mono ?_
  rintro e w1 ⟨r, ss, k, rfl, ho, ht, hb⟩
  have HO := hid ho
  have HT := hid ht
  have B := hid hb
  clear ho ht hb
  go_wp2_with fail
  go_ret2
  exact ⟨_, _, k, rfl, HO.out, HT.out, B.out⟩

end Go.Proofs.YtmabolifokhlnaaGreatDoor

/-
  PACKAGE poly: Eval.
-/
namespace Go.Proofs.YtmabolifokhlnaaGreatDoor
open Go.RowKit
open Num
set_option linter.unusedVariables false
set_option maxRecDepth 100000
set_option linter.unusedSimpArgs false

set_option maxHeartbeats 1000000 in
theorem pevals_any {w : World} {v : Value} {p : List ByteArray} {x : ByteArray} (h : TxsW w v p) (hs : Szs p) (hx : x.size ≤ maxLen) :
    Calls Tryz.prog 15 #[v, .string x] w fun e w' => ∃ s k, e = .returned (.tuple #[.string s, errv k]) ∧ PEvals p x s k ∧ s.size ≤ maxLen ∧ Below w.heap.size w w' := by
  have H1 := hid (pwith_any h hs hx)
  have hne := errv_neq
  have hgd := errv_guard
  clear h hs hx
  have B := hid (Below.refl w.heap.size w)
  go_enter Tryz.func15, Tryz.ntmps15
  go_wp2_with fail
  refine H1.out.mono ?_
  rintro e w1 ⟨y, z, k, rfl, hr, hb⟩
  replace B := bb B hb
  rcases hr with ⟨rfl, hg, hq, hp, hn⟩ | ⟨hk, hw, rfl, rfl⟩
  · obtain ⟨s3a, p3a, n3a, c3a, s3b, p3b, n3b, c3b, rfl⟩ := hn.opened
    have HG := hid hg
    have HQ := hid hq
    have HP := hid hp
    have HN := hid hn
    clear hb hg hq hp hn
    obtain ⟨hb101, hx102, hs103⟩ := Nbx.made w1 s3a s3b (.slice p3a n3a c3a) (.slice p3b n3b c3b)
    replace HN := nf HN hb101
    replace HP := pno HP hb101
    replace B := bb B hb101
    have X7 := hid hx102
    clear hb101 hx102
    have cc104 := X7.out.cells
    go_wp2_with fail
    generalize hW : w1.alloc (.cells #[.bool s3a, .slice p3a n3a c3a, .bool s3b, .slice p3b n3b c3b] 79) = W105 at *
    clear hW
    refine (peval_p HP.out HN.out HG.out.sml (Sm.good HQ.out) (by have := HG.out.1; rw [rdp_len]; omega) (by have := HG.out.1; rw [rdp_len]; omega)).mono ?_
    rintro e w106 ⟨v2, rfl, hv, hb⟩
    replace X7 := nx X7 hb
    replace HN := nf HN hb
    replace HP := pno HP hb
    replace B := bb B hb
    clear cc104
    have HV := hid hv
    clear hb hv
    go_wp2_with fail
    have HSV := hid (show Sm (pv (rdp p) (qnum x)) 10000 from (sm_pv HG.out.sml (Sm.good HQ.out)).mono (by have := HG.out.1; rw [rdp_len]; omega))
    refine (nstr_f HV.out HSV.out (by decide)).mono ?_
    rintro e w9 ⟨rfl, hb⟩
    replace B := bb B hb
    clear hb
    go_wp2_with fail
    go_ret2
    exact ⟨_, 0, rfl, .inl ⟨rfl, HG.out, HQ.out, rfl⟩, size_sm HSV.out (by decide), B.out⟩
  · have HK := hid hk
    have HW := hid hw
    have f1 : (k != 0) = true := by simpa using hk
    clear hb hw
    obtain ⟨hb301, hx302, hs303⟩ := Nbx.made w1 false false (.slice none 0 0) (.slice none 0 0)
    replace B := bb B hb301
    have X7 := hid hx302
    clear hb301 hx302
    have cc304 := X7.out.cells
    go_wp2_with fail
    go_ret2
    exact ⟨_, k, rfl, .inr ⟨HK.out, HW.out, rfl⟩, Nat.zero_le _, B.out⟩

end Go.Proofs.YtmabolifokhlnaaGreatDoor

/-
  PACKAGE poly: Deriv.
-/
namespace Go.Proofs.YtmabolifokhlnaaGreatDoor
open Go.RowKit
open Num
set_option linter.unusedVariables false
set_option maxRecDepth 100000
set_option linter.unusedSimpArgs false

set_option maxHeartbeats 1000000 in
theorem pderivs_any {w : World} {v : Value} {p : List ByteArray} (h : TxsW w v p) (hs : Szs p) :
    Calls Tryz.prog 16 #[v] w fun e w' => ∃ r ss k, e = .returned (.tuple #[r, errv k]) ∧ OwnS w' w.heap.size r ss ∧ PDerivs p ss k ∧ Below w.heap.size w w' := by
  have H1 := hid (pread_any h hs)
  have hne := errv_neq
  have hgd := errv_guard
  clear h hs
  go_enter Tryz.func16, Tryz.ntmps16
  go_wp2_with fail
  refine H1.out.mono ?_
  rintro e w1 ⟨x, k, rfl, hr, _, hb⟩
  have B := hid hb
  rcases hr with ⟨rfl, hg, hp⟩ | ⟨hk, hw, rfl⟩
  · have HG := hid hg
    have HP := hid hp
    clear hb hg hp
    go_wp2_with fail
    refine (pderiv_p HP.out HG.out.sml (by decide) (by have := HG.out.1; rw [rdp_len]; omega)).mono ?_
    rintro e w2 ⟨r, rfl, hr, hb2⟩
    replace B := bb B hb2
    have HR := hid hr
    clear hb2 hr
    go_wp2_with fail
    refine (texts_s HR.out (trm_slope _) (sml_slope HG.out.sml (by have := HG.out.1; rw [rdp_len]; omega)) (by decide) (Nat.le_trans (slope_len _) (by have := HG.out.1; rw [rdp_len]; omega))).mono ?_
    rintro e w3 ⟨s, rfl, ho, hb3⟩
    have HO := hid (show OwnS w3 w.heap.size s _ from ⟨ho.1.mono B.out.size, ho.2⟩)
    replace B := bb B hb3
    clear hb3 ho
    go_wp2_with fail
    go_ret2
    exact ⟨_, _, 0, rfl, HO.out, .inl ⟨rfl, HG.out, rfl⟩, B.out⟩
  · have HK := hid hk
    have HW := hid hw
    have f1 : (k != 0) = true := by simpa using hk
    clear hb hw
    go_wp2_with fail
    go_ret2
    exact ⟨_, [], k, rfl, OwnS.nil _ _, .inr ⟨HK.out, HW.out, rfl⟩, B.out⟩

end Go.Proofs.YtmabolifokhlnaaGreatDoor

/-
  PACKAGE poly: Div's mathematics.
-/
namespace Go.Proofs.YtmabolifokhlnaaGreatDoor
open Go.RowKit
open Num
set_option linter.unusedVariables false
set_option maxRecDepth 100000
set_option linter.unusedSimpArgs false

/-- One step of a division, where the walk has it: what is left, and how often. -/
def dstep (q : List Rat) (d : Nat) (s : (Nat → Rat) × (Nat → Rat)) (i : Nat) : (Nat → Rat) × (Nat → Rat) :=
  (offq s.1 q i (s.1 (i + d) / co q d) (d + 1), fun k => if k = i then s.1 (i + d) / co q d else s.2 k)
def dvf (p q : List Rat) (d : Nat) (pre : List Nat) : (Nat → Rat) × (Nat → Rat) := pre.foldl (dstep q d) (co p, fun _ => 0)
theorem dvf_snoc (p q : List Rat) (d : Nat) (pre : List Nat) (i : Nat) : dvf p q d (pre ++ [i]) = dstep q d (dvf p q d pre) i := by simp [dvf]
theorem pv_off {R : Nat → Rat} {q : List Rat} {np i d : Nat} (f : Rat) (hd : q.length = d + 1) (hi : i + d < np) (x : Rat) : pv (lof np (offq R q i f (d + 1))) x = pv (lof np R) x - f * x ^ i * pv q x := by
  have h : ∀ x, pv (lof np (offq R q i f (d + 1))) x = pv (padd (lof np R) (psc (-1) (mulr (mon i f) q))) x := by
    intro x
    refine pv_congr (fun j => ?_) x
    rw [co_padd, co_psc, co_mulr, cnv_mon, co_lof, co_lof]
    by_cases hj : j < np
    · rw [if_pos hj, if_pos hj, offq]
      by_cases h1 : i ≤ j
      · rw [if_pos h1]
        by_cases h2 : j < i + (d + 1)
        · rw [if_pos ⟨h1, h2⟩]; grind
        · rw [if_neg (by omega), co_ge (l := q) (by omega)]; grind
      · rw [if_neg (by omega), if_neg h1]; grind
    · rw [if_neg hj, if_neg hj]
      split
      · rw [co_ge (l := q) (by omega)]; grind
      · grind
  rw [h x, pv_padd, pv_psc, pv_mulr, pv_mon]
  grind
theorem pv_put {Q : Nat → Rat} {n i : Nat} (f : Rat) (hi : i < n) (h0 : Q i = 0) (x : Rat) : pv (lof n fun k => if k = i then f else Q k) x = pv (lof n Q) x + f * x ^ i := by
  have h : ∀ x, pv (lof n fun k => if k = i then f else Q k) x = pv (padd (lof n Q) (mon i f)) x := by
    intro x
    refine pv_congr (fun j => ?_) x
    rw [co_padd, co_mon, co_lof, co_lof]
    by_cases hj : j < n
    · rw [if_pos hj, if_pos hj]
      by_cases h2 : j = i
      · subst h2; rw [if_pos rfl, if_pos rfl, h0]; grind
      · rw [if_neg h2, if_neg h2]; grind
    · rw [if_neg hj, if_neg hj, if_neg (by omega)]; grind
  rw [h x, pv_padd, pv_mon]
theorem dvf_holds {p q : List Rat} {np d N : Nat} (hp : p.length = np) (hd : q.length = d + 1) (h0 : co q d ≠ 0) (hN : N = 0 ∨ N + d = np) : ∀ k, k ≤ N →
    (∀ x, pv p x = pv (lof N (dvf p q d (dwn N k)).2) x * pv q x + pv (lof np (dvf p q d (dwn N k)).1) x) ∧ (N ≠ 0 → ∀ j, N - k + d ≤ j → j < np → (dvf p q d (dwn N k)).1 j = 0) ∧ (∀ j, j < N - k → (dvf p q d (dwn N k)).2 j = 0) := by
  intro k
  induction k with
  | zero =>
    intro _
    have e : dvf p q d (dwn N 0) = (co p, fun _ => 0) := rfl
    rw [e]
    refine ⟨fun x => ?_, fun hn j h1 h2 => by omega, fun j _ => rfl⟩
    rw [pv_zero (l := lof N fun _ => 0) (fun i => by rw [co_lof]; split <;> rfl), pv_congr (l := lof np (co p)) (m := p) (fun i => by
      rw [co_lof]
      split
      · rfl
      · rw [co_ge (by omega)])]
    grind
  | succ k ih =>
    intro hk
    obtain ⟨h1, h2, h3⟩ := ih (by omega)
    rw [dwn_succ, dvf_snoc]
    have hNd : N + d = np := hN.resolve_left (by omega)
    generalize dvf p q d (dwn N k) = s at h1 h2 h3 ⊢
    generalize hi : N - 1 - k = i
    refine ⟨fun x => ?_, fun hn j g1 g2 => ?_, fun j hj => ?_⟩
    · show pv p x = pv (lof N fun k => if k = i then s.1 (i + d) / co q d else s.2 k) x * pv q x + pv (lof np (offq s.1 q i (s.1 (i + d) / co q d) (d + 1))) x
      rw [pv_off _ hd (by omega), pv_put _ (by omega) (h3 i (by omega)), h1 x]
      grind
    · show offq s.1 q i (s.1 (i + d) / co q d) (d + 1) j = 0
      rw [offq]
      by_cases hj : j = i + d
      · subst hj
        rw [if_pos (by omega), Nat.add_sub_cancel_left, Rat.div_mul_cancel h0]
        grind
      · have hz := h2 hn j (by omega) g2
        rw [if_neg (by omega), hz]
    · show (if j = i then _ else s.2 j) = 0
      rw [if_neg (by omega)]
      exact h3 j (by omega)
theorem short_of {l : List Rat} {n : Nat} (h : ∀ j, n ≤ j → co l j = 0) : (trimQ l).length ≤ n := by
  rcases Nat.lt_or_ge n (trimQ l).length with h1 | h1
  · exfalso
    have hne : trimQ l ≠ [] := by intro e; rw [e] at h1; simp at h1
    refine trm_last (trm_trim l) hne ?_
    rw [co_trim]
    exact h _ (by omega)
  · exact h1
theorem dvf_all {p q : List Rat} {np d N : Nat} (hp : p.length = np) (hd : q.length = d + 1) (h0 : co q d ≠ 0) (hN : (N = 0 ∧ np ≤ d) ∨ N + d = np) :
    (∀ x, pv p x = pv (trimQ (lof N (dvf p q d (dwn N N)).2)) x * pv q x + pv (trimQ (lof np (dvf p q d (dwn N N)).1)) x) ∧ (trimQ (lof np (dvf p q d (dwn N N)).1)).length < q.length := by
  obtain ⟨h1, h2, _⟩ := dvf_holds hp hd h0 (by omega) N (Nat.le_refl _)
  refine ⟨fun x => by rw [pv_trim, pv_trim]; exact h1 x, ?_⟩
  have : (trimQ (lof np (dvf p q d (dwn N N)).1)).length ≤ d := by
    by_cases hn : N = 0
    · exact Nat.le_trans (trim_len _) (by simp [lof]; omega)
    · refine short_of fun j hj => ?_
      rw [co_lof]
      split
      · exact h2 hn j (by omega) (by assumption)
      · rfl
  omega
/-- How great it may get. -/
theorem Sml.dvf {p q : List Rat} {m n d : Nat} (h : Sml p m) (h' : Sml q n) : ∀ (pre : List Nat) (s : (Nat → Rat) × (Nat → Rat)) (k : Nat), (∀ j, Sm (s.1 j) ((m + 2 * n + 1) * 2 ^ k - (2 * n + 1))) → ∀ j, Sm ((pre.foldl (dstep q d) s).1 j) ((m + 2 * n + 1) * 2 ^ (k + pre.length) - (2 * n + 1)) := by
  intro pre
  induction pre with
  | nil => intro s k hs; exact hs
  | cons i pre ih =>
    intro s k hs
    rw [List.length_cons, show k + (pre.length + 1) = k + 1 + pre.length by omega]
    refine ih _ (k + 1) fun j => ?_
    have hp : 1 ≤ 2 ^ k := Nat.one_le_two_pow
    have h1 := Nat.mul_le_mul_left (m + 2 * n + 1) hp
    have e : (m + 2 * n + 1) * 2 ^ (k + 1) = (m + 2 * n + 1) * 2 ^ k * 2 := by rw [Nat.pow_succ, ← Nat.mul_assoc]
    rw [e]
    show Sm (offq s.1 q i (s.1 (i + d) / co q d) (d + 1) j) _
    rw [offq]
    split
    · exact ((hs j).sub (((hs _).div (h'.2 _)).mul (h'.2 _))).mono (by omega)
    · exact (hs j).mono (by omega)
theorem Sml.dvq {p q : List Rat} {m n d : Nat} (h : Sml p m) (h' : Sml q n) : ∀ (pre : List Nat) (s : (Nat → Rat) × (Nat → Rat)) (k : Nat), (∀ j, Sm (s.1 j) ((m + 2 * n + 1) * 2 ^ k - (2 * n + 1))) → (∀ j, Sm (s.2 j) ((m + 2 * n + 1) * 2 ^ k + n)) → ∀ j, Sm ((pre.foldl (dstep q d) s).2 j) ((m + 2 * n + 1) * 2 ^ (k + pre.length) + n) := by
  intro pre
  induction pre with
  | nil => intro s k _ hs; exact hs
  | cons i pre ih =>
    intro s k hs hq
    have hp : 1 ≤ 2 ^ k := Nat.one_le_two_pow
    have h1 := Nat.mul_le_mul_left (m + 2 * n + 1) hp
    have e : (m + 2 * n + 1) * 2 ^ (k + 1) = (m + 2 * n + 1) * 2 ^ k * 2 := by rw [Nat.pow_succ, ← Nat.mul_assoc]
    rw [List.length_cons, show k + (pre.length + 1) = k + 1 + pre.length by omega]
    refine ih _ (k + 1) (fun j => ?_) (fun j => ?_)
    · have h2 := Sml.dvf (d := d) h h' [i] s k hs j
      exact h2
    · show Sm (if j = i then s.1 (i + d) / co q d else s.2 j) _
      rw [e]
      split
      · exact ((hs _).div (h'.2 _)).mono (by omega)
      · exact (hq j).mono (by omega)

end Go.Proofs.YtmabolifokhlnaaGreatDoor
