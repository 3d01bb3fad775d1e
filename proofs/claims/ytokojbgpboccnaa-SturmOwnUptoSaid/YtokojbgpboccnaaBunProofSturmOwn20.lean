import Derived.OwnWalkIn
import Derived.Test.YtokojbgpboccnaaBunProofSturmOwn18
import Derived.Test.YtokojbgpboccnaaBunProofSturmOwn15
import Derived.Test.YtokojbgpboccnaaBunProofSturmOwn10
import Derived.Test.YtokojbgpboccnaaBunProofSturmOwn17
import Derived.Test.YtokojbgpboccnaaBunProofSturmOwn4
import Derived.Test.YtokojbgpboccnaaBunProofSturmOwn6
import Derived.Test.YtokojbgpboccnaaBunProofSturmOwn12
import Derived.Test.YtokojbgpboccnaaBunProofSturmOwn16
import Derived.Deep.LoopGhost
/-
  PACKAGE poly: slices.Backward over Numbers.
-/
namespace Go.Proofs.Ytokojbgpboccnaa
open Go.RowKit Go.Shelf
open Num
set_option linter.unusedVariables false
set_option maxRecDepth 100000
set_option linter.unusedSimpArgs false
attribute [local go_sem] Oper.semAt_some

set_option maxHeartbeats 4000000 in
/-- Each round is handed an x of this kind: its place (ix), its Number's cells (rv). -/
theorem pbk1_in (F : Fence) (m : Nat) (hF : F.fn 74) (hro : F.round = none) (hm : 1 ≤ m) {α : Type} (ix : α → Nat) (rv : α → Nr) (l Bs n c : Nat) (a : Option Addr) (hn : n ≤ 4398046511104) (Kp : World → World → Prop) (hKr : ∀ W, Kp W W) (hKt : ∀ {A B C}, Kp A B → Kp B C → Kp A C) (W : World) (hbox : ∀ W', Kp W W' → W'.cell? ⟨Bs, 0, none⟩ = some (.slice a n c))
    (hget : ∀ W', Kp W W' → ∀ i, i < n → ∃ x : α, ix x = i ∧ ∃ b, a = some ⟨b, 0, none⟩ ∧ At4 W' b (i * 4) (rv x)) (J Jx : List α → World → Prop)
    (hY : ∀ pre (x : α) W, J pre W → pre.length < n → YieldAt F (m - 1) Try.prog l #[.int .i64 (ix x : Int), nag (rv x)] W fun e W' =>
      (e = .returned (.bool true) ∧ J (pre ++ [x]) W' ∧ Kp W W') ∨ (e = .returned (.bool false) ∧ Jx (pre ++ [x]) W')) (h0 : J [] W) :
    CallsIn F m Try.prog 74 #[.func (.yield l) #[] #[], .pointer (some ⟨Bs, 0, none⟩)] W fun e W' => (∃ v, e = .returned v) ∧
      ((∃ ys : List α, ys.map ix = dwn n n ∧ J ys W') ∨ (∃ pre, Jx pre W')) := by
  refine callsIn_of_wp Try.func74 rfl hF ?_ hro
  simp only [Try.ntmps74, List.size_toArray, List.length_cons, List.length_nil, Nat.reduceAdd, Nat.reduceSub, Array.replicate_succ, Array.replicate_zero, List.push_toArray, List.append_toArray, List.nil_append, List.cons_append]
  have hB1 := hbox W (hKr W)
  gi_wp2
  gi_loopw [3] (fun i wr => ∃ (k : Nat) (ys : List α), k ≤ n ∧ i = .int .i64 ((n : Int) - 1 - k) ∧ ys.map ix = dwn n k ∧ J ys wr ∧ Kp W wr)
    (fun i _ => (intOf i + 1).toNat)
  case atStart => exact ⟨0, [], Nat.zero_le _, by simp, rfl, h0, hKr _⟩
  case round =>
    obtain ⟨k, ys, hk, rfl, hys, hJs, hnx⟩ := hrel
    have hB2 := hbox _ hnx
    by_cases hlt : k < n
    · obtain ⟨i, hi⟩ : ∃ i : Nat, (n : Int) - 1 - k = i ∧ i < n := ⟨n - 1 - k, by omega, by omega⟩
      obtain ⟨x, hx, b, rfl, c1, c2, c3, c4⟩ := hget _ hnx i hi.2
      have hlen : ys.length < n := by have := congrArg List.length hys; rw [List.length_map, dwn_len] at this; omega
      obtain ⟨fn, tmps, assign, body, hy, hR⟩ := hY _ x wr hJs hlen
      have hi0 := hi.2
      rw [hi.1]
      rw [hx] at hy
      dsimp only [nag] at hy
      gi_wp2
      refine hR.mono ?_
      rintro e W3 (⟨rfl, hJ3, hk3⟩ | ⟨rfl, hJx3⟩)
      · gi_wp2
        go_roundw
        case rel => exact ⟨k + 1, ys ++ [x], by omega, by have := hi.1; go_num, by rw [List.map_append, hys, dwn_succ, show n - 1 - k = i by omega, ← hx]; rfl, hJ3, hKt hnx hk3⟩
        case measure => simp [intOf]
      · gi_wp2
        refine bodyPost_ret (results_none rfl _ _ _) rfl ?_
        exact ⟨⟨_, rfl⟩, .inr ⟨_, hJx3⟩⟩
    · obtain rfl : k = n := by omega
      gi_wp2
      go_end0
      exact ⟨⟨_, rfl⟩, .inl ⟨ys, hys, hJs⟩⟩

set_option maxHeartbeats 1000000 in
theorem pbk_in (F : Fence) (m : Nat) (hF : F.fn 53) (hro : F.round = none) (a : Option Addr) (len cap : Nat) (w : World) :
    CallsIn F m Try.prog 53 #[.slice a len cap] w fun e w' => e = .returned (.func (.func 74) #[] #[.pointer (some ⟨w.heap.size, 0, none⟩)]) ∧ w' = w.alloc (.cells #[.slice a len cap] 37) := by
  refine callsIn_of_wp Try.func53 rfl hF ?_ hro
  simp only [Try.ntmps53, List.size_toArray, List.length_cons, List.length_nil, Nat.reduceAdd, Nat.reduceSub, Array.replicate_succ, Array.replicate_zero, List.push_toArray, List.append_toArray, List.nil_append, List.cons_append]
  gi_wp2
  go_ret
  exact ⟨rfl, rfl⟩

theorem pbk_stops (F : Fence) (m : Nat) (hF : F.fn 74) (hro : F.round = none) (hm : 1 ≤ m) {α : Type} (ix : α → Nat) (rv : α → Nr) (Bs n c : Nat) (a : Option Addr) (hn : n ≤ 4398046511104) (Kp : World → World → Prop) (hKr : ∀ W, Kp W W) (hKt : ∀ {A B C}, Kp A B → Kp B C → Kp A C) (w : World) (hKb : ∀ W, Below w.heap.size w W → Kp w W) (hbox : ∀ W', Kp w W' → W'.cell? ⟨Bs, 0, none⟩ = some (.slice a n c))
    (hget : ∀ W', Kp w W' → ∀ i, i < n → ∃ x : α, ix x = i ∧ ∃ b, a = some ⟨b, 0, none⟩ ∧ At4 W' b (i * 4) (rv x)) :
    SeqStopsK F m Try.prog 74 #[.pointer (some ⟨Bs, 0, none⟩)] (fun x : α => #[Value.int .i64 (ix x : Int), nag (rv x)]) Kp (fun ys => ys.map ix = dwn n n) (fun _ => True) n w := fun l J Jx W hW _ _ hY h0 => by
  refine (pbk1_in F m hF hro hm ix rv l Bs n c a hn Kp hKr hKt W (fun W' h => hbox W' (hKt (hKb W hW) h)) (fun W' h => hget W' (hKt (hKb W hW) h)) J Jx hY h0).mono ?_
  rintro e W' ⟨he, ⟨ys, hys, hj⟩ | ⟨pre, hj⟩⟩
  · exact ⟨he, .inl ⟨_, hys, hj⟩⟩
  · exact ⟨he, .inr ⟨_, trivial, hj⟩⟩
theorem NF.turned {w w' : World} {v : Value} {q : Rat} {row : Option Nat} (h : NF w v q) (hg : w.grownBy w' row) (hr : ∀ r, row = some r → ∃ o : Obj, w.heap[r]? = some o ∧ o.isCells = false) : NF w' v q := h.moved fun _ _ _ hv => hv.turned hg hr

end Go.Proofs.Ytokojbgpboccnaa

/-
  PACKAGE poly: boxes of polynomials.
-/
namespace Go.Proofs.Ytokojbgpboccnaa
open Go.RowKit Go.Shelf
open Num
set_option linter.unusedVariables false
set_option maxRecDepth 100000
set_option linter.unusedSimpArgs false
attribute [local go_sem] Oper.semAt_some

/-- A block of one cell: a polynomial's box. -/
def Sbx (w : World) (g : Nat) (p : Option Addr) (n c : Nat) : Prop := w.heap[g]? = some (.cells #[.slice p n c] 37 (0, 0))
section
variable {w w' : World} {g : Nat} {p : Option Addr} {n c : Nat}
theorem Sbx.lt (h : Sbx w g p n c) : g < w.heap.size := lt_of_block h
theorem Sbx.cells (h : Sbx w g p n c) : w.cell? ⟨g, 0, none⟩ = some (.slice p n c) := by
  have hh : w.heap[g]? = some (.cells #[.slice p n c] 37 (0, 0)) := h
  simp [World.cell?, hh]
theorem Sbx.free (h : Sbx w g p n c) (i : Nat) : w.frozen? ⟨g, i, none⟩ = false := by
  have hh : w.heap[g]? = some (.cells #[.slice p n c] 37 (0, 0)) := h
  simp [World.frozen?, hh]
theorem Sbx.stores (h : Sbx w g p n c) : w.cell? ⟨g, 0, none⟩ = some (.slice p n c) ∧ w.frozen? ⟨g, 0, none⟩ = false := ⟨h.cells, h.free 0⟩
theorem Sbx.below {K : Nat} (h : Sbx w g p n c) (hb : Below K w w') (hK : g < K) : Sbx w' g p n c := (hb.block g hK).trans h
theorem Sbx.dr (h : Sbx w g p n c) : Sbx w.drew g p n c := h
theorem Sbx.kept (h : Sbx w g p n c) (e : w'.heap[g]? = w.heap[g]?) : Sbx w' g p n c := e.trans h
theorem Sbx.made (w : World) (p : Option Addr) (n c : Nat) : Below w.heap.size w (w.alloc (.cells #[.slice p n c] 37)) ∧ Sbx (w.alloc (.cells #[.slice p n c] 37)) w.heap.size p n c ∧ (w.alloc (.cells #[.slice p n c] 37)).heap.size = w.heap.size + 1 :=
  ⟨(Below.refl _ _).alloc (Nat.le_refl _) _, by show (w.heap.push _)[w.heap.size]? = _; simp, by simp⟩
theorem Sbx.set0 (h : Sbx w g p n c) (q : Option Addr) (m d : Nat) : Sbx (w.setCell ⟨g, 0, none⟩ (.slice q m d)) g q m d := by
  have hh : w.heap[g]? = some (.cells #[.slice p n c] 37 (0, 0)) := h
  exact heap_set hh _
theorem heap1 {b g : Nat} (hne : b ≠ g) (x0 : Value) : (w.setCell ⟨g, 0, none⟩ x0).heap[b]? = w.heap[b]? := by
  rw [Below.heap_setCell _ _ _ _ (by exact hne)]
theorem Lim.sbx {v : Value} {xs : List Nat} (h : Lim w v xs) (hx : Sbx w g p n c) (i : Nat) (u : Value) : Lim (w.setCell ⟨g, i, none⟩ u) v xs := by
  have hg : w.heap[g]? = some (.cells #[.slice p n c] 37 (0, 0)) := hx
  obtain ⟨h1, q, d, h2, h3, h4, h5⟩ := h
  refine ⟨h1, q, d, h2, h3, h4, ?_⟩
  rcases h5 with h5 | ⟨b, off, h6, h7, h8⟩
  · exact .inl h5
  · refine .inr ⟨b, off, h6, by simpa [World.setCell] using h7, fun i hi => ?_⟩
    have h9 := h8 i hi
    by_cases hb : b = g
    · subst hb
      simp only [World.cell?, hg] at h9
      have hh : ∀ k : Nat, (#[Value.slice p n c] : Array Value)[k]? ≠ some (.int .u32 (dg xs i)) := by
        intro k
        rcases k with _ | k <;> simp
      exact absurd h9 (hh _)
    · rw [← h9]
      exact World.cell?_of_block (Below.heap_setCell _ _ _ _ (by exact hb))
theorem Whl.sbx {v : Value} {z : Int} {k : Nat} (h : Whl w v z k) (hx : Sbx w g p n c) (i : Nat) (u : Value) : Whl (w.setCell ⟨g, i, none⟩ u) v z k := by
  obtain ⟨s', sv', xs, h1, h2, h3⟩ := h
  exact ⟨s', sv', xs, h1, h2.sbx hx i u, h3⟩
theorem Sbx.last {w0 : World} {K : Nat} (h : Sbx w g p n c) (hb : Below K w0 w) (hg : K ≤ g) (q : Option Addr) (m d : Nat) :
    Sbx (w.setCell ⟨g, 0, none⟩ (.slice q m d)) g q m d ∧ Below K w0 (w.setCell ⟨g, 0, none⟩ (.slice q m d)) ∧ (∀ {v z k}, Whl w v z k → Whl (w.setCell ⟨g, 0, none⟩ (.slice q m d)) v z k) :=
  ⟨h.set0 q m d, hb.setCell (p := ⟨g, 0, none⟩) hg _, fun hv => hv.sbx h 0 _⟩
theorem sx (h : Hid (Sbx w g p n c)) (hb : Below w.heap.size w w') : Hid (Sbx w' g p n c) := hid (h.out.below hb h.out.lt)
theorem pno {v : Value} {l : List Rat} (h : Hid (PN w v l)) (hb : Below w.heap.size w w') : Hid (PN w' v l) := hid (h.out.on hb)
theorem PN.sbx {v : Value} {l : List Rat} (h : PN w v l) (hx : Sbx w g p n c) (q : Option Addr) (m d : Nat) : PN (w.setCell ⟨g, 0, none⟩ (.slice q m d)) v l := by
  have hg : w.heap[g]? = some (.cells #[.slice p n c] 37 (0, 0)) := hx
  obtain ⟨a, c', rs, h1, h2, h3, h4⟩ := h
  refine ⟨a, c', rs, h1, h2, h3, fun i hi => ?_⟩
  obtain ⟨b, e, hl, hA, hq⟩ := h4 i hi
  have hne : b ≠ g := by
    rintro rfl
    obtain ⟨c0, _⟩ := hA
    simp only [World.cell?, hg] at c0
    rcases hj : i * 4 with _ | j
    · rw [hj] at c0; simp at c0
    · rw [hj] at c0; simp at c0
  exact ⟨b, e, by simpa [World.setCell] using hl, hA.kept (heap1 hne _), hq.moved fun _ _ _ hv => hv.sbx hx 0 _⟩
theorem Sbx.turned {row : Option Nat} (h : Sbx w g p n c) (hg : w.grownBy w' row) (hr : ∀ r, row = some r → ∃ o : Obj, w.heap[r]? = some o ∧ o.isCells = false) : Sbx w' g p n c := by
  refine (hg.block g h.lt (fun e => ?_)).trans h
  obtain ⟨o, ho, hc⟩ := hr g e.symm
  rw [show w.heap[g]? = _ from h] at ho
  cases ho
  cases hc
theorem PN.turned {v : Value} {l : List Rat} {row : Option Nat} (h : PN w v l) (hg : w.grownBy w' row) (hr : ∀ r, row = some r → ∃ o : Obj, w.heap[r]? = some o ∧ o.isCells = false) : PN w' v l := by
  obtain ⟨a, c', rs, h1, h2, h3, h4⟩ := h
  refine ⟨a, c', rs, h1, h2, h3, fun i hi => ?_⟩
  obtain ⟨b, e, hl, hA, hq⟩ := h4 i hi
  refine ⟨b, e, Nat.lt_of_lt_of_le hl hg.size, hA.kept (hg.block b hl fun e => ?_), hq.turned hg hr⟩
  obtain ⟨o, ho, hc⟩ := hr b e.symm
  obtain ⟨c0, _⟩ := hA
  simp only [World.cell?, ho] at c0
  cases o <;> simp_all [Obj.isCells]
end
/-- A box of a slice that a region has made. -/
def NewS (w0 w : World) (u : Value) (b : Bool) (v : Value) : Prop := ∃ g, u = .pointer (some ⟨g, 0, none⟩) ∧ w0.heap.size ≤ g ∧ (b = false → Sbx w g none 0 0) ∧ (b = true → ∃ p n c, v = .slice p n c ∧ Sbx w g p n c)
theorem NewS.free {w0 w : World} {u v v' : Value} {b : Bool} (h : NewS w0 w u b v) (hb : b = false) : NewS w0 w u b v' := by
  obtain ⟨g, h1, h2, h3, h4⟩ := h
  exact ⟨g, h1, h2, h3, fun e => absurd (hb.symm.trans e) (by decide)⟩
theorem NewS.on {w0 w w' : World} {u v : Value} {b : Bool} (h : NewS w0 w u b v) (hb : Below w.heap.size w w') : NewS w0 w' u b v := by
  obtain ⟨g, h1, h2, h3, h4⟩ := h
  refine ⟨g, h1, h2, fun e => (h3 e).below hb (h3 e).lt, fun e => ?_⟩
  obtain ⟨p, n, c, e1, e2⟩ := h4 e
  exact ⟨p, n, c, e1, e2.below hb e2.lt⟩
end Go.Proofs.Ytokojbgpboccnaa

/-
  PACKAGE poly: what may be handed in.
-/
namespace Go.Proofs.Ytokojbgpboccnaa
open Go.RowKit Go.Shelf
open Num
set_option linter.unusedVariables false
set_option maxRecDepth 100000
set_option linter.unusedSimpArgs false
attribute [local go_sem] Oper.semAt_some

/-- The numbers of texts. -/
def rdp (ss : List ByteArray) : List Rat := ss.map qnum
theorem rdp_len (ss : List ByteArray) : (rdp ss).length = ss.length := List.length_map _
theorem co_rdp {ss : List ByteArray} {i : Nat} (h : i < ss.length) : co (rdp ss) i = qnum (tx ss i) := by
  rw [co_lt (by rw [rdp_len]; exact h), tx_lt h]; simp [rdp]
/-- May be handed in. -/
def GoodP (ss : List ByteArray) : Prop := ss.length ≤ 9 ∧ (∀ i, i < ss.length → GoodQ (tx ss i)) ∧ Trm (rdp ss)
/-- What is wrong with a list. -/
def BadP (ss : List ByteArray) (k : Int) : Prop := (9 < ss.length ∧ k = 4) ∨ (ss.length ≤ 9 ∧ ∃ i, i < ss.length ∧ (∀ j, j < i → GoodQ (tx ss j)) ∧ BadQ (tx ss i) k) ∨ (ss.length ≤ 9 ∧ (∀ i, i < ss.length → GoodQ (tx ss i)) ∧ ¬ Trm (rdp ss) ∧ k = 1)
theorem BadP.ne {ss : List ByteArray} {k : Int} (h : BadP ss k) : k ≠ 0 := by
  rcases h with ⟨_, rfl⟩ | ⟨_, i, _, _, h⟩ | ⟨_, _, _, rfl⟩
  · decide
  · exact h.ne
  · decide
theorem BadP.not {ss : List ByteArray} {k : Int} (h : BadP ss k) : ¬ GoodP ss := by
  rintro ⟨h1, h2, h3⟩
  rcases h with ⟨h, _⟩ | ⟨_, i, hi, _, h⟩ | ⟨_, _, h, _⟩
  · omega
  · exact h.not (h2 i hi)
  · exact h h3
theorem sml_rdp {ss : List ByteArray} (h : ∀ i, i < ss.length → GoodQ (tx ss i)) : Sml (rdp ss) 25 := ⟨by decide, fun i => by
  by_cases hi : i < ss.length
  · rw [co_rdp hi]; exact Sm.good (h i hi)
  · rw [co_ge (by rw [rdp_len]; omega)]; exact Sm.zero (by decide)⟩
theorem GoodP.sml {ss : List ByteArray} (h : GoodP ss) : Sml (rdp ss) 25 := sml_rdp h.2.1
theorem trm_of_len {l : List Rat} (h : (trimQ l).length = l.length) : Trm l := by
  have hz : ∀ j, (trimQ l).length ≤ j → co l j = 0 := fun j hj => by rw [← co_trim]; exact co_ge hj
  have e := (trim_stop (trim_len l) hz (by
    by_cases h0 : trimQ l = []
    · exact .inl (by rw [h0]; rfl)
    · exact .inr (by rw [← co_trim]; exact trm_last (trm_trim l) h0))).1
  rw [h, List.take_length] at e
  exact e
/-- No text is too long for a machine. -/
def Szs (ss : List ByteArray) : Prop := ∀ i, i < ss.length → (tx ss i).size ≤ maxLen
theorem Szs.nil : Szs [] := fun i hi => absurd hi (Nat.not_lt_zero i)
theorem size_sm {q : Rat} {m : Nat} (h : Sm q m) (hm : m ≤ 68719476736) : (qtxt q).size ≤ maxLen := by
  have e : Num4.B ^ m = 10 ^ (4 * m) := by rw [Nat.pow_mul]; rfl
  have h1 := size_qtxt (q := q) (4 * m) (by have := h.pos; omega) (by rw [← e]; exact h.1) (by rw [← e]; exact h.2)
  unfold maxLen
  omega
theorem Szs.map {l : List Rat} {m : Nat} (h : Sml l m) (hm : m ≤ 68719476736) : Szs (l.map qtxt) := fun i hi => by
  rw [List.length_map] at hi
  have h2 := h.2 i
  rw [co_lt hi] at h2
  rw [tx_lt (by rw [List.length_map]; exact hi), List.getElem_map]
  exact size_sm h2 hm
/-- What Read tells. -/
def PRead (ss : List ByteArray) (k : Int) (w : World) (v : Value) : Prop := (k = 0 ∧ GoodP ss ∧ PN w v (rdp ss)) ∨ (k ≠ 0 ∧ BadP ss k ∧ v = .slice none 0 0)

end Go.Proofs.Ytokojbgpboccnaa

/-
  PACKAGE poly: Read.
-/
namespace Go.Proofs.Ytokojbgpboccnaa
open Go.RowKit
open Num
set_option linter.unusedVariables false
set_option maxRecDepth 100000
set_option linter.unusedSimpArgs false

set_option maxHeartbeats 4000000 in
theorem pread_any {w : World} {v : Value} {ss : List ByteArray} (h : TxsW w v ss) (hs : Szs ss) :
    Calls Try.prog 11 #[v] w fun e w' => ∃ v' k, e = .returned (.tuple #[v', errv k]) ∧ PRead ss k w' v' ∧ (∀ g, v'.ownBlock = some g → w.heap.size ≤ g) ∧ Below w.heap.size w w' := by
  obtain ⟨p, c, rfl, hn, hc, hA⟩ := h
  obtain ⟨n, hN⟩ : ∃ n, ss.length = n := ⟨_, rfl⟩
  unfold Szs at hs
  rw [hN] at hn hA hs ⊢
  have HN := hid hN
  have HA := hid hA
  have HS := hid hs
  have hne := errv_neq
  have hgd := errv_guard
  unfold maxLen at hc
  clear hA hs hN
  by_cases h9 : 9 < n
  · go_enter Try.func11, Try.ntmps11
    go_wp2_with fail
    go_ret2
    exact ⟨_, 4, by rw [errv_some (by decide)]; rfl, .inr ⟨by decide, .inl ⟨by rw [HN.out]; exact h9, rfl⟩, rfl⟩, fun g hg => by simp [Value.ownBlock] at hg, Below.refl _ _⟩
  have h9i : ¬ (9 : Int) < (n : Int) := by omega
  go_enter Try.func11, Try.ntmps11
  go_wp2_with (refine wpList_make_ns _ rfl _ _ _ rfl Try.underlying37 n rfl rfl (by omega) ?_)
  intro w0 hrow hb0 hs0
  have B0 := hid (Below.refl w.heap.size w)
  have B := hid hb0
  have ROW := hid hrow
  clear hrow hb0 hs0
  go_wp2_with fail
  obtain ⟨b0, hb0⟩ : ∃ b0, b0 = w.heap.size := ⟨_, rfl⟩
  have HB := hid (show w.heap.size ≤ b0 by omega)
  rw [← hb0] at ROW ⊢
  clear hb0
  have W0 : ∃ rs : Nat → Nr, Hid (NRw w0 b0 n rs) := ⟨_, ROW⟩
  clear ROW
  obtain ⟨rs0, ROW⟩ := W0
  go_loopw [18] (fun x wr => ∃ (k : Nat) (rs : Nat → Nr), k ≤ n ∧ x = .int .i64 k ∧ Hid (∀ l, l < k → GoodQ (tx ss l)) ∧ Hid (NRw wr b0 n rs) ∧ Hid (∀ j, j < k → NF wr (nag (rs j)) (qnum (tx ss j))) ∧ Hid (Below w.heap.size w wr)) (fun x _ => n - (intOf x).toNat)
  case atStart => exact ⟨0, rs0, by omega, rfl, hid (fun l hl => by omega), ROW, hid (fun j hj => by omega), B⟩
  case round =>
    clear ROW B
    obtain ⟨k, rs, hk, rfl, HG, ROW, HW, B⟩ := hrel
    by_cases hlt : k < n
    · obtain ⟨b, off, rfl, hb, cu⟩ := HA.out k hlt
      have cu' := (B.out.cell (p := ⟨b, off + k, none⟩) hb).trans cu
      clear cu
      rcases goodQ_or_bad (tx ss k) with hg | ⟨z, hk⟩
      · go_wp2_with fail
        refine (qread_good hg _).mono ?_
        rintro e w101 ⟨v, rfl, hv, hb⟩
        obtain ⟨s5a, p5a, n5a, c5a, s5b, p5b, n5b, c5b, rfl⟩ := hv.opened
        replace ROW := rwo ROW hb
        replace HW := hid (fun q_ hq_ => (HW.out q_ hq_).on hb)
        replace B := bb B hb
        have HV := hid hv.nf
        clear hb hv
        have LB := hid ROW.out.lt
        obtain ⟨hb102, hx103, hs104⟩ := Nbx.made w101 s5a s5b (.slice p5a n5a c5a) (.slice p5b n5b c5b)
        replace HV := nf HV hb102
        replace ROW := rwo ROW hb102
        replace HW := hid (fun q_ hq_ => (HW.out q_ hq_).on hb102)
        replace B := bb B hb102
        have X7 := hid hx103
        clear hb102 hx103
        have cc105 := X7.out.cells
        have cc106 := ROW.out.stores hlt
        replace X7 := hid (X7.out.kept (ROW.out.far k (by have := HB.out; have := LB.out; omega) s5a p5a n5a c5a s5b p5b n5b c5b))
        replace HV := hid (HV.out.put ROW.out k s5a p5a n5a c5a s5b p5b n5b c5b)
        replace HW := hid (fun q_ hq_ => (HW.out q_ hq_).put ROW.out k s5a p5a n5a c5a s5b p5b n5b c5b)
        replace B := hid (ROW.out.below B.out k (by have := HB.out; have := LB.out; omega) s5a p5a n5a c5a s5b p5b n5b c5b)
        replace ROW := hid (ROW.out.put hlt s5a p5a n5a c5a s5b p5b n5b c5b)
        go_wp2_with fail
        go_roundw
        case rel => exact ⟨k + 1, _, by omega, by go_num, hid (fun l hl => if h : l < k then HG.out l h else (show k = l by omega) ▸ hg), ROW, hid (fun j hj => by
            by_cases hjk : j = k
            · subst hjk; rw [upd_self]; exact HV.out
            · rw [upd_ne _ _ hjk]; exact HW.out j (by omega)), B⟩
        case measure => simp [intOf]; omega
      · have hkk := errv_some hk.ne
        have HK := hid hk
        go_wp2_with fail
        refine (qread_bad hk _ (HS.out k hlt)).mono ?_
        rintro e w301 ⟨rfl, hb⟩
        replace B := bb B hb
        clear hb 
        obtain ⟨hb302, hx303, hs304⟩ := Nbx.made w301 false false (.slice none 0 0) (.slice none 0 0)
        replace B := bb B hb302
        have X7 := hid hx303
        clear hb302 hx303
        have cc305 := X7.out.cells
        go_wp2_with fail
        go_ret2
        exact ⟨.slice none 0 0, z, by rw [hkk]; rfl, .inr ⟨HK.out.ne, .inr (.inl ⟨by rw [HN.out]; omega, k, by rw [HN.out]; exact hlt, HG.out, HK.out⟩), rfl⟩, fun g hg => by simp [Value.ownBlock] at hg, B0.out.trans (B.out.mono B0.out.size)⟩
    · obtain rfl : k = n := by omega
      have HP : Hid (PN wr (.slice (some ⟨b0, 0, none⟩) k k) (rdp ss)) := hid (ROW.out.pn (by rw [rdp_len]; exact HN.out) (Nat.le_refl _) (by unfold maxLen; omega) (fun i hi => (HW.out i hi).cast (co_rdp (by rw [HN.out]; exact hi)).symm))
      obtain ⟨t, ht⟩ : ∃ t, (trimQ (rdp ss)).length = t := ⟨_, rfl⟩
      have hle : t ≤ k := by rw [← ht, ← HN.out, ← rdp_len]; exact trim_len _
      have HT := trim_pn HP.out
      rw [ht] at HT
      have HT := hid HT
      have HTT := hid ht
      clear ht
      by_cases hlt2 : t < k
      · have hlti : (t : Int) < (k : Int) := by omega
        go_wp2_with fail
        refine HT.out.mono ?_
        rintro e w1 ⟨rfl, hb1⟩
        replace B := bb B hb1
        clear hb1
        go_wp2_with fail
        go_ret2
        exact ⟨_, 1, by rw [errv_some (by decide)]; rfl, .inr ⟨by decide, .inr (.inr ⟨by rw [HN.out]; omega, fun i hi => HG.out i (by rw [HN.out] at hi; exact hi), fun ht => by have h1 := HTT.out; rw [ht, rdp_len, HN.out] at h1; omega, rfl⟩), rfl⟩, fun g hg => by simp [Value.ownBlock] at hg, B.out⟩
      · obtain rfl : t = k := by omega
        go_wp2_with fail
        refine HT.out.mono ?_
        rintro e w1 ⟨rfl, hb1⟩
        replace HP := pno HP hb1
        replace B := bb B hb1
        clear hb1
        go_wp2_with fail
        go_ret2
        exact ⟨_, 0, rfl, .inl ⟨rfl, ⟨by rw [HN.out]; omega, fun i hi => HG.out i (by rw [HN.out] at hi; exact hi), trm_of_len (by rw [HTT.out, rdp_len, HN.out])⟩, HP.out⟩, fun g hg => by simp [Value.ownBlock] at hg; have := HB.out; omega, B.out⟩

end Go.Proofs.Ytokojbgpboccnaa

/-
  PACKAGE poly: Check, readBoth, readWithNumber.
-/
namespace Go.Proofs.Ytokojbgpboccnaa
open Go.RowKit
open Num
set_option linter.unusedVariables false
set_option maxRecDepth 100000
set_option linter.unusedSimpArgs false

def WrongP (p q : List ByteArray) (k : Int) : Prop := BadP p k ∨ (GoodP p ∧ BadP q k)
def WrongX (p : List ByteArray) (x : ByteArray) (k : Int) : Prop := BadP p k ∨ (GoodP p ∧ BadQ x k)
theorem WrongP.ne {p q : List ByteArray} {k : Int} (h : WrongP p q k) : k ≠ 0 := by rcases h with h | ⟨_, h⟩ <;> exact h.ne
theorem WrongX.ne {p : List ByteArray} {x : ByteArray} {k : Int} (h : WrongX p x k) : k ≠ 0 := by rcases h with h | ⟨_, h⟩ <;> exact h.ne
theorem WrongP.not {p q : List ByteArray} {k : Int} (h : WrongP p q k) : ¬ (GoodP p ∧ GoodP q) := by
  rintro ⟨h1, h2⟩
  rcases h with h | ⟨_, h⟩
  · exact h.not h1
  · exact h.not h2
theorem WrongX.not {p : List ByteArray} {x : ByteArray} {k : Int} (h : WrongX p x k) : ¬ (GoodP p ∧ GoodQ x) := by
  rintro ⟨h1, h2⟩
  rcases h with h | ⟨_, h⟩
  · exact h.not h1
  · exact h.not h2
theorem TxsW.on {w w' : World} {v : Value} {ss : List ByteArray} (h : TxsW w v ss) (hb : Below w.heap.size w w') : TxsW w' v ss := h.below hb (Nat.le_refl _)
theorem PRead.on {w w' : World} {v : Value} {ss : List ByteArray} {k : Int} (h : PRead ss k w v) (hb : Below w.heap.size w w') : PRead ss k w' v := by
  rcases h with ⟨h1, h2, h3⟩ | h
  · exact .inl ⟨h1, h2, h3.on hb⟩
  · exact .inr h
theorem PRead.yes {w : World} {v : Value} {ss : List ByteArray} {k : Int} (h : PRead ss k w v) (hk : k = 0) : GoodP ss ∧ PN w v (rdp ss) := by
  rcases h with ⟨_, h⟩ | ⟨h, _⟩
  · exact h
  · exact absurd hk h
theorem PRead.no {w : World} {v : Value} {ss : List ByteArray} {k : Int} (h : PRead ss k w v) (hk : k ≠ 0) : BadP ss k ∧ v = .slice none 0 0 := by
  rcases h with ⟨h, _⟩ | ⟨_, h⟩
  · exact absurd h hk
  · exact h
theorem PN.nbx {w : World} {v : Value} {l : List Rat} {g : Nat} {s s' : Bool} {p p' : Option Addr} {n n' c c' : Nat} (h : PN w v l) (hx : Nbx w g s (.slice p n c) s' (.slice p' n' c')) (hne : v.ownBlock ≠ some g) (x0 x1 x2 x3 : Value) : PN ((((w.setCell ⟨g, 0, none⟩ x0).setCell ⟨g, 1, none⟩ x1).setCell ⟨g, 2, none⟩ x2).setCell ⟨g, 3, none⟩ x3) v l := by
  obtain ⟨a, c', rs, h1, h2, h3, h4⟩ := h
  refine ⟨a, c', rs, h1, h2, h3, fun i hi => ?_⟩
  obtain ⟨b, e, hl, hA, hq⟩ := h4 i hi
  have hbg : b ≠ g := by
    rintro rfl
    subst e
    rw [h1] at hne
    exact hne (by simp [Value.ownBlock])
  have hni : NoInt w g := by
    intro cur T f hh u hu
    rw [show w.heap[g]? = _ from hx] at hh
    cases hh
    simp at hu
    rcases hu with rfl | rfl | rfl | rfl
    · exact NI.bool _
    · exact NI.slc _ _ _
    · exact NI.bool _
    · exact NI.slc _ _ _
  refine ⟨b, e, by simpa [World.setCell] using hl, hA.kept (heap4 hbg _ _ _ _), hq.grown hni ⟨rfl, rfl, rfl, by simp [World.setCell], fun k _ hk => heap4 (fun e => hk (by rw [e])) _ _ _ _⟩⟩
/-- What readBoth tells. -/
def PBoth (p q : List ByteArray) (k : Int) (w : World) (v u : Value) : Prop := (k = 0 ∧ GoodP p ∧ GoodP q ∧ PN w v (rdp p) ∧ PN w u (rdp q)) ∨ (k ≠ 0 ∧ WrongP p q k ∧ v = .slice none 0 0 ∧ u = .slice none 0 0)
set_option maxHeartbeats 1000000 in
theorem pboth_any {w : World} {v u : Value} {p q : List ByteArray} (h : TxsW w v p) (h' : TxsW w u q) (hs : Szs p) (hs' : Szs q) :
    Calls Try.prog 36 #[v, u] w fun e w' => ∃ x y k, e = .returned (.tuple #[x, y, errv k]) ∧ PBoth p q k w' x y ∧ Below w.heap.size w w' := by
  have H1 := hid (pread_any h hs)
  have H2 := hid (fun (w' : World) (hb : Below w.heap.size w w') => pread_any (h'.on hb) hs')
  have hne := errv_neq
  have hgd := errv_guard
  clear h h' hs hs'
  go_enter Try.func36, Try.ntmps36
  go_wp2_with fail
  refine H1.out.mono ?_
  rintro e w1 ⟨x, k, rfl, hr, _, hb⟩
  have B := hid hb
  have R := hid hr
  clear hb hr
  by_cases hk : k = 0
  · obtain ⟨hg, hp⟩ := R.out.yes hk
    have HG := hid hg
    have HP := hid hp
    clear hg hp
    subst hk
    go_wp2_with fail
    refine (H2.out _ B.out).mono ?_
    rintro e w2 ⟨y, z, rfl, hr2, _, hb2⟩
    replace HP := pno HP hb2
    replace B := bb B hb2
    have R2 := hid hr2
    clear hb2 hr2
    by_cases hk2 : z = 0
    · obtain ⟨hg2, hp2⟩ := R2.out.yes hk2
      have HG2 := hid hg2
      have HP2 := hid hp2
      clear hg2 hp2
      subst hk2
      go_wp2_with fail
      go_ret3
      exact ⟨_, _, 0, rfl, .inl ⟨rfl, HG.out, HG2.out, HP.out, HP2.out⟩, B.out⟩
    · have HB := hid (R2.out.no hk2).1
      have HK2 := hid hk2
      have f2 : (z != 0) = true := by simpa using hk2
      go_wp2_with fail
      go_ret3
      exact ⟨_, _, z, rfl, .inr ⟨HK2.out, .inr ⟨HG.out, HB.out⟩, rfl, rfl⟩, B.out⟩
  · have HB := hid (R.out.no hk).1
    have HK := hid hk
    have f1 : (k != 0) = true := by simpa using hk
    go_wp2_with fail
    go_ret3
    exact ⟨_, _, k, rfl, .inr ⟨HK.out, .inl HB.out, rfl, rfl⟩, B.out⟩

end Go.Proofs.Ytokojbgpboccnaa

/-
  PACKAGE poly: Shift's mathematics.
-/
namespace Go.Proofs.Ytokojbgpboccnaa
open Go.RowKit
open Num
set_option linter.unusedVariables false
set_option maxRecDepth 100000
set_option linter.unusedSimpArgs false
end Go.Proofs.Ytokojbgpboccnaa

/-
  PACKAGE poly: Polynomial.Eval.
-/
namespace Go.Proofs.Ytokojbgpboccnaa
open Go.RowKit Go.Shelf
open Num
set_option linter.unusedVariables false
set_option maxRecDepth 100000
set_option linter.unusedSimpArgs false
attribute [local go_sem] Oper.semAt_some

/-- Horner, in the order in which the places come. -/
def evf (l : List Rat) (x : Rat) (pre : List Nat) : Rat := pre.foldl (fun v i => v * x + co l i) 0
theorem Sm.evf {l : List Rat} {x : Rat} {m n : Nat} (h : Sml l m) (hx : Sm x n) : ∀ (pre : List Nat) (v : Rat) (k : Nat), Sm v (k * (m + n + 1) + 1) → Sm (pre.foldl (fun v i => v * x + co l i) v) ((k + pre.length) * (m + n + 1) + 1) := by
  intro pre
  induction pre with
  | nil => intro v k hv; exact hv
  | cons i pre ih =>
    intro v k hv
    have h1 := ih (v * x + co l i) (k + 1) (((hv.mul hx).add (h.2 i)).mono (by rw [Nat.succ_mul]; omega))
    rw [List.length_cons, show k + (pre.length + 1) = k + 1 + pre.length by omega]
    exact h1

/-- What holds between two rounds. -/
def EI (w : World) (lp : List Rat) (n : Nat) (rs : Nat → Nr) (q : Rat) (s1a : Bool) (p1a : Option Addr) (n1a c1a : Nat) (s1b : Bool) (p1b : Option Addr) (n1b c1b : Nat) (pre : List {i : Nat // i < n}) (W : World) : Prop :=
  (∃ s5a p5a n5a c5a s5b p5b n5b c5b, Nbx W (w.heap.size + 1 + 1) s5a (.slice p5a n5a c5a) s5b (.slice p5b n5b c5b) ∧ NF W (.agg #[.bool s5a, .slice p5a n5a c5a, .bool s5b, .slice p5b n5b c5b]) (evf lp q (pre.map (·.1)))) ∧
  (∀ i, i < n → NF W (nag (rs i)) (co lp i)) ∧ Nbx W w.heap.size s1a (.slice p1a n1a c1a) s1b (.slice p1b n1b c1b) ∧ NF W (.agg #[.bool s1a, .slice p1a n1a c1a, .bool s1b, .slice p1b n1b c1b]) q ∧
  Nbx W (w.heap.size + 1) false (.slice none 0 0) false (.slice none 0 0) ∧ Below w.heap.size w W ∧ w.heap.size + 1 + 1 + 1 < W.heap.size
section
variable {w : World} {lp : List Rat} {n : Nat} {rs : Nat → Nr} {q : Rat} {s1a : Bool} {p1a : Option Addr} {n1a c1a : Nat} {s1b : Bool} {p1b : Option Addr} {n1b c1b : Nat}
theorem EI.own {K : Nat} (hK : w.heap.size ≤ K) : OwnFrom K (EI w lp n rs q s1a p1a n1a c1a s1b p1b n1b c1b) := by
  rintro s W W' row ⟨⟨s5a, p5a, n5a, c5a, s5b, p5b, n5b, c5b, h1, h2⟩, h3, h4, h5, h6, h7, h8⟩ hg hr
  have hr' := fun r e => (hr r e).2
  exact ⟨⟨s5a, p5a, n5a, c5a, s5b, p5b, n5b, c5b, h1.turned hg hr', h2.turned hg hr'⟩, fun i hi => (h3 i hi).turned hg hr', h4.turned hg hr', h5.turned hg hr', h6.turned hg hr', h7.grown hg h7.size (fun g e => Nat.le_trans hK (hr g e).1), Nat.lt_of_lt_of_le h8 hg.size⟩
theorem EI.alloc {pre : List {i : Nat // i < n}} {W : World} (h : EI w lp n rs q s1a p1a n1a c1a s1b p1b n1b c1b pre W) (o : Obj) : EI w lp n rs q s1a p1a n1a c1a s1b p1b n1b c1b pre (W.alloc o) := by
  have hb := (Below.refl W.heap.size W).alloc (Nat.le_refl _) o
  obtain ⟨⟨s5a, p5a, n5a, c5a, s5b, p5b, n5b, c5b, h1, h2⟩, h3, h4, h5, h6, h7, h8⟩ := h
  exact ⟨⟨s5a, p5a, n5a, c5a, s5b, p5b, n5b, c5b, h1.below hb h1.lt, h2.on hb⟩, fun i hi => (h3 i hi).on hb, h4.below hb h4.lt, h5.on hb, h6.below hb h6.lt, h7.trans (hb.mono h7.size), Nat.lt_of_lt_of_le h8 hb.size⟩
end

end Go.Proofs.Ytokojbgpboccnaa

/-
  PACKAGE poly: what its functions tell.
-/
namespace Go.Proofs.Ytokojbgpboccnaa
open Go.RowKit
open Num
set_option linter.unusedVariables false
set_option maxRecDepth 100000
set_option linter.unusedSimpArgs false

/-- What a function of two lists tells: a list, or nothing and an error. -/
def PTells (f : List Rat → List Rat → List Rat) (p q ss : List ByteArray) (k : Int) : Prop := (k = 0 ∧ GoodP p ∧ GoodP q ∧ ss = (f (rdp p) (rdp q)).map qtxt) ∨ (k ≠ 0 ∧ WrongP p q k ∧ ss = [])
def PEvals (p : List ByteArray) (x s : ByteArray) (k : Int) : Prop := (k = 0 ∧ GoodP p ∧ GoodQ x ∧ s = qtxt (pv (rdp p) (qnum x))) ∨ (k ≠ 0 ∧ WrongX p x k ∧ s = ⟨#[]⟩)
def PShifts (p : List ByteArray) (x : ByteArray) (ss : List ByteArray) (k : Int) : Prop := (k = 0 ∧ GoodP p ∧ GoodQ x ∧ ss = (moved (rdp p) (qnum x)).map qtxt) ∨ (k ≠ 0 ∧ WrongX p x k ∧ ss = [])
def PDerivs (p ss : List ByteArray) (k : Int) : Prop := (k = 0 ∧ GoodP p ∧ ss = (slope (rdp p)).map qtxt) ∨ (k ≠ 0 ∧ BadP p k ∧ ss = [])
def PDivs (p q ks rs : List ByteArray) (k : Int) : Prop :=
  (k = 0 ∧ GoodP p ∧ GoodP q ∧ rdp q ≠ [] ∧ ∃ y r, Trm y ∧ Trm r ∧ r.length < (rdp q).length ∧ y.length ≤ (rdp p).length ∧ (∀ x, pv (rdp p) x = pv y x * pv (rdp q) x + pv r x) ∧ ks = y.map qtxt ∧ rs = r.map qtxt) ∨
  (k = 5 ∧ GoodP p ∧ GoodP q ∧ rdp q = [] ∧ ks = [] ∧ rs = []) ∨ (k ≠ 0 ∧ WrongP p q k ∧ ks = [] ∧ rs = [])
/-- A list of texts of the call's own, none too long. -/
def OwnS (w : World) (K : Nat) (v : Value) (ss : List ByteArray) : Prop := OwnT w K v ss ∧ Szs ss
theorem OwnS.nil (w : World) (K : Nat) : OwnS w K (.slice none 0 0) [] := ⟨OwnT.nil w K, Szs.nil⟩
/-- Texts of a trimmed list. -/
theorem texts_s {w : World} {v : Value} {l : List Rat} {m : Nat} (h : PN w v l) (ht : Trm l) (hs : Sml l m) (hm : m ≤ 4294967296) (hl : l.length ≤ 1000000) :
    Calls Try.prog 13 #[v] w fun e w' => ∃ u, e = .returned u ∧ OwnS w' w.heap.size u (l.map qtxt) ∧ Below w.heap.size w w' := by
  refine (texts_p h hs hm hl).mono ?_
  rintro e w' ⟨u, rfl, ho, hb⟩
  have e : trimQ l = l := ht
  rw [e] at ho
  exact ⟨u, rfl, ⟨ho, Szs.map hs (by omega)⟩, hb⟩
theorem mulp_len (l r : List Rat) : (mulp l r).length ≤ l.length + r.length := Nat.le_trans (trim_len _) (by simp [lof])
end Go.Proofs.Ytokojbgpboccnaa

/-
  What is told is told again.
-/
namespace Go.Proofs.Ytokojbgpboccnaa
open Go.RowKit
open Num
set_option linter.unusedVariables false
set_option maxRecDepth 100000
set_option linter.unusedSimpArgs false

/-! ### What is told is told again -/
theorem BadQ.det {s : ByteArray} {k l : Int} (h : BadQ s k) (h' : BadQ s l) : k = l := by
  rcases h with ⟨h, rfl⟩ | ⟨h, _, rfl⟩ <;> rcases h' with ⟨h', rfl⟩ | ⟨h', _, rfl⟩
  · rfl
  · omega
  · omega
  · rfl
theorem BadP.det {p : List ByteArray} {k l : Int} (h : BadP p k) (h' : BadP p l) : k = l := by
  rcases h with ⟨h, rfl⟩ | ⟨h, i, hi, hg, hb⟩ | ⟨h, hg, ht, rfl⟩ <;> rcases h' with ⟨h', rfl⟩ | ⟨h', j, hj, hg', hb'⟩ | ⟨h', hg', ht', rfl⟩
  · rfl
  · omega
  · omega
  · omega
  · have e : i = j := by
      rcases Nat.lt_trichotomy i j with h1 | h1 | h1
      · exact absurd (hg' i h1) hb.not
      · exact h1
      · exact absurd (hg j h1) hb'.not
    subst e
    exact hb.det hb'
  · exact absurd (hg' i hi) hb.not
  · omega
  · exact absurd (hg j hj) hb'.not
  · rfl
theorem WrongP.det {p q : List ByteArray} {k l : Int} (h : WrongP p q k) (h' : WrongP p q l) : k = l := by
  rcases h with h | ⟨hg, h⟩ <;> rcases h' with h' | ⟨hg', h'⟩
  · exact h.det h'
  · exact absurd hg' h.not
  · exact absurd hg h'.not
  · exact h.det h'
theorem WrongX.det {p : List ByteArray} {x : ByteArray} {k l : Int} (h : WrongX p x k) (h' : WrongX p x l) : k = l := by
  rcases h with h | ⟨hg, h⟩ <;> rcases h' with h' | ⟨hg', h'⟩
  · exact h.det h'
  · exact absurd hg' h.not
  · exact absurd hg h'.not
  · exact h.det h'
theorem PTells.det {f : List Rat → List Rat → List Rat} {p q ss tt : List ByteArray} {k l : Int} (h : PTells f p q ss k) (h' : PTells f p q tt l) : k = l ∧ ss = tt := by
  rcases h with ⟨rfl, h1, h2, rfl⟩ | ⟨_, h1, rfl⟩ <;> rcases h' with ⟨rfl, h1', h2', rfl⟩ | ⟨_, h1', rfl⟩
  · exact ⟨rfl, rfl⟩
  · exact absurd ⟨h1, h2⟩ h1'.not
  · exact absurd ⟨h1', h2'⟩ h1.not
  · exact ⟨h1.det h1', rfl⟩
theorem PShifts.det {p : List ByteArray} {x : ByteArray} {ss tt : List ByteArray} {k l : Int} (h : PShifts p x ss k) (h' : PShifts p x tt l) : k = l ∧ ss = tt := by
  rcases h with ⟨rfl, h1, h2, rfl⟩ | ⟨_, h1, rfl⟩ <;> rcases h' with ⟨rfl, h1', h2', rfl⟩ | ⟨_, h1', rfl⟩
  · exact ⟨rfl, rfl⟩
  · exact absurd ⟨h1, h2⟩ h1'.not
  · exact absurd ⟨h1', h2'⟩ h1.not
  · exact ⟨h1.det h1', rfl⟩
theorem PDerivs.det {p ss tt : List ByteArray} {k l : Int} (h : PDerivs p ss k) (h' : PDerivs p tt l) : k = l ∧ ss = tt := by
  rcases h with ⟨rfl, h1, rfl⟩ | ⟨_, h1, rfl⟩ <;> rcases h' with ⟨rfl, h1', rfl⟩ | ⟨_, h1', rfl⟩
  · exact ⟨rfl, rfl⟩
  · exact absurd h1 h1'.not
  · exact absurd h1' h1.not
  · exact ⟨h1.det h1', rfl⟩
theorem PDivs.det {p q ks rs ks' rs' : List ByteArray} {k l : Int} (h : PDivs p q ks rs k) (h' : PDivs p q ks' rs' l) : k = l ∧ ks = ks' ∧ rs = rs' := by
  rcases h with ⟨rfl, h1, h2, h3, y, r, ty, tr, hl, _, hx, rfl, rfl⟩ | ⟨rfl, h1, h2, h3, rfl, rfl⟩ | ⟨_, h1, rfl, rfl⟩ <;> rcases h' with ⟨rfl, h1', h2', h3', y', r', ty', tr', hl', _, hx', rfl, rfl⟩ | ⟨rfl, h1', h2', h3', rfl, rfl⟩ | ⟨_, h1', rfl, rfl⟩
  · obtain ⟨rfl, rfl⟩ := div_unique h2.2.2 h3 ty tr ty' tr' hl hl' (fun x => (hx x).symm.trans (hx' x))
    exact ⟨rfl, rfl, rfl⟩
  · exact absurd h3' h3
  · exact absurd ⟨h1, h2⟩ h1'.not
  · exact absurd h3 h3'
  · exact ⟨rfl, rfl, rfl⟩
  · exact absurd ⟨h1, h2⟩ h1'.not
  · exact absurd ⟨h1', h2'⟩ h1.not
  · exact absurd ⟨h1', h2'⟩ h1.not
  · exact ⟨h1.det h1', rfl, rfl⟩

end Go.Proofs.Ytokojbgpboccnaa

/-
  LAWS of package poly: what they have in common.
-/
namespace Go.Proofs.Ytokojbgpboccnaa
open Go.RowKit
open Num
set_option linter.unusedVariables false
set_option maxRecDepth 100000
set_option linter.unusedSimpArgs false
theorem qtxt_rdp {ss : List ByteArray} (h : ∀ i, i < ss.length → GoodQ (tx ss i)) : (rdp ss).map qtxt = ss := by
  apply List.ext_getElem
  · rw [List.length_map, rdp_len]
  · intro i h1 h2
    have h3 := qtxt_good (h i h2)
    rw [tx_lt h2] at h3
    simp only [List.getElem_map, rdp]
    exact h3
def one11 : List ByteArray := [⟨#[49]⟩, ⟨#[49]⟩]
def one121 : List ByteArray := [⟨#[49]⟩, ⟨#[50]⟩, ⟨#[49]⟩]
theorem good_11 : GoodP one11 := by
  refine ⟨by decide, fun i hi => ?_, trm_of_last (.inr (by decide +kernel))⟩
  rcases (show i = 0 ∨ i = 1 by simp [one11] at hi; omega) with rfl | rfl <;> exact ⟨by decide, by decide⟩
theorem all_121 : ∀ i, i < one121.length → GoodQ (tx one121 i) := fun i hi => by
  rcases (show i = 0 ∨ i = 1 ∨ i = 2 by simp [one121] at hi; omega) with rfl | rfl | rfl <;> exact ⟨by decide, by decide⟩
theorem sq_11 : mulp (rdp one11) (rdp one11) = rdp one121 := by decide +kernel
theorem szs_11 : Szs one11 := fun i hi => by
  rcases (show i = 0 ∨ i = 1 by simp [one11] at hi; omega) with rfl | rfl <;> decide
theorem PTells.yes {f : List Rat → List Rat → List Rat} {p q ss : List ByteArray} {k : Int} (h : PTells f p q ss k) (hp : GoodP p) (hq : GoodP q) : k = 0 ∧ ss = (f (rdp p) (rdp q)).map qtxt := by
  rcases h with ⟨h1, _, _, h2⟩ | ⟨_, h, _⟩
  · exact ⟨h1, h2⟩
  · exact absurd ⟨hp, hq⟩ h.not
theorem PTells.ok {f : List Rat → List Rat → List Rat} {p q ss : List ByteArray} {k : Int} (h : PTells f p q ss k) (hk : k = 0) : GoodP p ∧ GoodP q ∧ ss = (f (rdp p) (rdp q)).map qtxt := by
  rcases h with ⟨_, h⟩ | ⟨h, _⟩
  · exact h
  · exact absurd hk h
theorem PTells.no {f : List Rat → List Rat → List Rat} {p q ss : List ByteArray} {k : Int} (h : PTells f p q ss k) (hk : k ≠ 0) : WrongP p q k ∧ ss = [] := by
  rcases h with ⟨h, _⟩ | ⟨_, h⟩
  · exact absurd h hk
  · exact h
theorem PEvals.ok {p : List ByteArray} {x s : ByteArray} {k : Int} (h : PEvals p x s k) (hk : k = 0) : GoodP p ∧ GoodQ x ∧ s = qtxt (pv (rdp p) (qnum x)) := by
  rcases h with ⟨_, h⟩ | ⟨h, _⟩
  · exact h
  · exact absurd hk h
theorem PEvals.yes {p : List ByteArray} {x s : ByteArray} {k : Int} (h : PEvals p x s k) (hp : GoodP p) (hx : GoodQ x) : k = 0 ∧ s = qtxt (pv (rdp p) (qnum x)) := by
  rcases h with ⟨h1, _, _, h2⟩ | ⟨_, h, _⟩
  · exact ⟨h1, h2⟩
  · exact absurd ⟨hp, hx⟩ h.not
theorem PShifts.ok {p : List ByteArray} {x : ByteArray} {ss : List ByteArray} {k : Int} (h : PShifts p x ss k) (hk : k = 0) : GoodP p ∧ GoodQ x ∧ ss = (moved (rdp p) (qnum x)).map qtxt := by
  rcases h with ⟨_, h⟩ | ⟨h, _⟩
  · exact h
  · exact absurd hk h
theorem PShifts.no {p : List ByteArray} {x : ByteArray} {ss : List ByteArray} {k : Int} (h : PShifts p x ss k) (hk : k ≠ 0) : WrongX p x k ∧ ss = [] := by
  rcases h with ⟨h, _⟩ | ⟨_, h⟩
  · exact absurd h hk
  · exact h
theorem PDerivs.ok {p ss : List ByteArray} {k : Int} (h : PDerivs p ss k) (hk : k = 0) : GoodP p ∧ ss = (slope (rdp p)).map qtxt := by
  rcases h with ⟨_, h⟩ | ⟨h, _⟩
  · exact h
  · exact absurd hk h
theorem PDerivs.yes {p ss : List ByteArray} {k : Int} (h : PDerivs p ss k) (hp : GoodP p) : k = 0 ∧ ss = (slope (rdp p)).map qtxt := by
  rcases h with ⟨h1, _, h2⟩ | ⟨_, h, _⟩
  · exact ⟨h1, h2⟩
  · exact absurd hp h.not
theorem PDivs.ok {p q ks rs : List ByteArray} {k : Int} (h : PDivs p q ks rs k) (hk : k = 0) : GoodP p ∧ GoodP q ∧ rdp q ≠ [] ∧ ∃ y r, Trm y ∧ Trm r ∧ r.length < (rdp q).length ∧ (∀ x, pv (rdp p) x = pv y x * pv (rdp q) x + pv r x) ∧ ks = y.map qtxt ∧ rs = r.map qtxt := by
  rcases h with ⟨_, h1, h2, h3, y, r, h4, h5, h6, _, h7, h8, h9⟩ | ⟨h, _⟩ | ⟨h, _⟩
  · exact ⟨h1, h2, h3, y, r, h4, h5, h6, h7, h8, h9⟩
  · rw [h] at hk; exact absurd hk (by decide)
  · exact absurd hk h
theorem PDivs.no {p q ks rs : List ByteArray} {k : Int} (h : PDivs p q ks rs k) (hk : k ≠ 0) : ks = [] ∧ rs = [] := by
  rcases h with ⟨h, _⟩ | ⟨_, _, _, _, h⟩ | ⟨_, _, h⟩
  · exact absurd h hk
  · exact h
  · exact h
theorem one_text {w : World} {K : Nat} (hK : K ≤ w.heap.size) (ss : List ByteArray) (hs : ss.length ≤ 1000) : OwnT (w.alloc (.cells (ss.map Value.string).toArray 9)) K (.slice (some ⟨w.heap.size, 0, none⟩) ss.length ss.length) ss := OwnT.new w K hK ss (by unfold maxLen; omega)
end Go.Proofs.Ytokojbgpboccnaa

/-
  PACKAGE poly: Div's mathematics.
-/
namespace Go.Proofs.Ytokojbgpboccnaa
open Go.RowKit
open Num
set_option linter.unusedVariables false
set_option maxRecDepth 100000
set_option linter.unusedSimpArgs false

/-- One step of a division, where the walk has it: what is left, and how often. -/
def dstep (q : List Rat) (d : Nat) (s : (Nat → Rat) × (Nat → Rat)) (i : Nat) : (Nat → Rat) × (Nat → Rat) :=
  (offq s.1 q i (s.1 (i + d) / co q d) (d + 1), fun k => if k = i then s.1 (i + d) / co q d else s.2 k)
def dvf (p q : List Rat) (d : Nat) (pre : List Nat) : (Nat → Rat) × (Nat → Rat) := pre.foldl (dstep q d) (co p, fun _ => 0)
theorem dvf_snoc (p q : List Rat) (d : Nat) (pre : List Nat) (i : Nat) : dvf p q d (pre ++ [i]) = dstep q d (dvf p q d pre) i := by simp [dvf]
theorem pv_off {R : Nat → Rat} {q : List Rat} {np i d : Nat} (f : Rat) (hd : q.length = d + 1) (hi : i + d < np) (x : Rat) : pv (lof np (offq R q i f (d + 1))) x = pv (lof np R) x - f * x ^ i * pv q x := by
  have h : ∀ x, pv (lof np (offq R q i f (d + 1))) x = pv (padd (lof np R) (psc (-1) (mulr (mon i f) q))) x := by
    intro x
    refine pv_congr (fun j => ?_) x
    rw [co_padd, co_psc, co_mulr, cnv_mon, co_lof, co_lof]
    by_cases hj : j < np
    · rw [if_pos hj, if_pos hj, offq]
      by_cases h1 : i ≤ j
      · rw [if_pos h1]
        by_cases h2 : j < i + (d + 1)
        · rw [if_pos ⟨h1, h2⟩]; grind
        · rw [if_neg (by omega), co_ge (l := q) (by omega)]; grind
      · rw [if_neg (by omega), if_neg h1]; grind
    · rw [if_neg hj, if_neg hj]
      split
      · rw [co_ge (l := q) (by omega)]; grind
      · grind
  rw [h x, pv_padd, pv_psc, pv_mulr, pv_mon]
  grind
theorem pv_put {Q : Nat → Rat} {n i : Nat} (f : Rat) (hi : i < n) (h0 : Q i = 0) (x : Rat) : pv (lof n fun k => if k = i then f else Q k) x = pv (lof n Q) x + f * x ^ i := by
  have h : ∀ x, pv (lof n fun k => if k = i then f else Q k) x = pv (padd (lof n Q) (mon i f)) x := by
    intro x
    refine pv_congr (fun j => ?_) x
    rw [co_padd, co_mon, co_lof, co_lof]
    by_cases hj : j < n
    · rw [if_pos hj, if_pos hj]
      by_cases h2 : j = i
      · subst h2; rw [if_pos rfl, if_pos rfl, h0]; grind
      · rw [if_neg h2, if_neg h2]; grind
    · rw [if_neg hj, if_neg hj, if_neg (by omega)]; grind
  rw [h x, pv_padd, pv_mon]
theorem dvf_holds {p q : List Rat} {np d N : Nat} (hp : p.length = np) (hd : q.length = d + 1) (h0 : co q d ≠ 0) (hN : N = 0 ∨ N + d = np) : ∀ k, k ≤ N →
    (∀ x, pv p x = pv (lof N (dvf p q d (dwn N k)).2) x * pv q x + pv (lof np (dvf p q d (dwn N k)).1) x) ∧ (N ≠ 0 → ∀ j, N - k + d ≤ j → j < np → (dvf p q d (dwn N k)).1 j = 0) ∧ (∀ j, j < N - k → (dvf p q d (dwn N k)).2 j = 0) := by
  intro k
  induction k with
  | zero =>
    intro _
    have e : dvf p q d (dwn N 0) = (co p, fun _ => 0) := rfl
    rw [e]
    refine ⟨fun x => ?_, fun hn j h1 h2 => by omega, fun j _ => rfl⟩
    rw [pv_zero (l := lof N fun _ => 0) (fun i => by rw [co_lof]; split <;> rfl), pv_congr (l := lof np (co p)) (m := p) (fun i => by
      rw [co_lof]
      split
      · rfl
      · rw [co_ge (by omega)])]
    grind
  | succ k ih =>
    intro hk
    obtain ⟨h1, h2, h3⟩ := ih (by omega)
    rw [dwn_succ, dvf_snoc]
    have hNd : N + d = np := hN.resolve_left (by omega)
    generalize dvf p q d (dwn N k) = s at h1 h2 h3 ⊢
    generalize hi : N - 1 - k = i
    refine ⟨fun x => ?_, fun hn j g1 g2 => ?_, fun j hj => ?_⟩
    · show pv p x = pv (lof N fun k => if k = i then s.1 (i + d) / co q d else s.2 k) x * pv q x + pv (lof np (offq s.1 q i (s.1 (i + d) / co q d) (d + 1))) x
      rw [pv_off _ hd (by omega), pv_put _ (by omega) (h3 i (by omega)), h1 x]
      grind
    · show offq s.1 q i (s.1 (i + d) / co q d) (d + 1) j = 0
      rw [offq]
      by_cases hj : j = i + d
      · subst hj
        rw [if_pos (by omega), Nat.add_sub_cancel_left, Rat.div_mul_cancel h0]
        grind
      · have hz := h2 hn j (by omega) g2
        rw [if_neg (by omega), hz]
    · show (if j = i then _ else s.2 j) = 0
      rw [if_neg (by omega)]
      exact h3 j (by omega)
theorem short_of {l : List Rat} {n : Nat} (h : ∀ j, n ≤ j → co l j = 0) : (trimQ l).length ≤ n := by
  rcases Nat.lt_or_ge n (trimQ l).length with h1 | h1
  · exfalso
    have hne : trimQ l ≠ [] := by intro e; rw [e] at h1; simp at h1
    refine trm_last (trm_trim l) hne ?_
    rw [co_trim]
    exact h _ (by omega)
  · exact h1
theorem dvf_all {p q : List Rat} {np d N : Nat} (hp : p.length = np) (hd : q.length = d + 1) (h0 : co q d ≠ 0) (hN : (N = 0 ∧ np ≤ d) ∨ N + d = np) :
    (∀ x, pv p x = pv (trimQ (lof N (dvf p q d (dwn N N)).2)) x * pv q x + pv (trimQ (lof np (dvf p q d (dwn N N)).1)) x) ∧ (trimQ (lof np (dvf p q d (dwn N N)).1)).length < q.length := by
  obtain ⟨h1, h2, _⟩ := dvf_holds hp hd h0 (by omega) N (Nat.le_refl _)
  refine ⟨fun x => by rw [pv_trim, pv_trim]; exact h1 x, ?_⟩
  have : (trimQ (lof np (dvf p q d (dwn N N)).1)).length ≤ d := by
    by_cases hn : N = 0
    · exact Nat.le_trans (trim_len _) (by simp [lof]; omega)
    · refine short_of fun j hj => ?_
      rw [co_lof]
      split
      · exact h2 hn j (by omega) (by assumption)
      · rfl
  omega
/-- How great it may get. -/
theorem Sml.dvf {p q : List Rat} {m n d : Nat} (h : Sml p m) (h' : Sml q n) : ∀ (pre : List Nat) (s : (Nat → Rat) × (Nat → Rat)) (k : Nat), (∀ j, Sm (s.1 j) ((m + 2 * n + 1) * 2 ^ k - (2 * n + 1))) → ∀ j, Sm ((pre.foldl (dstep q d) s).1 j) ((m + 2 * n + 1) * 2 ^ (k + pre.length) - (2 * n + 1)) := by
  intro pre
  induction pre with
  | nil => intro s k hs; exact hs
  | cons i pre ih =>
    intro s k hs
    rw [List.length_cons, show k + (pre.length + 1) = k + 1 + pre.length by omega]
    refine ih _ (k + 1) fun j => ?_
    have hp : 1 ≤ 2 ^ k := Nat.one_le_two_pow
    have h1 := Nat.mul_le_mul_left (m + 2 * n + 1) hp
    have e : (m + 2 * n + 1) * 2 ^ (k + 1) = (m + 2 * n + 1) * 2 ^ k * 2 := by rw [Nat.pow_succ, ← Nat.mul_assoc]
    rw [e]
    show Sm (offq s.1 q i (s.1 (i + d) / co q d) (d + 1) j) _
    rw [offq]
    split
    · exact ((hs j).sub (((hs _).div (h'.2 _)).mul (h'.2 _))).mono (by omega)
    · exact (hs j).mono (by omega)
theorem Sml.dvq {p q : List Rat} {m n d : Nat} (h : Sml p m) (h' : Sml q n) : ∀ (pre : List Nat) (s : (Nat → Rat) × (Nat → Rat)) (k : Nat), (∀ j, Sm (s.1 j) ((m + 2 * n + 1) * 2 ^ k - (2 * n + 1))) → (∀ j, Sm (s.2 j) ((m + 2 * n + 1) * 2 ^ k + n)) → ∀ j, Sm ((pre.foldl (dstep q d) s).2 j) ((m + 2 * n + 1) * 2 ^ (k + pre.length) + n) := by
  intro pre
  induction pre with
  | nil => intro s k _ hs; exact hs
  | cons i pre ih =>
    intro s k hs hq
    have hp : 1 ≤ 2 ^ k := Nat.one_le_two_pow
    have h1 := Nat.mul_le_mul_left (m + 2 * n + 1) hp
    have e : (m + 2 * n + 1) * 2 ^ (k + 1) = (m + 2 * n + 1) * 2 ^ k * 2 := by rw [Nat.pow_succ, ← Nat.mul_assoc]
    rw [List.length_cons, show k + (pre.length + 1) = k + 1 + pre.length by omega]
    refine ih _ (k + 1) (fun j => ?_) (fun j => ?_)
    · have h2 := Sml.dvf (d := d) h h' [i] s k hs j
      exact h2
    · show Sm (if j = i then s.1 (i + d) / co q d else s.2 j) _
      rw [e]
      split
      · exact ((hs _).div (h'.2 _)).mono (by omega)
      · exact (hq j).mono (by omega)

end Go.Proofs.Ytokojbgpboccnaa

/-
  PACKAGE poly: Polynomial.Div.
-/
namespace Go.Proofs.Ytokojbgpboccnaa
open Go.RowKit Go.Shelf
open Num
set_option linter.unusedVariables false
set_option maxRecDepth 100000
set_option linter.unusedSimpArgs false
attribute [local go_sem] Oper.semAt_some

theorem gby_far {w w' : World} {b g : Nat} (h : w.grownBy w' (some b)) (hl : g < w.heap.size) (hne : g ≠ b) : w'.heap[g]? = w.heap[g]? := h.block g hl (fun e => hne (by cases e; rfl))
theorem KeepsOthers.of_grown {W W' : World} {b : Nat} (h : W.grownBy W' (some b)) {cur : Array Value} {T : TypeId} {f : Nat × Nat} (hb : W.heap[b]? = some (.cells cur T f)) : KeepsOthers W W' :=
  ⟨h.size, fun k o hk ho => (h.block k (Array.getElem?_eq_some_iff.1 hk).1 (fun e => by
    cases e
    rw [hb] at hk
    cases hk
    cases ho)).trans hk⟩
theorem NRw.turned {w w' : World} {b n : Nat} {rs : Nat → Nr} {row : Option Nat} (h : NRw w b n rs) (hg : w.grownBy w' row) (hr : ∀ r, row = some r → ∃ o : Obj, w.heap[r]? = some o ∧ o.isCells = false) : NRw w' b n rs := by
  refine h.kept (hg.block b h.lt fun e => ?_)
  obtain ⟨cur, h, _⟩ := h
  obtain ⟨o, ho, hc⟩ := hr b e.symm
  rw [h] at ho
  cases ho
  cases hc
/-- What is left so far: in a row of its own, or there is nothing. -/
def RestOk (K U : Nat) (W : World) (a1 : Option Addr) (np : Nat) (R : Nat → Rat) : Prop := np = 0 ∨ ∃ b0 rs, a1 = some ⟨b0, 0, none⟩ ∧ K ≤ b0 ∧ b0 < U ∧ NRw W b0 np rs ∧ ∀ j, j < np → NF W (nag (rs j)) (R j)
theorem RestOk.on {K U : Nat} {W W' : World} {a1 : Option Addr} {np : Nat} {R : Nat → Rat} (h : RestOk K U W a1 np R) (hb : Below W.heap.size W W') : RestOk K U W' a1 np R := by
  rcases h with h | ⟨b0, rs, h1, h2, h3, h4, h5⟩
  · exact .inl h
  · exact .inr ⟨b0, rs, h1, h2, h3, h4.on hb, fun j hj => (h5 j hj).on hb⟩
theorem RestOk.turned {K U : Nat} {W W' : World} {a1 : Option Addr} {np : Nat} {R : Nat → Rat} {row : Option Nat} (h : RestOk K U W a1 np R) (hg : W.grownBy W' row) (hr : ∀ r, row = some r → ∃ o : Obj, W.heap[r]? = some o ∧ o.isCells = false) : RestOk K U W' a1 np R := by
  rcases h with h | ⟨b0, rs, h1, h2, h3, h4, h5⟩
  · exact .inl h
  · exact .inr ⟨b0, rs, h1, h2, h3, h4.turned hg hr, fun j hj => (h5 j hj).turned hg hr⟩
theorem RestOk.pn {K U : Nat} {W : World} {a1 : Option Addr} {np c1 : Nat} {R : Nat → Rat} (h : RestOk K U W a1 np R) (hc : np ≤ c1) (hm : c1 ≤ maxLen) : PN W (.slice a1 np c1) (lof np R) := by
  rcases h with rfl | ⟨b0, rs, rfl, h2, h3, h4, h5⟩
  · exact PN.nil W hm
  · exact h4.pn (by simp [lof]) hc hm (fun i hi => (h5 i hi).cast (by rw [co_lof, if_pos hi]))
theorem RestOk.own {K K' U : Nat} {W : World} {a1 : Option Addr} {np c1 : Nat} {R : Nat → Rat} {l : List Rat} (h : RestOk K U W a1 np R) (hK : K' ≤ K) (hl : l.length ≤ np) (hq : ∀ i, i < l.length → co l i = R i) (hc : np ≤ c1) (hm : c1 ≤ maxLen) : OwnN W K' (.slice a1 l.length c1) l := by
  rcases h with rfl | ⟨b0, rs, rfl, h2, h3, h4, h5⟩
  · obtain rfl : l = [] := List.length_eq_zero_iff.1 (by omega)
    exact .inl ⟨rfl, a1, c1, rfl, hm⟩
  · exact .inr ⟨b0, c1, rs, rfl, by omega, h4.less hl, by omega, hm, fun i hi => (h5 i (by omega)).cast (hq i hi).symm⟩
theorem OwnN.pn {W : World} {K : Nat} {v : Value} {l : List Rat} (h : OwnN W K v l) : PN W v l := by
  rcases h with ⟨rfl, a, c, rfl, hc⟩ | ⟨b, c, rs, rfl, hK, h1, h2, h3, h4⟩
  · exact PN.nil W hc
  · exact h1.pn rfl h2 h3 h4
theorem OwnN.rest {W : World} {K np : Nat} {v : Value} {l : List Rat} (h : OwnN W K v l) (hl : l.length = np) : ∃ a1 c1, v = .slice a1 np c1 ∧ np ≤ c1 ∧ c1 ≤ maxLen ∧ RestOk K W.heap.size W a1 np (co l) := by
  rcases h with ⟨rfl, a, c, rfl, hc⟩ | ⟨b, c, rs, rfl, hK, h1, h2, h3, h4⟩
  · subst hl; exact ⟨a, c, rfl, Nat.zero_le _, hc, .inl rfl⟩
  · rw [hl] at h1 h2 h4 ⊢
    exact ⟨_, c, rfl, h2, h3, .inr ⟨b, rs, rfl, hK, h1.lt, h1, h4⟩⟩
/-- What a round keeps. -/
def KD (n₀ Bs bq N : Nat) (A B : World) : Prop := Below n₀ A B ∧ B.heap[Bs]? = A.heap[Bs]? ∧ ((∃ rs, NRw A bq N rs) → ∃ rs, NRw B bq N rs)
theorem KD.refl (n₀ Bs bq N : Nat) (A : World) : KD n₀ Bs bq N A A := ⟨Below.refl _ _, rfl, id⟩
theorem KD.trans {n₀ Bs bq N : Nat} {A B C : World} (h : KD n₀ Bs bq N A B) (h' : KD n₀ Bs bq N B C) : KD n₀ Bs bq N A C := ⟨h.1.trans h'.1, h'.2.1.trans h.2.1, fun x => h'.2.2 (h.2.2 x)⟩
/-- What holds between two rounds. -/
def DI (w : World) (p q : List Rat) (d np N : Nat) (aq : Option Addr) (cq : Nat) (a1 : Option Addr) (c1 g7 g8 bq S : Nat) (pre : List {x : Nat × Nr // x.1 < N}) (W : World) : Prop :=
  Sbx W w.heap.size aq (d + 1) cq ∧ Sbx W g7 a1 np c1 ∧ Sbx W g8 (some ⟨bq, 0, none⟩) N N ∧ RestOk (w.heap.size + 1) g7 W a1 np (dvf p q d (pre.map (·.1.1))).1 ∧
  (∃ rs, NRw W bq N rs ∧ ∀ j, j < N → NF W (nag (rs j)) ((dvf p q d (pre.map (·.1.1))).2 j)) ∧ Below w.heap.size w W ∧ S < W.heap.size
theorem DI.own {w : World} {p q : List Rat} {d np N : Nat} {aq : Option Addr} {cq : Nat} {a1 : Option Addr} {c1 g7 g8 bq S K : Nat} (hK : w.heap.size ≤ K) : OwnFrom K (DI w p q d np N aq cq a1 c1 g7 g8 bq S) := by
  rintro s W W' row ⟨h1, h2, h3, h4, ⟨rs, h5, h6⟩, h7, h8⟩ hg hr
  have hr' := fun r e => (hr r e).2
  exact ⟨h1.turned hg hr', h2.turned hg hr', h3.turned hg hr', h4.turned hg hr', ⟨rs, h5.turned hg hr', fun j hj => (h6 j hj).turned hg hr'⟩, h7.grown hg h7.size (fun g e => Nat.le_trans hK (hr g e).1), Nat.lt_of_lt_of_le h8 hg.size⟩
theorem res_ttt {fn : Func} {t t' t'' : Tmp} {tmps : Array Value} {w : World} {u u' u'' : Value} (hf : fn.results = #[.tmp t, .tmp t', .tmp t'']) (hu : tmps.getD t undef = u) (hu' : tmps.getD t' undef = u') (hu'' : tmps.getD t'' undef = u'') : (results fn tmps).run Try.prog w = .ok (.tuple #[u, u', u'']) w := by
  simp only [Array.getD_eq_getD_getElem?] at hu hu' hu''
  simp [results, hf, Sem.run_bind, hu, hu', hu'']

set_option maxHeartbeats 8000000 in
theorem pdiv_own {w : World} {v u : Value} {lp lq : List Rat} {m n : Nat} (h : PN w v lp) (h' : PN w u lq) (hs : Sml lp m) (hs' : Sml lq n) (hne : trimQ lq ≠ []) (hm : (m + 2 * n + 1) * 2 ^ (lp.length + 1) ≤ 68719476736) (hl : lp.length ≤ 1000) (hl' : lq.length ≤ 1000000) :
    Calls Try.prog 40 #[v, u] w fun e w' => ∃ v' u' k r, e = .returned (.tuple #[v', u', .nilIface]) ∧ PN w' v' k ∧ OwnN w' w.heap.size u' r ∧ Trm k ∧ Trm r ∧ r.length < (trimQ lq).length ∧ k.length ≤ lp.length ∧ (∀ x, pv lp x = pv k x * pv lq x + pv r x) ∧ Sml k ((m + 2 * n + 1) * 2 ^ lp.length + n) ∧ Sml r ((m + 2 * n + 1) * 2 ^ lp.length) ∧ Below w.heap.size w w' := by
  refine (callsIn_wide (n := 10)).1 ?_
  obtain ⟨a, c, rfl, hn, hc⟩ := h.opened
  obtain ⟨aq, cq, rfl, hnq, hcq⟩ := h'.opened
  have HPQ := hid h'.trim
  have SQ := hid hs'.trim
  have HT0 := hid (show Trm (trimQ lq) from trm_trim lq)
  obtain ⟨d, hd⟩ : ∃ d, (trimQ lq).length = d + 1 := ⟨(trimQ lq).length - 1, by have := List.length_pos_iff.2 hne; omega⟩
  obtain ⟨np, hNP⟩ : ∃ np, lp.length = np := ⟨_, rfl⟩
  obtain ⟨nq, hNQ⟩ : ∃ nq, lq.length = nq := ⟨_, rfl⟩
  have HD := hid hd
  have HNP := hid hNP
  have HPV := hid (pv_trim lq)
  have H0 := hid (show co (trimQ lq) d ≠ 0 by have := trm_last HT0.out hne; rwa [hd] at this)
  have HP := hid h
  have HU := hid h'
  rw [hNP] at hn hm hl HP ⊢
  rw [hNQ] at hnq hl' HU ⊢
  rw [hd] at HPQ
  have SL := hid hs
  have HM := hid hm
  have hdq : d + 1 ≤ nq := by have := trim_len lq; omega
  obtain ⟨N, hN⟩ : ∃ N, N = np - d := ⟨_, rfl⟩
  have HN := hid hN
  have HC := hid hc
  have HNC := hid hn
  have HTR : ∀ w' : World, PN w' (.slice aq nq cq) lq → Calls Try.prog 17 #[.slice aq nq cq] w' fun e w'' => e = .returned (.slice aq (d + 1) cq) ∧ Below w'.heap.size w' w'' := fun w' h => by have := trim_pn h; rwa [HD.out] at this
  have HTR := hid HTR
  have B := hid (Below.refl w.heap.size w)
  obtain ⟨hb1, hx2, hs3⟩ := Sbx.made w aq nq cq
  replace HP := pno HP hb1
  replace HU := pno HU hb1
  replace B := bb B hb1
  have X3 := hid hx2
  clear hb1 hx2
  have LW := hid X3.out.lt
  clear h h' hs hs' hm hd hNP hNQ hne hN hs3
  unfold maxLen at hc hcq
  refine callsIn_of_wp_marks Try.func40 rfl trivial ?_ rfl
  simp only [Try.ntmps40, List.size_toArray, List.length_cons, List.length_nil, Nat.reduceAdd, Nat.reduceSub, Array.replicate_succ, Array.replicate_zero, List.push_toArray, List.append_toArray, List.nil_append, List.cons_append]
  refine wpIn_wide.2 ?_
  have cc4 := X3.out.cells
  go_wp2_with fail
  generalize hW : w.alloc (.cells #[.slice aq nq cq] 37) = W5 at *
  clear hW
  refine (HTR.out _ HU.out).mono ?_
  rintro e w6 ⟨rfl, hb⟩
  replace X3 := sx X3 hb
  replace HP := pno HP hb
  replace HU := pno HU hb
  replace B := bb B hb
  clear cc4
  clear hb 
  have LW0 := hid (Nat.le_refl w.heap.size)
  have cc7 := X3.out.stores
  obtain ⟨r8a, r8b, r8c⟩ := X3.out.last B.out (by have := LW0.out; omega) aq (d + 1) cq
  replace HP := hid (HP.out.sbx X3.out aq (d + 1) cq)
  replace HU := hid (HU.out.sbx X3.out aq (d + 1) cq)
  replace X3 := hid r8a
  replace B := hid r8b
  clear r8a r8b r8c
  have cc9 := X3.out.cells
  have hz0 : ¬ ((d : Int) + 1 = 0) := by omega
  go_wp2_with fail
  generalize hW : w6.setCell ⟨w.heap.size, 0, none⟩ (.slice aq (d + 1) cq) = W10 at *
  clear hW
  have LK := hid (show w.heap.size + 1 ≤ W10.heap.size from X3.out.lt)
  refine (nclone HP.out (by rw [HNP.out]; omega)).mono ?_
  rintro e w11 ⟨v1, rfl, ho, hb⟩
  obtain ⟨a1, c1, rfl, hc1, hc1m, hrest⟩ := ho.rest HNP.out
  replace X3 := sx X3 hb
  replace HP := pno HP hb
  replace HU := pno HU hb
  replace B := bb B hb
  clear cc7 cc9
  clear hb ho
  have HC1 := hid hc1m
  unfold maxLen at hc1m
  have HR : Hid (RestOk (w.heap.size + 1) w11.heap.size w11 a1 np (co lp)) := hid (by rcases hrest with h | ⟨b0, rs, h1, h2, h3⟩; exact .inl h; exact .inr ⟨b0, rs, h1, Nat.le_trans LK.out h2, h3⟩)
  clear hrest
  obtain ⟨g7, hg7⟩ : ∃ g7, g7 = w11.heap.size := ⟨_, rfl⟩
  rw [← hg7] at HR
  have L7 := hid (show w.heap.size < g7 by have := X3.out.lt; omega)
  obtain ⟨hb12, hx13, hs14⟩ := Sbx.made w11 a1 np c1
  have L1 := hid X3.out.lt
  replace X3 := sx X3 hb12
  replace HP := pno HP hb12
  replace HU := pno HU hb12
  replace B := bb B hb12
  replace HR := hid (HR.out.on hb12)
  have X7 := hid hx13
  clear hb12 hx13
  rw [← hg7] at X7
  have LS7 := hid (show (w11.alloc (.cells #[.slice a1 np c1] 37)).heap.size = g7 + 1 by rw [hg7]; exact hs14)
  have cc15 := X3.out.cells
  have cc16 := X7.out.cells
  have hx1 : IntKind.i64.wrap ((np : Int) - ((d : Int) + 1)) = (np : Int) - ((d : Int) + 1) := IntWalk.i64_in _ (by omega)
  have hx2 : IntKind.i64.wrap ((np : Int) - ((d : Int) + 1) + 1) = (np : Int) - ((d : Int) + 1) + 1 := IntWalk.i64_in _ (by omega)
  have hx3 : max ((np : Int) - ((d : Int) + 1) + 1) 0 = (N : Int) := by have := HN.out; omega
  have hNnp : N ≤ np := by have := HN.out; omega
  go_wp2_with (refine wpList_make_ns _ rfl _ _ _ rfl Try.underlying37 N rfl rfl (by omega) ?_)
  intro w0 hrow hbm hsm
  clear hx1 hx2 hx3 hz0 cc15 cc16
  replace hbm : Below (w11.alloc (.cells #[.slice a1 np c1] 37)).heap.size (w11.alloc (.cells #[.slice a1 np c1] 37)) w0 := by first | exact hbm | (rw [LS7.out, hg7]; exact hbm)
  rw [← hg7] at hrow hsm ⊢
  replace X3 := sx X3 hbm
  replace X7 := sx X7 hbm
  replace HP := pno HP hbm
  replace HU := pno HU hbm
  replace B := bb B hbm
  replace HR := hid (HR.out.on hbm)
  clear hg7 hbm
  obtain ⟨bq, hbq⟩ : ∃ bq, bq = g7 + 1 := ⟨_, rfl⟩
  rw [← hbq] at hrow ⊢
  have L8 := hid (show g7 < bq by omega)
  have QR := hid hrow
  have HQ0 : Hid (∀ t, t < N → NF w0 (nag Nz) ((fun _ => 0 : Nat → Rat) t)) := hid (fun t ht => NF.zero w0)
  obtain ⟨g8, hg8⟩ : ∃ g8, g8 = w0.heap.size := ⟨_, rfl⟩
  have L9 := hid (show bq < g8 by omega)
  clear hrow hbq hsm
  obtain ⟨hb17, hx18, hs19⟩ := Sbx.made w0 (some ⟨bq, 0, none⟩) N N
  have L2 := hid X7.out.lt
  replace X3 := sx X3 hb17
  replace X7 := sx X7 hb17
  replace QR := rwo QR hb17
  replace HQ0 := hid (fun q_ hq_ => (HQ0.out q_ hq_).on hb17)
  replace HP := pno HP hb17
  replace HU := pno HU hb17
  replace B := bb B hb17
  replace HR := hid (HR.out.on hb17)
  have X8 := hid hx18
  clear hb17 hx18
  rw [← hg8] at X8 hs19
  have hS8 := hs19
  have cc20 := X3.out.cells
  have cc21 := X7.out.cells
  have cc22 := X8.out.cells
  go_wp2_with fail
  rw [← hg8]
  clear hg8 cc20 cc21 cc22
  generalize hW8 : w0.alloc (.cells #[.slice (some ⟨bq, 0, none⟩) N N] 37) = W8 at *
  clear hW8
  refine (callsIn_wide.1 (pbk_in Fence.wide 10 trivial rfl _ _ _ _)).mono ?_
  rintro e w' ⟨rfl, rfl⟩
  have hbS := (Below.refl _ _).alloc (Nat.le_refl W8.heap.size) (.cells #[.slice (some ⟨bq, 0, none⟩) N N] 37)
  have cS : (W8.alloc (.cells #[.slice (some ⟨bq, 0, none⟩) N N] 37)).cell? ⟨g8 + 1, 0, none⟩ = some (.slice (some ⟨bq, 0, none⟩) N N) := by rw [← hS8]; simp
  replace X3 := sx X3 hbS
  replace X7 := sx X7 hbS
  replace X8 := sx X8 hbS
  replace QR := rwo QR hbS
  replace HQ0 := hid (fun q_ hq_ => (HQ0.out q_ hq_).on hbS)
  replace HP := pno HP hbS
  replace HU := pno HU hbS
  replace B := bb B hbS
  replace HR := hid (HR.out.on hbS)
  have hS9 : (W8.alloc (.cells #[.slice (some ⟨bq, 0, none⟩) N N] 37)).heap.size = g8 + 1 + 1 := by simp [hS8]
  rw [hS8]
  clear hbS
  generalize hW9 : W8.alloc (.cells #[.slice (some ⟨bq, 0, none⟩) N N] 37) = W0 at *
  clear hW9
  go_wp2_with fail
  refine (wpIn_wide (n := 10)).1 ?_
  have hsz := B.out.size
  have hI0 : DI w lp (trimQ lq) d np N aq cq a1 c1 g7 g8 bq (g8 + 1) [] W0 := ⟨X3.out, X7.out, X8.out, HR.out, ⟨_, QR.out, HQ0.out⟩, B.out, by omega⟩
  have hgrow : ∀ {W W' : World}, Below W.heap.size W W' → KD w.heap.size (g8 + 1) bq N W0 W → KD w.heap.size (g8 + 1) bq N W0 W := fun _ h => h
  have l7 := L7.out
  have l8 := L8.out
  have l9 := L9.out
  have hget : ∀ W', KD w.heap.size (g8 + 1) bq N W0 W' → ∀ i, i < N → ∃ x : {x : Nat × Nr // x.1 < N}, x.1.1 = i ∧ ∃ b, some (⟨bq, 0, none⟩ : Addr) = some ⟨b, 0, none⟩ ∧ At4 W' b (i * 4) x.1.2 := fun W' h i hi => by
    obtain ⟨rs, hr⟩ := h.2.2 ⟨_, QR.out⟩
    exact ⟨⟨(i, rs i), hi⟩, rfl, bq, rfl, hr.at hi⟩
  have hqr := QR.out.lt
  have hKB : ∀ W, Below W0.heap.size W0 W → KD w.heap.size (g8 + 1) bq N W0 W := fun W hW => ⟨hW.mono hsz, hW.block _ (by omega), fun ⟨rs, h⟩ => ⟨rs, h.on hW⟩⟩
  clear X3 X7 X8 HR QR HQ0 HP HU hgrow
  refine wpIn_rangeFunc_ownH (F := Fence.wide) rfl (by decide) (gf := 74) (lb := #[.pointer (some ⟨g8 + 1, 0, none⟩)]) rfl trivial (enters_of Try.func74 (by kernel_rfl) rfl)
    (pbk_stops Fence.wide (10 - 1) trivial rfl (by decide) (fun x : {x : Nat × Nr // x.1 < N} => x.1.1) (fun x => x.1.2) (g8 + 1) N N (some ⟨bq, 0, none⟩) (by omega) (KD w.heap.size (g8 + 1) bq N) (KD.refl _ _ _ _) (fun h h' => h.trans h') W0 hKB (fun W' h => (World.cell?_of_block h.2.1).trans cS) hget)
    (fun h h' => h.trans h') (fun W l o o' h1 h2 h3 h4 => ⟨belowK_b hsz W l o o' h1 h2 h3 h4, World.putObj_heap_other (fun e => by omega), fun ⟨rs, h⟩ => ⟨rs, h.kept (World.putObj_heap_other (fun e => by omega))⟩⟩) (Below.refl _ _) (fun _ => rfl)
    (DI w lp (trimQ lq) d np N aq cq a1 c1 g7 g8 bq (g8 + 1)) (fun _ _ _ => False) (DI.own hsz) (fun _ _ _ _ _ hs _ _ => hs) hI0
    (fun x a' W => a' = { tmps := #[Value.slice a np c, Value.slice aq nq cq, undef, Value.pointer (some ⟨w.heap.size, 0, none⟩), Value.slice none 0 0, Value.slice none 0 0, Value.nilIface, Value.pointer (some ⟨g7, 0, none⟩), Value.pointer (some ⟨g8, 0, none⟩), Value.int IntKind.i64 (x.1.1 : Int), Value.slice aq nq cq, Value.slice aq (d + 1) cq, Value.slice aq (d + 1) cq, Value.int IntKind.i64 ((d : Int) + 1), Value.bool false, undef, Value.slice a np c, Value.slice a1 np c1, Value.slice a np c, Value.int IntKind.i64 (np : Int), Value.slice aq (d + 1) cq, Value.int IntKind.i64 ((d : Int) + 1), Value.int IntKind.i64 ((np : Int) - ((d : Int) + 1)), Value.int IntKind.i64 ((np : Int) - ((d : Int) + 1) + 1), Value.int IntKind.i64 (N : Int), Value.slice (some ⟨bq, 0, none⟩) N N, Value.slice (some ⟨bq, 0, none⟩) N N, Value.func (Fn.func 74) #[] #[Value.pointer (some ⟨g8 + 1, 0, none⟩)], Value.int IntKind.i64 (x.1.1 : Int), (.agg #[.bool x.1.2.1.1, .slice x.1.2.1.2.1 x.1.2.1.2.2.1 x.1.2.1.2.2.2, .bool x.1.2.2.1, .slice x.1.2.2.2.1 x.1.2.2.2.2.1 x.1.2.2.2.2.2]), undef, undef, undef, undef, undef, undef, undef, undef, undef, undef, undef, undef, undef, undef, undef, undef], defers := [] })
    (fun x a' _ X Y row hs hg hr => hs)
    ?assign ?body ?done ?stop
  case assign =>
    intro l pre x W K hi hK
    simp only [nag] at hK ⊢
    gi_wp2
    exact hK _ _ ((KeepsOthers.refl _).from _) (KD.refl _ _ _ _ _) hi rfl
  case body =>
    rintro l pre ⟨⟨i, r⟩, hiN⟩ a' W hl_ _ hi rfl hlt
    simp only [] at hiN
    obtain ⟨hx3, hx7, hx8, hrest, ⟨rq, hrq, hqw⟩, hBw, hs1⟩ := hi
    have hnp0 : np ≠ 0 := by omega
    obtain ⟨b0, rs, rfl, hk0, hu0, hr0, hw0⟩ := hrest.resolve_left hnp0
    have X3 := hid hx3
    have X7 := hid hx7
    have X8 := hid hx8
    have ROW := hid hr0
    have HW := hid hw0
    have QR := hid hrq
    have QW := hid hqw
    have B := hid hBw
    have HS1 := hid hs1
    have HND : N + d = np := by have := HN.out; omega
    have LK0 := hid hk0
    have LU0 := hid hu0
    have HPL := hid (show (pre.map (fun x : {x : Nat × Nr // x.1 < N} => x.1.1)).length = pre.length from List.length_map _)
    have SR := hid (show ∀ j, Sm ((dvf lp (trimQ lq) d (pre.map (·.1.1))).1 j) ((m + 2 * n + 1) * 2 ^ pre.length - (2 * n + 1)) by
      intro j
      have := Sml.dvf (d := d) SL.out SQ.out (pre.map (·.1.1)) (co lp, fun _ => 0) 0 (fun j => (SL.out.2 j).mono (by omega)) j
      rw [HPL.out, Nat.zero_add] at this
      exact this)
    have HB1 := hid (show ((m + 2 * n + 1) * 2 ^ pre.length - (2 * n + 1)) + ((m + 2 * n + 1) * 2 ^ pre.length - (2 * n + 1)) + n + n + 2 ≤ 68719476736 by
      have h1 : 2 ^ pre.length ≤ 2 ^ np := Nat.pow_le_pow_right (by omega) (by omega)
      have h2 := Nat.mul_le_mul_left (m + 2 * n + 1) h1
      have h3 := HM.out
      rw [Nat.pow_succ, ← Nat.mul_assoc] at h3
      have h4 : 1 ≤ 2 ^ pre.length := Nat.one_le_two_pow
      have h5 := Nat.mul_le_mul_left (m + 2 * n + 1) h4
      omega)
    have HE := hid (dvf_snoc lp (trimQ lq) d (pre.map (·.1.1)) i)
    have hidn : i + (d + 1) ≤ np := by omega
    clear hx3 hx7 hx8 hrest hrq hqw hBw hs1 hk0 hu0 hr0 hw0 hI0 cS hget hKB hlt hqr
    generalize dvf lp (trimQ lq) d (pre.map (·.1.1)) = st at *
    generalize (m + 2 * n + 1) * 2 ^ pre.length - (2 * n + 1) = M at *
    obtain ⟨R, Q⟩ := st
    simp only [] at HW QW SR HE
    obtain ⟨ff, hff⟩ : ∃ ff, R (i + d) / co (trimQ lq) d = ff := ⟨_, rfl⟩
    have HFF := hid hff
    clear hff
    gi_wp2
    refine region_ops_in (by kernel_rfl) (by kernel_rfl) (by kernel_rfl) (fun a f a' w' => ∃ u30 u31 u32 u33 u34 u35 u36 u37 u38 u39 u40 u41 : Value, a' = { tmps := ((((((((((((a.tmps.setIfInBounds 30 u30).setIfInBounds 31 u31).setIfInBounds 32 u32).setIfInBounds 33 u33).setIfInBounds 34 u34).setIfInBounds 35 u35).setIfInBounds 36 u36).setIfInBounds 37 u37).setIfInBounds 38 u38).setIfInBounds 39 u39).setIfInBounds 40 u40).setIfInBounds 41 u41), defers := a.defers } ∧ Hid (W.grownBy w' (some b0) ∨ f 12 = true) ∧ Hid (f 0 = true → u30 = .slice (some ⟨bq, 0, none⟩) N N) ∧ Hid (f 1 = true → u31 = .int .i64 (i : Int)) ∧ Hid (f 2 = true → u32 = .slice (some ⟨b0, 0, none⟩) np c1) ∧ Hid (f 3 = true → u33 = .int .i64 (i : Int)) ∧ Hid (f 4 = true → u34 = .int .i64 (i : Int)) ∧ Hid (f 5 = true → u35 = .slice aq (d + 1) cq) ∧ Hid (f 6 = true → u36 = .int .i64 ((d : Int) + 1)) ∧ Hid (f 7 = true → u37 = .int .i64 ((i : Int) + ((d : Int) + 1))) ∧ Hid (f 8 = true → u38 = .slice (some ⟨b0, i * 4, none⟩) (d + 1) (c1 - i)) ∧ Hid (f 9 = true → u39 = .slice aq (d + 1) cq) ∧ Hid (f 10 = true → (NF w' u40 ff ∧ ∃ rs, NRw w' b0 np rs ∧ ∀ j, j < np → NF w' (nag (rs j)) (offq R (trimQ lq) i ff (d + 1) j))) ∧ Hid (f 11 = true → u41 = .pointer (some ⟨bq, i * 4, none⟩)) ∧ Hid (f 12 = true → (Sbx w' w.heap.size aq (d + 1) cq ∧ Sbx w' g7 (some ⟨b0, 0, none⟩) np c1 ∧ Sbx w' g8 (some ⟨bq, 0, none⟩) N N ∧ RestOk (w.heap.size + 1) g7 w' (some ⟨b0, 0, none⟩) np (offq R (trimQ lq) i ff (d + 1)) ∧ (∃ rs, NRw w' bq N rs ∧ ∀ j, j < N → NF w' (nag (rs j)) (if j = i then ff else Q j)) ∧ Below w.heap.size w w' ∧ g8 + 1 < w'.heap.size ∧ KD w.heap.size (g8 + 1) bq N W w' ∧ KeepsOthers W w')) ∧ (f 12 = true → f 0 = true) ∧ (f 12 = true → f 1 = true) ∧ (f 12 = true → f 2 = true) ∧ (f 12 = true → f 3 = true) ∧ (f 12 = true → f 4 = true) ∧ (f 12 = true → f 5 = true) ∧ (f 12 = true → f 6 = true) ∧ (f 12 = true → f 7 = true) ∧ (f 12 = true → f 8 = true) ∧ (f 12 = true → f 9 = true) ∧ (f 12 = true → f 10 = true) ∧ (f 12 = true → f 11 = true) ∧ (f 10 = false → Hid (Below W.heap.size W w'))) ?h0 ⟨?s0, ?s1, ?s2, ?s3, ?s4, ?s5, ?s6, ?s7, ?s8, ?s9, ?s10, ?s11, ?s12, trivial⟩ ?hend
    case h0 =>
      simp only [List.setIfInBounds_toArray, List.set_cons_zero, List.set_cons_succ]
      exact ⟨_, _, _, _, _, _, _, _, _, _, _, _, rfl, hid (.inl ((gby_on (hid (gby_refl W (some b0))) (Below.drew (Below.refl _ _))).out)), hid (fun h => by cases h), hid (fun h => by cases h), hid (fun h => by cases h), hid (fun h => by cases h), hid (fun h => by cases h), hid (fun h => by cases h), hid (fun h => by cases h), hid (fun h => by cases h), hid (fun h => by cases h), hid (fun h => by cases h), hid (fun h => by cases h), hid (fun h => by cases h), hid (fun h => by cases h), fun h => h, fun h => h, fun h => h, fun h => h, fun h => h, fun h => h, fun h => h, fun h => h, fun h => h, fun h => h, fun h => h, fun h => h, fun _ => hid (Below.drew (Below.refl _ _))⟩
    case s0 =>
      rintro f a1 w1 ⟨u30, u31, u32, u33, u34, u35, u36, u37, u38, u39, u40, u41, rfl, HBW, h0, h1, h2, h3, h4, h5, h6, h7, h8, h9, h10, h11, h12, o12_0, o12_1, o12_2, o12_3, o12_4, o12_5, o12_6, o12_7, o12_8, o12_9, o12_10, o12_11, hb0⟩ hf hd K hK
      replace HBW := hid (HBW.out.resolve_right (fun e => absurd (o12_0 e) (by rw [hf]; decide)))
      simp only [List.setIfInBounds_toArray, List.set_cons_zero, List.set_cons_succ] at hK ⊢
      replace hK := hid hK
      have y1 := (X8.out.kept (gby_far HBW.out X8.out.lt (by have := LK0.out; have := LU0.out; omega))).cells
      go_simp
      exact hK.out _ _ ⟨_, _, _, _, _, _, _, _, _, _, _, _, rfl, hid (.inl (HBW).out), hid (fun h => rfl), hid (fun h => h1.out h), hid (fun h => h2.out h), hid (fun h => h3.out h), hid (fun h => h4.out h), hid (fun h => h5.out h), hid (fun h => h6.out h), hid (fun h => h7.out h), hid (fun h => h8.out h), hid (fun h => h9.out h), hid (fun h => h10.out h), hid (fun h => h11.out h), hid (fun h => absurd (o12_0 h) (by rw [hf]; decide)), fun _ => rfl, fun h => o12_1 h, fun h => o12_2 h, fun h => o12_3 h, fun h => o12_4 h, fun h => o12_5 h, fun h => o12_6 h, fun h => o12_7 h, fun h => o12_8 h, fun h => o12_9 h, fun h => o12_10 h, fun h => o12_11 h, fun h => hb0 h⟩
    case s1 =>
      rintro f a1 w1 ⟨u30, u31, u32, u33, u34, u35, u36, u37, u38, u39, u40, u41, rfl, HBW, h0, h1, h2, h3, h4, h5, h6, h7, h8, h9, h10, h11, h12, o12_0, o12_1, o12_2, o12_3, o12_4, o12_5, o12_6, o12_7, o12_8, o12_9, o12_10, o12_11, hb0⟩ hf hd K hK
      replace HBW := hid (HBW.out.resolve_right (fun e => absurd (o12_1 e) (by rw [hf]; decide)))
      simp only [List.setIfInBounds_toArray, List.set_cons_zero, List.set_cons_succ] at hK ⊢
      replace hK := hid hK
      go_simp
      exact hK.out _ _ ⟨_, _, _, _, _, _, _, _, _, _, _, _, rfl, hid (.inl (HBW).out), hid (fun h => h0.out h), hid (fun h => rfl), hid (fun h => h2.out h), hid (fun h => h3.out h), hid (fun h => h4.out h), hid (fun h => h5.out h), hid (fun h => h6.out h), hid (fun h => h7.out h), hid (fun h => h8.out h), hid (fun h => h9.out h), hid (fun h => h10.out h), hid (fun h => h11.out h), hid (fun h => absurd (o12_1 h) (by rw [hf]; decide)), fun h => o12_0 h, fun _ => rfl, fun h => o12_2 h, fun h => o12_3 h, fun h => o12_4 h, fun h => o12_5 h, fun h => o12_6 h, fun h => o12_7 h, fun h => o12_8 h, fun h => o12_9 h, fun h => o12_10 h, fun h => o12_11 h, fun h => hb0 h⟩
    case s2 =>
      rintro f a1 w1 ⟨u30, u31, u32, u33, u34, u35, u36, u37, u38, u39, u40, u41, rfl, HBW, h0, h1, h2, h3, h4, h5, h6, h7, h8, h9, h10, h11, h12, o12_0, o12_1, o12_2, o12_3, o12_4, o12_5, o12_6, o12_7, o12_8, o12_9, o12_10, o12_11, hb0⟩ hf hd K hK
      replace HBW := hid (HBW.out.resolve_right (fun e => absurd (o12_2 e) (by rw [hf]; decide)))
      simp only [List.setIfInBounds_toArray, List.set_cons_zero, List.set_cons_succ] at hK ⊢
      replace hK := hid hK
      have y1 := (X7.out.kept (gby_far HBW.out X7.out.lt (by have := LK0.out; have := LU0.out; omega))).cells
      go_simp
      exact hK.out _ _ ⟨_, _, _, _, _, _, _, _, _, _, _, _, rfl, hid (.inl (HBW).out), hid (fun h => h0.out h), hid (fun h => h1.out h), hid (fun h => rfl), hid (fun h => h3.out h), hid (fun h => h4.out h), hid (fun h => h5.out h), hid (fun h => h6.out h), hid (fun h => h7.out h), hid (fun h => h8.out h), hid (fun h => h9.out h), hid (fun h => h10.out h), hid (fun h => h11.out h), hid (fun h => absurd (o12_2 h) (by rw [hf]; decide)), fun h => o12_0 h, fun h => o12_1 h, fun _ => rfl, fun h => o12_3 h, fun h => o12_4 h, fun h => o12_5 h, fun h => o12_6 h, fun h => o12_7 h, fun h => o12_8 h, fun h => o12_9 h, fun h => o12_10 h, fun h => o12_11 h, fun h => hb0 h⟩
    case s3 =>
      rintro f a1 w1 ⟨u30, u31, u32, u33, u34, u35, u36, u37, u38, u39, u40, u41, rfl, HBW, h0, h1, h2, h3, h4, h5, h6, h7, h8, h9, h10, h11, h12, o12_0, o12_1, o12_2, o12_3, o12_4, o12_5, o12_6, o12_7, o12_8, o12_9, o12_10, o12_11, hb0⟩ hf hd K hK
      replace HBW := hid (HBW.out.resolve_right (fun e => absurd (o12_3 e) (by rw [hf]; decide)))
      simp only [List.setIfInBounds_toArray, List.set_cons_zero, List.set_cons_succ] at hK ⊢
      replace hK := hid hK
      go_simp
      exact hK.out _ _ ⟨_, _, _, _, _, _, _, _, _, _, _, _, rfl, hid (.inl (HBW).out), hid (fun h => h0.out h), hid (fun h => h1.out h), hid (fun h => h2.out h), hid (fun h => rfl), hid (fun h => h4.out h), hid (fun h => h5.out h), hid (fun h => h6.out h), hid (fun h => h7.out h), hid (fun h => h8.out h), hid (fun h => h9.out h), hid (fun h => h10.out h), hid (fun h => h11.out h), hid (fun h => absurd (o12_3 h) (by rw [hf]; decide)), fun h => o12_0 h, fun h => o12_1 h, fun h => o12_2 h, fun _ => rfl, fun h => o12_4 h, fun h => o12_5 h, fun h => o12_6 h, fun h => o12_7 h, fun h => o12_8 h, fun h => o12_9 h, fun h => o12_10 h, fun h => o12_11 h, fun h => hb0 h⟩
    case s4 =>
      rintro f a1 w1 ⟨u30, u31, u32, u33, u34, u35, u36, u37, u38, u39, u40, u41, rfl, HBW, h0, h1, h2, h3, h4, h5, h6, h7, h8, h9, h10, h11, h12, o12_0, o12_1, o12_2, o12_3, o12_4, o12_5, o12_6, o12_7, o12_8, o12_9, o12_10, o12_11, hb0⟩ hf hd K hK
      replace HBW := hid (HBW.out.resolve_right (fun e => absurd (o12_4 e) (by rw [hf]; decide)))
      simp only [List.setIfInBounds_toArray, List.set_cons_zero, List.set_cons_succ] at hK ⊢
      replace hK := hid hK
      go_simp
      exact hK.out _ _ ⟨_, _, _, _, _, _, _, _, _, _, _, _, rfl, hid (.inl (HBW).out), hid (fun h => h0.out h), hid (fun h => h1.out h), hid (fun h => h2.out h), hid (fun h => h3.out h), hid (fun h => rfl), hid (fun h => h5.out h), hid (fun h => h6.out h), hid (fun h => h7.out h), hid (fun h => h8.out h), hid (fun h => h9.out h), hid (fun h => h10.out h), hid (fun h => h11.out h), hid (fun h => absurd (o12_4 h) (by rw [hf]; decide)), fun h => o12_0 h, fun h => o12_1 h, fun h => o12_2 h, fun h => o12_3 h, fun _ => rfl, fun h => o12_5 h, fun h => o12_6 h, fun h => o12_7 h, fun h => o12_8 h, fun h => o12_9 h, fun h => o12_10 h, fun h => o12_11 h, fun h => hb0 h⟩
    case s5 =>
      rintro f a1 w1 ⟨u30, u31, u32, u33, u34, u35, u36, u37, u38, u39, u40, u41, rfl, HBW, h0, h1, h2, h3, h4, h5, h6, h7, h8, h9, h10, h11, h12, o12_0, o12_1, o12_2, o12_3, o12_4, o12_5, o12_6, o12_7, o12_8, o12_9, o12_10, o12_11, hb0⟩ hf hd K hK
      replace HBW := hid (HBW.out.resolve_right (fun e => absurd (o12_5 e) (by rw [hf]; decide)))
      simp only [List.setIfInBounds_toArray, List.set_cons_zero, List.set_cons_succ] at hK ⊢
      replace hK := hid hK
      have y1 := (X3.out.kept (gby_far HBW.out X3.out.lt (by have := LK0.out; have := LU0.out; omega))).cells
      go_simp
      exact hK.out _ _ ⟨_, _, _, _, _, _, _, _, _, _, _, _, rfl, hid (.inl (HBW).out), hid (fun h => h0.out h), hid (fun h => h1.out h), hid (fun h => h2.out h), hid (fun h => h3.out h), hid (fun h => h4.out h), hid (fun h => rfl), hid (fun h => h6.out h), hid (fun h => h7.out h), hid (fun h => h8.out h), hid (fun h => h9.out h), hid (fun h => h10.out h), hid (fun h => h11.out h), hid (fun h => absurd (o12_5 h) (by rw [hf]; decide)), fun h => o12_0 h, fun h => o12_1 h, fun h => o12_2 h, fun h => o12_3 h, fun h => o12_4 h, fun _ => rfl, fun h => o12_6 h, fun h => o12_7 h, fun h => o12_8 h, fun h => o12_9 h, fun h => o12_10 h, fun h => o12_11 h, fun h => hb0 h⟩
    case s6 =>
      rintro f a1 w1 ⟨u30, u31, u32, u33, u34, u35, u36, u37, u38, u39, u40, u41, rfl, HBW, h0, h1, h2, h3, h4, h5, h6, h7, h8, h9, h10, h11, h12, o12_0, o12_1, o12_2, o12_3, o12_4, o12_5, o12_6, o12_7, o12_8, o12_9, o12_10, o12_11, hb0⟩ hf hd K hK
      replace HBW := hid (HBW.out.resolve_right (fun e => absurd (o12_6 e) (by rw [hf]; decide)))
      simp only [List.setIfInBounds_toArray, List.set_cons_zero, List.set_cons_succ] at hK ⊢
      replace hK := hid hK
      simp [Region.binds] at hd
      obtain rfl := h5.out (by simp only [hd])
      go_simp
      exact hK.out _ _ ⟨_, _, _, _, _, _, _, _, _, _, _, _, rfl, hid (.inl (HBW).out), hid (fun h => h0.out h), hid (fun h => h1.out h), hid (fun h => h2.out h), hid (fun h => h3.out h), hid (fun h => h4.out h), hid (fun h => rfl), hid (fun h => rfl), hid (fun h => h7.out h), hid (fun h => h8.out h), hid (fun h => h9.out h), hid (fun h => h10.out h), hid (fun h => h11.out h), hid (fun h => absurd (o12_6 h) (by rw [hf]; decide)), fun h => o12_0 h, fun h => o12_1 h, fun h => o12_2 h, fun h => o12_3 h, fun h => o12_4 h, fun h => o12_5 h, fun _ => rfl, fun h => o12_7 h, fun h => o12_8 h, fun h => o12_9 h, fun h => o12_10 h, fun h => o12_11 h, fun h => hb0 h⟩
    case s7 =>
      rintro f a1 w1 ⟨u30, u31, u32, u33, u34, u35, u36, u37, u38, u39, u40, u41, rfl, HBW, h0, h1, h2, h3, h4, h5, h6, h7, h8, h9, h10, h11, h12, o12_0, o12_1, o12_2, o12_3, o12_4, o12_5, o12_6, o12_7, o12_8, o12_9, o12_10, o12_11, hb0⟩ hf hd K hK
      replace HBW := hid (HBW.out.resolve_right (fun e => absurd (o12_7 e) (by rw [hf]; decide)))
      simp only [List.setIfInBounds_toArray, List.set_cons_zero, List.set_cons_succ] at hK ⊢
      replace hK := hid hK
      simp [Region.binds] at hd
      obtain rfl := h4.out (by simp only [hd])
      obtain rfl := h6.out (by simp only [hd])
      have hx1 : IntKind.i64.wrap ((i : Int) + ((d : Int) + 1)) = (i : Int) + ((d : Int) + 1) := IntWalk.i64_in _ (by omega)
      go_simp
      exact hK.out _ _ ⟨_, _, _, _, _, _, _, _, _, _, _, _, rfl, hid (.inl (HBW).out), hid (fun h => h0.out h), hid (fun h => h1.out h), hid (fun h => h2.out h), hid (fun h => h3.out h), hid (fun h => rfl), hid (fun h => h5.out h), hid (fun h => rfl), hid (fun h => rfl), hid (fun h => h8.out h), hid (fun h => h9.out h), hid (fun h => h10.out h), hid (fun h => h11.out h), hid (fun h => absurd (o12_7 h) (by rw [hf]; decide)), fun h => o12_0 h, fun h => o12_1 h, fun h => o12_2 h, fun h => o12_3 h, fun h => o12_4 h, fun h => o12_5 h, fun h => o12_6 h, fun _ => rfl, fun h => o12_8 h, fun h => o12_9 h, fun h => o12_10 h, fun h => o12_11 h, fun h => hb0 h⟩
    case s8 =>
      rintro f a1 w1 ⟨u30, u31, u32, u33, u34, u35, u36, u37, u38, u39, u40, u41, rfl, HBW, h0, h1, h2, h3, h4, h5, h6, h7, h8, h9, h10, h11, h12, o12_0, o12_1, o12_2, o12_3, o12_4, o12_5, o12_6, o12_7, o12_8, o12_9, o12_10, o12_11, hb0⟩ hf hd K hK
      replace HBW := hid (HBW.out.resolve_right (fun e => absurd (o12_8 e) (by rw [hf]; decide)))
      simp only [List.setIfInBounds_toArray, List.set_cons_zero, List.set_cons_succ] at hK ⊢
      replace hK := hid hK
      simp [Region.binds] at hd
      obtain rfl := h2.out (by simp only [hd])
      obtain rfl := h3.out (by simp only [hd])
      obtain rfl := h7.out (by simp only [hd])
      have hx2 : (i : Int) + ((d : Int) + 1) ≤ (c1 : Int) := by omega
      have hx3 : ((i : Int) + ((d : Int) + 1)).toNat = i + (d + 1) := by omega
      have hx4 : (i : Int) ≤ (i : Int) + ((d : Int) + 1) := by omega
      have hx5 : i + (d + 1) - i = d + 1 := by omega
      have hx6 : ¬ (c1 = i) := by omega
      have hx7 : (0 : Int) ≤ (i : Int) + ((d : Int) + 1) := by omega
      go_simp
      exact hK.out _ _ ⟨_, _, _, _, _, _, _, _, _, _, _, _, rfl, hid (.inl (HBW).out), hid (fun h => h0.out h), hid (fun h => h1.out h), hid (fun h => rfl), hid (fun h => rfl), hid (fun h => h4.out h), hid (fun h => h5.out h), hid (fun h => h6.out h), hid (fun h => rfl), hid (fun h => rfl), hid (fun h => h9.out h), hid (fun h => h10.out h), hid (fun h => h11.out h), hid (fun h => absurd (o12_8 h) (by rw [hf]; decide)), fun h => o12_0 h, fun h => o12_1 h, fun h => o12_2 h, fun h => o12_3 h, fun h => o12_4 h, fun h => o12_5 h, fun h => o12_6 h, fun h => o12_7 h, fun _ => rfl, fun h => o12_9 h, fun h => o12_10 h, fun h => o12_11 h, fun h => hb0 h⟩
    case s9 =>
      rintro f a1 w1 ⟨u30, u31, u32, u33, u34, u35, u36, u37, u38, u39, u40, u41, rfl, HBW, h0, h1, h2, h3, h4, h5, h6, h7, h8, h9, h10, h11, h12, o12_0, o12_1, o12_2, o12_3, o12_4, o12_5, o12_6, o12_7, o12_8, o12_9, o12_10, o12_11, hb0⟩ hf hd K hK
      replace HBW := hid (HBW.out.resolve_right (fun e => absurd (o12_9 e) (by rw [hf]; decide)))
      simp only [List.setIfInBounds_toArray, List.set_cons_zero, List.set_cons_succ] at hK ⊢
      replace hK := hid hK
      have y1 := (X3.out.kept (gby_far HBW.out X3.out.lt (by have := LK0.out; have := LU0.out; omega))).cells
      go_simp
      exact hK.out _ _ ⟨_, _, _, _, _, _, _, _, _, _, _, _, rfl, hid (.inl (HBW).out), hid (fun h => h0.out h), hid (fun h => h1.out h), hid (fun h => h2.out h), hid (fun h => h3.out h), hid (fun h => h4.out h), hid (fun h => h5.out h), hid (fun h => h6.out h), hid (fun h => h7.out h), hid (fun h => h8.out h), hid (fun h => rfl), hid (fun h => h10.out h), hid (fun h => h11.out h), hid (fun h => absurd (o12_9 h) (by rw [hf]; decide)), fun h => o12_0 h, fun h => o12_1 h, fun h => o12_2 h, fun h => o12_3 h, fun h => o12_4 h, fun h => o12_5 h, fun h => o12_6 h, fun h => o12_7 h, fun h => o12_8 h, fun _ => rfl, fun h => o12_10 h, fun h => o12_11 h, fun h => hb0 h⟩
    case s10 =>
      rintro f a1 w1 ⟨u30, u31, u32, u33, u34, u35, u36, u37, u38, u39, u40, u41, rfl, HBW, h0, h1, h2, h3, h4, h5, h6, h7, h8, h9, h10, h11, h12, o12_0, o12_1, o12_2, o12_3, o12_4, o12_5, o12_6, o12_7, o12_8, o12_9, o12_10, o12_11, hb0⟩ hf hd K hK
      replace HBW := hid (HBW.out.resolve_right (fun e => absurd (o12_10 e) (by rw [hf]; decide)))
      simp only [List.setIfInBounds_toArray, List.set_cons_zero, List.set_cons_succ] at hK ⊢
      replace hK := hid hK
      simp [Region.binds] at hd
      obtain rfl := h8.out (by simp only [hd])
      obtain rfl := h9.out (by simp only [hd])
      have hb := (hb0 hf).out
      have hwb := B.out.trans (hb.mono B.out.size)
      go_simp
      refine (takeoff_p (i := i) HPQ.out hwb (by have := LK0.out; omega) (ROW.out.on hb) (fun j hj => (HW.out j hj).on hb) hidn HD.out H0.out SR.out SQ.out HB1.out (by omega) (show d + 1 ≤ c1 - i by omega) (by have := HC1.out; omega) HFF.out).mono ?_
      rintro e w2 ⟨v, rs', rfl, hv, hr2, hw2, hg⟩
      go_wp2_with fail
      exact hK.out _ _ ⟨_, _, _, _, _, _, _, _, _, _, _, _, rfl, hid (.inl (hid (gby_tr HBW.out hg)).out), hid (fun h => h0.out h), hid (fun h => h1.out h), hid (fun h => h2.out h), hid (fun h => h3.out h), hid (fun h => h4.out h), hid (fun h => h5.out h), hid (fun h => h6.out h), hid (fun h => h7.out h), hid (fun h => rfl), hid (fun h => rfl), hid (fun h => ⟨hv, rs', hr2, hw2⟩), hid (fun h => h11.out h), hid (fun h => absurd (o12_10 h) (by rw [hf]; decide)), fun h => o12_0 h, fun h => o12_1 h, fun h => o12_2 h, fun h => o12_3 h, fun h => o12_4 h, fun h => o12_5 h, fun h => o12_6 h, fun h => o12_7 h, fun h => o12_8 h, fun h => o12_9 h, fun _ => rfl, fun h => o12_11 h, fun h => by simp [more] at h⟩
    case s11 =>
      rintro f a1 w1 ⟨u30, u31, u32, u33, u34, u35, u36, u37, u38, u39, u40, u41, rfl, HBW, h0, h1, h2, h3, h4, h5, h6, h7, h8, h9, h10, h11, h12, o12_0, o12_1, o12_2, o12_3, o12_4, o12_5, o12_6, o12_7, o12_8, o12_9, o12_10, o12_11, hb0⟩ hf hd K hK
      replace HBW := hid (HBW.out.resolve_right (fun e => absurd (o12_11 e) (by rw [hf]; decide)))
      simp only [List.setIfInBounds_toArray, List.set_cons_zero, List.set_cons_succ] at hK ⊢
      replace hK := hid hK
      simp [Region.binds] at hd
      obtain rfl := h0.out (by simp only [hd])
      obtain rfl := h1.out (by simp only [hd])
      have hx1 : (0 : Int) ≤ (i : Int) := by omega
      have hx2 : (i : Int) < (N : Int) := by omega
      go_simp
      exact hK.out _ _ ⟨_, _, _, _, _, _, _, _, _, _, _, _, rfl, hid (.inl (HBW).out), hid (fun h => rfl), hid (fun h => rfl), hid (fun h => h2.out h), hid (fun h => h3.out h), hid (fun h => h4.out h), hid (fun h => h5.out h), hid (fun h => h6.out h), hid (fun h => h7.out h), hid (fun h => h8.out h), hid (fun h => h9.out h), hid (fun h => h10.out h), hid (fun h => rfl), hid (fun h => absurd (o12_11 h) (by rw [hf]; decide)), fun h => o12_0 h, fun h => o12_1 h, fun h => o12_2 h, fun h => o12_3 h, fun h => o12_4 h, fun h => o12_5 h, fun h => o12_6 h, fun h => o12_7 h, fun h => o12_8 h, fun h => o12_9 h, fun h => o12_10 h, fun _ => rfl, fun h => hb0 h⟩
    case s12 =>
      rintro f a1 w1 ⟨u30, u31, u32, u33, u34, u35, u36, u37, u38, u39, u40, u41, rfl, HBW, h0, h1, h2, h3, h4, h5, h6, h7, h8, h9, h10, h11, h12, o12_0, o12_1, o12_2, o12_3, o12_4, o12_5, o12_6, o12_7, o12_8, o12_9, o12_10, o12_11, hb0⟩ hf hd K hK
      replace HBW := hid (HBW.out.resolve_right (fun e => by rw [hf] at e; cases e))
      simp only [List.setIfInBounds_toArray, List.set_cons_zero, List.set_cons_succ] at hK ⊢
      replace hK := hid hK
      simp [Region.binds] at hd
      have gg0 : f 0 = true := by simp only [hd]
      have gg1 : f 1 = true := by simp only [hd]
      have gg2 : f 2 = true := by simp only [hd]
      have gg3 : f 3 = true := by simp only [hd]
      have gg4 : f 4 = true := by simp only [hd]
      have gg5 : f 5 = true := by simp only [hd]
      have gg6 : f 6 = true := by simp only [hd]
      have gg7 : f 7 = true := by simp only [hd]
      have gg8 : f 8 = true := by simp only [hd]
      have gg9 : f 9 = true := by simp only [hd]
      have gg10 : f 10 = true := by simp only [hd]
      have gg11 : f 11 = true := by simp only [hd]
      obtain rfl := h11.out (by simp only [hd])
      obtain ⟨hv, rs', hr2, hw2⟩ := h10.out gg10
      obtain ⟨s4a, p4a, n4a, c4a, s4b, p4b, n4b, c4b, rfl⟩ := hv.opened
      have l0 := LK0.out
      have l0' := LU0.out
      have hq1 := QR.out.kept (gby_far HBW.out QR.out.lt (by omega))
      have hqw1 : ∀ j, j < N → NF w1 (nag (rq j)) (Q j) := fun j hj => (QW.out j hj).grown ROW.out.noint HBW.out
      obtain ⟨⟨y1, y2⟩, ⟨y3, y4⟩, ⟨y5, y6⟩, y7, y8⟩ := hq1.stores hiN
      have hx3 := X3.out.kept (gby_far HBW.out X3.out.lt (by omega))
      have hx7 := X7.out.kept (gby_far HBW.out X7.out.lt (by omega))
      have hx8 := X8.out.kept (gby_far HBW.out X8.out.lt (by omega))
      have hB1 : Below w.heap.size w w1 := B.out.grown HBW.out B.out.size (fun g e => by cases e; omega)
      have hs1 := Nat.lt_of_lt_of_le HS1.out HBW.out.size
      obtain ⟨cur, hcur, _⟩ := ROW.out
      have hS1 := gby_far HBW.out HS1.out (show g8 + 1 ≠ b0 by omega)
      have hKB1 : Below w.heap.size W w1 := (Below.refl w.heap.size W).grown HBW.out B.out.size (fun g e => by cases e; omega)
      have HFIN : Hid (Sbx ((((w1.setCell ⟨bq, i * 4, none⟩ (.bool s4a)).setCell ⟨bq, i * 4 + 1, none⟩ (.slice p4a n4a c4a)).setCell ⟨bq, i * 4 + 2, none⟩ (.bool s4b)).setCell ⟨bq, i * 4 + 3, none⟩ (.slice p4b n4b c4b)) w.heap.size aq (d + 1) cq ∧ Sbx ((((w1.setCell ⟨bq, i * 4, none⟩ (.bool s4a)).setCell ⟨bq, i * 4 + 1, none⟩ (.slice p4a n4a c4a)).setCell ⟨bq, i * 4 + 2, none⟩ (.bool s4b)).setCell ⟨bq, i * 4 + 3, none⟩ (.slice p4b n4b c4b)) g7 (some ⟨b0, 0, none⟩) np c1 ∧ Sbx ((((w1.setCell ⟨bq, i * 4, none⟩ (.bool s4a)).setCell ⟨bq, i * 4 + 1, none⟩ (.slice p4a n4a c4a)).setCell ⟨bq, i * 4 + 2, none⟩ (.bool s4b)).setCell ⟨bq, i * 4 + 3, none⟩ (.slice p4b n4b c4b)) g8 (some ⟨bq, 0, none⟩) N N ∧ RestOk (w.heap.size + 1) g7 ((((w1.setCell ⟨bq, i * 4, none⟩ (.bool s4a)).setCell ⟨bq, i * 4 + 1, none⟩ (.slice p4a n4a c4a)).setCell ⟨bq, i * 4 + 2, none⟩ (.bool s4b)).setCell ⟨bq, i * 4 + 3, none⟩ (.slice p4b n4b c4b)) (some ⟨b0, 0, none⟩) np (offq R (trimQ lq) i ff (d + 1)) ∧ (∃ rs, NRw ((((w1.setCell ⟨bq, i * 4, none⟩ (.bool s4a)).setCell ⟨bq, i * 4 + 1, none⟩ (.slice p4a n4a c4a)).setCell ⟨bq, i * 4 + 2, none⟩ (.bool s4b)).setCell ⟨bq, i * 4 + 3, none⟩ (.slice p4b n4b c4b)) bq N rs ∧ ∀ j, j < N → NF ((((w1.setCell ⟨bq, i * 4, none⟩ (.bool s4a)).setCell ⟨bq, i * 4 + 1, none⟩ (.slice p4a n4a c4a)).setCell ⟨bq, i * 4 + 2, none⟩ (.bool s4b)).setCell ⟨bq, i * 4 + 3, none⟩ (.slice p4b n4b c4b)) (nag (rs j)) (if j = i then ff else Q j)) ∧ Below w.heap.size w ((((w1.setCell ⟨bq, i * 4, none⟩ (.bool s4a)).setCell ⟨bq, i * 4 + 1, none⟩ (.slice p4a n4a c4a)).setCell ⟨bq, i * 4 + 2, none⟩ (.bool s4b)).setCell ⟨bq, i * 4 + 3, none⟩ (.slice p4b n4b c4b)) ∧ g8 + 1 < ((((w1.setCell ⟨bq, i * 4, none⟩ (.bool s4a)).setCell ⟨bq, i * 4 + 1, none⟩ (.slice p4a n4a c4a)).setCell ⟨bq, i * 4 + 2, none⟩ (.bool s4b)).setCell ⟨bq, i * 4 + 3, none⟩ (.slice p4b n4b c4b)).heap.size ∧ KD w.heap.size (g8 + 1) bq N W ((((w1.setCell ⟨bq, i * 4, none⟩ (.bool s4a)).setCell ⟨bq, i * 4 + 1, none⟩ (.slice p4a n4a c4a)).setCell ⟨bq, i * 4 + 2, none⟩ (.bool s4b)).setCell ⟨bq, i * 4 + 3, none⟩ (.slice p4b n4b c4b)) ∧ KeepsOthers W ((((w1.setCell ⟨bq, i * 4, none⟩ (.bool s4a)).setCell ⟨bq, i * 4 + 1, none⟩ (.slice p4a n4a c4a)).setCell ⟨bq, i * 4 + 2, none⟩ (.bool s4b)).setCell ⟨bq, i * 4 + 3, none⟩ (.slice p4b n4b c4b))) := hid ⟨hx3.kept (hq1.far i (by omega) s4a p4a n4a c4a s4b p4b n4b c4b), hx7.kept (hq1.far i (by omega) s4a p4a n4a c4a s4b p4b n4b c4b), hx8.kept (hq1.far i (by omega) s4a p4a n4a c4a s4b p4b n4b c4b), .inr ⟨b0, rs', rfl, l0, l0', hr2.kept (hq1.far i (by omega) s4a p4a n4a c4a s4b p4b n4b c4b), fun j hj => (hw2 j hj).put hq1 i s4a p4a n4a c4a s4b p4b n4b c4b⟩, ⟨_, hq1.put hiN s4a p4a n4a c4a s4b p4b n4b c4b, fun j hj => by
        by_cases hji : j = i
        · subst hji; rw [upd_self, if_pos rfl]; exact hv.put hq1 j s4a p4a n4a c4a s4b p4b n4b c4b
        · rw [upd_ne _ _ hji, if_neg hji]; exact (hqw1 j hj).put hq1 i s4a p4a n4a c4a s4b p4b n4b c4b⟩, hq1.below hB1 i (by omega) s4a p4a n4a c4a s4b p4b n4b c4b, by simpa [World.setCell] using hs1, ⟨hq1.below hKB1 i (by omega) s4a p4a n4a c4a s4b p4b n4b c4b, (hq1.far i (by omega) s4a p4a n4a c4a s4b p4b n4b c4b).trans hS1, fun _ => ⟨_, hq1.put hiN s4a p4a n4a c4a s4b p4b n4b c4b⟩⟩, ((((KeepsOthers.of_grown HBW.out hcur).trans (KeepsOthers.setCell _ ⟨bq, i * 4, none⟩ _)).trans (KeepsOthers.setCell _ ⟨bq, i * 4 + 1, none⟩ _)).trans (KeepsOthers.setCell _ ⟨bq, i * 4 + 2, none⟩ _)).trans (KeepsOthers.setCell _ ⟨bq, i * 4 + 3, none⟩ _)⟩
      have H10 : Hid (NF ((((w1.setCell ⟨bq, i * 4, none⟩ (.bool s4a)).setCell ⟨bq, i * 4 + 1, none⟩ (.slice p4a n4a c4a)).setCell ⟨bq, i * 4 + 2, none⟩ (.bool s4b)).setCell ⟨bq, i * 4 + 3, none⟩ (.slice p4b n4b c4b)) (.agg #[.bool s4a, .slice p4a n4a c4a, .bool s4b, .slice p4b n4b c4b]) ff ∧ ∃ rs, NRw ((((w1.setCell ⟨bq, i * 4, none⟩ (.bool s4a)).setCell ⟨bq, i * 4 + 1, none⟩ (.slice p4a n4a c4a)).setCell ⟨bq, i * 4 + 2, none⟩ (.bool s4b)).setCell ⟨bq, i * 4 + 3, none⟩ (.slice p4b n4b c4b)) b0 np rs ∧ ∀ j, j < np → NF ((((w1.setCell ⟨bq, i * 4, none⟩ (.bool s4a)).setCell ⟨bq, i * 4 + 1, none⟩ (.slice p4a n4a c4a)).setCell ⟨bq, i * 4 + 2, none⟩ (.bool s4b)).setCell ⟨bq, i * 4 + 3, none⟩ (.slice p4b n4b c4b)) (nag (rs j)) (offq R (trimQ lq) i ff (d + 1) j)) := hid ⟨hv.put hq1 i s4a p4a n4a c4a s4b p4b n4b c4b, rs', hr2.kept (hq1.far i (by omega) s4a p4a n4a c4a s4b p4b n4b c4b), fun j hj => (hw2 j hj).put hq1 i s4a p4a n4a c4a s4b p4b n4b c4b⟩
      clear hB1 hs1 hx3 hx7 hx8 hcur hS1 hKB1 hqw1 hq1 hv hr2 hw2
      go_simp
      exact hK.out _ _ ⟨_, _, _, _, _, _, _, _, _, _, _, _, rfl, hid (.inr rfl), hid (fun h => h0.out h), hid (fun h => h1.out h), hid (fun h => h2.out h), hid (fun h => h3.out h), hid (fun h => h4.out h), hid (fun h => h5.out h), hid (fun h => h6.out h), hid (fun h => h7.out h), hid (fun h => h8.out h), hid (fun h => h9.out h), hid (fun h => H10.out), hid (fun h => rfl), hid (fun h => HFIN.out), fun _ => gg0, fun _ => gg1, fun _ => gg2, fun _ => gg3, fun _ => gg4, fun _ => gg5, fun _ => gg6, fun _ => gg7, fun _ => gg8, fun _ => gg9, fun _ => gg10, fun _ => gg11, fun h => absurd (show f 10 = false from h) (by rw [gg10]; decide)⟩
    case hend =>
      rintro f a1 w1 ⟨u30, u31, u32, u33, u34, u35, u36, u37, u38, u39, u40, u41, rfl, _, h0, h1, h2, h3, h4, h5, h6, h7, h8, h9, h10, h11, h12, _⟩ hall
      simp only [List.setIfInBounds_toArray, List.set_cons_zero, List.set_cons_succ]
      obtain ⟨g1, g2, g3, g4, g5, g6, g7_, g8_, g9⟩ := h12.out (hall 12 (by decide))
      gi_wp2
      refine ⟨g9.from _, g8_, ⟨g1, g2, g3, ?_, ?_, g6, g7_⟩⟩
      · rw [List.map_append]; show RestOk _ _ _ _ _ (dvf lp (trimQ lq) d (_ ++ [i])).1; rw [HE.out]; show RestOk _ _ _ _ _ (offq R (trimQ lq) i (R (i + d) / co (trimQ lq) d) (d + 1)); rw [HFF.out]; exact g4
      · rw [List.map_append]; show ∃ rs, NRw w1 bq N rs ∧ ∀ j, j < N → NF w1 (nag (rs j)) ((dvf lp (trimQ lq) d (_ ++ [i])).2 j); rw [HE.out]; show ∃ rs, NRw w1 bq N rs ∧ ∀ j, j < N → NF w1 (nag (rs j)) (if j = i then R (i + d) / co (trimQ lq) d else Q j); rw [HFF.out]; exact g5
  case done =>
    rintro D ys W hD hys ⟨hx3, hx7, hx8, hrest, ⟨rq, hrq, hqw⟩, hBw, hs1⟩ hK
    have X7 := hid hx7
    have X8 := hid hx8
    have B := hid hBw
    rw [hys] at hrest hqw
    have HPR2 := hid (hrest.pn hc1 HC1.out)
    have HRO := hid hrest
    have HPQ2 : Hid (PN W (.slice (some ⟨bq, 0, none⟩) N N) (lof N (dvf lp (trimQ lq) d (dwn N N)).2)) := hid (hrq.pn (by simp [lof]) (Nat.le_refl _) (by unfold maxLen; omega) (fun i hi => (hqw i hi).cast (by rw [co_lof, if_pos hi])))
    have HKD := hid hK
    have LD := hid (show g8 + 1 < D by omega)
    clear hx3 hx7 hx8 hrest hrq hqw hBw hs1 hK hI0 cS hget hKB hqr hys
    have cc901 := X7.out.cells
    have cc902 := X8.out.cells
    go_wp2_with fail
    have cc903 := X7.out.cells
    have cc904 := X8.out.cells
    replace X7 := hid X7.out.dr
    replace X8 := hid X8.out.dr
    replace HPQ2 := hid (HPQ2.out.on (Below.drew (Below.refl _ _)))
    replace HPR2 := hid (HPR2.out.on (Below.drew (Below.refl _ _)))
    replace B := hid (Below.drew B.out)
    replace HRO := hid (HRO.out.on (Below.drew (Below.refl _ _)))
    have cc905 := X7.out.cells
    have cc906 := X8.out.cells
    go_region_held3 (fun w' => w'.cell? ⟨g7, 0, none⟩ = some (.slice a1 np c1) ∧ w'.cell? ⟨g8, 0, none⟩ = some (.slice (some ⟨bq, 0, none⟩) N N)) (go_keep) (first
      | (have hm := mk907_0; clear hm; go_at_call 17; refine (trim_pn HPR2.out).mono ?_; rintro e w911 ⟨rfl, hb⟩; replace X7 := sx X7 hb; replace X8 := sx X8 hb; replace HPQ2 := pno HPQ2 hb; replace HPR2 := pno HPR2 hb; replace HK1 := pno HK1 hb; replace B := bb B hb; replace HRO := hid (HRO.out.on hb); replace HKD := hid ((hb.block D (Array.getElem?_eq_some_iff.1 HKD.out).1).trans HKD.out); clear cc909 cc910; clear hb ; have cc912 := X7.out.cells; have cc913 := X8.out.cells; have mk907_1 := hid True.intro)
      | (go_at_call 17; refine (trim_p HPQ2.out).mono ?_; rintro e w908 ⟨v1, rfl, hp1, hb⟩; have HK1 := hid hp1; replace X7 := sx X7 hb; replace X8 := sx X8 hb; replace HPQ2 := pno HPQ2 hb; replace HPR2 := pno HPR2 hb; replace B := bb B hb; replace HRO := hid (HRO.out.on hb); replace HKD := hid ((hb.block D (Array.getElem?_eq_some_iff.1 HKD.out).1).trans HKD.out); clear cc901 cc902 cc903 cc904 cc905 cc906; clear hb hp1; have cc909 := X7.out.cells; have cc910 := X8.out.cells; have mk907_0 := hid True.intro))
    go_wp2_with fail
    have hKD := HKD.out
    have hgp := grownBy_putObj' w911 D (.deferred none)
    have hgr : ∀ r, some D = some r → ∃ o : Obj, w911.heap[r]? = some o ∧ o.isCells = false := fun r e => by cases e; exact ⟨_, hKD, rfl⟩
    refine ⟨by simp, .inl ⟨_, _, rfl, run_takeDeferred hKD, ?_⟩⟩
    refine ⟨_, res_ttt rfl rfl rfl rfl, ?_⟩
    obtain ⟨e1, e2⟩ := dvf_all (N := N) HNP.out HD.out H0.out (by have := HN.out; omega)
    have hp2 : 2 ^ N ≤ 2 ^ np := Nat.pow_le_pow_right (by omega) hNnp
    have hp3 := Nat.mul_le_mul_left (m + 2 * n + 1) hp2
    have hp4 : 1 ≤ 2 ^ N := Nat.one_le_two_pow
    have hp5 := Nat.mul_le_mul_left (m + 2 * n + 1) hp4
    have s1 : ∀ j, Sm ((dvf lp (trimQ lq) d (dwn N N)).1 j) ((m + 2 * n + 1) * 2 ^ np) := fun j => by
      have := Sml.dvf (d := d) SL.out SQ.out (dwn N N) (co lp, fun _ => 0) 0 (fun j => (SL.out.2 j).mono (by omega)) j
      rw [dwn_len, Nat.zero_add] at this
      exact this.mono (by omega)
    have s2 : ∀ j, Sm ((dvf lp (trimQ lq) d (dwn N N)).2 j) ((m + 2 * n + 1) * 2 ^ np + n) := fun j => by
      have := Sml.dvq (d := d) SL.out SQ.out (dwn N N) (co lp, fun _ => 0) 0 (fun j => (SL.out.2 j).mono (by omega)) (fun j => Sm.zero (by omega)) j
      rw [dwn_len, Nat.zero_add] at this
      exact this.mono (by omega)
    refine ⟨_, _, _, _, rfl, HK1.out.turned hgp hgr, (HRO.out.turned hgp hgr).own (by omega) (Nat.le_trans (trim_len _) (by simp [lof])) (fun i hi => by rw [co_trim, co_lof, if_pos (Nat.lt_of_lt_of_le hi (Nat.le_trans (trim_len _) (by simp [lof])))]) hc1 HC1.out, trm_trim _, trm_trim _, ?_, ?_, fun x => ?_, ?_, ?_, B.out.grown hgp B.out.size (fun g e => by cases e; have := LD.out; omega)⟩
    · exact e2
    · refine Nat.le_trans (trim_len _) ?_
      simp [lof]; omega
    · have := e1 x
      rw [HPV.out] at this
      exact this
    · exact Sml.trim ⟨by omega, fun j => by rw [co_lof]; split; exact s2 j; exact Sm.zero (by omega)⟩
    · exact Sml.trim ⟨by omega, fun j => by rw [co_lof]; split; exact s1 j; exact Sm.zero (by omega)⟩
  case stop =>
    rintro D c pre W _ _ h _
    exact h.elim
end Go.Proofs.Ytokojbgpboccnaa

/-
  PACKAGE poly: Polynomial.Div by nothing.
-/
namespace Go.Proofs.Ytokojbgpboccnaa
open Go.RowKit Go.Shelf
open Num
set_option linter.unusedVariables false
set_option maxRecDepth 100000
set_option linter.unusedSimpArgs false
attribute [local go_sem] Oper.semAt_some

set_option maxHeartbeats 2000000 in
theorem pdiv_zero {w : World} {v u : Value} {lp lq : List Rat} (h : PN w v lp) (h' : PN w u lq) (h0 : trimQ lq = []) :
    Calls Try.prog 40 #[v, u] w fun e w' => e = .returned (.tuple #[.slice none 0 0, .slice none 0 0, errno 5]) ∧ Below w.heap.size w w' := by
  refine (callsIn_wide (n := 10)).1 ?_
  obtain ⟨a, c, rfl, hn, hc⟩ := h.opened
  obtain ⟨aq, cq, rfl, hnq, hcq⟩ := h'.opened
  obtain ⟨nq, hNQ⟩ : ∃ nq, lq.length = nq := ⟨_, rfl⟩
  have HP := hid h
  have HU := hid h'
  rw [hNQ] at hnq HU ⊢
  have HTR : ∀ w' : World, PN w' (.slice aq nq cq) lq → Calls Try.prog 17 #[.slice aq nq cq] w' fun e w'' => e = .returned (.slice aq 0 cq) ∧ Below w'.heap.size w' w'' := fun w' h => by have := trim_pn h; rwa [h0, List.length_nil] at this
  have HTR := hid HTR
  have B := hid (Below.refl w.heap.size w)
  obtain ⟨hb1, hx2, hs3⟩ := Sbx.made w aq nq cq
  replace HU := pno HU hb1
  replace B := bb B hb1
  have X3 := hid hx2
  clear hb1 hx2
  clear h h' h0 hNQ hs3
  unfold maxLen at hc hcq
  refine callsIn_of_wp_marks Try.func40 rfl trivial ?_ rfl
  simp only [Try.ntmps40, List.size_toArray, List.length_cons, List.length_nil, Nat.reduceAdd, Nat.reduceSub, Array.replicate_succ, Array.replicate_zero, List.push_toArray, List.append_toArray, List.nil_append, List.cons_append]
  refine wpIn_wide.2 ?_
  have cc4 := X3.out.cells
  go_wp2_with fail
  generalize hW : w.alloc (.cells #[.slice aq nq cq] 37) = W5 at *
  clear hW
  refine (HTR.out _ HU.out).mono ?_
  rintro e w6 ⟨rfl, hb⟩
  replace X3 := sx X3 hb
  replace HU := pno HU hb
  replace B := bb B hb
  clear cc4
  clear hb 
  have LW0 := hid (Nat.le_refl w.heap.size)
  have cc7 := X3.out.stores
  obtain ⟨r8a, r8b, r8c⟩ := X3.out.last B.out (by have := LW0.out; omega) aq 0 cq
  replace HU := hid (HU.out.sbx X3.out aq 0 cq)
  replace X3 := hid r8a
  replace B := hid r8b
  clear r8a r8b r8c
  have cc9 := X3.out.cells
  go_wp2_with fail
  refine ⟨_, res_ttt rfl rfl rfl rfl, ?_⟩
  exact ⟨rfl, B.out⟩

end Go.Proofs.Ytokojbgpboccnaa

/-
  PACKAGE poly: Div.
-/
namespace Go.Proofs.Ytokojbgpboccnaa
open Go.RowKit
open Num
set_option linter.unusedVariables false
set_option maxRecDepth 100000
set_option linter.unusedSimpArgs false

theorem GoodP.trim {p : List ByteArray} (h : GoodP p) : trimQ (rdp p) = rdp p := h.2.2
end Go.Proofs.Ytokojbgpboccnaa

/-
  THE LAW PolyOwn: what it asks.
-/
namespace Go.Proofs.Ytokojbgpboccnaa
open Go.RowKit
open Num
set_option linter.unusedVariables false
set_option maxRecDepth 100000
set_option linter.unusedSimpArgs false
end Go.Proofs.Ytokojbgpboccnaa

/-
  LISTS OF TEXTS: how long the polynomial is. Nothing of a walk.
-/
namespace Go.Proofs.Ytokojbgpboccnaa
open Go.RowKit
open Num
set_option linter.unusedVariables false
set_option maxRecDepth 100000
set_option linter.unusedSimpArgs false

theorem GoodP.cml {p : List ByteArray} (h : GoodP p) : Cml (rdp p) 227 := h.sml.cml.mono (by have := h.1; rw [rdp_len]; omega)
theorem GoodP.len {p : List ByteArray} (h : GoodP p) : (rdp p).length ≤ 9 := by rw [rdp_len]; exact h.1
theorem GoodP.trm {p : List ByteArray} (h : GoodP p) : Trm (rdp p) := h.2.2

end Go.Proofs.Ytokojbgpboccnaa

/-
  ROWS OF LISTS OF TEXTS.
-/
namespace Go.Proofs.Ytokojbgpboccnaa
open Go.RowKit
open Num
set_option linter.unusedVariables false
set_option maxRecDepth 100000
set_option linter.unusedSimpArgs false

theorem infoL : (Try.prog.info? 22).map (fun i => (i.zero, i.size, i.bytes)) = some (some (.slice none 0 0), 1, 24) := by kernel_rfl
theorem OwnF.opened {w : World} {K : Nat} {v : Value} {fs : List (List Rat)} (h : OwnF w K v fs) : ∃ a c, v = .slice a fs.length c ∧ c ≤ maxLen := by
  obtain ⟨vs, ⟨h0, h1⟩, h2, _⟩ := h
  rcases h1 with ⟨rfl, h1⟩ | ⟨g, cap, cur, rfl, _, _, _, h3, _⟩
  · exact ⟨none, 0, by rw [← h2, h1], Nat.zero_le _⟩
  · exact ⟨_, cap, by rw [h2], h3⟩
theorem OwnF.at {w : World} {K n cap : Nat} {a : Option Addr} {fs : List (List Rat)} (h : OwnF w K (.slice a n cap) fs) {i : Nat} (hi : i < fs.length) : ∃ g p m c, a = some ⟨g, 0, none⟩ ∧ g < w.heap.size ∧ w.cell? ⟨g, i, none⟩ = some (.slice p m c) ∧ PN w (.slice p m c) (fs[i]?.getD []) := by
  obtain ⟨vs, ⟨h0, h1⟩, h2, h3, _, h5⟩ := h
  rcases h1 with ⟨_, h1⟩ | ⟨g, cap', cur, e, _, h1, _, _, _, h4⟩
  · omega
  · cases e
    have hp := h5 i hi
    have hv : vs[i]? = some (vat vs i) := by unfold vat; rw [List.getElem?_eq_getElem (by omega)]; rfl
    obtain ⟨p, m, c, e⟩ := h3 (vat vs i) (List.mem_of_getElem? hv)
    rw [e] at hv hp
    refine ⟨g, p, m, c, rfl, (Array.getElem?_eq_some_iff.1 h1).1, ?_, hp⟩
    rw [← h4, List.getElem?_take, if_pos (by omega), Array.getElem?_toList] at hv
    simp [World.cell?, h1, hv]
/-- Block b holds n lists of texts, and may be written. -/
def YRw (w : World) (b n : Nat) (rs : Nat → Value) : Prop := ∃ cur, w.heap[b]? = some (.cells cur 22 (0, 0)) ∧ cur.size = n ∧ ∀ i, i < n → cur[i]? = some (rs i)
theorem YRw.lt {w : World} {b n : Nat} {rs : Nat → Value} (h : YRw w b n rs) : b < w.heap.size := by
  obtain ⟨cur, h, _⟩ := h
  exact (Array.getElem?_eq_some_iff.1 h).1
theorem YRw.on {w w' : World} {b n : Nat} {rs : Nat → Value} (h : YRw w b n rs) (hb : Below w.heap.size w w') : YRw w' b n rs := by
  have hl := h.lt
  obtain ⟨cur, h, h2⟩ := h
  exact ⟨cur, (hb.block b hl).trans h, h2⟩
theorem YRw.cell {w : World} {b n : Nat} {rs : Nat → Value} (h : YRw w b n rs) {i : Nat} (hi : i < n) : w.cell? ⟨b, i, none⟩ = some (rs i) := by
  obtain ⟨cur, h, _, h2⟩ := h
  simp [World.cell?, h, h2 i hi]
theorem YRw.stores {w : World} {b n : Nat} {rs : Nat → Value} (h : YRw w b n rs) {i : Nat} (hi : i < n) : w.cell? ⟨b, i, none⟩ = some (rs i) ∧ w.frozen? ⟨b, i, none⟩ = false := by
  refine ⟨h.cell hi, ?_⟩
  obtain ⟨cur, h, _⟩ := h
  simp [World.frozen?, h]
theorem YRw.put {w : World} {b n : Nat} {rs : Nat → Value} (h : YRw w b n rs) {i : Nat} (hi : i < n) (u : Value) : YRw (w.setCell ⟨b, i, none⟩ u) b n (fun k => if k = i then u else rs k) := by
  obtain ⟨cur, h, hs, h2⟩ := h
  refine ⟨cur.setIfInBounds i u, heap_set h u, by simp [hs], fun k hk => ?_⟩
  show (cur.setIfInBounds i u)[k]? = some (if k = i then u else rs k)
  by_cases hki : k = i
  · subst hki
    rw [if_pos rfl, Array.getElem?_setIfInBounds_self_of_lt (by omega)]
  · rw [if_neg hki, Array.getElem?_setIfInBounds_ne (by omega)]
    exact h2 k hk
/-- 'make([][]string, n)'. -/
theorem wpList_make_ys (w : World) {ops : Array Oper} {rest : List Oper} {o : Oper} {a : Act} {Q : Exit → Act → World → Prop}
    (hg : o.guard = none) (l c : Operand) (t : TypeId) (hop : o.op = Op.makeSlice t l c) (h1 : Try.prog.underlying t = some (.slice 22))
    (n : Nat) (hl : a.eval l = .int .i64 n) (hc : a.eval c = .int .i64 n) (hb : n ≤ 1000000000000)
    (hK : ∀ w', YRw w' w.heap.size n (fun _ => .slice none 0 0) → Below w.heap.size w w' → w'.heap.size = w.heap.size + 1 → wpList Try.prog ops Q rest (a.put o.dst (.slice (some ⟨w.heap.size, 0, none⟩) n n)) w') :
    wpList Try.prog ops Q (o :: rest) a w := by
  obtain ⟨i, hi, hz0, hz1, hz2⟩ := info_parts infoL
  refine wpList_plain hg fun K hK' => ?_
  have hr := run_make (P := Try.prog) w t _ i _ h1 hi hz0 .i64 .i64 (n : Int) (n : Int) (by omega) (by omega) (by rw [hz2]; omega) (by omega)
  simp only [Int.toNat_natCast] at hr
  unfold Oper.wp
  simp [execOp, hop, hl, hc, hr, Result.andThen]
  rw [hz1]
  refine hK' _ _ (hK _ ⟨_, by show (w.heap.push _)[w.heap.size]? = _; simp; rfl, by simp [madeCells], fun j hj => ?_⟩ ((Below.refl _ _).alloc (Nat.le_refl _) _) (by simp))
  have hcs : (Value.slice none 0 0).cells = #[.slice none 0 0] := by simp [Value.cells]
  rw [hcs]
  simp [madeCells, hj, Nat.mod_one]
/-- A list of lists of texts of the call's own, all apart. -/
def OwnY (w : World) (K : Nat) (v : Value) (n : Nat) (f : Nat → List ByteArray) : Prop := ∃ b rs, v = .slice (some ⟨b, 0, none⟩) n n ∧ K ≤ b ∧ n ≤ 9 ∧ YRw w b n rs ∧ (∀ i, i < n → OwnS w (b + 1) (rs i) (f i)) ∧ ∀ i j, i < j → j < n → ∀ g, (rs i).ownBlock = some g → (rs j).ownBlock ≠ some g
theorem OwnS.put {w : World} {K b i : Nat} {v u : Value} {ss : List ByteArray} (h : OwnS w K v ss) (hb : b < K) : OwnS (w.setCell ⟨b, i, none⟩ u) K v ss := ⟨ownsRow_setCell_below h.1 hb u, h.2⟩
theorem OwnS.on {w w' : World} {K : Nat} {v : Value} {ss : List ByteArray} (h : OwnS w K v ss) (hb : Below w.heap.size w w') : OwnS w' K v ss := ⟨h.1.on hb, h.2⟩

end Go.Proofs.Ytokojbgpboccnaa

/-
  PACKAGE sturm: what is left, turned.
-/
namespace Go.Proofs.Ytokojbgpboccnaa
open Go.RowKit
open Num
set_option linter.unusedVariables false
set_option maxRecDepth 100000
set_option linter.unusedSimpArgs false

set_option maxHeartbeats 4000000 in
/-- What is left, turned. -/
theorem inv_p {w : World} {v u : Value} {lp lq : List Rat} {m n : Nat} (h : PN w v lp) (h' : PN w u lq) (hp : Trm lp) (hq : Trm lq) (h0 : lq ≠ []) (hs : Sml lp m) (hs' : Sml lq n) (hm : m ≤ 10000000) (hn : n ≤ 10000000) (hl : lp.length ≤ 9) (hl' : lq.length ≤ 9) :
    Calls Try.prog 27 #[v, u] w fun e w' => ∃ v', e = .returned v' ∧ PN w' v' (nrem lp lq) ∧ Below w.heap.size w w' := by
  have hb9 : (m + 2 * n + 1) * 2 ^ (lp.length + 1) ≤ 68719476736 := by
    have h1 : 2 ^ (lp.length + 1) ≤ 2 ^ 10 := Nat.pow_le_pow_right (by omega) (by omega)
    have h2 := Nat.mul_le_mul (show m + 2 * n + 1 ≤ 30000001 by omega) h1
    omega
  have hqt : trimQ lq = lq := hq
  have H1 := hid (pdiv_own h h' hs hs' (by rw [hqt]; exact h0) hb9 (by omega) (by omega))
  rw [hqt] at H1
  have hne := errv_neq
  have hgd := errv_guard
  have HP := hid hp
  have HQQ := hid hq
  have H0 := hid h0
  have HL := hid hl'
  clear h h' hp hq h0 hs hs' hm hn hl hl' hb9 hqt
  go_enter Try.func27, Try.ntmps27
  go_wp2_with fail
  refine H1.out.mono ?_
  rintro e w1 ⟨v1, u1, k, r, rfl, h1, ho, h3, h4, h5, h6, h7, h8, h9, hb⟩
  have B := hid hb
  have E := hid (nrem_neg HP.out HQQ.out H0.out h3 h4 h5 h7)
  have HR9 := hid (show r.length ≤ 9 by have := HL.out; omega)
  clear h1 h3 h4 h5 h6 h7 h8 h9 hb H1
  rcases ho with ⟨hnil, a0, c0, rfl, hc0⟩ | ⟨b0, c0, rs0, rfl, hK0, hrow, hn0, hc0, hq0⟩
  · subst hnil
    have HC0 := hid hc0
    clear hc0
    go_wp2_with fail
    go_loopw [21] (fun x wr => x = .int .i64 0 ∧ wr = w1) (fun x _ => 0)
    case atStart => exact ⟨rfl, rfl⟩
    case round =>
      obtain ⟨rfl, rfl⟩ := hrel
      go_wp2_with fail
      go_ret
      refine ⟨_, rfl, ?_, B.out⟩
      rw [← E.out]
      exact PN.nil _ HC0.out
  · have HK0 := hid hK0
    have HN0 := hid hn0
    have HC0 := hid hc0
    have HO := hid (fun t (ht : t < r.length) (_ : 0 ≤ t) => hq0 t ht)
    have ROW := hid hrow
    obtain ⟨nr, hnr⟩ : ∃ nr, r.length = nr := ⟨_, rfl⟩
    have NR := hid hnr
    have hnr9 : nr ≤ 9 := by have := HR9.out; omega
    rw [hnr] at HN0 HO ROW E ⊢
    clear hK0 hrow hn0 hc0 hq0 hnr HR9
    obtain ⟨rs0, ROW, HO⟩ : ∃ rs, Hid (NRw w1 b0 nr rs) ∧ Hid (∀ t, t < nr → 0 ≤ t → NF w1 (nag (rs t)) (co r t)) := ⟨_, ROW, HO⟩
    go_wp2_with fail
    go_loopw [21] (fun x wr => ∃ (i : Nat) (rs : Nat → Nr), i ≤ nr ∧ x = .int .i64 i ∧ Hid (NRw wr b0 nr rs) ∧ Hid (∀ t, t < i → NF wr (nag (rs t)) (-co r t)) ∧ Hid (∀ t, t < nr → i ≤ t → NF wr (nag (rs t)) (co r t)) ∧ Hid (Below w.heap.size w wr)) (fun x _ => nr - (intOf x).toNat)
    case atStart => exact ⟨0, rs0, by omega, rfl, ROW, hid (fun t ht => by omega), HO, B⟩
    case round =>
      clear ROW HO B
      obtain ⟨i, rs, hi, rfl, ROW, HW, HO, B⟩ := hrel
      by_cases hlt : i < nr
      · have hlt9 := hlt
        have L00 := hid ROW.out.lt
        have cr := ROW.out.cells hlt
        have HQ := hid (HO.out i hlt (Nat.le_refl _))
        obtain ⟨r5, hr5⟩ : ∃ r, r = rs i := ⟨_, rfl⟩
        rw [← hr5] at cr HQ
        clear hr5
        obtain ⟨⟨s5a, p5a, n5a, c5a⟩, ⟨s5b, p5b, n5b, c5b⟩⟩ := r5
        change Hid (NF wr (.agg #[.bool s5a, .slice p5a n5a c5a, .bool s5b, .slice p5b n5b c5b]) (co r i)) at HQ
        simp only [] at cr
        obtain ⟨hb201, hx202, hs203⟩ := Nbx.made wr s5a s5b (.slice p5a n5a c5a) (.slice p5b n5b c5b)
        replace HQ := nf HQ hb201
        replace ROW := rwo ROW hb201
        replace HW := hid (fun q_ hq_ => (HW.out q_ hq_).on hb201)
        replace HO := hid (fun q_ hq_ hr_ => (HO.out q_ hq_ hr_).on hb201)
        replace B := bb B hb201
        have X5 := hid hx202
        clear hb201 hx202
        have cc204 := X5.out.cells
        go_wp2_with fail
        refine (nneg_f HQ.out).mono ?_
        rintro e w205 ⟨v, rfl, hv, hb⟩
        obtain ⟨s2a, p2a, n2a, c2a, s2b, p2b, n2b, c2b, rfl⟩ := hv.opened
        replace ROW := rwo ROW hb
        replace HW := hid (fun q_ hq_ => (HW.out q_ hq_).on hb)
        replace HO := hid (fun q_ hq_ hr_ => (HO.out q_ hq_ hr_).on hb)
        replace B := bb B hb
        clear cc204
        have HX := hid hv
        clear hb hv cr
        have cc206 := ROW.out.stores hlt
        replace HX := hid (HX.out.put ROW.out i s2a p2a n2a c2a s2b p2b n2b c2b)
        replace HW := hid (fun q_ hq_ => (HW.out q_ hq_).put ROW.out i s2a p2a n2a c2a s2b p2b n2b c2b)
        replace HO := hid (fun q_ hq_ hr_ => (HO.out q_ hq_ hr_).put ROW.out i s2a p2a n2a c2a s2b p2b n2b c2b)
        replace B := hid (ROW.out.below B.out i (by have := HK0.out; have := L00.out; omega) s2a p2a n2a c2a s2b p2b n2b c2b)
        replace ROW := hid (ROW.out.put hlt s2a p2a n2a c2a s2b p2b n2b c2b)
        go_wp2_with fail
        go_roundw
        case rel => exact ⟨i + 1, _, by omega, by go_num, ROW, hid (fun t ht => by
            by_cases e : t = i
            · subst e; rw [upd_self]; exact HX.out
            · rw [upd_ne _ _ e]; exact HW.out t (by omega)), hid (fun t ht hti => by
            rw [upd_ne _ _ (by omega)]; exact HO.out t ht (by omega)), B⟩
        case measure => simp [intOf]; omega
      · obtain rfl : i = nr := by omega
        have HP2 : Hid (PN wr (.slice (some ⟨b0, 0, none⟩) i c0) (lof i fun t => -co r t)) := hid (ROW.out.pn (by simp [lof]) HN0.out HC0.out (fun t ht => (HW.out t ht).cast (by rw [co_lof, if_pos ht])))
        go_wp2_with fail
        go_ret
        exact ⟨_, rfl, by rw [← E.out]; exact HP2.out, B.out⟩

set_option maxHeartbeats 1000000 in
theorem inv_nil {w : World} {v u : Value} {lp : List Rat} (h : PN w v lp) (h' : PN w u []) :
    Calls Try.prog 27 #[v, u] w fun e w' => e = .returned (.slice none 0 0) ∧ Below w.heap.size w w' := by
  have H1 := hid (pdiv_zero h h' rfl)
  rw [← errv_some (show (5 : Int) ≠ 0 by decide)] at H1
  have hne := errv_neq
  have hgd := errv_guard
  have f5 : ((5 : Int) != 0) = true := by decide
  clear h h'
  go_enter Try.func27, Try.ntmps27
  go_wp2_with fail
  refine H1.out.mono ?_
  rintro e w1 ⟨rfl, hb⟩
  have B := hid hb
  clear hb H1
  go_wp2_with fail
  go_ret
  exact ⟨rfl, B.out⟩

end Go.Proofs.Ytokojbgpboccnaa

/-
  PACKAGE sturm: the chain.
-/
namespace Go.Proofs.Ytokojbgpboccnaa
open Go.RowKit
open Num
set_option linter.unusedVariables false
set_option maxRecDepth 100000
set_option linter.unusedSimpArgs false

/-- A function that takes a polynomial times a number of this kind. -/
def Scaled (K : Nat) (Sc : Rat → Prop) : Prop := (∀ (args : Array Value) (w : World), Sem.run Try.prog (callFunc K args) w = .ok (.enter K args) w) ∧
  ∀ (w : World) (v : Value) (l : List Rat) (m : Nat), PN w v l → Trm l → Cml l m → m ≤ 10000000 → l.length ≤ 9 → Calls Try.prog K #[v] w fun e w' => ∃ v' l', e = .returned v' ∧ PN w' v' l' ∧ Rl Sc l' l ∧ Cml l' m ∧ Below w.heap.size w w'
theorem inv_any {w : World} {v u : Value} {lp lq : List Rat} {m n : Nat} (h : PN w v lp) (h' : PN w u lq) (hp : Trm lp) (hq : Trm lq) (hs : Sml lp m) (hs' : lq ≠ [] → Sml lq n) (hm : m ≤ 10000000) (hn : n ≤ 10000000) (hl : lp.length ≤ 9) (hl' : lq.length ≤ 9) :
    Calls Try.prog 27 #[v, u] w fun e w' => ∃ v', e = .returned v' ∧ PN w' v' (if lq = [] then [] else nrem lp lq) ∧ Below w.heap.size w w' := by
  by_cases h0 : lq = []
  · subst h0
    refine (inv_nil h h').mono ?_
    rintro e w' ⟨rfl, hb⟩
    exact ⟨_, rfl, by rw [if_pos rfl]; exact PN.nil _ (by decide), hb⟩
  · refine (inv_p h h' hp hq h0 hs (hs' h0) hm hn hl hl').mono ?_
    rintro e w' ⟨v', rfl, h1, hb⟩
    exact ⟨_, rfl, by rw [if_neg h0]; exact h1, hb⟩

set_option maxHeartbeats 4000000 in
/-- The chain. -/
theorem chain_p {Sc : Rat → Prop} {K : Nat} (hS : Kd Sc) (hF : Scaled K Sc) {w : World} {v : Value} {p : List Rat} {m : Nat} (h : PN w v p) (hp : Trm p) (h0 : p ≠ []) (hs : Cml p m) (hm : m ≤ 2000) (hl : p.length ≤ 9) :
    Calls Try.prog 18 #[v, .func (.func K) #[] #[]] w fun e w' => ∃ v' fs, e = .returned v' ∧ OwnF w' w.heap.size v' fs ∧ Scl Sc fs (chainp p) ∧ (∀ f ∈ fs, Cml f (3363 * (m + 1 + 1)) ∧ f.length ≤ 9) ∧ fs.length ≤ 9 ∧ Below w.heap.size w w' := by
  have hcf := hF.1
  have HF := hid hF.2
  have hsl := hs.slope (show p.length ≤ 1000 by omega)
  have H1 := hid (HF.out w v p m h hp hs (by omega) hl)
  have HP := hid h
  have HT := hid hp
  have H0 := hid h0
  have HC := hid hs
  have HSL := hid hsl
  have HM := hid hm
  have HL := hid hl
  clear h hp h0 hs hsl hl
  go_enter Try.func18, Try.ntmps18
  go_wp2_with fail
  refine H1.out.mono ?_
  rintro e w1 ⟨v1, l1, rfl, hp1, hr1, hc1, hb1⟩
  have B := hid hb1
  have P1 := hid hp1
  have R1 := hid hr1
  have C1 := hid hc1
  have H2 := hid (pderiv_p (HP.out.on hb1) HC.out.sml (by omega) (by have := HL.out; omega))
  clear hp1 hr1 hc1 hb1 H1
  go_wp2_with fail
  refine H2.out.mono ?_
  rintro e w2 ⟨v2, rfl, hp2, hb2⟩
  replace B := bb B hb2
  replace P1 := pno P1 hb2
  have H3 := hid (HF.out w2 v2 (slope p) (m + 1) hp2 (trm_slope p) HSL.out (by omega) (by have := HL.out; have := slp_len p; omega))
  clear hp2 hb2 H2
  go_wp2_with fail
  refine H3.out.mono ?_
  rintro e w3 ⟨v3, l3, rfl, hp3, hr3, hc3, hb3⟩
  replace B := bb B hb3
  replace P1 := pno P1 hb3
  have P3 := hid hp3
  have HCH := hid (Chs.start HT.out H0.out R1.out hr3 (C1.out.mono (Nat.le_succ m)) hc3 HL.out)
  clear hp3 hr3 hc3 hb3 H3 R1 C1
  obtain ⟨a1, c1, rfl, _, _⟩ := P1.out.opened
  have HO := hid (OwnF.nil w3 w.heap.size)
  go_wp2_with fail
  go_loopg [5, 6, 7] l1.length (fun gh links link next wr => ∃ (fs : List (List Rat)) (lk nx : List Rat) (a : Option Addr) (c : Nat), link = .slice a lk.length c ∧ Hid (OwnF wr w.heap.size links fs) ∧ Hid (PN wr (.slice a lk.length c) lk) ∧ Hid (PN wr next nx) ∧ Hid (Chs Sc (m + 1) (chainp p) fs lk nx) ∧ Hid (lk.length = gh) ∧ Hid (Below w.heap.size w wr))
  case atStart => exact ⟨[], l1, l3, a1, c1, rfl, HO, P1, P3, HCH, hid rfl, B⟩
  case round =>
    clear HO P1 P3 HCH B
    obtain ⟨fs, lk, nx, a, c, rfl, HO, P1, P3, HCH, HG, B⟩ := hrel
    by_cases hlk : lk = []
    · subst hlk
      have HE := hid HCH.out.end
      simp only [List.length_nil]
      go_wp2_with fail
      go_ret
      exact ⟨_, fs, rfl, HO.out, HE.out.1, HE.out.2.1, HE.out.2.2, B.out⟩
    · have hpos : 0 < lk.length := List.length_pos_iff.2 hlk
      have hposI : (0 : Int) < (lk.length : Int) := by omega
      have HLK := hid hlk
      have HINV : Hid (Trm lk ∧ Trm nx ∧ lk.length ≤ 9 ∧ nx.length < lk.length ∧ Cml lk (3363 * (m + 1 + 1)) ∧ (nx ≠ [] → Cml nx (3363 * (m + 1 + 1))) ∧ fs.length ≤ 8 ∧ ∃ c, c ≤ 10000000 ∧ Cml (if nx = [] then [] else nrem lk nx) c ∧ Trm (if nx = [] then [] else nrem lk nx) ∧ (if nx = [] then [] else nrem lk nx).length ≤ 9 ∧ ∀ s, Rl Sc s (if nx = [] then [] else nrem lk nx) → Cml s c → Chs Sc (m + 1) (chainp p) (fs ++ [lk]) nx s) := hid (by
        have h8 : fs.length ≤ 8 := by
          obtain ⟨_, _, _, _, _, _, _, _, h4, _⟩ := HCH.out
          have := (h4 hlk).2.2.2.2.2; omega
        have hmm := HM.out
        by_cases hnx : nx = []
        · subst hnx
          obtain ⟨ds, n, g, h, e, k1, k2, k3, k4, k5, k6⟩ := HCH.out
          have k7 := k4 hlk
          have k8 := HCH.out.last hlk
          refine ⟨k3.1, rfl, by omega, hpos, k7.2.2.2.1.one (by omega), fun h => absurd rfl h, h8, 1, by omega, by rw [if_pos rfl]; exact Cml.nil (Nat.le_refl _), by rw [if_pos rfl]; rfl, by rw [if_pos rfl]; simp, fun s hs _ => ?_⟩
          rw [if_pos rfl] at hs
          rw [hs.nil.2 rfl]; exact k8
        · obtain ⟨k1, k2, k3, k4, k5, k6, c, k7, k8, k9⟩ := HCH.out.next hS hlk hnx
          have k10 := nrem_len k1 k2 hnx
          exact ⟨k1, k2, k3, k4, k5, fun _ => k6, h8, c, by omega, by rw [if_neg hnx]; exact k7, by rw [if_neg hnx]; exact trm_nrem _ _, by rw [if_neg hnx]; omega, fun s hs hsc => k9 s (by rw [if_neg hnx] at hs; exact hs) hsc⟩)
      clear hlk HCH
      have hb5 := (Below.refl wr.heap.size wr).alloc (Nat.le_refl _) (.cells #[.slice a lk.length c] 37)
      have cd0 : (wr.alloc (.cells #[.slice a lk.length c] 37)).cell? ⟨wr.heap.size, 0, none⟩ = some (.slice a lk.length c) := by
        have hx : (wr.alloc (.cells #[.slice a lk.length c] 37)).heap[wr.heap.size]? = some (.cells #[.slice a lk.length c] 37 (0, 0)) := by
          show (wr.heap.push _)[wr.heap.size]? = _
          simp
        simp only [World.cell?, hx]
        rfl
      have hKK : w.heap.size ≤ (wr.alloc (.cells #[.slice a lk.length c] 37)).heap.size := Nat.le_trans B.out.size hb5.size
      replace P1 := pno P1 hb5
      replace P3 := pno P3 hb5
      replace HO := hid (HO.out.on hb5)
      replace B := bb B hb5
      have hll : fs.length ≤ 1000 := by have := HINV.out.2.2.2.2.2.2.1; omega
      go_wp2_with (at_builtin; refine wpList_append_f rfl _ _ rfl w.heap.size _ fs rfl HO.out hKK hll wr.heap.size 1 rfl cd0 P1.out (Nat.le_refl _) B.out ?_)
      intro v' wa hown hpn hB2
      have HO2 := hid hown
      replace P1 := hid (hpn _ _ P1.out)
      replace P3 := hid (hpn _ _ P3.out)
      replace B := hid hB2
      have HI := hid (inv_any P1.out P3.out HINV.out.1 HINV.out.2.1 HINV.out.2.2.2.2.1.sml (fun h => (HINV.out.2.2.2.2.2.1 h).sml) (by have := HM.out; omega) (by have := HM.out; omega) HINV.out.2.2.1 (by have := HINV.out.2.2.1; have := HINV.out.2.2.2.1; omega))
      clear hown hpn hB2 hKK hll cd0 HO hb5
      go_wp2_with fail
      refine HI.out.mono ?_
      rintro e w5 ⟨v5, rfl, hp5, hb5⟩
      obtain ⟨c5, hc5, hcm, htm, hl5, hnext⟩ := HINV.out.2.2.2.2.2.2.2
      have H6 := hid (HF.out w5 v5 _ c5 hp5 htm hcm hc5 hl5)
      have HNX := hid hnext
      have HLT := hid HINV.out.2.2.2.1
      replace HO2 := hid (HO2.out.on hb5)
      replace P3 := pno P3 hb5
      replace B := bb B hb5
      clear hp5 hb5 hc5 hcm htm hl5 hnext HI HINV
      go_wp2_with fail
      refine H6.out.mono ?_
      rintro e w6 ⟨v6, l6, rfl, hp6, hr6, hc6, hb6⟩
      replace HO2 := hid (HO2.out.on hb6)
      replace P3 := pno P3 hb6
      replace B := bb B hb6
      have P6 := hid hp6
      have HCH := hid (HNX.out l6 hr6 hc6)
      clear hp6 hr6 hc6 hb6 H6 HNX
      go_wp2_with fail
      go_roundg nx.length
      case rel =>
        obtain ⟨a3, c3, rfl, _, _⟩ := P3.out.opened
        exact ⟨_, nx, l6, a3, c3, rfl, HO2, P3, P6, HCH, hid rfl, B⟩
      case measure => rw [← HG.out]; exact HLT.out

end Go.Proofs.Ytokojbgpboccnaa

/-
  PACKAGE sturm: Changes, of texts.
-/
namespace Go.Proofs.Ytokojbgpboccnaa
open Go.RowKit
open Num
set_option linter.unusedVariables false
set_option maxRecDepth 100000
set_option linter.unusedSimpArgs false

/-- What Changes tells. -/
def SChg (l : List ByteArray) (n : Nat) (k : Int) : Prop := (k = 0 ∧ (∀ i, i < l.length → GoodQ (tx l i)) ∧ n = chq 0 (rdp l)) ∨ (k ≠ 0 ∧ (∃ i, i < l.length ∧ (∀ j, j < i → GoodQ (tx l j)) ∧ BadQ (tx l i) k) ∧ n = 0)
set_option maxHeartbeats 4000000 in
theorem schg_any {w : World} {v : Value} {ss : List ByteArray} (h : TxsW w v ss) (hs : Szs ss) (hl : ss.length ≤ 1000000000000) :
    Calls Try.prog 8 #[v] w fun e w' => ∃ (n : Nat) (k : Int), e = .returned (.tuple #[.int .i64 n, errv k]) ∧ SChg ss n k ∧ Below w.heap.size w w' := by
  obtain ⟨p, c, rfl, hn, hc, hA⟩ := h
  obtain ⟨n, hN⟩ : ∃ n, ss.length = n := ⟨_, rfl⟩
  unfold Szs at hs
  rw [hN] at hn hA hs hl ⊢
  have HN := hid hN
  have HA := hid hA
  have HS := hid hs
  have hne := errv_neq
  have hgd := errv_guard
  unfold maxLen at hc
  clear hA hs hN
  go_enter Try.func8, Try.ntmps8
  go_wp2_with (refine wpList_make_ns _ rfl _ _ _ rfl Try.underlying36 n rfl rfl (by omega) ?_)
  intro w0 hrow hb0 hs0
  have B0 := hid (Below.refl w.heap.size w)
  have B := hid hb0
  have ROW := hid hrow
  clear hrow hb0 hs0
  go_wp2_with fail
  obtain ⟨b0, hb0⟩ : ∃ b0, b0 = w.heap.size := ⟨_, rfl⟩
  have HB := hid (show w.heap.size ≤ b0 by omega)
  rw [← hb0] at ROW ⊢
  clear hb0
  have W0 : ∃ rs : Nat → Nr, Hid (NRw w0 b0 n rs) := ⟨_, ROW⟩
  clear ROW
  obtain ⟨rs0, ROW⟩ := W0
  go_loopw [14] (fun x wr => ∃ (k : Nat) (rs : Nat → Nr), k ≤ n ∧ x = .int .i64 k ∧ Hid (∀ l, l < k → GoodQ (tx ss l)) ∧ Hid (NRw wr b0 n rs) ∧ Hid (∀ j, j < k → NF wr (nag (rs j)) (qnum (tx ss j))) ∧ Hid (Below w.heap.size w wr)) (fun x _ => n - (intOf x).toNat)
  case atStart => exact ⟨0, rs0, by omega, rfl, hid (fun l hl => by omega), ROW, hid (fun j hj => by omega), B⟩
  case round =>
    clear ROW B
    obtain ⟨k, rs, hk, rfl, HG, ROW, HW, B⟩ := hrel
    by_cases hlt : k < n
    · obtain ⟨b, off, rfl, hb, cu⟩ := HA.out k hlt
      have cu' := (B.out.cell (p := ⟨b, off + k, none⟩) hb).trans cu
      clear cu
      rcases goodQ_or_bad (tx ss k) with hg | ⟨z, hk⟩
      · go_wp2_with fail
        refine (qread_good hg _).mono ?_
        rintro e w101 ⟨v, rfl, hv, hb⟩
        obtain ⟨s5a, p5a, n5a, c5a, s5b, p5b, n5b, c5b, rfl⟩ := hv.opened
        replace ROW := rwo ROW hb
        replace HW := hid (fun q_ hq_ => (HW.out q_ hq_).on hb)
        replace B := bb B hb
        have HV := hid hv.nf
        clear hb hv
        have LB := hid ROW.out.lt
        obtain ⟨hb102, hx103, hs104⟩ := Nbx.made w101 s5a s5b (.slice p5a n5a c5a) (.slice p5b n5b c5b)
        replace HV := nf HV hb102
        replace ROW := rwo ROW hb102
        replace HW := hid (fun q_ hq_ => (HW.out q_ hq_).on hb102)
        replace B := bb B hb102
        have X7 := hid hx103
        clear hb102 hx103
        have cc105 := X7.out.cells
        have cc106 := ROW.out.stores hlt
        replace X7 := hid (X7.out.kept (ROW.out.far k (by have := HB.out; have := LB.out; omega) s5a p5a n5a c5a s5b p5b n5b c5b))
        replace HV := hid (HV.out.put ROW.out k s5a p5a n5a c5a s5b p5b n5b c5b)
        replace HW := hid (fun q_ hq_ => (HW.out q_ hq_).put ROW.out k s5a p5a n5a c5a s5b p5b n5b c5b)
        replace B := hid (ROW.out.below B.out k (by have := HB.out; have := LB.out; omega) s5a p5a n5a c5a s5b p5b n5b c5b)
        replace ROW := hid (ROW.out.put hlt s5a p5a n5a c5a s5b p5b n5b c5b)
        go_wp2_with fail
        go_roundw
        case rel => exact ⟨k + 1, _, by omega, by go_num, hid (fun l hl => if h : l < k then HG.out l h else (show k = l by omega) ▸ hg), ROW, hid (fun j hj => by
            by_cases hjk : j = k
            · subst hjk; rw [upd_self]; exact HV.out
            · rw [upd_ne _ _ hjk]; exact HW.out j (by omega)), B⟩
        case measure => simp [intOf]; omega
      · have hkk := errv_some hk.ne
        have HK := hid hk
        go_wp2_with fail
        refine (qread_bad hk _ (HS.out k hlt)).mono ?_
        rintro e w301 ⟨rfl, hb⟩
        replace B := bb B hb
        clear hb 
        obtain ⟨hb302, hx303, hs304⟩ := Nbx.made w301 false false (.slice none 0 0) (.slice none 0 0)
        replace B := bb B hb302
        have X7 := hid hx303
        clear hb302 hx303
        have cc305 := X7.out.cells
        go_wp2_with fail
        go_ret2
        exact ⟨0, z, by rw [hkk]; rfl, .inr ⟨HK.out.ne, ⟨k, by rw [HN.out]; exact hlt, HG.out, HK.out⟩, rfl⟩, B0.out.trans (B.out.mono B0.out.size)⟩
    · obtain rfl : k = n := by omega
      have HP : Hid (PN wr (.slice (some ⟨b0, 0, none⟩) k k) (rdp ss)) := hid (ROW.out.pn (by rw [rdp_len]; exact HN.out) (Nat.le_refl _) (by unfold maxLen; omega) (fun i hi => (HW.out i hi).cast (co_rdp (by rw [HN.out]; exact hi)).symm))
      have HC := hid (chg_p HP.out (by rw [rdp_len, HN.out]; exact hl))
      go_wp2_with fail
      refine HC.out.mono ?_
      rintro e w5 ⟨rfl, hb⟩
      replace B := bb B hb
      clear hb HC
      go_wp2_with fail
      go_ret2
      exact ⟨_, 0, rfl, .inl ⟨rfl, fun i hi => HG.out i (by rw [HN.out] at hi; exact hi), rfl⟩, B.out⟩

end Go.Proofs.Ytokojbgpboccnaa

/-
  PACKAGE poly: Mul.
-/
namespace Go.Proofs.Ytokojbgpboccnaa
open Go.RowKit
open Num
set_option linter.unusedVariables false
set_option maxRecDepth 100000
set_option linter.unusedSimpArgs false

set_option maxHeartbeats 1000000 in
theorem comb_mulp {w : World} {v u : Value} {p q : List ByteArray} (h : TxsW w v p) (h' : TxsW w u q) (hs : Szs p) (hs' : Szs q) :
    Calls Try.prog 24 #[v, u, .func (.func 25) #[] #[]] w fun e w' => ∃ r ss k, e = .returned (.tuple #[r, errv k]) ∧ OwnS w' w.heap.size r ss ∧ PTells mulp p q ss k ∧ Below w.heap.size w w' := by
  have H1 := hid (pboth_any h h' hs hs')
  have hne := errv_neq
  have hgd := errv_guard
  clear h h' hs hs'
  go_enter Try.func24, Try.ntmps24
  go_wp2_with fail
  refine H1.out.mono ?_
  rintro e w1 ⟨x, y, k, rfl, hr, hb⟩
  have B := hid hb
  rcases hr with ⟨rfl, hg, hg2, hp, hp2⟩ | ⟨hk, hw, rfl, rfl⟩
  · have HG := hid hg
    have HG2 := hid hg2
    have HP := hid hp
    have HP2 := hid hp2
    clear hb hg hg2 hp hp2
    go_wp2_with fail
    refine (pmul_p HP.out HP2.out HG.out.sml HG2.out.sml (by have := HG.out.1; rw [rdp_len]; omega) (by have := HG.out.1; rw [rdp_len]; omega) (by have := HG2.out.1; rw [rdp_len]; omega)).mono ?_
    rintro e w2 ⟨r, rfl, hr, hb2⟩
    replace B := bb B hb2
    have HR := hid hr
    clear hb2 hr
    go_wp2_with fail
    refine (texts_s HR.out (trm_mulp _ _) (HG.out.sml.prod HG2.out.sml) (by have := HG.out.1; rw [rdp_len]; omega) (Nat.le_trans (mulp_len _ _) (by have := HG.out.1; have := HG2.out.1; rw [rdp_len, rdp_len]; omega))).mono ?_
    rintro e w3 ⟨s, rfl, ho, hb3⟩
    have HO := hid (show OwnS w3 w.heap.size s _ from ⟨ho.1.mono B.out.size, ho.2⟩)
    replace B := bb B hb3
    clear hb3 ho
    go_wp2_with fail
    go_ret2
    exact ⟨_, _, 0, rfl, HO.out, .inl ⟨rfl, HG.out, HG2.out, rfl⟩, B.out⟩
  · have HK := hid hk
    have HW := hid hw
    have f1 : (k != 0) = true := by simpa using hk
    clear hb hw
    go_wp2_with fail
    go_ret2
    exact ⟨_, [], k, rfl, OwnS.nil _ _, .inr ⟨HK.out, HW.out, rfl⟩, B.out⟩

set_option maxHeartbeats 1000000 in
theorem pmuls_any {w : World} {v u : Value} {p q : List ByteArray} (h : TxsW w v p) (h' : TxsW w u q) (hs : Szs p) (hs' : Szs q) :
    Calls Try.prog 16 #[v, u] w fun e w' => ∃ r ss k, e = .returned (.tuple #[r, errv k]) ∧ OwnS w' w.heap.size r ss ∧ PTells mulp p q ss k ∧ Below w.heap.size w w' := by
  have H1 := hid (comb_mulp h h' hs hs')
  clear h h' hs hs'
  go_enter Try.func16, Try.ntmps16
  go_wp2_with fail
  refine H1.out.mono ?_
  rintro e w1 ⟨r, ss, k, rfl, ho, ht, hb⟩
  have HO := hid ho
  have HT := hid ht
  have B := hid hb
  clear ho ht hb
  go_wp2_with fail
  go_ret2
  exact ⟨_, _, k, rfl, HO.out, HT.out, B.out⟩

end Go.Proofs.Ytokojbgpboccnaa

/-
  LAWS of package poly: awake.
-/
namespace Go.Proofs.Ytokojbgpboccnaa
open Go.RowKit
open Num
set_option linter.unusedVariables false
set_option maxRecDepth 100000
set_option linter.unusedSimpArgs false

set_option maxHeartbeats 2000000 in
theorem awake_true (w : World) :
    Calls Try.prog 10 #[] w fun e w' => e = .returned (.bool true) ∧ Below w.heap.size w w' := by
  have hne := errv_neq
  have heq := errv_eql
  have hgd := errv_guard
  have t1 := one_text (Nat.le_refl w.heap.size) one11 (by decide)
  have hb1 := (Below.refl w.heap.size w).alloc (Nat.le_refl _) (.cells #[.string ⟨#[49]⟩, .string ⟨#[49]⟩] 9)
  have t2 := one_text (Nat.le_refl (w.alloc (.cells #[.string ⟨#[49]⟩, .string ⟨#[49]⟩] 9)).heap.size) one11 (by decide)
  have hb2 := (Below.refl (w.alloc (.cells #[.string ⟨#[49]⟩, .string ⟨#[49]⟩] 9)).heap.size _).alloc (Nat.le_refl _) (.cells #[.string ⟨#[49]⟩, .string ⟨#[49]⟩] 9)
  have B := hid (hb1.trans (hb2.mono hb1.size))
  have HM := pmuls_any (t1.on hb2).txs.weak t2.txs.weak szs_11 szs_11
  have hs : (w.alloc (.cells #[.string ⟨#[49]⟩, .string ⟨#[49]⟩] 9)).heap.size = w.heap.size + 1 := by simp
  rw [hs] at HM
  have HM := hid HM
  clear t1 t2 hb1 hb2 hs
  go_enter Try.func10, Try.ntmps10
  go_wp2_with fail
  refine HM.out.mono ?_
  rintro e w3 ⟨r, ss, k, rfl, ho, ht, hb⟩
  replace B := bb B hb
  obtain ⟨rfl, rfl⟩ := ht.yes good_11 good_11
  rw [sq_11, qtxt_rdp all_121] at ho
  have t3 := one_text (Nat.le_refl w3.heap.size) one121 (by decide)
  have hb3 := (Below.refl w3.heap.size w3).alloc (Nat.le_refl _) (.cells #[.string ⟨#[49]⟩, .string ⟨#[50]⟩, .string ⟨#[49]⟩] 9)
  have HS := same_texts (ho.1.on hb3).txs t3.txs
  rw [decide_eq_true rfl] at HS
  have HS := hid HS
  replace B := bb B hb3
  clear ho hb hb3 t3 HM ht
  go_wp2_with fail
  refine HS.out.mono ?_
  rintro e w4 ⟨rfl, hb⟩
  replace B := bb B hb
  clear hb HS
  go_wp2_with fail
  go_ret
  exact ⟨rfl, B.out⟩

end Go.Proofs.Ytokojbgpboccnaa
