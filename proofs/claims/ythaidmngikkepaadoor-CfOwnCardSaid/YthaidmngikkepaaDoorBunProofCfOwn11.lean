import Derived.Test.YthaidmngikkepaaDoorBunProofCfOwn7
import Derived.WideShapes
import Derived.Laws.Rows
import Derived.Test.YthaidmngikkepaaDoorBunProofCfOwn5
import Derived.Test.YthaidmngikkepaaDoorBunProofCfOwn10
/-
  A copy of a list of texts; every text of one's own list overwritten; two errors told the same.
-/
namespace Go.Proofs.YthaidmngikkepaaDoor
open Go.RowKit
open Num
set_option linter.unusedVariables false
set_option maxRecDepth 100000
set_option linter.unusedSimpArgs false

theorem run_append_none (w : World) (ty : TypeId) (b0 : Addr) (p : Option Addr) (c : Nat) :
    (Builtin.append_ #[22, 22] ty #[.slice (some b0) 0 0, .slice p 0 c]).run Tryd.prog w = .ok (.slice (some b0) 0 0) w := by
  obtain ⟨i, hi, _⟩ := info_parts infoStr
  cases p <;> simp [Builtin.append_, run_underlying Tryd.underlying22, sizeOf, typeInfo, hi, Builtin.lenOf, Builtin.firstCells, loadCells, loadCellsFrom, storeCells]
theorem wpList_append_run {P : Program} {w w' : World} {ops : Array Oper} {rest : List Oper} {o : Oper} {a : Act} {Q : Exit → Act → World → Prop} (hgd : o.guard = none) (s x : Operand) (t : TypeId)
    (ho : o.op = .call { callee := .builtin .append, args := #[s, x], argTypes := #[t, t] }) (v u r : Value) (hs : a.eval s = v) (hx : a.eval x = u)
    (hr : (Builtin.append_ #[t, t] o.type #[v, u]).run P w = .ok r w') (h : wpList P ops Q rest (a.put o.dst r) w') : wpList P ops Q (o :: rest) a w :=
  wpList_plain hgd fun K hK => by
    unfold Oper.wp execOp
    simp only [ho, resolve, invoke, builtin, Sem.run_bind, Sem.run_pure, Result.andThen_ok, List.map_toArray, List.map_cons, List.map_nil, hs, hx, hr]
    exact hK _ _ h

/-- A slice value reads as texts; of a list without texts nothing is asked. -/
def TxsW (w : World) (v : Value) (ss : List ByteArray) : Prop :=
  ∃ p c, v = .slice p ss.length c ∧ ss.length ≤ c ∧ c ≤ maxLen ∧ ∀ k, k < ss.length → ∃ b off, p = some ⟨b, off, none⟩ ∧ b < w.heap.size ∧ w.cell? ⟨b, off + k, none⟩ = some (.string (tx ss k))
theorem Txs.weak {w : World} {v : Value} {ss : List ByteArray} (h : Txs w v ss) : TxsW w v ss := by
  obtain ⟨p, c, h1, h2, h3, h4⟩ := h
  exact ⟨p, c, h1, h2, h3, txs_at h2 h4⟩
theorem TxsW.full {w : World} {v : Value} {ss : List ByteArray} (h : TxsW w v ss) (h0 : 0 < ss.length) : Txs w v ss := by
  obtain ⟨p, c, h1, h2, h3, h4⟩ := h
  obtain ⟨b, off, rfl, hb, _⟩ := h4 0 h0
  refine ⟨_, c, h1, h2, h3, .inr ⟨b, off, rfl, hb, fun i hi => ?_⟩⟩
  obtain ⟨b', off', e, _, h5⟩ := h4 i hi
  cases e
  exact h5
theorem TxsW.below {w w' : World} {v : Value} {ss : List ByteArray} {K : Nat} (h : TxsW w v ss) (hb : Below K w w') (hK : w.heap.size ≤ K) : TxsW w' v ss := by
  obtain ⟨p, c, h1, h2, h3, h4⟩ := h
  refine ⟨p, c, h1, h2, h3, fun k hk => ?_⟩
  obtain ⟨b, off, h5, h6, h7⟩ := h4 k hk
  refine ⟨b, off, h5, Nat.lt_of_lt_of_le h6 hb.size, ?_⟩
  rw [hb.cell (by exact Nat.lt_of_lt_of_le h6 hK)]
  exact h7

set_option maxHeartbeats 1000000 in
/-- Two lists without texts are the same. -/
theorem same_empty (w : World) (p p' : Option Addr) (c c' : Nat) :
    Calls Tryd.prog 8 #[.slice p 0 c, .slice p' 0 c'] w fun e w' => e = .returned (.bool true) ∧ Below w.heap.size w w' := by
  go_enter Tryd.func8, Tryd.ntmps8
  go_wp2_with fail
  go_loopw [5] (fun i wr => i = .int .i64 0 ∧ ∃ j, wr = w.drewN j) (fun i _ => 0)
  case atStart => exact ⟨rfl, 0, rfl⟩
  case round =>
    obtain ⟨rfl, j, rfl⟩ := hrel
    go_wp2_with fail
    go_ret
    exact ⟨rfl, below_drewN (Below.refl _ _) _⟩
theorem same_w {w : World} {v u : Value} {ss : List ByteArray} (h : Txs w v ss) (h' : TxsW w u ss) :
    Calls Tryd.prog 8 #[v, u] w fun e w' => e = .returned (.bool true) ∧ Below w.heap.size w w' := by
  rcases Nat.eq_zero_or_pos ss.length with h0 | h0
  · obtain ⟨p, c, rfl, _⟩ := h
    obtain ⟨p', c', rfl, _⟩ := h'
    rw [h0]
    exact same_empty w p p' c c'
  · have hc := same_texts h (h'.full h0)
    rw [decide_eq_true rfl] at hc
    exact hc

set_option maxHeartbeats 1000000 in
/-- A copy of a list of texts. -/
theorem copied_any {w : World} {v : Value} {ss : List ByteArray} (h : TxsW w v ss) (hr : ss.length * 16 ≤ 140737488355328) :
    Calls Tryd.prog 5 #[v] w fun e w' => ∃ u, e = .returned u ∧ OwnT w' w.heap.size u ss ∧ Below w.heap.size w w' := by
  obtain ⟨i0, hi, hz0, hz1, hz2⟩ := info_parts infoStr
  have hx := h
  obtain ⟨p, c, rfl, hn, hc, hp⟩ := h
  have HA := hid hp
  have hb0 := (Below.refl w.heap.size w).alloc (Nat.le_refl _) (.cells #[] 9)
  have HO : OwnT (w.alloc (.cells #[] 9)) w.heap.size (.slice (some ⟨w.heap.size, 0, none⟩) 0 0) [] := OwnT.new w w.heap.size (Nat.le_refl _) [] (by decide)
  have HO := hid HO
  have B := hid hb0
  obtain ⟨n, hN⟩ : ∃ n, ss.length = n := ⟨_, rfl⟩
  have HN := hid hN
  rw [hN] at hr ⊢
  clear hb0 hx hn hN
  by_cases hz : n = 0
  · subst hz
    obtain rfl : ss = [] := List.length_eq_zero_iff.1 HN.out
    have hrun := run_append_none (w.alloc (.cells #[] 9)) 22 ⟨w.heap.size, 0, none⟩ p c
    clear hp
    go_enter Tryd.func5, Tryd.ntmps5
    go_wp2_with (at_builtin; refine wpList_append_run rfl _ _ 22 rfl _ _ _ rfl rfl hrun ?_)
    go_ret
    exact ⟨_, rfl, HO.out, B.out⟩
  · obtain ⟨b, off, rfl, hb, _⟩ := HA.out 0 (by rw [HN.out]; omega)
    have HC : ∀ j u, (ss.map Value.string)[j]? = some u → w.cell? (Addr.add ⟨b, off, none⟩ j) = some u := by
      intro j u hj
      rw [List.getElem?_map] at hj
      obtain ⟨s, hs, rfl⟩ := Option.map_eq_some_iff.1 hj
      obtain ⟨hjl, hje⟩ := List.getElem?_eq_some_iff.1 hs
      obtain ⟨b', off', e, _, h3⟩ := HA.out j hjl
      cases e
      rw [tx_lt hjl, hje] at h3
      rw [Go.WideShapes.add_plain]
      exact h3
    have HC2 : ∀ j u, (ss.map Value.string)[j]? = some u → (w.alloc (.cells #[] 9)).cell? (Addr.add ⟨b, off, none⟩ j) = some u := by
      intro j u hj
      rw [World.cell?_alloc_lt _ _ _ (by rw [Go.WideShapes.add_plain]; exact hb)]
      exact HC j u hj
    have HC := hid HC2
    clear HC2 hp
    go_enter Tryd.func5, Tryd.ntmps5
    go_wp2_with (at_builtin; refine wpList_append_own _ rfl _ _ 22 rfl w.heap.size 9 i0 (.string ⟨#[]⟩) 1 16 Tryd.underlying22 hi hz0 hz1 hz2 rfl (by decide) _ _ _ rfl HO.out ⟨b, off, none⟩ n c (ss.map Value.string) rfl ?c0 ?c1 ?c2 ?c3 ?c4 ?c5 ?_)
    case c0 => simp [HN.out]
    case c1 => exact HC.out
    case c2 =>
      intro u hu
      obtain ⟨s, _, rfl⟩ := List.mem_map.1 hu
      rfl
    case c3 =>
      show 0 + n ≤ maxLen
      unfold maxLen; omega
    case c4 =>
      show (0 + n) * 16 ≤ _
      omega
    case c5 => simp
    rintro v' w' ho hg _
    go_wp2_with fail
    go_ret
    refine ⟨_, rfl, ?_, ?_⟩
    · show World.ownsRow _ _ _ _ _ _ _
      rw [HN.out]
      simpa using ho
    · exact B.out.grown hg (by simp) fun g hgg => by
        simp [Value.ownBlock] at hgg
        omega

/-- What is told of two errors is the same. -/
theorem told_two (k : Int) (w : World) (hd : Door w) :
    Calls Tryd.prog 9 #[errv k, errv k] w fun e w' => e = .returned (.bool true) ∧ Below w.heap.size w w' := by
  have H : ∀ w, Door w → Calls Tryd.prog 15 #[errv k] w fun e w' => e = .returned (.int .i64 k) ∧ Below w.heap.size w w' := fun w hd => told_errv k w hd
  have H := hid H
  have HD := hid hd
  clear hd
  generalize errv k = u at *
  go_enter Tryd.func9, Tryd.ntmps9
  go_wp2_with fail
  refine (H.out w HD.out).mono ?_
  rintro e w1 ⟨rfl, hb⟩
  have B := hid hb
  replace HD := hid (HD.out.below hb)
  clear hb
  go_wp2_with fail
  refine (H.out w1 HD.out).mono ?_
  rintro e w2 ⟨rfl, hb⟩
  replace B := hid (B.out.trans (hb.mono B.out.size))
  clear hb
  go_wp2_with fail
  go_ret
  exact ⟨rfl, B.out⟩

theorem grownBy_set {w wr : World} {g : Nat} (h : w.grownBy wr (some g)) (i : Nat) (u : Value) : w.grownBy (wr.setCell ⟨g, i, none⟩ u) (some g) := by
  have h2 := grown_set wr g i u
  exact ⟨h2.os.trans h.os, h2.tape.trans h.tape, h2.output.trans h.output, Nat.le_trans h.size h2.size, fun k hk hne => (h2.block k (Nat.lt_of_lt_of_le hk h.size) hne).trans (h.block k hk hne)⟩

set_option maxHeartbeats 1000000 in
/-- Every text of a list of one's own overwritten. -/
theorem spoil_any {w : World} {K : Nat} {v : Value} {ss : List ByteArray} (h : OwnT w K v ss) (x : ByteArray) :
    Calls Tryd.prog 6 #[v, .string x] w fun e w' => e = .returned (.tuple #[]) ∧ w.grownBy w' v.ownBlock := by
  obtain ⟨_, h⟩ := h
  rcases h with ⟨rfl, h0⟩ | ⟨g, cap, cur, rfl, hK, h1, h2, h3, h4, h5⟩
  · go_enter Tryd.func6, Tryd.ntmps6
    go_wp2_with fail
    go_loopw [4] (fun i wr => i = .int .i64 0 ∧ ∃ j, wr = w.drewN j) (fun i _ => 0)
    case atStart => exact ⟨rfl, 0, rfl⟩
    case round =>
      obtain ⟨rfl, j, rfl⟩ := hrel
      go_wp2_with fail
      go_end0
      exact ⟨rfl, rfl, rfl, rfl, Nat.le_refl _, fun _ _ _ => rfl⟩
  · obtain ⟨n, hN⟩ : ∃ n, ss.length = n := ⟨_, rfl⟩
    rw [hN] at h2 ⊢
    have hs : n ≤ cur.size := by omega
    have hm : n ≤ 9223372036854775807 := by unfold maxLen at h3; omega
    clear h5 hN
    go_enter Tryd.func6, Tryd.ntmps6
    go_wp2_with fail
    go_loopw [4] (fun i wr => ∃ k : Nat, k ≤ n ∧ i = .int .i64 k ∧ w.grownBy wr (some g) ∧ ∃ cur', wr.heap[g]? = some (.cells cur' 9) ∧ n ≤ cur'.size) (fun i _ => n - (intOf i).toNat)
    case atStart => exact ⟨0, by omega, rfl, ⟨rfl, rfl, rfl, Nat.le_refl _, fun _ _ _ => rfl⟩, cur, h1, hs⟩
    case round =>
      obtain ⟨k, hk, rfl, hg, cur', hc, hs'⟩ := hrel
      by_cases hlt : k < n
      · have cc : wr.cell? ⟨g, k, none⟩ = some cur'[k] := by simp [World.cell?, hc]
        have cf : wr.frozen? ⟨g, k, none⟩ = false := by simp [World.frozen?, hc]
        have HG := hid hg
        have HC := hid hc
        clear hg hc h1
        go_wp2_with fail
        go_roundw
        case rel =>
          refine ⟨k + 1, by omega, by go_num, grownBy_set HG.out k _, _, heap_setCell_same _ _ _ _ _ _ HC.out, by simpa using hs'⟩
        case measure => simp [intOf]; omega
      · obtain rfl : k = n := by omega
        have HG := hid hg
        clear hg hc h1
        go_wp2_with fail
        go_end0
        exact ⟨rfl, HG.out⟩
end Go.Proofs.YthaidmngikkepaaDoor
