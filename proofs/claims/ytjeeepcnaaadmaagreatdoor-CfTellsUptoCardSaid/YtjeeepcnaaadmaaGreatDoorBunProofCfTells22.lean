import Derived.RangeFuncNested
import Derived.RangeFuncBound
import Derived.RangeFuncCalls
import Derived.RangeFuncLeaves
import Derived.Shelf.Abstract
import Derived.Shelf.RegionOpen
import Derived.OwnWalkIn
import Derived.TacticsInMore
import Derived.LoopNIn
import Derived.LoopIn
import Derived.Test.YtjeeepcnaaadmaaGreatDoorBunProofCfTells14
/-
  slices.Backward OVER Integers: its contract.
-/
namespace Go.Proofs.YtjeeepcnaaadmaaGreatDoor
open Go.RowKit Go.Shelf
open Num
set_option linter.unusedVariables false
set_option maxRecDepth 100000
set_option linter.unusedSimpArgs false
attribute [local go_sem] Oper.semAt_some

/-- What has come behind k rounds: the last place, and so on. -/
def dwn (n k : Nat) : List Nat := (List.range k).map fun j => n - 1 - j
theorem dwn_succ (n k : Nat) : dwn n (k + 1) = dwn n k ++ [n - 1 - k] := by simp [dwn, List.range_succ]
theorem dwn_len (n k : Nat) : (dwn n k).length = k := by simp [dwn]

/-- What a round keeps: what lay below n₀, and the slice's own box. -/
def KB (n₀ Bs : Nat) (A B : World) : Prop := Below n₀ A B ∧ B.heap[Bs]? = A.heap[Bs]?
theorem KB.refl (n₀ Bs : Nat) (A : World) : KB n₀ Bs A A := ⟨Below.refl _ _, rfl⟩
theorem KB.trans {n₀ Bs : Nat} {A B C : World} (h : KB n₀ Bs A B) (h' : KB n₀ Bs B C) : KB n₀ Bs A C := ⟨h.1.trans h'.1, h'.2.trans h.2⟩
theorem KB.cell {n₀ Bs : Nat} {A B : World} (h : KB n₀ Bs A B) (i : Nat) : B.cell? ⟨Bs, i, none⟩ = A.cell? ⟨Bs, i, none⟩ := World.cell?_of_block h.2

set_option maxHeartbeats 4000000 in
theorem bkwd1_in (F : Fence) (m : Nat) (hF : F.fn 131) (hro : F.round = none) (hm : 1 ≤ m) (l Bs n₀ b n : Nat) (vs : List Zr) (hvs : vs.length = n) (hn : n ≤ 4398046511104) (hb : b < n₀) (J Jx : List Nat → World → Prop)
    (hY : ∀ pre (x : Nat) W, J pre W → pre.length < n → YieldAt F (m - 1) Tryz.prog l #[.int .i64 (x : Int), zag (zat vs x)] W fun e W' =>
      (e = .returned (.bool true) ∧ J (pre ++ [x]) W' ∧ KB n₀ Bs W W') ∨ (e = .returned (.bool false) ∧ Jx (pre ++ [x]) W'))
    (W : World) (hBs : W.cell? ⟨Bs, 0, none⟩ = some (.slice (some ⟨b, 0, none⟩) n n)) (hrow : Zrow W b vs) (h0 : J [] W) :
    CallsIn F m Tryz.prog 131 #[.func (.yield l) #[] #[], .pointer (some ⟨Bs, 0, none⟩)] W fun e W' => (∃ v, e = .returned v) ∧
      ((∃ ys, ys = dwn n n ∧ J ys W') ∨ (∃ pre, (∃ k, k ≤ n ∧ pre = dwn n k) ∧ Jx pre W')) := by
  refine callsIn_of_wp Tryz.func131 rfl hF ?_ hro
  simp only [Tryz.ntmps131, List.size_toArray, List.length_cons, List.length_nil, Nat.reduceAdd, Nat.reduceSub, Array.replicate_succ, Array.replicate_zero, List.push_toArray, List.append_toArray, List.nil_append, List.cons_append]
  gi_wp2
  gi_loopw [3] (fun i wr => ∃ k : Nat, k ≤ n ∧ i = .int .i64 ((n : Int) - 1 - k) ∧ J (dwn n k) wr ∧ KB n₀ Bs W wr)
    (fun i _ => (intOf i + 1).toNat)
  case atStart => exact ⟨0, Nat.zero_le _, by simp, h0, KB.refl _ _ _⟩
  case round =>
    obtain ⟨k, hk, rfl, hJs, hnx⟩ := hrel
    have hB2 := (hnx.cell 0).trans hBs
    by_cases hlt : k < n
    · have hr2 := hrow.below hnx.1 hb
      obtain ⟨i, hi⟩ : ∃ i : Nat, (n : Int) - 1 - k = i ∧ i < n := ⟨n - 1 - k, by omega, by omega⟩
      obtain ⟨c1, c2⟩ := hr2.cells (i := i) (by omega)
      obtain ⟨fn, tmps, assign, body, hy, hR⟩ := hY _ i wr hJs (by rw [dwn_len]; exact hlt)
      have hi0 := hi.2
      rw [hi.1]
      dsimp only [zag] at hy
      gi_wp2
      refine hR.mono ?_
      rintro e W3 (⟨rfl, hJ3, hk3⟩ | ⟨rfl, hJx3⟩)
      · gi_wp2
        go_roundw
        case rel => exact ⟨k + 1, by omega, by have := hi.1; go_num, by rw [dwn_succ, show n - 1 - k = i by omega]; exact hJ3, hnx.trans hk3⟩
        case measure => simp [intOf]
      · gi_wp2
        refine bodyPost_ret (results_none rfl _ _ _) rfl ?_
        exact ⟨⟨_, rfl⟩, .inr ⟨_, ⟨k + 1, by omega, by rw [dwn_succ, show n - 1 - k = i by omega]⟩, hJx3⟩⟩
    · obtain rfl : k = n := by omega
      gi_wp2
      go_end0
      exact ⟨⟨_, rfl⟩, .inl ⟨_, rfl, hJs⟩⟩

set_option maxHeartbeats 1000000 in
theorem bkwd_in (F : Fence) (m : Nat) (hF : F.fn 102) (hro : F.round = none) (a : Option Addr) (len cap : Nat) (w : World) :
    CallsIn F m Tryz.prog 102 #[.slice a len cap] w fun e w' => e = .returned (.func (.func 131) #[] #[.pointer (some ⟨w.heap.size, 0, none⟩)]) ∧ w' = w.alloc (.cells #[.slice a len cap] 107) := by
  refine callsIn_of_wp Tryz.func102 rfl hF ?_ hro
  simp only [Tryz.ntmps102, List.size_toArray, List.length_cons, List.length_nil, Nat.reduceAdd, Nat.reduceSub, Array.replicate_succ, Array.replicate_zero, List.push_toArray, List.append_toArray, List.nil_append, List.cons_append]
  gi_wp2
  go_ret
  exact ⟨rfl, rfl⟩

theorem bkwd_stops (F : Fence) (m : Nat) (hF : F.fn 131) (hro : F.round = none) (hm : 1 ≤ m) (Bs n₀ b n : Nat) (vs : List Zr) (hvs : vs.length = n) (hn : n ≤ 4398046511104) (w : World) (hb : b < n₀) (hB0 : Bs < w.heap.size) (hn₀ : n₀ ≤ w.heap.size)
    (hc : w.cell? ⟨Bs, 0, none⟩ = some (.slice (some ⟨b, 0, none⟩) n n)) (hrow : Zrow w b vs) :
    SeqStopsK F m Tryz.prog 131 #[.pointer (some ⟨Bs, 0, none⟩)] (fun x : Nat => #[Value.int .i64 (x : Int), zag (zat vs x)]) (KB n₀ Bs) (fun ys => ys = dwn n n) (fun _ => True) n w := fun l J Jx W hW _ _ hY h0 => by
  have hc' := (hW.cell (p := ⟨Bs, 0, none⟩) hB0).trans hc
  refine (bkwd1_in F m hF hro hm l Bs n₀ b n vs hvs hn hb J Jx hY W hc' (hrow.below hW (Nat.lt_of_lt_of_le hb hn₀)) h0).mono ?_
  rintro e W' ⟨he, ⟨ys, rfl, hj⟩ | ⟨pre, ⟨k, hk, rfl⟩, hj⟩⟩
  · exact ⟨he, .inl ⟨_, rfl, hj⟩⟩
  · exact ⟨he, .inr ⟨_, trivial, hj⟩⟩

end Go.Proofs.YtjeeepcnaaadmaaGreatDoor
