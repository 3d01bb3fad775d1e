import Derived.Test.YtefpifcfnfkfoaaDoorRMul
import Derived.Test.YtefpifcfnfkfoaaDoorRSub
import Derived.Laws.OwnMore
namespace Go.Proofs.YtefpifcfnfkfoaaDoor
open Go.RowKit
open Num (dg dg_lt dg_ge dg_zeros dg_take dg_drop dg_set_self dg_set_ne tl tlen tl_zero tl_skip tl_stop tl_le tlen_le trimL length_trimL tl_top drop_dg)
open Num4
set_option linter.unusedVariables false
set_option linter.unusedSimpArgs false

theorem Acc.one (w : World) {K : Nat} (hK : K ≤ w.heap.size) (z : Int) (zn : Nat) (hz : z = zn) : Acc (w.alloc (.cells #[.int .i64 z] 3)) K (.slice (some ⟨w.heap.size, 0, none⟩) 1 1) [zn] := by
  subst hz
  exact World.ownsRow_lit w #[.int .i64 zn] 1 hK (by unfold maxLen; omega) rfl
theorem Acc.none0 (w : World) {K : Nat} (hK : K ≤ w.heap.size) : Acc (w.alloc (.cells #[] 3)) K (.slice (some ⟨w.heap.size, 0, none⟩) 0 0) [] :=
  World.ownsRow_lit w #[] 0 hK (by unfold maxLen; omega) rfl

/-- All numbers of another slice are appended. -/
theorem wpList_join_ints {P : Program} (w : World) {ops : Array Oper} {rest : List Oper} {o : Oper} {a : Act} {Q : Exit → Act → World → Prop}
    (hg : o.guard = none) (s x : Operand) (t : TypeId) (hop : o.op = Op.call { callee := Callee.builtin Builtin.append, args := #[s, x], argTypes := #[t, t] })
    (i : TypeInfo) (h1 : P.underlying t = some (.slice 3)) (h2 : P.info? 3 = some i) (h3 : i.zero = some (.int .i64 0)) (h4 : i.size = 1) (h5 : i.bytes = 8)
    {K : Nat} {v u : Value} {zs ys : List Nat} (hacc : Acc w K v zs) (hL : LimR w u ys) (hs : a.eval s = v) (hx : a.eval x = u)
    (hK : K ≤ w.heap.size) (hlen : zs.length + ys.length ≤ 1099511627790)
    (hk : ∀ v' w', Acc w' K v' (zs ++ ys) → Below K w w' → wpList P ops Q rest (a.put o.dst v') w') :
    wpList P ops Q (o :: rest) a w := by
  obtain ⟨hf, p, c, rfl, hc, hm, ha⟩ := hL
  rcases ha with ⟨rfl, rfl⟩ | ⟨b, off, rfl, hb, hcell⟩
  · obtain rfl : ys = [] := List.length_eq_zero_iff.1 (by omega)
    refine wpList_plain hg fun K' hK' => ?_
    have hr := run_append_owned_none (P := P) w K t o.type 3 i 1 h1 h2 v zs.length _ hacc
    unfold Oper.wp
    simp only [List.length_nil] at hx
    simp [execOp, hop, resolve, invoke, builtin, hs, hx, hr, Result.andThen]
    exact hK' _ _ (hk _ _ (by rw [List.append_nil]; exact hacc) (Below.refl _ _))
  · refine wpList_append_own _ hg s x t hop K 3 i (.int .i64 0) 1 8 h1 h2 h3 h4 h5 rfl (by decide) v zs.length (zs.map V1) hs hacc ⟨b, off, none⟩ ys.length c (ys.map V1) hx (by simp) ?_ ?_ ?_ ?_ hK ?_
    · intro j u hj
      have hj2 : j < ys.length := by have := (List.getElem?_eq_some_iff.1 hj).1; simpa using this
      rw [VR_map .i64 ys j hj2] at hj
      cases hj
      have : (⟨b, off, none⟩ : Addr).add j = ⟨b, off + j, none⟩ := by unfold Addr.add; split <;> simp_all
      rw [this]
      exact hcell j hj2
    · intro u hu
      obtain ⟨n, _, rfl⟩ := List.mem_map.1 hu
      rfl
    · unfold maxLen; omega
    · omega
    · intro v' w' hown' hgrow _
      refine hk v' w' ?_ ?_
      · show w'.ownsRow K 3 1 v' (zs ++ ys).length ((zs ++ ys).map V1)
        rw [List.map_append, List.length_append]; exact hown'
      · exact (Below.refl _ _).grown hgrow hK (fun k hk => (World.ownsRow.lt hacc k hk).1)

/-! ### What is left, place by place -/
theorem rdiv_start {xs ys : List Nat} {n m : Nat} (hf : Fits xs) (ht : Trim ys) (hn : xs.length = n) (hm : ys.length = m) (h1 : m ≤ n) (h2 : 0 < m) : val (xs.drop (n - (m - 1))) < val ys :=
  lt_of_length (hf.drop _) ht (by rw [List.length_drop]; omega)

theorem rdiv_high {x v V : Nat} (hx : x < 10000) (hv : v < V) : x + B * v < (9999 + 1) * V := by
  have : B * v + B ≤ B * V := by rw [← Nat.mul_succ]; exact Nat.mul_le_mul_left _ hv
  simp only [B] at *
  omega

theorem rdiv_step {xs us zs : List Nat} {k lo V R : Nat} (hk : k < xs.length) (hu : k < us.length) (hI : val (xs.drop (k + 1)) = val (us.drop (k + 1)) * V + val zs) (hR : R = dg xs k + B * val zs) (hlo : lo * V ≤ R) :
    val (xs.drop k) = val ((us.set k lo).drop k) * V + (R - V * lo) := by
  rw [drop_dg hk, drop_dg (l := us.set k lo) (by rw [List.length_set]; exact hu), dg_set_self _ _ _ hu, List.drop_set_of_lt (by omega), val_cons, val_cons, hI, Nat.mul_add, Nat.add_mul, Nat.mul_comm V lo, Nat.mul_assoc]
  omega

theorem rdiv_left {lo V R : Nat} (h1 : lo * V ≤ R) (h2 : R < (lo + 1) * V) : R - V * lo < V := by
  rw [Nat.add_mul] at h2
  rw [Nat.mul_comm V lo]
  omega

theorem val_mid (mid : Nat) : val (trimL [mid]) = mid := by rw [val_trimL, val_single]

end Go.Proofs.YtefpifcfnfkfoaaDoor
