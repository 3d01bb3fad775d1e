import Derived.Test.YtokojbgpboccnaaBunProofSturmOwn4
import Derived.OrdersIn
import Derived.OwnWalkIn
import Derived.RangeFuncCalls
/-
  A REGION THAT DRAWS ITS ORDER, IN A ROUND OF A RANGE OVER A FUNCTION: by what holds whatever has come up (as RegInv).
-/
namespace Go.Proofs.Ytokojbgpboccnaa
open Go.RowKit
set_option linter.unusedVariables false
set_option linter.unusedSimpArgs false

theorem Oper.in_round {P : Program} {o : Oper} (hd : ∀ c, o.op ≠ .defer c) {a : Act} {w : World} {K : Act → World → Prop} {Q : Exit → Act → World → Prop} (l n : Nat) (h : Oper.wp P o a w K Q) : Oper.wpIn (Fence.wide.inRound l) n P o a w K Q := by
  refine ⟨fun f _ => trivial, ?_⟩
  rw [Oper.semAt_plain (Fence.wide.inRound l) _ _ hd]
  unfold Oper.wp at h
  generalize (execOp a.eval o).run P w = r at *
  cases r with
  | ok x w' =>
    cases x <;> simp only [Oper.upon, Oper.uponIn] at h ⊢ <;>
      first
        | exact h
        | exact h.elim
        | exact ⟨fun e => absurd e (by simp [Fence.inRound, Fence.wide]), CallsIn.inRound l (callsIn_wide.2 h)⟩
        | exact ⟨fun e => absurd e (by simp [Fence.inRound, Fence.wide]), fun c cs _ => let ⟨v, w', r, s⟩ := h c cs; ⟨v, w', r, stepsIn_wide.2 s⟩⟩
  | halt x w' => cases x <;> simp only [Oper.upon, Oper.uponIn] at h ⊢ <;> exact h
def noDefer (ops : Array Oper) : Bool := ops.toList.all fun o => match o.op with | .defer _ => false | _ => true
theorem noDefer_at {ops : Array Oper} (h : noDefer ops = true) {j : Nat} {o : Oper} (ho : ops[j]? = some o) : ∀ c, o.op ≠ .defer c := by
  intro c e
  have hm : o ∈ ops.toList := by
    obtain ⟨h1, h2⟩ := Array.getElem?_eq_some_iff.1 ho
    rw [← h2]
    exact Array.mem_toList_iff.2 (Array.getElem_mem h1)
  have := List.all_eq_true.1 h o hm
  rw [e] at this
  cases this

theorem any_inv_in {P : Program} {ops : Array Oper} {Q : Exit → Act → World → Prop} (l n : Nat) (hn : noDefer ops = true) (hb : backB ops = true) (J : (Nat → Bool) → Act → World → Prop)
    (hstep : ∀ f a w j o, J f a w → ops[j]? = some o → f j = false → (∀ e ∈ o.after.toList, Region.binds .any e = true → f e.on = true) → ∀ K : Act → World → Prop, (∀ a' w', J (more f j) a' w' → K a' w') →
      if Region.wanted o (yielded ops a.tmps) = true then Oper.wp P o a w K Q else K (a.put o.dst undef) w)
    (hend : ∀ f a w, J f a w → (∀ j, j < ops.size → f j = true) → Q .normal a w) :
    ∀ (fuel : Nat) (listed : Array Bool) (f : Nat → Bool) (a : Act) (w : World), listed.size = ops.size → (∀ j, j < ops.size → listed.getD j true = f j) → open_ f ops.size ≤ fuel → J f a w → wpAnyIn (Fence.wide.inRound l) n P .any ops Q fuel listed a w := by
  intro fuel
  induction fuel with
  | zero =>
    intro listed f a w hs hf hc hJ
    have hr : Region.ready .any ops listed = [] := by
      apply List.eq_nil_iff_forall_not_mem.2
      intro j hj
      obtain ⟨h1, o, ho, _⟩ := mem_ready.1 hj
      have hlt : j < ops.size := (Array.getElem?_eq_some_iff.1 ho).1
      rw [hf j hlt] at h1
      have := open_pos hlt h1
      omega
    exact ⟨hr, hend f a w hJ (all_come hb hf hs hr)⟩
  | succ fuel ih =>
    intro listed f a w hs hf hc hJ
    refine ⟨fun hr => hend f a w hJ (all_come hb hf hs hr), fun i hi => ?_⟩
    obtain ⟨h1, o, ho, hall⟩ := mem_ready.1 hi
    have hlt : i < ops.size := (Array.getElem?_eq_some_iff.1 ho).1
    have h1' := h1
    rw [hf i hlt] at h1
    have hst := hstep f a w i o hJ ho h1 (fun e he hbd => by
      have h2 := hall e (by simpa using he) hbd
      have hls : e.on < listed.size := by
        rcases Nat.lt_or_ge e.on listed.size with h | h
        · exact h
        · simp [Array.getElem?_eq_none h] at h2
      rw [← hf e.on (by omega)]
      simp [hls] at h2 ⊢
      exact h2) (wpAnyIn (Fence.wide.inRound l) n P .any ops Q fuel (listed.setIfInBounds i true)) (fun a' w' hJ' => by
      refine ih _ (more f i) a' w' (by simpa using hs) (fun j hj => ?_) (by have := (open_more f i h1 ops.size).1 hlt; omega) hJ'
      by_cases hji : j = i
      · subst hji
        have hls : j < listed.size := by omega
        simp [more, hls]
      · have := hf j hj
        have hls : j < listed.size := by omega
        have hne : (j == i) = false := by simpa using hji
        simp [more, hls, Array.getElem_setIfInBounds, Ne.symm hji] at this ⊢
        rw [hne, Bool.false_or]
        exact this)
    unfold wpOpIn
    rw [ho]
    show if Region.wanted o (yielded ops a.tmps) = true then _ else _
    split
    · rename_i hw
      rw [if_pos hw] at hst
      exact Oper.in_round (noDefer_at hn ho) l n hst
    · rename_i hw
      rw [if_neg hw] at hst
      exact ⟨fun f _ => trivial, hst⟩
/-- An operation a goal, as 'region_ops', in a round. -/
theorem region_ops_in {P : Program} {id : Nat} {ops : List Oper} {Q : Exit → Act → World → Prop} {a : Act} {w : World} {l n : Nat} (hm : P.follows .mixedOrders = true) (hb : backB ops.toArray = true) (hn : noDefer ops.toArray = true) (J : Act → (Nat → Bool) → Act → World → Prop) (h0 : J a (fun _ => false) a w.drew)
    (hstep : steps (fun j o => ∀ f a' w', J a f a' w' → f j = false → (∀ e ∈ o.after.toList, Region.binds .any e = true → f e.on = true) → ∀ K : Act → World → Prop, (∀ a' w', J a (more f j) a' w' → K a' w') →
      if Region.wanted o (yielded ops.toArray a'.tmps) = true then Oper.wp P o a' w' K Q else K (a'.put o.dst undef) w') ops 0)
    (hend : ∀ f a' w', J a f a' w' → (∀ j, j < ops.length → f j = true) → Q .normal a' w') : (Code.region id ops.toArray true).wpIn (Fence.wide.inRound l) n P Q a w := by
  refine wpIn_region_any hm ?_
  refine any_inv_in l n hn hb (J a) (fun f a' w' j o hJ ho h1 hd K hK => ?_) (fun f a' w' hJ h => hend f a' w' hJ (by simpa using h)) ops.toArray.size _ (fun _ => false) a _ (by simp) (fun j hj => by have hj' : j < ops.length := (by simpa using hj); simp [hj']) ?_ h0
  · have := steps_at ops 0 hstep j o (by simpa using ho)
    rw [Nat.zero_add] at this
    exact this f a' w' hJ h1 hd K hK
  · exact Nat.le_trans List.countP_le_length (by simp)

end Go.Proofs.Ytokojbgpboccnaa
