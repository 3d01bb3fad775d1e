import Derived.Test.YtmghcankdaomgaaBunProofPolyOwn5
import Derived.ProofKit
import Derived.OpenShut
import Derived.ShutString
namespace Go.Proofs.Ytmghcankdaomgaa
open Go.ChangeShapes Go.WideShapes Go.ChangeAt Go.RowKit
open Go.ChangeMaps (open_string shut_string)
open Num
set_option linter.unusedVariables false
set_option linter.unusedSimpArgs false

/-- An error by its number; 0: none. -/
def errv (k : Int) : Value := if k = 0 then .nilIface else errno k
theorem errv_zero : errv 0 = .nilIface := rfl
theorem errv_some {k : Int} (h : k ≠ 0) : errv k = errno k := by simp [errv, h]
theorem errv_neq (k : Int) (w : World) : (binOp .neq 25 (errv k) .nilIface).run Try.prog w = .ok (.bool (k != 0)) w := by
  by_cases h : k = 0
  · subst h; rw [errv_zero]; simp [go_sem]
  · rw [errv_some h]; simp [go_sem, h]
theorem errv_eql (k : Int) (w : World) : (binOp .eql 25 (errv k) .nilIface).run Try.prog w = .ok (.bool (k == 0)) w := by
  by_cases h : k = 0
  · subst h; rw [errv_zero]; simp [go_sem]
  · rw [errv_some h]; simp [go_sem, h]

theorem errv_guard (op : BinOp) (t : Nat) (k : Int) (w : World) : (eqGuard op 25 (.tmp t) (.const .nilIface) (errv k) .nilIface).run Try.prog w = .ok () w := by
  by_cases h : k = 0
  · subst h; rw [errv_zero]; cases op <;> simp [go_sem]
  · rw [errv_some h]; cases op <;> simp [go_sem]

theorem Bad.ne {s : ByteArray} {k : Int} (h : Bad s k) : k ≠ 0 := by
  rcases h with ⟨_, rfl⟩ | ⟨_, _, rfl⟩ <;> decide
theorem Wrong.ne {a b : ByteArray} {k : Int} (h : Wrong a b k) : k ≠ 0 := by
  rcases h with h | ⟨_, h⟩ <;> exact h.ne
theorem Bad.not {s : ByteArray} {k : Int} (h : Bad s k) : ¬ Good s := by
  rintro ⟨h1, h2⟩
  rcases h with ⟨h, _⟩ | ⟨_, h, _⟩
  · omega
  · rw [h] at h2; cases h2
theorem Wrong.not {a b : ByteArray} {k : Int} (h : Wrong a b k) : ¬ (Good a ∧ Good b) := by
  rintro ⟨h1, h2⟩
  rcases h with h | ⟨_, h⟩
  · exact h.not h1
  · exact h.not h2

/-- What a function of two naturals tells: the text of f, or nothing and an error. -/
def Tells (f : Nat → Nat → Nat) (a b s : ByteArray) (k : Int) : Prop :=
  (k = 0 ∧ Good a ∧ Good b ∧ s = txt (f (num a) (num b))) ∨ (k ≠ 0 ∧ Wrong a b k ∧ s = ⟨#[]⟩)
theorem Tells.yes {f : Nat → Nat → Nat} {a b s : ByteArray} {k : Int} (h : Tells f a b s k) (hk : k = 0) : Good a ∧ Good b ∧ s = txt (f (num a) (num b)) := by
  rcases h with ⟨_, h⟩ | ⟨h, _⟩
  · exact h
  · exact absurd hk h
theorem Tells.zero {f : Nat → Nat → Nat} {a b s : ByteArray} {k : Int} (h : Tells f a b s k) (ha : Good a) (hb : Good b) : k = 0 := by
  rcases h with ⟨h, _⟩ | ⟨_, h, _⟩
  · exact h
  · exact absurd ⟨ha, hb⟩ h.not
theorem Tells.no {f : Nat → Nat → Nat} {a b s : ByteArray} {k : Int} (h : Tells f a b s k) (hk : k ≠ 0) : Wrong a b k ∧ s = ⟨#[]⟩ := by
  rcases h with ⟨h, _⟩ | ⟨_, h⟩
  · exact absurd h hk
  · exact h

theorem size_txt_max {n : Nat} (h : n < 10 ^ 200) : (txt n).size ≤ maxLen := by
  have := size_txt_le h (by omega)
  unfold maxLen; omega

/-- The post of a law whose arguments are plain. -/
theorem post_plain {H : Type} {enc : TypeId × Value → H} {P : Program} {f : Func} {s : ChangeSpec} {apart fresh handsOn again : Bool} {W W' : World} {args : Array Value} {v : Value} {ds gs : List (DataW H)}
    (hW : DataW.Whole enc P f.params.toList s.vars apart W args.toList ds gs [])
    (hres : ∀ (b : Nat) (sp : Nat → Bool) (hd : Bool), DataW.TrodAll enc P W' b sp hd f.resultTypes.toList (v.resultList f.resultTypes.size) (s.fn H (ds ++ gs)).results [])
    (hargs : ∀ sp : Nat → Bool, DataW.TrodAll enc P W' 0 sp true f.params.toList args.toList (s.fn H (ds ++ gs)).args [])
    (hvars : ∀ sp : Nat → Bool, DataW.TrodVars enc P W' sp s.vars (s.fn H (ds ++ gs)).vars [])
    (hb : Below W.heap.size W W')
    (hok : ∀ (j : Nat) (t : TypeId) (r : Value), f.resultTypes[j]? = some t → (v.resultList f.resultTypes.size)[j]? = some r → Value.okWide P W' .any 0 t r) :
    s.post enc P f apart fresh handsOn again W args v W' := by
  refine ⟨ds, gs, [], [], [], [], hW, hres _ _ _, hargs _, hvars _, World.keptBut_mono (fun p hp => by cases hp) (hb.frame (· ∈ [])), fun _ => ?_⟩
  refine ⟨hok, _, _, [], ⟨[], [], trodAll_append (hargs _) (hres _ _ _), hvars _, rfl, ?_, ?_⟩, ?_⟩
  · intro b off hp
    cases hp
  · intro ha
    obtain ⟨_, _, _, _, _, _, hn⟩ := hW
    exact hn ha
  · intro p hp _
    cases hp


end Go.Proofs.Ytmghcankdaomgaa
