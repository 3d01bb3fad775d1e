import Derived.Test.YtjeeepcnaaadmaaBunProofFareyBetween5
import Derived.ProofKit
import Derived.OpenShut
import Derived.ShutString
import Derived.Test.YtjeeepcnaaadmaaBunProofFareyBetween1
import Derived.Test.YtjeeepcnaaadmaaBunProofFareyBetween4
namespace Go.Proofs.Ytjeeepcnaaadmaa
open Go.ChangeShapes Go.WideShapes Go.ChangeAt Go.RowKit
open Go.ChangeMaps (open_string shut_string)
open Num
set_option linter.unusedVariables false
set_option linter.unusedSimpArgs false

/-- An error by its number; 0: none. -/
def errv (k : Int) : Value := if k = 0 then .nilIface else errno k
theorem errv_zero : errv 0 = .nilIface := rfl
theorem errv_some {k : Int} (h : k ≠ 0) : errv k = errno k := by simp [errv, h]
theorem errv_neq (k : Int) (w : World) : (binOp .neq 24 (errv k) .nilIface).run Try.prog w = .ok (.bool (k != 0)) w := by
  by_cases h : k = 0
  · subst h; rw [errv_zero]; simp [go_sem]
  · rw [errv_some h]; simp [go_sem, h]
theorem errv_eql (k : Int) (w : World) : (binOp .eql 24 (errv k) .nilIface).run Try.prog w = .ok (.bool (k == 0)) w := by
  by_cases h : k = 0
  · subst h; rw [errv_zero]; simp [go_sem]
  · rw [errv_some h]; simp [go_sem, h]

theorem errv_guard (op : BinOp) (t : Nat) (k : Int) (w : World) : (eqGuard op 24 (.tmp t) (.const .nilIface) (errv k) .nilIface).run Try.prog w = .ok () w := by
  by_cases h : k = 0
  · subst h; rw [errv_zero]; cases op <;> simp [go_sem]
  · rw [errv_some h]; cases op <;> simp [go_sem]

theorem Bad.ne {s : ByteArray} {k : Int} (h : Bad s k) : k ≠ 0 := by
  rcases h with ⟨_, rfl⟩ | ⟨_, _, rfl⟩ <;> decide
theorem Wrong.ne {a b : ByteArray} {k : Int} (h : Wrong a b k) : k ≠ 0 := by
  rcases h with h | ⟨_, h⟩ <;> exact h.ne
theorem Bad.not {s : ByteArray} {k : Int} (h : Bad s k) : ¬ Good s := by
  rintro ⟨h1, h2⟩
  rcases h with ⟨h, _⟩ | ⟨_, h, _⟩
  · omega
  · rw [h] at h2; cases h2
theorem Wrong.not {a b : ByteArray} {k : Int} (h : Wrong a b k) : ¬ (Good a ∧ Good b) := by
  rintro ⟨h1, h2⟩
  rcases h with h | ⟨_, h⟩
  · exact h.not h1
  · exact h.not h2

/-- What a function of two naturals tells: the text of f, or nothing and an error. -/
def Tells (f : Nat → Nat → Nat) (a b s : ByteArray) (k : Int) : Prop :=
  (k = 0 ∧ Good a ∧ Good b ∧ s = txt (f (num a) (num b))) ∨ (k ≠ 0 ∧ Wrong a b k ∧ s = ⟨#[]⟩)
theorem Tells.yes {f : Nat → Nat → Nat} {a b s : ByteArray} {k : Int} (h : Tells f a b s k) (hk : k = 0) : Good a ∧ Good b ∧ s = txt (f (num a) (num b)) := by
  rcases h with ⟨_, h⟩ | ⟨h, _⟩
  · exact h
  · exact absurd hk h
theorem Tells.zero {f : Nat → Nat → Nat} {a b s : ByteArray} {k : Int} (h : Tells f a b s k) (ha : Good a) (hb : Good b) : k = 0 := by
  rcases h with ⟨h, _⟩ | ⟨_, h, _⟩
  · exact h
  · exact absurd ⟨ha, hb⟩ h.not
theorem Tells.no {f : Nat → Nat → Nat} {a b s : ByteArray} {k : Int} (h : Tells f a b s k) (hk : k ≠ 0) : Wrong a b k ∧ s = ⟨#[]⟩ := by
  rcases h with ⟨h, _⟩ | ⟨_, h⟩
  · exact absurd h hk
  · exact h

theorem size_txt_max {n : Nat} (h : n < 10 ^ 200) : (txt n).size ≤ maxLen := by
  have := size_txt_le h (by omega)
  unfold maxLen; omega

/-- The post of a law whose arguments are plain. -/
theorem post_plain {H : Type} {enc : TypeId × Value → H} {P : Program} {f : Func} {s : ChangeSpec} {apart fresh handsOn again : Bool} {W W' : World} {args : Array Value} {v : Value} {ds gs : List (DataW H)}
    (hW : DataW.Whole enc P f.params.toList s.vars apart W args.toList ds gs [])
    (hres : ∀ (b : Nat) (sp : Nat → Bool) (hd : Bool), DataW.TrodAll enc P W' b sp hd f.resultTypes.toList (v.resultList f.resultTypes.size) (s.fn H (ds ++ gs)).results [])
    (hargs : ∀ sp : Nat → Bool, DataW.TrodAll enc P W' 0 sp true f.params.toList args.toList (s.fn H (ds ++ gs)).args [])
    (hvars : ∀ sp : Nat → Bool, DataW.TrodVars enc P W' sp s.vars (s.fn H (ds ++ gs)).vars [])
    (hb : Below W.heap.size W W')
    (hok : ∀ (j : Nat) (t : TypeId) (r : Value), f.resultTypes[j]? = some t → (v.resultList f.resultTypes.size)[j]? = some r → Value.okWide P W' .any 0 t r) :
    s.post enc P f apart fresh handsOn again W args v W' := by
  refine ⟨ds, gs, [], [], [], [], hW, hres _ _ _, hargs _, hvars _, World.keptBut_mono (fun p hp => by cases hp) (hb.frame (· ∈ [])), fun _ => ?_⟩
  refine ⟨hok, _, _, [], ⟨[], [], trodAll_append (hargs _) (hres _ _ _), hvars _, rfl, ?_, ?_⟩, ?_⟩
  · intro b off hp
    cases hp
  · intro ha
    obtain ⟨_, _, _, _, _, _, hn⟩ := hW
    exact hn ha
  · intro p hp _
    cases hp


end Go.Proofs.Ytjeeepcnaaadmaa

/-
  PACKAGE farey: checkWay.
-/
namespace Go.Proofs.Ytjeeepcnaaadmaa
open Go.RowKit
open Num
set_option linter.unusedVariables false
set_option maxRecDepth 100000
set_option linter.unusedSimpArgs false

def isLR (x : UInt8) : Bool := x == 76 || x == 82
/-- What is wrong with a way (0: nothing). -/
def wayE (l : List UInt8) : Int := if l.all isLR = true then (if l.length ≤ 30 then 0 else 4) else 1
theorem isLR_iff (x : UInt8) : isLR x = true ↔ ((x.toNat : Int) = 76 ∨ (x.toNat : Int) = 82) := by
  unfold isLR
  have e1 : x = 76 ↔ (x.toNat : Int) = 76 := u8_eq (n := 76) (by omega)
  have e2 : x = 82 ↔ (x.toNat : Int) = 82 := u8_eq (n := 82) (by omega)
  rw [Bool.or_eq_true, beq_iff_eq, beq_iff_eq, e1, e2]
theorem wayE_bad {l : List UInt8} {x : UInt8} (hx : x ∈ l) (h : ¬ ((x.toNat : Int) = 76 ∨ (x.toNat : Int) = 82)) : wayE l = 1 := by
  unfold wayE
  rw [if_neg]
  intro e
  exact h ((isLR_iff x).1 (List.all_eq_true.1 e x hx))
theorem wayE_zero {l : List UInt8} (h : wayE l = 0) : LR l ∧ l.length ≤ 30 := by
  unfold wayE at h
  split at h
  · rename_i hl
    split at h
    · rename_i hn
      refine ⟨fun x hx => ?_, hn⟩
      have := List.all_eq_true.1 hl x hx
      unfold isLR at this
      rw [Bool.or_eq_true, beq_iff_eq, beq_iff_eq] at this
      exact this
    · cases h
  · cases h
theorem wayE_ok {l : List UInt8} (h : LR l) (hn : l.length ≤ 30) : wayE l = 0 := by
  unfold wayE
  rw [if_pos, if_pos hn]
  apply List.all_eq_true.2
  intro x hx
  unfold isLR
  rw [Bool.or_eq_true, beq_iff_eq, beq_iff_eq]
  exact h x hx
theorem wayE_cases (l : List UInt8) : wayE l = 0 ∨ wayE l = 1 ∨ wayE l = 4 := by
  unfold wayE
  split
  · split
    · exact .inl rfl
    · exact .inr (.inr rfl)
  · exact .inr (.inl rfl)

set_option maxHeartbeats 1000000 in
theorem checkWay_any (s : ByteArray) (w : World) (hs : s.size ≤ maxLen) :
    Calls Try.prog 50 #[.string s] w fun e w' => e = .returned (errv (wayE s.data.toList)) ∧ w = w' := by
  unfold maxLen at hs
  go_enter Try.func50, Try.ntmps50
  go_wp2
  go_loop [6] (fun i => ∃ k : Nat, k ≤ s.size ∧ i = .int .i64 k ∧ Hid ((s.data.toList.take k).all isLR = true)) (fun i => s.size - (intOf i).toNat)
  case atStart => exact ⟨0, Nat.zero_le _, rfl, hid (by simp)⟩
  case round =>
    obtain ⟨k, hk, rfl, ht⟩ := hrel
    by_cases hlt : k < s.size
    · have hstep : ((s[k].toNat : Int) = 76 ∨ (s[k].toNat : Int) = 82) → (s.data.toList.take (k + 1)).all isLR = true := by
        intro e
        rw [take_snoc s k hlt, List.all_append, ht.out]
        simpa using (isLR_iff _).2 e
      have hbad : ¬ ((s[k].toNat : Int) = 76 ∨ (s[k].toNat : Int) = 82) → wayE s.data.toList = 1 := fun e => wayE_bad (List.mem_of_getElem? (toList_at s k hlt)) e
      have HS := hid hstep
      have HB := hid hbad
      clear hstep hbad
      by_cases h1 : (s[k].toNat : Int) = 76
      · have HN := hid (HS.out (.inl h1))
        go_wp2
        go_round
        case rel => exact ⟨k + 1, by omega, by go_num, HN⟩
        case measure => simp [intOf]; omega
      · by_cases h2 : (s[k].toNat : Int) = 82
        · have HN := hid (HS.out (.inr h2))
          go_wp2
          go_round
          case rel => exact ⟨k + 1, by omega, by go_num, HN⟩
          case measure => simp [intOf]; omega
        · have HN := hid (HB.out (by rintro (e | e); exact h1 e; exact h2 e))
          have h3 : ((s[k].toNat : Int) != 76) = true := by simpa using h1
          have h4 : ((s[k].toNat : Int) != 82) = true := by simpa using h2
          go_wp2
          go_ret
          exact ⟨by rw [HN.out]; rfl, rfl⟩
    · obtain rfl : k = s.size := by omega
      have hall : s.data.toList.all isLR = true := by
        have := ht.out
        rwa [List.take_of_length_le (by simp)] at this
      have hlen : s.data.toList.length = s.size := by simp
      by_cases h30 : s.size ≤ 30
      · have HE := hid (show wayE s.data.toList = 0 by rw [wayE, if_pos hall, if_pos (by omega)])
        clear hall hlen
        go_wp2
        go_ret
        exact ⟨by rw [HE.out]; rfl, rfl⟩
      · have HE := hid (show wayE s.data.toList = 4 by rw [wayE, if_pos hall, if_neg (by omega)])
        clear hall hlen
        go_wp2
        go_ret
        exact ⟨by rw [HE.out]; rfl, rfl⟩

end Go.Proofs.Ytjeeepcnaaadmaa
