import Derived.Test.YtdifiimaifmcpaaGreatDoorBunProofPgcdTells4
import Derived.Test.YtdifiimaifmcpaaGreatDoorBunProofPgcdTells5
import Derived.Lib.Hide
namespace Go.Proofs.YtdifiimaifmcpaaGreatDoor
open Go.RowKit Go.Extern.Stop Go.Stop Go.Extern
set_option linter.unusedVariables false
set_option linter.unusedSimpArgs false

/-- The library's variable that errors.As reads. -/
def Door (w : World) : Prop := w.cell? ⟨0, 0, none⟩ = some (As.rt 31)
theorem Door.lt {w : World} (h : Door w) : 0 < w.heap.size := by
  rcases Nat.eq_zero_or_pos w.heap.size with h0 | h'
  · have h2 : w.cell? ⟨0, 0, none⟩ = some (As.rt 31) := h
    simp [World.cell?, h0] at h2
  · exact h'
theorem Door.below {w w' : World} (h : Door w) (hb : Below w.heap.size w w') : Door w' := by
  have := h.lt
  show w'.cell? _ = _
  rw [hb.cell (by exact h.lt)]; exact h

set_option maxHeartbeats 4000000 in
theorem as_errno (k : Int) (t : Addr) (old : Value) (w : World) (hd : Door w) (ht0 : w.cell? t = some old) (hf0 : w.frozen? t = false) :
    Calls Tryz.prog 44 #[.iface 25 (.int .i64 k), .iface 78 (.pointer (some t))] w fun ev w' => ev = .returned (.bool true) ∧ w'.cell? t = some (.int .i64 k) ∧ Below t.block w w' := by
  have hg : w.cell? ⟨0, 0, none⟩ = some (As.rt 31) := hd
  have hlt := hd.lt
  have htl : t.block < w.heap.size := by
    rcases Nat.lt_or_ge t.block w.heap.size with h | h
    · exact h
    · simp [World.cell?, Array.getElem?_eq_none h] at ht0
  have hA := @run_callFunc_extern Tryz.prog 71 _ (fun args => ReflectliteValue.unpack (args.getD 0 (.tuple #[]))) Tryz.func71 (by kernel_rfl) (by kernel_rfl) (by kernel_rfl) (by kernel_rfl)
  have hB := @run_callFunc_extern Tryz.prog 72 _ (ReflectliteValue.methodAny (ReflectliteValue.valueError "reflectlite.Value.Type" 0) (fun t _ _ _ => ReflectliteType.toType t)) Tryz.func72 (by kernel_rfl) (by kernel_rfl) (by kernel_rfl) (by kernel_rfl)
  have hC := @run_callFunc_extern Tryz.prog 73 _ (ReflectliteValue.method (ReflectliteValue.valueError "reflectlite.Value.IsNil" 0) ReflectliteValue.isNil) Tryz.func73 (by kernel_rfl) (by kernel_rfl) (by kernel_rfl) (by kernel_rfl)
  have hD := @run_callFunc_extern Tryz.prog 158 _ (ReflectliteType.abiMethod fun t => do pure (.int .u8 (← Rtype.kind t))) Tryz.func158 (by kernel_rfl) (by kernel_rfl) (by kernel_rfl) (by kernel_rfl)
  have hE := @run_callFunc_extern Tryz.prog 168 _ (ReflectliteType.method ReflectliteType.elem) Tryz.func168 (by kernel_rfl) (by kernel_rfl) (by kernel_rfl) (by kernel_rfl)
  have hF := @run_callFunc_extern Tryz.prog 169 _ (ReflectliteType.relation "Implements" ReflectliteType.implements_) Tryz.func169 (by kernel_rfl) (by kernel_rfl) (by kernel_rfl) (by kernel_rfl)
  have hG := @run_callFunc_extern Tryz.prog 98 _ ReflectliteType.typeOf Tryz.func98 (by kernel_rfl) (by kernel_rfl) (by kernel_rfl) (by kernel_rfl)
  have hH := @run_callFunc_extern Tryz.prog 166 _ (ReflectliteType.relation "AssignableTo" ReflectliteType.assignableTo) Tryz.func166 (by kernel_rfl) (by kernel_rfl) (by kernel_rfl) (by kernel_rfl)
  have hI := @run_callFunc_extern Tryz.prog 99 _ (ReflectliteValue.method (ReflectliteValue.valueError "reflectlite.Value.Elem" 0) ReflectliteValue.elem) Tryz.func99 (by kernel_rfl) (by kernel_rfl) (by kernel_rfl) (by kernel_rfl)
  have hJ := @run_callFunc_extern Tryz.prog 100 _ ReflectliteValue.set Tryz.func100 (by kernel_rfl) (by kernel_rfl) (by kernel_rfl) (by kernel_rfl)
  have m1 := As.methodAssignable
  have m2 := As.methodKind
  have m3 := As.methodElem
  have m4 := As.methodImplements
  have q1 := As.typeOfE
  have q2 := As.assignableE
  have q3 := As.valueE
  have q4 := As.valueP
  have q5 := As.typeP
  have q6 := As.kindP
  have q7 := As.kindE
  have q8 := As.elemP
  have q9 := As.implementsE
  obtain ⟨w2, hw2⟩ : ∃ w2, w2 = (w.alloc (.cells #[.pointer (some t)] 78)).alloc (.cells #[As.handle 78, .pointer (some ⟨w.heap.size, 0, none⟩), .int .u64 150] 105) := ⟨_, rfl⟩
  have n8 := As.isNilP ⟨w.heap.size, 0, none⟩ t w2 (by subst hw2; simp)
  have hg2 : w2.cell? ⟨0, 0, none⟩ = some (As.rt 31) := by
    subst hw2
    rw [World.cell?_alloc_lt _ _ ⟨0, 0, none⟩ (by simp), World.cell?_alloc_lt _ _ ⟨0, 0, none⟩ hlt]; exact hg
  obtain ⟨w3, hw3⟩ : ∃ w3, w3 = w2.alloc (.cells #[As.handle 78, .pointer (some ⟨w.heap.size, 0, none⟩), .int .u64 150] 105) := ⟨_, rfl⟩
  have el := As.elemV ⟨w.heap.size, 0, none⟩ t w3 (by subst hw3; rw [World.cell?_alloc_lt _ _ ⟨w.heap.size, 0, none⟩ (by subst hw2; simp; omega)]; subst hw2; simp)
  have hs3 : w3.heap.size = w.heap.size + 3 := by subst hw3; subst hw2; simp
  obtain ⟨w4, hw4⟩ : ∃ w4, w4 = w3.alloc (.cells #[.int .i64 k] 25) := ⟨_, rfl⟩
  have hb3 : Below w.heap.size w w3 := by
    subst hw3; subst hw2
    exact (((Below.refl _ _).alloc (Nat.le_refl _) _).alloc (by simp) _).alloc (by simp; omega) _
  have hb4 : Below w.heap.size w w4 := by subst hw4; exact hb3.alloc (by omega) _
  have ht4 : w4.cell? t = some old := by rw [hb4.cell (by exact htl)]; exact ht0
  have hf4 : w4.frozen? t = false := by rw [hb4.frozen (by exact htl)]; exact hf0
  have st := As.setE t ⟨w3.heap.size, 0, none⟩ k old w4 (by subst hw4; simp) ht4 hf4
  have hfin : (w4.setCell t (.int .i64 k)).cell? t = some (.int .i64 k) := by
    apply World.cell?_setCell_same
    exact ht4
  have hbf : Below t.block w (w4.setCell t (.int .i64 k)) := (hb4.mono (Nat.le_of_lt htl)).setCell (Nat.le_refl _) _
  have HF := Lib.hid hfin
  have HB := Lib.hid hbf
  rw [hs3] at st
  subst hw4
  subst hw3
  subst hw2
  clear hfin hbf hb3 hb4 ht4 hf4 hs3
  go_enter Tryz.func44, Tryz.ntmps44
  go_wp2
  refine wp_loop_rounds 1 ?_
  rw [rounds_succ]
  go_wp2
  go_ret
  exact ⟨rfl, HF.out, HB.out⟩

set_option maxHeartbeats 400000 in
theorem told_none (w : World) : Calls Tryz.prog 27 #[.nilIface] w fun e w' => e = .returned (.int .i64 0) ∧ w = w' := by
  go_enter Tryz.func27, Tryz.ntmps27
  go_wp2
  go_ret
  exact ⟨rfl, rfl⟩

set_option maxHeartbeats 1000000 in
theorem told_errno (k : Int) (w : World) (hd : Door w) : Calls Tryz.prog 27 #[.iface 25 (.int .i64 k)] w fun e w' => e = .returned (.int .i64 k) ∧ Below w.heap.size w w' := by
  have hd2 : Door (w.alloc (.cells #[.int .i64 0] 25)) := hd.below ((Below.refl _ _).alloc (Nat.le_refl _) _)
  have H := Lib.hid (as_errno k ⟨w.heap.size, 0, none⟩ (.int .i64 0) _ hd2 (by simp) (by simp))
  clear hd2
  go_enter Tryz.func27, Tryz.ntmps27
  go_wp2_with fail
  refine H.out.mono ?_
  rintro e w1 ⟨rfl, hc, hb⟩
  have HB := Lib.hid (((Below.refl _ w).alloc (Nat.le_refl _) _).trans hb)
  clear hb H
  go_wp2_with fail
  go_ret
  exact ⟨rfl, HB.out⟩

/-- An error's number is told. -/
theorem told_errv (k : Int) (w : World) (hd : Door w) : Calls Tryz.prog 27 #[if k = 0 then .nilIface else .iface 25 (.int .i64 k)] w fun e w' => e = .returned (.int .i64 k) ∧ Below w.heap.size w w' := by
  by_cases h : k = 0
  · subst h
    rw [if_pos rfl]
    refine (told_none w).mono ?_
    rintro e w' ⟨rfl, rfl⟩
    exact ⟨rfl, Below.refl _ _⟩
  · rw [if_neg h]
    exact told_errno k w hd

set_option maxHeartbeats 1000000 in
/-- Is an error the one told? -/
theorem same_error (k e : Int) (w : World) (hd : Door w) : Calls Tryz.prog 10 #[if k = 0 then .nilIface else .iface 25 (.int .i64 k), .int .i64 e] w fun r w' => r = .returned (.bool (k == e)) ∧ Below w.heap.size w w' := by
  have H := Lib.hid (told_errv k w hd)
  generalize (if k = 0 then Value.nilIface else Value.iface 25 (.int .i64 k)) = v at *
  go_enter Tryz.func10, Tryz.ntmps10
  go_wp2_with fail
  refine H.out.mono ?_
  rintro r w1 ⟨rfl, hb⟩
  go_wp2_with fail
  go_ret
  exact ⟨rfl, hb⟩

end Go.Proofs.YtdifiimaifmcpaaGreatDoor
