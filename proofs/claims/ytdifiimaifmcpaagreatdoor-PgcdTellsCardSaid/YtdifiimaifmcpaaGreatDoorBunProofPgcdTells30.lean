import Derived.Test.YtdifiimaifmcpaaGreatDoorBunProofPgcdTells29
import Derived.Test.YtdifiimaifmcpaaGreatDoorCards
import Derived.Test.YtdifiimaifmcpaaGreatDoorTie
import Derived.ChangeSame
import Derived.ChangeVars
import Derived.JoinedOf
import Derived.RowKitTokens
import Derived.LaidLaws
import Derived.LaidHandle
import Derived.Stop.Joined
import Derived.SevenTiedAt
import Derived.SliceStrings
import Derived.SizedLaws
import Derived.Carry
/-
  The law PgcdTells of package abacistlaw2: whatever lists of texts and texts come in, the call returns true, and they read behind it as they did before. Its row lists errors.errorType; the card ties that to the program's text.
-/
namespace Go.Proofs.YtdifiimaifmcpaaGreatDoor.pgcdTells
open Go.ChangeShapes Go.WideShapes Go.ChangeAt Go.RowKit
open Go.ChangeMaps (open_string shut_string)
set_option linter.unusedVariables false

theorem laidOut : laidOutB Tryz.prog = true := by kernel_rfl
theorem cellsS : Tryz.prog.cellsOf 9 = 1 := by kernel_rfl
theorem bytesS : Tryz.prog.bytesOf 9 = 16 := by kernel_rfl
theorem own : ownKnob Tryz.prog.godebug = none := by kernel_rfl
theorem et : Tryz.prog.globalNamed "errors.errorType" = some 0 := by kernel_rfl
theorem rt : (Tryz.prog.cutTypes.find? (·.1 == "internal/reflectlite.rtype")).map (·.2) = some 134 := by kernel_rfl
theorem oneRow : ((List.range 214).filter fun t => Tryz.prog.rowNamed t [101, 114, 114, 111, 114]) = [31] := by kernel_rfl
theorem size : Tryz.prog.types.size = 214 := by kernel_rfl
def laid : List (String × DataW Unit) := [("errors.errorType", Rows.laid_errors_errorType)]

/-- What the condition gives the walk: the variable's one cell. -/
theorem door_of_laid {W : World} (h : laidMetH Tryz.prog laid W) : Door W := by
  have h' : laidMet Tryz.prog [] W ∧ handlesMet Tryz.prog laid W := h
  obtain ⟨name, u, ty, e1, e2, e3, e4, e5⟩ := h'.2 _ (List.mem_singleton.2 rfl)
  have en : name = [101, 114, 114, 111, 114] := (Option.some.inj e1).symm
  subst en
  obtain rfl := Option.some.inj (rt.symm.trans e2)
  have hm : ty ∈ (List.range 214).filter fun t => Tryz.prog.rowNamed t [101, 114, 114, 111, 114] := List.mem_filter.2 ⟨List.mem_range.2 (by rw [← size]; exact e3), e4⟩
  rw [oneRow] at hm
  obtain rfl := List.mem_singleton.1 hm
  have hh : typeHandle Tryz.prog 31 = .pointer (some ⟨2, 31, none⟩) := by kernel_rfl
  rw [hh] at e5
  have h2 := World.var?_cell et e5 0
  show W.cell? _ = _
  simpa using h2

/-- A world that meets the condition. -/
noncomputable def laidWorld (os : Os) : World :=
  let w0 := World.holding Tryz.prog os ⟨#[], #[], []⟩
  { w0 with heap := w0.heap.modify 0 fun
      | .cells _ t frozen => .cells #[.iface 134 (.agg #[.pointer (some ⟨2, 31, none⟩)])] t frozen
      | o => o }
theorem laidWorld_met (os : Os) (args : Array Value) : laidMetH Tryz.prog laid ((laidWorld os).forCall (fun _ _ => 0) ⟨#[], args, []⟩).memory :=
  laidMetH_of_parts (laidMet_nil _ _) (by kernel_rfl)

set_option maxRecDepth 100000 in
theorem lifted (os : Os) (started : os.Started) (H : Type) (enc : TypeId × Value → H) :
    ReturnsInHanded {} Tryz.checked os 3 .any (fun w args => (Rows.pgcdTellsSpec.pre enc Tryz.prog Tryz.f3 [] false w args ∧ laidMetH Tryz.prog laid w) ∧ sizedMet enc Tryz.prog Tryz.f3 (OpenSpec.ofChange Rows.pgcdTellsSpec) false w args)
      (Rows.pgcdTellsSpec.post enc Tryz.prog Tryz.f3 false true false false) := by
  refine returnsInHanded_of_change_and (C := Tryz.checked) (X := fun w _ => laidMetH Tryz.prog laid w) (fun _ _ _ hh h => h.of_heap hh) own started (by kernel_rfl) Tryz.func3
    (ChangeSpec.witness_at (enc := enc) (C := Tryz.checked) (os := os) (X := fun w _ => laidMetH Tryz.prog laid w) false (laidWorld os) #[.slice none 0 0, .slice none 0 0] 8 rfl (by kernel_rfl) (by kernel_rfl) (by kernel_rfl) (by kernel_rfl) (by kernel_rfl) (laidWorld_met os _)) ?_
  intro W base args ds gs before hval0 hW _ hsz0 hL _
  have hsz : (DataW.weightsEach Tryz.prog (Tryz.f3.params.toList ++ Rows.pgcdTellsSpec.plain.varTypes Tryz.prog) (ds ++ gs)).all (· ≤ reachBytes) = true := hsz0
  clear hsz0
  have hval : ∀ (j : Nat) t v, Tryz.f3.params[j]? = some t → args[j]? = some v → Value.okWide Tryz.prog W .any base t v := hval0
  have hW' := hW
  have hD := door_of_laid hL
  obtain ⟨p, q, hA0, hV, rfl, hfz, hnd⟩ := hW
  have hA : DataW.TrodAll enc Tryz.prog W 0 (fun _ => true) true Tryz.f3.params.toList args.toList ds p := hA0
  rw [Tryz.params3] at hA hval hsz
  obtain ⟨v0, vs0, d0, ds0, p0, q0, hargs, rfl, rfl, h0, r0⟩ := trodAll_cons hA
  obtain ⟨v1, vs1, d1, ds1, p1, q1, rfl, rfl, rfl, h1, r1⟩ := trodAll_cons r0
  obtain ⟨rfl, rfl, rfl⟩ := trodAll_nil r1
  obtain rfl : args = #[v0, v1] := by cases args; simp_all
  obtain ⟨rfl, rfl⟩ := trodVars_none hV
  obtain ⟨pa0, len0, cap0, rfl⟩ := okWide_slice Tryz.underlying22 (hval 0 22 v0 rfl rfl)
  have h0k := h0
  obtain ⟨fuel0, hf0⟩ := h0
  obtain ⟨pa1, len1, cap1, rfl⟩ := okWide_slice Tryz.underlying22 (hval 1 22 v1 rfl rfl)
  have h1k := h1
  obtain ⟨fuel1, hf1⟩ := h1
  clear hA0 hval0
  have hlt0 : ∀ y ∈ p0, y.block < W.heap.size := fun y hy => hW'.lt y (by simp [hy])
  have hlt1 : ∀ y ∈ p1, y.block < W.heap.size := fun y hy => hW'.lt y (by simp [hy])
  have T0 : ∃ ss : List ByteArray, TxsW W (.slice pa0 len0 cap0) ss ∧ (∀ i, i < ss.length → (tx ss i).size ≤ maxLen) ∧ ss.length * 16 ≤ 140737488355328 := by
    rcases open_strings Tryz.underlying22 Tryz.underlying9 cellsS hf0 with ⟨hcs, hx⟩ | ⟨b, len', cap', ss, hcs, _, hl, hm, hz, hx, hcell, hws⟩
    · simp [Value.cells] at hcs
      obtain ⟨rfl, rfl, rfl⟩ := hcs
      exact ⟨[], (Txs.nil W).weak, (fun i hi => absurd hi (Nat.not_lt_zero i)), by decide⟩
    · simp [Value.cells] at hcs
      obtain ⟨rfl, rfl, rfl⟩ := hcs
      simp only [Prod.mk.injEq] at hx
      obtain ⟨rfl, hx2⟩ := hx
      simp only [if_true] at hz
      have hlen : (ss.take len0).length = len0 := by rw [List.length_take]; omega
      have hreach : len0 * 16 ≤ 140737488355328 := by
        have := sized_slice hsz (j := 0) (t := 22) (e := 9) rfl rfl Tryz.underlying22
        rw [bytesS] at this
        simp only [strs, List.length_map, List.length_take, List.length_drop, reachBytes] at this
        omega
      refine ⟨ss.take len0, ?_, ?_, by rw [hlen]; exact hreach⟩
      · refine ⟨some b, cap0, by rw [hlen], by rw [hlen]; exact hl, hm, fun i hi => ?_⟩
        have hi2 : i < len0 := by rw [← hlen]; exact hi
        have h2 := hcell i (by omega)
        obtain ⟨g, off, spot⟩ := b
        have hspot : spot = none := by simpa [Addr.add] using World.cell?_spot (hcell 0 (by omega))
        subst hspot
        have hbW : g < W.heap.size := hlt0 (.cell g off) (by rw [hx2]; exact MemPlace.mem_row.2 ⟨0, by omega, by simp⟩)
        refine ⟨g, off, rfl, hbW, ?_⟩
        rw [add_plain, List.getD_eq_getElem?_getD, List.getElem?_eq_getElem (by omega), Option.getD_some] at h2
        rw [h2, tx_lt hi, List.getElem_take]
      · intro i hi
        rw [tx_lt hi]
        exact hws _ (List.mem_of_mem_take (List.getElem_mem hi))
  obtain ⟨l0, t0, s0, z0⟩ := T0
  have T1 : ∃ ss : List ByteArray, TxsW W (.slice pa1 len1 cap1) ss ∧ (∀ i, i < ss.length → (tx ss i).size ≤ maxLen) ∧ ss.length * 16 ≤ 140737488355328 := by
    rcases open_strings Tryz.underlying22 Tryz.underlying9 cellsS hf1 with ⟨hcs, hx⟩ | ⟨b, len', cap', ss, hcs, _, hl, hm, hz, hx, hcell, hws⟩
    · simp [Value.cells] at hcs
      obtain ⟨rfl, rfl, rfl⟩ := hcs
      exact ⟨[], (Txs.nil W).weak, (fun i hi => absurd hi (Nat.not_lt_zero i)), by decide⟩
    · simp [Value.cells] at hcs
      obtain ⟨rfl, rfl, rfl⟩ := hcs
      simp only [Prod.mk.injEq] at hx
      obtain ⟨rfl, hx2⟩ := hx
      simp only [if_true] at hz
      have hlen : (ss.take len1).length = len1 := by rw [List.length_take]; omega
      have hreach : len1 * 16 ≤ 140737488355328 := by
        have := sized_slice hsz (j := 1) (t := 22) (e := 9) rfl rfl Tryz.underlying22
        rw [bytesS] at this
        simp only [strs, List.length_map, List.length_take, List.length_drop, reachBytes] at this
        omega
      refine ⟨ss.take len1, ?_, ?_, by rw [hlen]; exact hreach⟩
      · refine ⟨some b, cap1, by rw [hlen], by rw [hlen]; exact hl, hm, fun i hi => ?_⟩
        have hi2 : i < len1 := by rw [← hlen]; exact hi
        have h2 := hcell i (by omega)
        obtain ⟨g, off, spot⟩ := b
        have hspot : spot = none := by simpa [Addr.add] using World.cell?_spot (hcell 0 (by omega))
        subst hspot
        have hbW : g < W.heap.size := hlt1 (.cell g off) (by rw [hx2]; exact MemPlace.mem_row.2 ⟨0, by omega, by simp⟩)
        refine ⟨g, off, rfl, hbW, ?_⟩
        rw [add_plain, List.getD_eq_getElem?_getD, List.getElem?_eq_getElem (by omega), Option.getD_some] at h2
        rw [h2, tx_lt hi, List.getElem_take]
      · intro i hi
        rw [tx_lt hi]
        exact hws _ (List.mem_of_mem_take (List.getElem_mem hi))
  obtain ⟨l1, t1, s1, z1⟩ := T1
  refine (gtells_walk t0 t1 s0 s1 hD).mono fun e W' ⟨he, hg⟩ => ?_
  subst he
  refine ⟨_, rfl, _, _, _, [] ++ [], p0 ++ (p1 ++ []), [], hW', ?_, ?_, rfl, hg.frame _, fun h => by cases h⟩
  · exact trodAll_cons_mk (shut_bool Tryz.underlying4 _) trodAll_mk0
  · exact (trodAll_cons_mk (Below.trod laidOut (by kernel_rfl) (of_decide_eq_true (by kernel_rfl)) h0k hg hlt0) (trodAll_cons_mk (Below.trod laidOut (by kernel_rfl) (of_decide_eq_true (by kernel_rfl)) h1k hg hlt1) trodAll_mk0))

/-- The law PgcdTells's row: every input. -/
theorem row_holds : Rows.PgcdTellsSaid :=
  OpenClaim.holds_of_wide 3 Tryz.f3 rfl rfl rfl rfl rfl rfl rfl ⟨rfl, rfl, rfl, rfl, rfl⟩ rfl rfl rfl rfl rfl (by kernel_rfl) Tryz.func3 (by kernel_rfl)
    (of_decide_eq_true (by kernel_rfl)) (by unfold Func.isWrapper; first | (rw [if_pos (by decide +kernel)]; kernel_rfl) | (rw [if_neg (by decide +kernel)]; exact ⟨rfl, rfl⟩))
    (fun os started H enc _ => lifted os started H enc)

set_option maxRecDepth 100000 in
/-- The card. -/
theorem proved : Rows.PgcdTellsCardSaid :=
  Claim7.holds_tied_plain_at .later [] [.handle] true (Rows.pgcdTellsCard.stood.harness) true
    row_holds (fun _ h => by cases h) (by kernel_rfl) (fun _ h => by cases h) pgcdTells_row_tie rfl ⟨rfl, rfl⟩ (by kernel_rfl) rfl
    (fun f fn hf hfn => by
      obtain rfl : f = 3 := Option.some.inj ((show Tryz.prog.funcNamed "abacist/abacistlaw2.PgcdTells" = some 3 by kernel_rfl).symm.trans hf) |>.symm
      obtain rfl : fn = Tryz.f3 := (Option.some.inj (Tryz.func3.symm.trans hfn)).symm
      exact ⟨by kernel_rfl, fun j t ht => by
        rw [Tryz.params3] at ht
        have hm : t ∈ #[22, 22] := Array.mem_of_getElem? ht
        have h3 : t = 22 ∨ t = 22 := by simpa using hm
        rcases h3 with rfl | rfl
        all_goals first
          | exact (show Tryz.prog.wantsStandIn 22 = false by kernel_rfl)⟩)
    (by kernel_rfl)
#print axioms proved
end Go.Proofs.YtdifiimaifmcpaaGreatDoor.pgcdTells
