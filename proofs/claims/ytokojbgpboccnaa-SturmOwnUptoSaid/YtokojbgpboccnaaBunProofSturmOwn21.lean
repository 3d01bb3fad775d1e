import Derived.Test.YtokojbgpboccnaaBunProofSturmOwn19
import Derived.Test.YtokojbgpboccnaaBunProofSturmOwn16
import Derived.Test.YtokojbgpboccnaaBunProofSturmOwn20
import Derived.Test.YtokojbgpboccnaaBunProofSturmOwn15
import Derived.Test.YtokojbgpboccnaaBunProofSturmOwn4
import Derived.Test.YtokojbgpboccnaaBunProofSturmOwn12
import Derived.Test.YtokojbgpboccnaaBunProofSturmOwn1
import Derived.SliceStrings
import Derived.SizedLaws
import Derived.JoinedCond
import Derived.Carry
import Derived.ProofKit
import Derived.OpenShut
import Derived.ShutString
/-
  PACKAGE pgcd: GcdOf.
-/
namespace Go.Proofs.Ytokojbgpboccnaa
open Go.RowKit
open Num
set_option linter.unusedVariables false
set_option maxRecDepth 100000
set_option linter.unusedSimpArgs false
end Go.Proofs.Ytokojbgpboccnaa

/-
  PACKAGE pgcd: without, FreeOf.
-/
namespace Go.Proofs.Ytokojbgpboccnaa
open Go.RowKit
open Num
set_option linter.unusedVariables false
set_option maxRecDepth 100000
set_option linter.unusedSimpArgs false

end Go.Proofs.Ytokojbgpboccnaa

/-
  PACKAGE pgcd: lists of polynomials.
-/
namespace Go.Proofs.Ytokojbgpboccnaa
open Go.RowKit
open Num
set_option linter.unusedVariables false
set_option maxRecDepth 100000
set_option linter.unusedSimpArgs false
end Go.Proofs.Ytokojbgpboccnaa

/-
  PACKAGE pgcd: YunOf.
-/
namespace Go.Proofs.Ytokojbgpboccnaa
open Go.RowKit
open Num
set_option linter.unusedVariables false
set_option maxRecDepth 100000
set_option linter.unusedSimpArgs false

end Go.Proofs.Ytokojbgpboccnaa

/-
  PACKAGE pgcd: Monic, Gcd, Free, of texts.
-/
namespace Go.Proofs.Ytokojbgpboccnaa
open Go.RowKit
open Num
set_option linter.unusedVariables false
set_option maxRecDepth 100000
set_option linter.unusedSimpArgs false

/-- What a function of one list tells: a list, or nothing and an error. -/
def PUn (f : List Rat → List Rat) (p ss : List ByteArray) (k : Int) : Prop := (k = 0 ∧ GoodP p ∧ ss = (f (rdp p)).map qtxt) ∨ (k ≠ 0 ∧ BadP p k ∧ ss = [])

end Go.Proofs.Ytokojbgpboccnaa

/-
  PACKAGE pgcd: Yun, of texts.
-/
namespace Go.Proofs.Ytokojbgpboccnaa
open Go.RowKit
open Num
set_option linter.unusedVariables false
set_option maxRecDepth 100000
set_option linter.unusedSimpArgs false
/-- What Yun tells. -/
def GYun (p : List ByteArray) (n : Nat) (k : Int) : Prop := (k = 0 ∧ GoodP p ∧ (freep (yp (rdp p) n)).length ≤ 1 ∧ ∀ i, i < n → 2 ≤ (freep (yp (rdp p) i)).length) ∨ (k ≠ 0 ∧ BadP p k ∧ n = 0)
end Go.Proofs.Ytokojbgpboccnaa

/-
  THE LAW PgcdOwn: what it asks.
-/
namespace Go.Proofs.Ytokojbgpboccnaa
open Go.RowKit
open Num
set_option linter.unusedVariables false
set_option maxRecDepth 100000
set_option linter.unusedSimpArgs false

theorem PUn.det {f : List Rat → List Rat} {p ss tt : List ByteArray} {k l : Int} (h : PUn f p ss k) (h' : PUn f p tt l) : k = l ∧ ss = tt := by
  rcases h with ⟨rfl, h1, rfl⟩ | ⟨h0, h1, rfl⟩ <;> rcases h' with ⟨rfl, h1', rfl⟩ | ⟨h0', h1', rfl⟩
  · exact ⟨rfl, rfl⟩
  · exact absurd h1 h1'.not
  · exact absurd h1' h1.not
  · exact ⟨h1.det h1', rfl⟩
theorem GYun.det {p : List ByteArray} {n m : Nat} {k l : Int} (h : GYun p n k) (h' : GYun p m l) : k = l ∧ n = m := by
  rcases h with ⟨rfl, h1, h2, h3⟩ | ⟨h0, h1, rfl⟩ <;> rcases h' with ⟨rfl, h1', h2', h3'⟩ | ⟨h0', h1', rfl⟩
  · refine ⟨rfl, ?_⟩
    rcases Nat.lt_trichotomy n m with h | h | h
    · have := h3' n h; omega
    · exact h
    · have := h3 m h; omega
  · exact absurd h1 h1'.not
  · exact absurd h1' h1.not
  · exact ⟨h1.det h1', rfl⟩
/-- What Yun told: a row of lists, all apart; the row's block below all of theirs; theirs below hi. -/
def YV (w : World) (K : Nat) (v : Value) (n : Nat) (f : Nat → List ByteArray) (b hi : Nat) (rv : Nat → Value) : Prop :=
  (K ≤ b ∧ b ≤ hi ∧ n ≤ 9) ∧ OwnR w K v n rv ∧ (∀ g, v.ownBlock = some g → g < b) ∧ (∀ i, i < n → OwnT w b (rv i) (f i)) ∧ (∀ i, i < n → ∀ g, (rv i).ownBlock = some g → g < hi) ∧ ∀ i j g, i < n → j < n → i ≠ j → (rv i).ownBlock = some g → (rv j).ownBlock ≠ some g
theorem YV.on {w w' : World} {K n b hi : Nat} {v : Value} {f : Nat → List ByteArray} {rv : Nat → Value} (h : YV w K v n f b hi rv) (hb : Below w.heap.size w w') : YV w' K v n f b hi rv :=
  ⟨h.1, h.2.1.on hb, h.2.2.1, fun i hi => (h.2.2.2.1 i hi).on hb, h.2.2.2.2⟩
theorem YV.spr {w w' : World} {K n b hi lo hi' : Nat} {v : Value} {f : Nat → List ByteArray} {rv : Nat → Value} (h : YV w K v n f b hi rv) (hs : SpR lo hi' w w') (hh : hi' ≤ K) : YV w' K v n f b hi rv :=
  ⟨h.1, h.2.1.spr hs (fun g hg => .inr (Nat.le_trans hh (h.2.1.lt hg).1)), h.2.2.1, fun i hi => (h.2.2.2.1 i hi).spr hs (fun g hg => .inr (by have h1 := (World.ownsRow.lt (h.2.2.2.1 i hi) g hg).1; have h2 := h.1.1; omega)), h.2.2.2.2⟩
end Go.Proofs.Ytokojbgpboccnaa

/-
  PACKAGE sturm: ChainOf, CounterOf.
-/
namespace Go.Proofs.Ytokojbgpboccnaa
open Go.RowKit
open Num
set_option linter.unusedVariables false
set_option maxRecDepth 100000
set_option linter.unusedSimpArgs false

theorem addp_none {p : List Rat} (hp : Trm p) : addp p [] = p := trm_pv (trm_addp _ _) hp fun x => by rw [pv_addp]; show _ + (0 : Rat) = _; grind
theorem scaled_one : Scaled 20 (fun k => k = 1) := by
  refine ⟨Try.call20, fun w v l m h ht hc _ _ => ?_⟩
  have HP := hid h
  have HC := hid hc
  have HT := hid ht
  clear h hc ht
  go_enter Try.func20, Try.ntmps20
  go_wp2_with fail
  go_ret
  exact ⟨_, l, rfl, HP.out, Rl.refl kd_one HT.out, HC.out, Below.refl _ _⟩
set_option maxHeartbeats 1000000 in
theorem chainof_p {w : World} {v : Value} {p : List Rat} {m : Nat} (h : PN w v p) (hp : Trm p) (h0 : p ≠ []) (hs : Cml p m) (hm : m ≤ 2000) (hl : p.length ≤ 9) :
    Calls Try.prog 12 #[v] w fun e w' => ∃ v' K, e = .returned v' ∧ w.heap.size ≤ K ∧ OwnF w' K v' (chainp p) ∧ (∀ f ∈ chainp p, Cml f (3363 * (m + 1 + 1)) ∧ f.length ≤ 9) ∧ (chainp p).length ≤ 9 ∧ Below w.heap.size w w' := by
  have H1 := hid (padd_p h (PN.nil w (a := none) (c := 0) (by decide)) hs.sml (Sml.nil (m := 1) (by decide)) (by omega) (by decide) (by omega) (by simp))
  rw [addp_none hp] at H1
  have HS := hid (fun w v (h : PN w v p) => chain_p kd_one scaled_one h hp h0 hs hm hl)
  have HT := hid (chainp_trm hp h0)
  clear h hp h0 hs hm hl
  go_enter Try.func12, Try.ntmps12
  go_wp2_with fail
  refine H1.out.mono ?_
  rintro e w1 ⟨v1, rfl, h1, hb1⟩
  have B := hid hb1
  have H2 := hid (HS.out w1 v1 h1)
  clear h1 hb1 H1
  go_wp2_with fail
  refine H2.out.mono ?_
  rintro e w2 ⟨v2, fs, rfl, h1, h2, h3, h4, hb⟩
  have B2 := hid (B.out.trans (hb.mono B.out.size))
  obtain rfl := h2.eq HT.out
  have HO := hid h1
  have H3 := hid h3
  have H4 := hid h4
  clear h1 h2 h3 h4 hb H2
  go_wp2_with fail
  go_ret
  exact ⟨_, _, rfl, B.out.size, HO.out, H3.out, H4.out, B2.out⟩

end Go.Proofs.Ytokojbgpboccnaa

/-
  PACKAGE sturm: Chain, of texts.
-/
namespace Go.Proofs.Ytokojbgpboccnaa
open Go.RowKit
open Num
set_option linter.unusedVariables false
set_option maxRecDepth 100000
set_option linter.unusedSimpArgs false

/-- The i-th polynomial of a chain. -/
noncomputable def cq (p : List Rat) (i : Nat) : List Rat := (chainp p)[i]?.getD []
/-- What Chain tells. -/
def SChn (p : List ByteArray) (n : Nat) (k : Int) : Prop := (k = 0 ∧ GoodP p ∧ rdp p ≠ [] ∧ n = (chainp (rdp p)).length) ∨ (k ≠ 0 ∧ (BadP p k ∨ (GoodP p ∧ rdp p = [] ∧ k = 3)) ∧ n = 0)
set_option maxHeartbeats 4000000 in
theorem schain_any {w : World} {v : Value} {p : List ByteArray} (h : TxsW w v p) (hs : Szs p) :
    Calls Try.prog 5 #[v] w fun e w' => ∃ r n k, e = .returned (.tuple #[r, errv k]) ∧ SChn p n k ∧ (k = 0 → OwnY w' w.heap.size r n fun i => (cq (rdp p) i).map qtxt) ∧ (k ≠ 0 → r = .slice none 0 0) ∧ Below w.heap.size w w' := by
  have H1 := hid (pread_any h hs)
  have hne := errv_neq
  have hgd := errv_guard
  clear h hs
  go_enter Try.func5, Try.ntmps5
  go_wp2_with fail
  refine H1.out.mono ?_
  rintro e w1 ⟨x, k, rfl, hr, _, hb⟩
  have B := hid hb
  rcases hr with ⟨rfl, hg, hp⟩ | ⟨hk, hw, rfl⟩
  · obtain ⟨a1, c1, rfl, _, _⟩ := hp.opened
    have HG := hid hg
    have HP := hid hp
    clear hb hg hp
    by_cases h0 : rdp p = []
    · have H0 := hid h0
      rw [h0]
      simp only [List.length_nil]
      clear h0
      go_wp2_with fail
      go_ret2
      exact ⟨.slice none 0 0, 0, 3, by rw [errv_some (show (3 : Int) ≠ 0 by decide)]; rfl, .inr ⟨by decide, .inr ⟨HG.out, H0.out, rfl⟩, rfl⟩, fun h => absurd h (by decide), fun _ => rfl, B.out⟩
    have H0 := hid h0
    have hposn : 0 < (rdp p).length := List.length_pos_iff.2 h0
    have hlz : (((rdp p).length : Int) == 0) = false := by rw [beq_eq_false_iff_ne]; omega
    clear h0
    go_wp2_with fail
    refine (chainof_p HP.out HG.out.trm H0.out HG.out.cml (by decide) HG.out.len).mono ?_
    rintro e w2 ⟨v2, K2, rfl, _, ho, hf, hn9, hb2⟩
    obtain ⟨n, hNn⟩ : ∃ n, (chainp (rdp p)).length = n := ⟨_, rfl⟩
    rw [hNn] at hn9
    replace HP := pno HP hb2
    replace B := bb B hb2
    have HO := hid ho
    have HF := hid hf
    clear hb2 ho hf
    obtain ⟨a2, c2, rfl, hc2⟩ := HO.out.opened
    have hln : (chainp (rdp p)).length = n := hNn
    have HLN := hid hln
    rw [hln] at HO ⊢
    unfold maxLen at hc2
    clear hln
    have HB2 := hid B.out.size
    go_wp2_with (refine wpList_make_ys _ rfl _ _ _ rfl Try.underlying24 n rfl rfl (by omega) ?_)
    intro w3 hrow hb3 hs3
    replace B := bb B hb3
    have B2 := hid hb3
    have ROW := hid hrow
    clear hrow hb3 hs3
    obtain ⟨b0, hb0⟩ : ∃ b0, b0 = w2.heap.size := ⟨_, rfl⟩
    have HE0 := hid hb0
    rw [← hb0] at ROW HB2 ⊢
    clear hb0
    go_wp2_with fail
    have W0 : ∃ rs : Nat → Value, Hid (YRw w3 b0 n rs) := ⟨_, ROW⟩
    clear ROW
    obtain ⟨rs0, ROW⟩ := W0
    go_loopw [29] (fun x wr => ∃ (i : Nat) (rs : Nat → Value), i ≤ n ∧ x = .int .i64 i ∧ Hid (YRw wr b0 n rs) ∧ Hid (∀ t, t < i → OwnS wr (b0 + 1) (rs t) ((cq (rdp p) t).map qtxt)) ∧ Hid (∀ s t, s < t → t < i → ∀ g, (rs s).ownBlock = some g → (rs t).ownBlock ≠ some g) ∧ Hid (Below w2.heap.size w2 wr) ∧ Hid (Below w.heap.size w wr)) (fun x _ => n - (intOf x).toNat)
    case atStart => exact ⟨0, rs0, by omega, rfl, ROW, hid (fun t ht => by omega), hid (fun s t _ ht => by omega), B2, B⟩
    case round =>
      clear ROW B B2
      obtain ⟨i, rs, hi, rfl, ROW, HT, HA, B2, B⟩ := hrel
      by_cases hlt : i < n
      · obtain ⟨g, p5, m5, c5, rfl, hg5, cd5, hq5⟩ := (HO.out.on B2.out).at (i := i) (by rw [HLN.out]; exact hlt)
        have hm5 : cq (rdp p) i ∈ chainp (rdp p) := by
          have h1 : i < (chainp (rdp p)).length := by rw [HLN.out]; exact hlt
          unfold cq
          rw [List.getElem?_eq_getElem h1]
          exact List.getElem_mem h1
        have hq6 : PN wr (.slice p5 m5 c5) (cq (rdp p) i) := hq5
        obtain ⟨q1, q2⟩ := HF.out _ hm5
        have H5 := hid (texts_s hq6 (chainp_trm HG.out.trm H0.out _ hm5) q1.sml (by decide) (by omega))
        clear hm5 hq5 hq6 q1 q2
        go_wp2_with fail
        refine H5.out.mono ?_
        rintro e w4 ⟨u, rfl, ho, hb4⟩
        have LB := hid ROW.out.lt
        have HU := hid (show OwnS w4 (b0 + 1) u _ from ⟨ho.1.mono (by have := LB.out; omega), ho.2⟩)
        have HUL := hid (fun g (hg : u.ownBlock = some g) => (ho.1.lt g hg).1)
        have HAL := hid (fun t (ht : t < i) g (hg : (rs t).ownBlock = some g) => ((HT.out t ht).1.lt g hg).2)
        replace ROW := hid (ROW.out.on hb4)
        replace HT : Hid (∀ t, t < i → OwnS w4 (b0 + 1) (rs t) ((cq (rdp p) t).map qtxt)) := hid (fun t ht => (HT.out t ht).on hb4)
        replace B := bb B hb4
        replace B2 := bb B2 hb4
        obtain ⟨pu, cu, eu, _⟩ := ho.1.txs
        rw [List.length_map] at eu
        subst eu
        clear hb4 ho H5 cd5 hg5
        have cc := ROW.out.stores hlt
        have ROW2 := hid (ROW.out.put hlt (.slice pu (cq (rdp p) i).length cu))
        replace B2 := hid (B2.out.setCell (p := ⟨b0, i, none⟩) (by have := HE0.out; show w2.heap.size ≤ b0; omega) (.slice pu (cq (rdp p) i).length cu))
        replace B := hid (B.out.setCell (p := ⟨b0, i, none⟩) (by have := HB2.out; show w.heap.size ≤ b0; omega) (.slice pu (cq (rdp p) i).length cu))
        go_wp2_with fail
        go_roundw
        case rel => exact ⟨i + 1, (fun k => if k = i then .slice pu (cq (rdp p) i).length cu else rs k), by omega, by go_num, ROW2, hid (fun t ht => by
            show OwnS _ _ (if t = i then _ else rs t) _
            by_cases e : t = i
            · subst e; rw [if_pos rfl]; exact HU.out.put (by omega)
            · rw [if_neg e]; exact (HT.out t (by omega)).put (by omega)), hid (fun s t hst ht g hg => by
            change (if s = i then _ else rs s).ownBlock = some g at hg
            show (if t = i then _ else rs t).ownBlock ≠ some g
            by_cases e : t = i
            · subst e
              rw [if_neg (by omega)] at hg
              rw [if_pos rfl]
              intro e2
              have h1 := HUL.out g e2
              have h2 := HAL.out s hst g hg
              omega
            · rw [if_neg (by omega)] at hg
              rw [if_neg e]
              exact HA.out s t hst (by omega) g hg), B2, B⟩
        case measure => simp [intOf]; omega
      · obtain rfl : i = n := by omega
        go_wp2_with fail
        go_ret2
        exact ⟨_, i, 0, rfl, .inl ⟨rfl, HG.out, H0.out, HLN.out.symm⟩, fun _ => ⟨b0, rs, rfl, HB2.out, hn9, ROW.out, HT.out, HA.out⟩, fun h => absurd rfl h, B.out⟩
  · have HK := hid hk
    have HW := hid hw
    have f1 : (k != 0) = true := by simpa using hk
    clear hb hw
    go_wp2_with fail
    go_ret2
    exact ⟨_, 0, k, rfl, .inr ⟨HK.out, .inl HW.out, rfl⟩, fun h => absurd h HK.out, fun _ => rfl, B.out⟩

end Go.Proofs.Ytokojbgpboccnaa

/-
  THE LAW SturmOwn: what it asks.
-/
namespace Go.Proofs.Ytokojbgpboccnaa
open Go.RowKit
open Num
set_option linter.unusedVariables false
set_option maxRecDepth 100000
set_option linter.unusedSimpArgs false

theorem SpR.of_below {lo hi : Nat} {w w' : World} (h : Below w.heap.size w w') : SpR lo hi w w' := ⟨h.os, h.tape, h.output, h.size, fun k hk _ => h.block k hk⟩
theorem SChn.det {p : List ByteArray} {n m : Nat} {k l : Int} (h : SChn p n k) (h' : SChn p m l) : k = l ∧ n = m := by
  rcases h with ⟨rfl, h1, h2, rfl⟩ | ⟨h0, h1, rfl⟩ <;> rcases h' with ⟨rfl, h1', h2', rfl⟩ | ⟨h0', h1', rfl⟩
  · exact ⟨rfl, rfl⟩
  · rcases h1' with h1' | ⟨_, h3, _⟩
    · exact absurd h1 h1'.not
    · exact absurd h3 h2
  · rcases h1 with h1 | ⟨_, h3, _⟩
    · exact absurd h1' h1.not
    · exact absurd h3 h2'
  · rcases h1 with h1 | ⟨h1, h3, rfl⟩ <;> rcases h1' with h1' | ⟨h1', h3', rfl⟩
    · exact ⟨h1.det h1', rfl⟩
    · exact absurd h1' h1.not
    · exact absurd h1 h1'.not
    · exact ⟨rfl, rfl⟩
theorem chainp_pos {f : List Rat} (h : f ≠ []) : 0 < (chainp f).length := by
  obtain ⟨l, e⟩ := chnx_head f.length f (slope f)
  unfold chainp
  rw [e]
  simp
/-- What Chain told. -/
theorem yv_sc {w : World} {p : List ByteArray} {K n : Nat} {k : Int} {r : Value} (t : SChn p n k) (h1 : k = 0 → OwnY w K r n fun i => (cq (rdp p) i).map qtxt) (h2 : k ≠ 0 → r = .slice none 0 0) (hK : K ≤ w.heap.size) :
    ∃ b rv, YV w K r n (fun i => (cq (rdp p) i).map qtxt) b w.heap.size rv := by
  by_cases h0 : k = 0
  · obtain ⟨b, rs, rfl, hb, h9, ⟨cur, hc, hs, hr⟩, ho, ha⟩ := h1 h0
    have hlt := (Array.getElem?_eq_some_iff.1 hc).1
    refine ⟨b + 1, rs, ⟨by omega, by omega, h9⟩, ⟨cur.toList, ⟨by simp [hs], .inr ⟨b, n, cur, rfl, hb, hc, Nat.le_refl _, by unfold maxLen; omega, by omega, List.take_of_length_le (by simp [hs])⟩⟩, fun i hi => by rw [Array.getElem?_toList]; exact hr i hi⟩, fun g hg => ?_, fun i hi => (ho i hi).1, fun i hi g hg => (World.ownsRow.lt (ho i hi).1 g hg).2, fun i j g hi hj hij hg => ?_⟩
    · simp [Value.ownBlock] at hg
      omega
    · rcases Nat.lt_or_gt_of_ne hij with h | h
      · exact ha i j h hj g hg
      · exact fun e => ha j i h hi g e hg
  · obtain rfl := h2 h0
    obtain rfl : n = 0 := by
      rcases t with ⟨h, _⟩ | ⟨_, _, h⟩
      · exact absurd h h0
      · exact h
    exact ⟨K, fun _ => .slice none 0 0, ⟨Nat.le_refl _, hK, by omega⟩, OwnR.nil _ _ _, fun g hg => by simp [Value.ownBlock] at hg, fun i hi => by omega, fun i hi => by omega, fun i j g hi => by omega⟩

set_option maxHeartbeats 2000000 in
theorem same_rows_at {w : World} {b c o q n n1 n2 : Nat} {av bv : Nat → Value} {sf : Nat → List ByteArray} (hb : b < w.heap.size) (hc : c < w.heap.size) (ha : ∀ i, i < n → w.cell? ⟨b, o + i, none⟩ = some (av i)) (hbv : ∀ i, i < n → w.cell? ⟨c, q + i, none⟩ = some (bv i)) (hA : ∀ i, i < n → Txs w (av i) (sf i)) (hB : ∀ i, i < n → Txs w (bv i) (sf i)) (hn : n ≤ 1000) :
    Calls Try.prog 7 #[.slice (some ⟨b, o, none⟩) n n1, .slice (some ⟨c, q, none⟩) n n2] w fun e w' => e = .returned (.bool true) ∧ Below w.heap.size w w' := by
  have HA := hid ha
  have HBV := hid hbv
  have TA := hid hA
  have TB := hid hB
  have HB := hid (And.intro hb hc)
  clear ha hbv hA hB hb hc
  go_enter Try.func7, Try.ntmps7
  go_wp2_with fail
  go_loopw [5] (fun i wr => ∃ k : Nat, k ≤ n ∧ i = .int .i64 k ∧ Hid (Below w.heap.size w wr)) (fun i _ => n - (intOf i).toNat)
  case atStart => exact ⟨0, by omega, rfl, hid (Below.refl _ _)⟩
  case round =>
    obtain ⟨k, hk, rfl, B⟩ := hrel
    by_cases hlt : k < n
    · have ca := (B.out.cell (p := ⟨b, o + k, none⟩) HB.out.1).trans (HA.out k hlt)
      have cb := (B.out.cell (p := ⟨c, q + k, none⟩) HB.out.2).trans (HBV.out k hlt)
      replace B := hid (Below.drew B.out)
      have hs := same_texts ((TA.out k hlt).on B.out) ((TB.out k hlt).on B.out)
      rw [decide_eq_true rfl] at hs
      obtain ⟨a1, c1, e1, _⟩ := TA.out k hlt
      obtain ⟨a2, c2, e2, _⟩ := TB.out k hlt
      rw [e1] at ca hs
      rw [e2] at cb hs
      have HS := hid hs
      clear hs e1 e2
      go_wp2_with fail
      go_region_held3 (fun w' => w'.cell? ⟨b, o + k, none⟩ = some (.slice a1 (sf k).length c1) ∧ w'.cell? ⟨c, q + k, none⟩ = some (.slice a2 (sf k).length c2)) (go_keep) (first
        | (go_at_call 9; refine HS.out.mono ?_; rintro e w1 ⟨rfl, hb1⟩; replace ca := (hb1.cell (p := ⟨b, o + k, none⟩) (Nat.lt_of_lt_of_le HB.out.1 B.out.size)).trans ca; replace cb := (hb1.cell (p := ⟨c, q + k, none⟩) (Nat.lt_of_lt_of_le HB.out.2 B.out.size)).trans cb; replace B := bb B hb1; clear hb1)
        | fail)
      go_wp2_with fail
      go_roundw
      case rel => exact ⟨k + 1, by omega, by go_num, B⟩
      case measure => simp [intOf]; omega
    · obtain rfl : k = n := by omega
      go_wp2_with fail
      go_ret
      exact ⟨rfl, B.out⟩

/-- What is behind the first k of two rows. -/
theorem same_rows_cut {w : World} {b c k n : Nat} {av bv : Nat → Value} {sf : Nat → List ByteArray} (hb : b < w.heap.size) (hc : c < w.heap.size) (ha : ∀ i, i < n → w.cell? ⟨b, i, none⟩ = some (av i)) (hbv : ∀ i, i < n → w.cell? ⟨c, i, none⟩ = some (bv i)) (hA : ∀ i, k ≤ i → i < n → Txs w (av i) (sf i)) (hB : ∀ i, k ≤ i → i < n → Txs w (bv i) (sf i)) (hn : n ≤ 1000) :
    ∀ o q z1 z2 : Nat, (k < n → o = k) → (k < n → q = k) → Calls Try.prog 7 #[.slice (some ⟨b, o, none⟩) (n - k) z1, .slice (some ⟨c, q, none⟩) (n - k) z2] w fun e w' => e = .returned (.bool true) ∧ Below w.heap.size w w' := by
  intro o q z1 z2 ho hq
  refine same_rows_at (av := fun i => av (k + i)) (bv := fun i => bv (k + i)) (sf := fun i => sf (k + i)) hb hc (fun i hi => ?_) (fun i hi => ?_) (fun i hi => hA _ (by omega) (by omega)) (fun i hi => hB _ (by omega) (by omega)) (by omega)
  · rw [ho (by omega)]; exact ha _ (by omega)
  · rw [hq (by omega)]; exact hbv _ (by omega)

end Go.Proofs.Ytokojbgpboccnaa

/-
  THE LAW SturmOwn.
-/
namespace Go.Proofs.Ytokojbgpboccnaa
open Go.RowKit
open Num
set_option linter.unusedVariables false
set_option maxRecDepth 100000
set_option linter.unusedSimpArgs false

set_option maxHeartbeats 4000000 in
theorem suown_walk {w : World} {v_ : Value} {p : List ByteArray} {x : ByteArray} (hp : TxsW w v_ p) (sp : Szs p) (zx : x.size ≤ maxLen) (mp : p.length ≤ 1048576) :
    Calls Try.prog 3 #[v_, .string x] w fun e w' => e = .returned (.bool true) ∧ Below w.heap.size w w' := by
  have hne := errv_neq
  have heq := errv_eql
  have hgd := errv_guard
  have TP := hid hp
  have SZp := hid sp
  have MP := hid mp
  have B := hid (Below.refl w.heap.size w)
  have HP0 := hid hp
  clear hp sp mp
  go_enter Try.func3, Try.ntmps3
  go_wp2_with fail
  refine (copied_any TP.out (by have := MP.out; omega)).mono ?_
  rintro e w1 ⟨u, rfl, ou, b1⟩
  replace TP := hid (TP.out.on b1)
  replace B := bb B b1
  have UL : Hid (∀ g, u.ownBlock = some g → g < w1.heap.size) := hid (fun g hg => (World.ownsRow.lt ou g hg).2)
  have TFu := hid ou.txs
  have TXu := hid TFu.out.weak
  have S1 := hid b1.size
  clear ou b1
  go_wp2_with fail
  refine (schain_any TXu.out SZp.out).mono ?_
  rintro e w2 ⟨r1, n, k, rfl, t2, oy, ony, b2⟩
  obtain ⟨bc, rc, hy⟩ := yv_sc t2 oy ony b2.size
  have YC := hid hy
  have T2 := hid t2
  have N1 : Hid (k ≠ 0 → r1 = .slice none 0 0) := hid ony
  replace TP := hid (TP.out.on b2)
  replace TFu := hid (TFu.out.on b2)
  replace TXu := hid (TXu.out.on b2)
  replace B := bb B b2
  have S2 := hid b2.size
  clear t2 oy ony b2 hy
  go_wp2_with fail
  refine (schain_any TP.out SZp.out).mono ?_
  rintro e w3 ⟨r2, n2, k2, rfl, t3, oy, ony, b3⟩
  obtain ⟨bk, rk, hy⟩ := yv_sc t3 oy ony b3.size
  have YK := hid hy
  obtain ⟨hk, hl⟩ := T2.out.det t3
  subst hk
  subst hl
  have N2 : Hid (k ≠ 0 → r2 = .slice none 0 0) := hid ony
  replace TP := hid (TP.out.on b3)
  replace TFu := hid (TFu.out.on b3)
  replace TXu := hid (TXu.out.on b3)
  replace YC := hid (YC.out.on b3)
  replace B := bb B b3
  have S3 := hid b3.size
  clear t3 oy ony b3 hy
  generalize (fun i => (cq (rdp p) i).map qtxt) = f at YC YK
  by_cases hk : k = 0
  · subst hk
    have hn0 : 0 < n := by
      rcases T2.out with ⟨_, _, h3, h4⟩ | ⟨h3, _⟩
      · rw [h4]; exact chainp_pos h3
      · exact absurd rfl h3
    obtain ⟨gc, cc, rfl, hg1, hg2, hnc, hcm, hcc⟩ := YC.out.2.1.full hn0
    obtain ⟨gk, ck, rfl, hg3, hg4, hnk, hkm, hck⟩ := YK.out.2.1.full hn0
    unfold maxLen at hcm hkm
    have h9 := YC.out.1.2.2
    have HCC := hid hcc
    have HCK := hid hck
    have HG := hid (And.intro (YC.out.2.2.1 gc rfl) (And.intro hg2 (And.intro hg3 hg4)))
    clear hcc hck hg1 hg2 hg3 hg4 N1 N2 T2 hn0
    go_wp2_with fail
    go_region_held3 (fun w' => True) (trivial) (fail)
    go_wp2_with fail
    go_loopw [10] (fun i wr => ∃ k : Nat, k ≤ n ∧ i = .int .i64 k ∧ Hid (SpR bc w2.heap.size w3 wr) ∧ Hid (∀ j, k ≤ j → j < n → OwnT wr bc (rc j) (f j))) (fun i _ => n - (intOf i).toNat)
    case atStart => exact ⟨0, by omega, rfl, hid (SpR.of_below (Below.drew (Below.refl _ _))), hid (fun j _ hj => (YC.out.2.2.2.1 j hj).on (Below.drew (Below.refl _ _)))⟩
    case round =>
      obtain ⟨k, hk, rfl, HS, HT⟩ := hrel
      by_cases hlt : k < n
      · have c1 : wr.cell? ⟨gc, k, none⟩ = some (rc k) := (World.cell?_of_block (HS.out.2.2.2.2 gc HG.out.2.1 (.inl HG.out.1))).trans (HCC.out k hlt)
        have hsp := spoil_any (HT.out k (Nat.le_refl _) hlt) x
        obtain ⟨a1, z1, e1, _⟩ := ownT_form (HT.out k (Nat.le_refl _) hlt)
        have HE := hid e1
        rw [e1] at c1 hsp
        have HSP := hid hsp
        clear hsp e1
        go_wp2_with fail
        refine HSP.out.mono ?_
        rintro e w4 ⟨rfl, hg⟩
        have HG4 : SpR bc w2.heap.size wr w4 := SpR.of_grown hg (fun g hg => ⟨(World.ownsRow.lt (YC.out.2.2.2.1 k hlt) g (by rw [HE.out]; exact hg)).1, YC.out.2.2.2.2.1 k hlt g (by rw [HE.out]; exact hg)⟩)
        have HT4 : Hid (∀ j, k + 1 ≤ j → j < n → OwnT w4 bc (rc j) (f j)) := hid (fun j h1 h2 => by
          refine (HT.out j (by omega) h2).kept hg ?_
          cases hv : (rc j).ownBlock with
          | none => exact .inl rfl
          | some g => exact .inr (fun e => YC.out.2.2.2.2.2 j k g h2 hlt (by omega) hv (by rw [HE.out]; exact e.symm)))
        replace HS := hid ((HS.out.trans HG4).trans (SpR.of_below (Below.drew (Below.refl _ _))))
        replace HT : Hid (∀ j, k + 1 ≤ j → j < n → OwnT w4.drew bc (rc j) (f j)) := hid (fun j h1 h2 => (HT4.out j h1 h2).on (Below.drew (Below.refl _ _)))
        clear hg HG4 HT4 c1 HSP HE
        have hsr := (same_rows_cut (w := w4.drew) (b := gc) (c := gk) (k := k + 1) (n := n) (av := rc) (bv := rk) (sf := f)
          (Nat.lt_of_lt_of_le HG.out.2.1 HS.out.2.2.2.1) (Nat.lt_of_lt_of_le HG.out.2.2.2 HS.out.2.2.2.1)
          (fun i hi => (World.cell?_of_block (HS.out.2.2.2.2 gc HG.out.2.1 (.inl HG.out.1))).trans (HCC.out _ hi))
          (fun i hi => (World.cell?_of_block (HS.out.2.2.2.2 gk HG.out.2.2.2 (.inr HG.out.2.2.1))).trans (HCK.out _ hi))
          (fun i hk hi => (HT.out _ hk hi).txs)
          (fun i hk hi => ((YK.out.spr HS.out (Nat.le_refl _)).2.2.2.1 _ hi).txs) (by omega))
        have fa : (0 : Int) ≤ (k : Int) + 1 := by omega
        have fb : (k : Int) + 1 ≤ (n : Int) := by omega
        have fc : IntKind.i64.wrap ((k : Int) + 1) = (k : Int) + 1 := IntWalk.i64_in _ (by omega)
        have fd : ((k : Int) + 1).toNat = k + 1 := by omega
        have fe : (n : Int) ≤ (cc : Int) := by omega
        have ff : (n : Int) ≤ (ck : Int) := by omega
        have fg : (k : Int) + 1 ≤ (cc : Int) := by omega
        have fh : (k : Int) + 1 ≤ (ck : Int) := by omega
        have HSR := hid hsr
        clear hsr
        obtain ⟨oc, hoc, hpc⟩ : ∃ o, (if cc = k + 1 then some (⟨gc, 0, none⟩ : Addr) else some ⟨gc, k + 1, none⟩) = some ⟨gc, o, none⟩ ∧ (k + 1 < n → o = k + 1) := by
          by_cases e1 : cc = k + 1
          · exact ⟨0, by rw [if_pos e1], fun h => by omega⟩
          · exact ⟨k + 1, by rw [if_neg e1], fun _ => rfl⟩
        obtain ⟨ok, hok, hpk⟩ : ∃ o, (if ck = k + 1 then some (⟨gk, 0, none⟩ : Addr) else some ⟨gk, k + 1, none⟩) = some ⟨gk, o, none⟩ ∧ (k + 1 < n → o = k + 1) := by
          by_cases e1 : ck = k + 1
          · exact ⟨0, by rw [if_pos e1], fun h => by omega⟩
          · exact ⟨k + 1, by rw [if_neg e1], fun _ => rfl⟩
        go_wp2_with fail
        go_region_held3 (fun w' => True) (trivial) (first
          | (go_at_call 7; refine (HSR.out _ _ _ _ hpc hpk).mono ?_; rintro e w5 ⟨rfl, hb5⟩; replace HS := hid (HS.out.trans (SpR.of_below hb5)); replace HT : Hid (∀ j, k + 1 ≤ j → j < n → OwnT w5 bc (rc j) (f j)) := hid (fun j h1 h2 => (HT.out j h1 h2).on hb5); clear hb5)
          | fail)
        go_wp2_with fail
        go_roundw
        case rel => exact ⟨k + 1, by omega, by go_num, HS, HT⟩
        case measure => simp [intOf]; omega
      · obtain rfl : k = n := by omega
        have HB := hid (HS.out.below B.out (by have h1 := YC.out.1.1; have h2 := S1.out; omega) B.out.size)
        replace TFu := hid (TFu.out.spr HS.out (fun g hg => .inl (Nat.lt_of_lt_of_le (UL.out g hg) YC.out.1.1)))
        replace TXu := hid TFu.out.weak
        replace TP := hid (TxsW.below HP0.out HB.out (Nat.le_refl _))
        clear HS HT YC YK HCC HCK HG
        go_wp2_with fail
        refine (schg_any TXu.out SZp.out (by have := MP.out; omega)).mono ?_
        rintro e w6 ⟨m6, k6, rfl, t6, b6⟩
        replace TFu := hid (TFu.out.on b6)
        replace TP := hid (TP.out.on b6)
        replace HB := bb HB b6
        clear t6 b6 TXu
        go_wp2_with fail
        refine (same_w TFu.out TP.out).mono ?_
        rintro e w7 ⟨rfl, b7⟩
        replace HB := bb HB b7
        clear b7 TFu TP
        go_wp2_with fail
        refine (awake_true _).mono ?_
        rintro e w8 ⟨rfl, b8⟩
        replace HB := bb HB b8
        clear b8
        go_wp2_with fail
        go_ret
        exact ⟨rfl, HB.out⟩
  · obtain rfl := N1.out hk
    obtain rfl := N2.out hk
    obtain rfl : n = 0 := by
      rcases T2.out with ⟨h, _⟩ | ⟨_, _, h⟩
      · exact absurd h hk
      · exact h
    have f2 : (k != 0) = true := by simpa using hk
    have g2 : (k == 0) = false := by simpa using hk
    clear YC YK N1 N2 T2
    go_wp2_with fail
    go_region_held3 (fun w' => True) (trivial) (fail)
    go_wp2_with fail
    go_loopw [10] (fun i wr => i = .int .i64 0 ∧ Hid (Below w3.heap.size w3 wr)) (fun i _ => 0)
    case atStart => exact ⟨rfl, hid (Below.drew (Below.refl _ _))⟩
    case round =>
      obtain ⟨rfl, HB⟩ := hrel
      replace TFu := hid (TFu.out.on HB.out)
      replace TXu := hid TFu.out.weak
      replace TP := hid (TP.out.on HB.out)
      replace HB := bb B HB.out
      go_wp2_with fail
      refine (schg_any TXu.out SZp.out (by have := MP.out; omega)).mono ?_
      rintro e w6 ⟨m6, k6, rfl, t6, b6⟩
      replace TFu := hid (TFu.out.on b6)
      replace TP := hid (TP.out.on b6)
      replace HB := bb HB b6
      clear t6 b6 TXu
      go_wp2_with fail
      refine (same_w TFu.out TP.out).mono ?_
      rintro e w7 ⟨rfl, b7⟩
      replace HB := bb HB b7
      clear b7 TFu TP
      go_wp2_with fail
      refine (awake_true _).mono ?_
      rintro e w8 ⟨rfl, b8⟩
      replace HB := bb HB b8
      clear b8
      go_wp2_with fail
      go_ret
      exact ⟨rfl, HB.out⟩

end Go.Proofs.Ytokojbgpboccnaa

/-
  The law SturmOwn of package abacistlaw5: whatever lists of texts and texts come in, the call returns true, and they read behind it as they did before. Of bulk at most 1048576 together.
-/
namespace Go.Proofs.Ytokojbgpboccnaa.sturmOwn
open Go.ChangeShapes Go.WideShapes Go.ChangeAt Go.RowKit
open Go.ChangeMaps (open_string shut_string)
set_option linter.unusedVariables false

theorem own : ownKnob Try.prog.godebug = none := by kernel_rfl
theorem laidOut : laidOutB Try.prog = true := by kernel_rfl
theorem cellsS : Try.prog.cellsOf 9 = 1 := by kernel_rfl
theorem bytesS : Try.prog.bytesOf 9 = 16 := by kernel_rfl

/-- So many values at the most. -/
theorem bulk_pos {H : Type} (d : DataW H) : 0 < Rows.uptoBulk d := by
  cases d with
  | lit l => cases l <;> (rw [Rows.uptoBulk]; try exact Nat.succ_pos _) <;> first | decide | (intros; contradiction)
  | _ => rw [Rows.uptoBulk]; omega
theorem bulk_many {H : Type} : ∀ l : List (DataW H), l.length ≤ Rows.uptoBulkAll l
  | [] => Nat.zero_le _
  | d :: l => by
    have h1 := bulk_pos d
    have h2 := bulk_many l
    rw [Rows.uptoBulkAll, List.length_cons]
    omega

set_option maxRecDepth 100000 in
theorem lifted (os : Os) (started : os.Started) (H : Type) (enc : TypeId × Value → H) (F : Stop.Interp) :
    ReturnsInHanded {} Try.checked os 3 .any ((Rows.OpenSpec.upto Rows.sturmOwnSpec).pre6 enc Try.prog Try.f3 Rows.sturmOwnUptoRow.domain false) (((Rows.OpenSpec.upto Rows.sturmOwnSpec).at F).post enc Try.prog Try.f3 false true false false) := by
  refine returnsInHanded_of_cond (C := Try.checked) (s := Rows.OpenSpec.upto Rows.sturmOwnSpec) (k := Rows.uptoSmall) rfl own started (by kernel_rfl) Try.func3
    (OpenSpec.witness (enc := enc) (C := Try.checked) (s := Rows.OpenSpec.upto Rows.sturmOwnSpec) (k := Rows.uptoSmall) rfl false ⟨#[], #[.slice none 0 0, .string ByteArray.empty], []⟩ 8 (by kernel_rfl) (by kernel_rfl) (by kernel_rfl)
      (x := ([.nil, .lit (.string [])], [], [])) (by kernel_rfl) rfl (by kernel_rfl)) ?_
  intro W base args ds gs before hval0 hW _ hk _
  have hbulk := of_decide_eq_true hk
  have hval : ∀ (j : Nat) t v, Try.f3.params[j]? = some t → args[j]? = some v → Value.okWide Try.prog W .any base t v := hval0
  have hW' := hW
  obtain ⟨p, q, hA0, hV, rfl, hfz, hnd⟩ := hW
  have hA : DataW.TrodAll enc Try.prog W 0 (fun _ => true) true Try.f3.params.toList args.toList ds p := hA0
  rw [Try.params3] at hA hval
  obtain ⟨v0, vs0, d0, ds0, p0, q0, hargs, rfl, rfl, h0, r0⟩ := trodAll_cons hA
  obtain ⟨v1, vs1, d1, ds1, p1, q1, rfl, rfl, rfl, h1, r1⟩ := trodAll_cons r0
  obtain ⟨rfl, rfl, rfl⟩ := trodAll_nil r1
  obtain rfl : args = #[v0, v1] := by cases args; simp_all
  obtain ⟨rfl, rfl⟩ := trodVars_none hV
  obtain ⟨a1, rfl, rfl, rfl, w1⟩ := open_string Try.underlying9 (hval 1 9 v1 rfl rfl) h1
  obtain ⟨pa0, len0, cap0, rfl⟩ := okWide_slice Try.underlying22 (hval 0 22 v0 rfl rfl)
  have h0k := h0
  obtain ⟨fuel0, hf0⟩ := h0
  clear hA0 hval0
  have hlt0 : ∀ y ∈ p0, y.block < W.heap.size := fun y hy => hW'.lt y (by simp [hy])
  have T0 : ∃ ss : List ByteArray, TxsW W (.slice pa0 len0 cap0) ss ∧ Szs ss ∧ ss.length ≤ 1048576 := by
    rcases open_strings Try.underlying22 Try.underlying9 cellsS hf0 with ⟨hcs, hx⟩ | ⟨b, len', cap', ss, hcs, _, hl, hm, hz, hx, hcell, hws⟩
    · simp [Value.cells] at hcs
      obtain ⟨rfl, rfl, rfl⟩ := hcs
      exact ⟨[], (Txs.nil W).weak, Szs.nil, by decide⟩
    · simp [Value.cells] at hcs
      obtain ⟨rfl, rfl, rfl⟩ := hcs
      simp only [Prod.mk.injEq] at hx
      obtain ⟨rfl, hx2⟩ := hx
      simp only [if_true] at hz
      have hlen : (ss.take len0).length = len0 := by rw [List.length_take]; omega
      have hreach : len0 ≤ 1048576 := by
        have hb := hbulk
        simp only [List.cons_append, List.nil_append, Rows.uptoBulkAll, Rows.uptoBulk] at hb
        have h5 := bulk_many (strs (H := H) (ss.take len0))
        simp only [strs, List.length_map] at h5 hb
        rw [hlen] at h5
        omega
      refine ⟨ss.take len0, ?_, ?_, by rw [hlen]; exact hreach⟩
      · refine ⟨some b, cap0, by rw [hlen], by rw [hlen]; exact hl, hm, fun i hi => ?_⟩
        have hi2 : i < len0 := by rw [← hlen]; exact hi
        have h2 := hcell i (by omega)
        obtain ⟨g, off, spot⟩ := b
        have hspot : spot = none := by simpa [Addr.add] using World.cell?_spot (hcell 0 (by omega))
        subst hspot
        have hbW : g < W.heap.size := hlt0 (.cell g off) (by rw [hx2]; exact MemPlace.mem_row.2 ⟨0, by omega, by simp⟩)
        refine ⟨g, off, rfl, hbW, ?_⟩
        rw [add_plain, List.getD_eq_getElem?_getD, List.getElem?_eq_getElem (by omega), Option.getD_some] at h2
        rw [h2, tx_lt hi, List.getElem_take]
      · intro i hi
        rw [tx_lt hi]
        exact hws _ (List.mem_of_mem_take (List.getElem_mem hi))
  obtain ⟨l0, t0, s0, z0⟩ := T0
  refine (suown_walk t0 s0 w1 z0).mono fun e W' ⟨he, hg⟩ => ?_
  subst he
  refine ⟨_, rfl, _, _, _, [] ++ [], p0 ++ ([] ++ []), [], hW', ?_, ?_, rfl, hg.frame _, fun h => by cases h⟩
  · exact trodAll_cons_mk (shut_bool Try.underlying4 _) trodAll_mk0
  · exact (trodAll_cons_mk (Below.trod laidOut (by kernel_rfl) (of_decide_eq_true (by kernel_rfl)) h0k hg hlt0) (trodAll_cons_mk (shut_string Try.underlying9 w1) trodAll_mk0))

/-- The law SturmOwn: every input of that bulk. -/
theorem proved : Rows.SturmOwnUptoSaid :=
  OpenClaim.holds_of_cond 3 Try.f3 rfl rfl rfl rfl rfl rfl rfl ⟨rfl, rfl, rfl, rfl, rfl⟩ rfl rfl rfl rfl rfl (by kernel_rfl) Try.func3 (by kernel_rfl)
    (of_decide_eq_true (by kernel_rfl)) (by unfold Func.isWrapper; first | (rw [if_pos (by decide +kernel)]; kernel_rfl) | (rw [if_neg (by decide +kernel)]; exact ⟨rfl, rfl⟩))
    (fun os started H enc _ F => lifted os started H enc F)
#print axioms proved
end Go.Proofs.Ytokojbgpboccnaa.sturmOwn
