import Derived.Test.YtmghcankdaomgaaBunProofPolyOwn16
import Derived.Test.YtmghcankdaomgaaBunProofPolyOwn4
import Derived.Test.YtmghcankdaomgaaBunProofPolyOwn14
import Derived.Test.YtmghcankdaomgaaBunProofPolyOwn13
import Derived.Test.YtmghcankdaomgaaBunProofPolyOwn6
import Derived.Test.YtmghcankdaomgaaBunProofPolyOwn10
import Derived.SliceStrings
import Derived.SizedLaws
import Derived.Carry
import Derived.ProofKit
import Derived.OpenShut
import Derived.ShutString
/-
  THE LAW PolyOwn: what it asks.
-/
namespace Go.Proofs.Ytmghcankdaomgaa
open Go.RowKit
open Num
set_option linter.unusedVariables false
set_option maxRecDepth 100000
set_option linter.unusedSimpArgs false

/-! ### What is told is told again -/
theorem BadQ.det {s : ByteArray} {k l : Int} (h : BadQ s k) (h' : BadQ s l) : k = l := by
  rcases h with ⟨h, rfl⟩ | ⟨h, _, rfl⟩ <;> rcases h' with ⟨h', rfl⟩ | ⟨h', _, rfl⟩
  · rfl
  · omega
  · omega
  · rfl
theorem BadP.det {p : List ByteArray} {k l : Int} (h : BadP p k) (h' : BadP p l) : k = l := by
  rcases h with ⟨h, rfl⟩ | ⟨h, i, hi, hg, hb⟩ | ⟨h, hg, ht, rfl⟩ <;> rcases h' with ⟨h', rfl⟩ | ⟨h', j, hj, hg', hb'⟩ | ⟨h', hg', ht', rfl⟩
  · rfl
  · omega
  · omega
  · omega
  · have e : i = j := by
      rcases Nat.lt_trichotomy i j with h1 | h1 | h1
      · exact absurd (hg' i h1) hb.not
      · exact h1
      · exact absurd (hg j h1) hb'.not
    subst e
    exact hb.det hb'
  · exact absurd (hg' i hi) hb.not
  · omega
  · exact absurd (hg j hj) hb'.not
  · rfl
theorem WrongP.det {p q : List ByteArray} {k l : Int} (h : WrongP p q k) (h' : WrongP p q l) : k = l := by
  rcases h with h | ⟨hg, h⟩ <;> rcases h' with h' | ⟨hg', h'⟩
  · exact h.det h'
  · exact absurd hg' h.not
  · exact absurd hg h'.not
  · exact h.det h'
theorem WrongX.det {p : List ByteArray} {x : ByteArray} {k l : Int} (h : WrongX p x k) (h' : WrongX p x l) : k = l := by
  rcases h with h | ⟨hg, h⟩ <;> rcases h' with h' | ⟨hg', h'⟩
  · exact h.det h'
  · exact absurd hg' h.not
  · exact absurd hg h'.not
  · exact h.det h'
theorem PTells.det {f : List Rat → List Rat → List Rat} {p q ss tt : List ByteArray} {k l : Int} (h : PTells f p q ss k) (h' : PTells f p q tt l) : k = l ∧ ss = tt := by
  rcases h with ⟨rfl, h1, h2, rfl⟩ | ⟨_, h1, rfl⟩ <;> rcases h' with ⟨rfl, h1', h2', rfl⟩ | ⟨_, h1', rfl⟩
  · exact ⟨rfl, rfl⟩
  · exact absurd ⟨h1, h2⟩ h1'.not
  · exact absurd ⟨h1', h2'⟩ h1.not
  · exact ⟨h1.det h1', rfl⟩
theorem PShifts.det {p : List ByteArray} {x : ByteArray} {ss tt : List ByteArray} {k l : Int} (h : PShifts p x ss k) (h' : PShifts p x tt l) : k = l ∧ ss = tt := by
  rcases h with ⟨rfl, h1, h2, rfl⟩ | ⟨_, h1, rfl⟩ <;> rcases h' with ⟨rfl, h1', h2', rfl⟩ | ⟨_, h1', rfl⟩
  · exact ⟨rfl, rfl⟩
  · exact absurd ⟨h1, h2⟩ h1'.not
  · exact absurd ⟨h1', h2'⟩ h1.not
  · exact ⟨h1.det h1', rfl⟩
theorem PDerivs.det {p ss tt : List ByteArray} {k l : Int} (h : PDerivs p ss k) (h' : PDerivs p tt l) : k = l ∧ ss = tt := by
  rcases h with ⟨rfl, h1, rfl⟩ | ⟨_, h1, rfl⟩ <;> rcases h' with ⟨rfl, h1', rfl⟩ | ⟨_, h1', rfl⟩
  · exact ⟨rfl, rfl⟩
  · exact absurd h1 h1'.not
  · exact absurd h1' h1.not
  · exact ⟨h1.det h1', rfl⟩
theorem PDivs.det {p q ks rs ks' rs' : List ByteArray} {k l : Int} (h : PDivs p q ks rs k) (h' : PDivs p q ks' rs' l) : k = l ∧ ks = ks' ∧ rs = rs' := by
  rcases h with ⟨rfl, h1, h2, h3, y, r, ty, tr, hl, _, hx, rfl, rfl⟩ | ⟨rfl, h1, h2, h3, rfl, rfl⟩ | ⟨_, h1, rfl, rfl⟩ <;> rcases h' with ⟨rfl, h1', h2', h3', y', r', ty', tr', hl', _, hx', rfl, rfl⟩ | ⟨rfl, h1', h2', h3', rfl, rfl⟩ | ⟨_, h1', rfl, rfl⟩
  · obtain ⟨rfl, rfl⟩ := div_unique h2.2.2 h3 ty tr ty' tr' hl hl' (fun x => (hx x).symm.trans (hx' x))
    exact ⟨rfl, rfl, rfl⟩
  · exact absurd h3' h3
  · exact absurd ⟨h1, h2⟩ h1'.not
  · exact absurd h3 h3'
  · exact ⟨rfl, rfl, rfl⟩
  · exact absurd ⟨h1, h2⟩ h1'.not
  · exact absurd ⟨h1', h2'⟩ h1.not
  · exact absurd ⟨h1', h2'⟩ h1.not
  · exact ⟨h1.det h1', rfl, rfl⟩
theorem ownT_form {w : World} {K : Nat} {v : Value} {ss : List ByteArray} (h : OwnT w K v ss) : ∃ a c, v = .slice a ss.length c ∧ ss.length ≤ c ∧ c ≤ maxLen := by
  obtain ⟨p, c, e, h1, h2, _⟩ := h.txs
  exact ⟨p, c, e, h1, h2⟩
/-! ### All blocks but those of a range -/
def SpR (lo hi : Nat) (w w' : World) : Prop := w'.os = w.os ∧ w'.tape = w.tape ∧ w'.output = w.output ∧ w.heap.size ≤ w'.heap.size ∧ ∀ k, k < w.heap.size → (k < lo ∨ hi ≤ k) → w'.heap[k]? = w.heap[k]?
theorem SpR.refl (lo hi : Nat) (w : World) : SpR lo hi w w := ⟨rfl, rfl, rfl, Nat.le_refl _, fun _ _ _ => rfl⟩
theorem SpR.trans {lo hi : Nat} {a b c : World} (h : SpR lo hi a b) (h' : SpR lo hi b c) : SpR lo hi a c :=
  ⟨h'.1.trans h.1, h'.2.1.trans h.2.1, h'.2.2.1.trans h.2.2.1, Nat.le_trans h.2.2.2.1 h'.2.2.2.1, fun k hk hr => (h'.2.2.2.2 k (Nat.lt_of_lt_of_le hk h.2.2.2.1) hr).trans (h.2.2.2.2 k hk hr)⟩
theorem SpR.of_grown {lo hi : Nat} {w w' : World} {row : Option Nat} (h : w.grownBy w' row) (hr : ∀ g, row = some g → lo ≤ g ∧ g < hi) : SpR lo hi w w' :=
  ⟨h.os, h.tape, h.output, h.size, fun k hk hkr => h.block k hk (fun e => by have := hr k e.symm; omega)⟩
theorem SpR.below {lo hi K : Nat} {w0 w w' : World} (h : SpR lo hi w w') (hb : Below K w0 w) (hK : K ≤ lo) (hs : K ≤ w.heap.size) : Below K w0 w' :=
  ⟨h.1.trans hb.os, h.2.1.trans hb.tape, h.2.2.1.trans hb.output, Nat.le_trans hb.size h.2.2.2.1, fun k hk => (h.2.2.2.2 k (by omega) (.inl (by omega))).trans (hb.block k hk)⟩
theorem SpR.drewN {lo hi : Nat} {w w' : World} (h : SpR lo hi w w') (j : Nat) : SpR lo hi w (w'.drewN j) := h.trans (by
  have hb := below_drewN (Below.refl w'.heap.size w') j
  exact ⟨hb.os, hb.tape, hb.output, hb.size, fun k hk _ => hb.block k hk⟩)
theorem Txs.spr {lo hi : Nat} {w w' : World} {v : Value} {ss : List ByteArray} (h : Txs w v ss) (hs : SpR lo hi w w') (hr : ∀ g, v.ownBlock = some g → g < lo ∨ hi ≤ g) : Txs w' v ss := by
  obtain ⟨p, c, h1, h2, h3, h4⟩ := h
  refine ⟨p, c, h1, h2, h3, ?_⟩
  rcases h4 with h4 | ⟨b, off, h5, h6, h7⟩
  · exact .inl h4
  · refine .inr ⟨b, off, h5, Nat.lt_of_lt_of_le h6 hs.2.2.2.1, fun i hi => ?_⟩
    rw [← h7 i hi]
    exact World.cell?_of_block (hs.2.2.2.2 b h6 (hr b (by rw [h1, h5]; rfl)))
/-- Six. -/
def sel6 {α : Type} (a b c d e f : α) : Nat → α
  | 0 => a | 1 => b | 2 => c | 3 => d | 4 => e | _ => f
theorem all6 {P : Nat → Prop} (h0 : P 0) (h1 : P 1) (h2 : P 2) (h3 : P 3) (h4 : P 4) (h5 : P 5) : ∀ i, i < 6 → P i := by
  intro i hi
  rcases i with _ | _ | _ | _ | _ | _ | i
  · exact h0
  · exact h1
  · exact h2
  · exact h3
  · exact h4
  · exact h5
  · omega

set_option maxHeartbeats 2000000 in
theorem spoil_rows {w : World} {b lo hi n : Nat} {rv : Nat → Value} {sf : Nat → List ByteArray} (hb : b < w.heap.size) (hbr : b < lo ∨ hi ≤ b) (hc : ∀ i, i < n → w.cell? ⟨b, i, none⟩ = some (rv i)) (ho : ∀ i, i < n → OwnT w lo (rv i) (sf i))
    (hr : ∀ i, i < n → ∀ g, (rv i).ownBlock = some g → lo ≤ g ∧ g < hi) (hd : ∀ i j g, i < n → j < n → i ≠ j → (rv i).ownBlock = some g → (rv j).ownBlock ≠ some g) (hn : n ≤ 1000) (x : ByteArray) :
    Calls Try.prog 21 #[.slice (some ⟨b, 0, none⟩) n n, .string x] w fun e w' => e = .returned (.tuple #[]) ∧ SpR lo hi w w' := by
  have HC := hid hc
  have HO := hid ho
  have HR := hid hr
  have HD := hid hd
  have HB := hid (And.intro hb hbr)
  clear hc ho hr hd hb hbr
  go_enter Try.func21, Try.ntmps21
  go_wp2_with fail
  go_loopw [4] (fun i wr => ∃ k : Nat, k ≤ n ∧ i = .int .i64 k ∧ Hid (SpR lo hi w wr) ∧ Hid (∀ j, k ≤ j → j < n → OwnT wr lo (rv j) (sf j))) (fun i _ => n - (intOf i).toNat)
  case atStart => exact ⟨0, by omega, rfl, hid (SpR.refl _ _ _), hid (fun j _ hj => HO.out j hj)⟩
  case round =>
    obtain ⟨k, hk, rfl, HS, HT⟩ := hrel
    by_cases hlt : k < n
    · have cc : wr.cell? ⟨b, k, none⟩ = some (rv k) := (World.cell?_of_block (HS.out.2.2.2.2 b HB.out.1 HB.out.2)).trans (HC.out k hlt)
      have hsp := spoil_any (HT.out k (Nat.le_refl _) hlt) x
      obtain ⟨a1, c1, e1, _⟩ := ownT_form (HT.out k (Nat.le_refl _) hlt)
      have HE := hid e1
      rw [e1] at cc hsp
      have HSP := hid hsp
      clear hsp e1
      go_wp2_with fail
      refine HSP.out.mono ?_
      rintro e w1 ⟨rfl, hg⟩
      have HG := hid hg
      clear hg
      go_wp2_with fail
      go_roundw
      case rel => exact ⟨k + 1, by omega, by go_num, hid (HS.out.trans (SpR.of_grown HG.out (fun g hg => HR.out k hlt g (by rw [HE.out]; exact hg)))), hid (fun j h1 h2 => by
        have h3 := HT.out j (by omega) h2
        refine h3.kept HG.out ?_
        cases hv : (rv j).ownBlock with
        | none => exact .inl rfl
        | some g => exact .inr (fun e => HD.out j k g h2 hlt (by omega) hv (by rw [HE.out]; exact e.symm)))⟩
      case measure => simp [intOf]; omega
    · obtain rfl : k = n := by omega
      go_wp2_with fail
      go_end0
      exact ⟨rfl, HS.out⟩

set_option maxHeartbeats 2000000 in
theorem same_rows {w : World} {b c n : Nat} {av bv : Nat → Value} {sf : Nat → List ByteArray} (hb : b < w.heap.size) (hc : c < w.heap.size) (ha : ∀ i, i < n → w.cell? ⟨b, i, none⟩ = some (av i)) (hbv : ∀ i, i < n → w.cell? ⟨c, i, none⟩ = some (bv i)) (hA : ∀ i, i < n → Txs w (av i) (sf i)) (hB : ∀ i, i < n → Txs w (bv i) (sf i)) (hn : n ≤ 1000) :
    Calls Try.prog 22 #[.slice (some ⟨b, 0, none⟩) n n, .slice (some ⟨c, 0, none⟩) n n] w fun e w' => e = .returned (.bool true) ∧ Below w.heap.size w w' := by
  have HA := hid ha
  have HBV := hid hbv
  have TA := hid hA
  have TB := hid hB
  have HB := hid (And.intro hb hc)
  clear ha hbv hA hB hb hc
  go_enter Try.func22, Try.ntmps22
  go_wp2_with fail
  go_loopw [5] (fun i wr => ∃ k : Nat, k ≤ n ∧ i = .int .i64 k ∧ Hid (Below w.heap.size w wr)) (fun i _ => n - (intOf i).toNat)
  case atStart => exact ⟨0, by omega, rfl, hid (Below.refl _ _)⟩
  case round =>
    obtain ⟨k, hk, rfl, B⟩ := hrel
    by_cases hlt : k < n
    · have ca := (B.out.cell (p := ⟨b, k, none⟩) HB.out.1).trans (HA.out k hlt)
      have cb := (B.out.cell (p := ⟨c, k, none⟩) HB.out.2).trans (HBV.out k hlt)
      replace B := hid (Below.drew B.out)
      have hs := same_texts ((TA.out k hlt).on B.out) ((TB.out k hlt).on B.out)
      rw [decide_eq_true rfl] at hs
      obtain ⟨a1, c1, e1, _⟩ := TA.out k hlt
      obtain ⟨a2, c2, e2, _⟩ := TB.out k hlt
      rw [e1] at ca hs
      rw [e2] at cb hs
      have HS := hid hs
      clear hs e1 e2
      go_wp2_with fail
      go_region_held3 (fun w' => w'.cell? ⟨b, k, none⟩ = some (.slice a1 (sf k).length c1) ∧ w'.cell? ⟨c, k, none⟩ = some (.slice a2 (sf k).length c2)) (go_keep) (first
        | (go_at_call 18; refine HS.out.mono ?_; rintro e w1 ⟨rfl, hb1⟩; replace ca := (hb1.cell (p := ⟨b, k, none⟩) (Nat.lt_of_lt_of_le HB.out.1 B.out.size)).trans ca; replace cb := (hb1.cell (p := ⟨c, k, none⟩) (Nat.lt_of_lt_of_le HB.out.2 B.out.size)).trans cb; replace B := bb B hb1; clear hb1)
        | fail)
      go_wp2_with fail
      go_roundw
      case rel => exact ⟨k + 1, by omega, by go_num, B⟩
      case measure => simp [intOf]; omega
    · obtain rfl : k = n := by omega
      go_wp2_with fail
      go_ret
      exact ⟨rfl, B.out⟩

theorem PTells.short {f : List Rat → List Rat → List Rat} {p q ss : List ByteArray} {k : Int} (h : PTells f p q ss k) (hf : ∀ a b : List Rat, (f a b).length ≤ a.length + b.length) : ss.length ≤ 1000 := by
  rcases h with ⟨_, h1, h2, rfl⟩ | ⟨_, _, rfl⟩
  · have h3 := hf (rdp p) (rdp q)
    have h4 := h1.1
    have h5 := h2.1
    rw [rdp_len, rdp_len] at h3
    rw [List.length_map]
    omega
  · simp
theorem PShifts.short {p : List ByteArray} {x : ByteArray} {ss : List ByteArray} {k : Int} (h : PShifts p x ss k) : ss.length ≤ 1000 := by
  rcases h with ⟨_, h1, h2, rfl⟩ | ⟨_, _, rfl⟩
  · have h4 := h1.1
    rw [List.length_map, moved_len h1.2.2, rdp_len]
    omega
  · simp
theorem PDerivs.short {p ss : List ByteArray} {k : Int} (h : PDerivs p ss k) : ss.length ≤ 1000 := by
  rcases h with ⟨_, h1, rfl⟩ | ⟨_, _, rfl⟩
  · have h4 := h1.1
    have h5 := slope_len (rdp p)
    rw [rdp_len] at h5
    rw [List.length_map]
    omega
  · simp
theorem PDivs.short {p q ks rs : List ByteArray} {k : Int} (h : PDivs p q ks rs k) : ks.length ≤ 1000 ∧ rs.length ≤ 1000 := by
  rcases h with ⟨_, h1, h2, _, y, r, _, _, h3, h4, _, rfl, rfl⟩ | ⟨_, _, _, _, rfl, rfl⟩ | ⟨_, _, rfl, rfl⟩
  · have h5 := h1.1
    have h6 := h2.1
    rw [rdp_len] at h3 h4
    rw [List.length_map, List.length_map]
    omega
  · simp
  · simp
theorem new6 (w : World) (a b c d e f : Value) (t : TypeId) : ∀ i, i < 6 → (w.alloc (.cells #[a, b, c, d, e, f] t)).cell? ⟨w.heap.size, i, none⟩ = some (sel6 a b c d e f i) :=
  all6 (by simp [sel6]) (by simp [sel6]) (by simp [sel6]) (by simp [sel6]) (by simp [sel6]) (by simp [sel6])
theorem apart6 {r1 r2 r3 r4 r5 r6 : Value} {lo z3 z4 z5 z6 hi : Nat} (d1 : ∀ g, r1.ownBlock = some g → lo ≤ g ∧ g < z3) (d2 : ∀ g, r2.ownBlock = some g → z3 ≤ g ∧ g < z4) (d3 : ∀ g, r3.ownBlock = some g → z4 ≤ g ∧ g < z5) (d4 : ∀ g, r4.ownBlock = some g → z4 ≤ g ∧ g < z5) (d5 : ∀ g, r5.ownBlock = some g → z5 ≤ g ∧ g < z6) (d6 : ∀ g, r6.ownBlock = some g → z6 ≤ g ∧ g < hi) (ap : ∀ g, r3.ownBlock = some g → r4.ownBlock ≠ some g) (hs : lo ≤ z3 ∧ z3 ≤ z4 ∧ z4 ≤ z5 ∧ z5 ≤ z6 ∧ z6 ≤ hi) :
    ∀ i j g, i < 6 → j < 6 → i ≠ j → (sel6 r1 r2 r3 r4 r5 r6 i).ownBlock = some g → (sel6 r1 r2 r3 r4 r5 r6 j).ownBlock ≠ some g := by
  intro i j g hi_ hj_ hij
  revert hij
  refine all6 (P := fun i => i ≠ j → (sel6 r1 r2 r3 r4 r5 r6 i).ownBlock = some g → (sel6 r1 r2 r3 r4 r5 r6 j).ownBlock ≠ some g) ?_ ?_ ?_ ?_ ?_ ?_ i hi_
  · refine all6 (P := fun j => 0 ≠ j → (sel6 r1 r2 r3 r4 r5 r6 0).ownBlock = some g → (sel6 r1 r2 r3 r4 r5 r6 j).ownBlock ≠ some g) ?_ ?_ ?_ ?_ ?_ ?_ j hj_
    · exact fun h => absurd rfl h
    · exact fun _ h1 h2 => by have a := d1 g h1; have b := d2 g h2; omega
    · exact fun _ h1 h2 => by have a := d1 g h1; have b := d3 g h2; omega
    · exact fun _ h1 h2 => by have a := d1 g h1; have b := d4 g h2; omega
    · exact fun _ h1 h2 => by have a := d1 g h1; have b := d5 g h2; omega
    · exact fun _ h1 h2 => by have a := d1 g h1; have b := d6 g h2; omega
  · refine all6 (P := fun j => 1 ≠ j → (sel6 r1 r2 r3 r4 r5 r6 1).ownBlock = some g → (sel6 r1 r2 r3 r4 r5 r6 j).ownBlock ≠ some g) ?_ ?_ ?_ ?_ ?_ ?_ j hj_
    · exact fun _ h1 h2 => by have a := d2 g h1; have b := d1 g h2; omega
    · exact fun h => absurd rfl h
    · exact fun _ h1 h2 => by have a := d2 g h1; have b := d3 g h2; omega
    · exact fun _ h1 h2 => by have a := d2 g h1; have b := d4 g h2; omega
    · exact fun _ h1 h2 => by have a := d2 g h1; have b := d5 g h2; omega
    · exact fun _ h1 h2 => by have a := d2 g h1; have b := d6 g h2; omega
  · refine all6 (P := fun j => 2 ≠ j → (sel6 r1 r2 r3 r4 r5 r6 2).ownBlock = some g → (sel6 r1 r2 r3 r4 r5 r6 j).ownBlock ≠ some g) ?_ ?_ ?_ ?_ ?_ ?_ j hj_
    · exact fun _ h1 h2 => by have a := d3 g h1; have b := d1 g h2; omega
    · exact fun _ h1 h2 => by have a := d3 g h1; have b := d2 g h2; omega
    · exact fun h => absurd rfl h
    · exact fun _ h1 h2 => ap g h1 h2
    · exact fun _ h1 h2 => by have a := d3 g h1; have b := d5 g h2; omega
    · exact fun _ h1 h2 => by have a := d3 g h1; have b := d6 g h2; omega
  · refine all6 (P := fun j => 3 ≠ j → (sel6 r1 r2 r3 r4 r5 r6 3).ownBlock = some g → (sel6 r1 r2 r3 r4 r5 r6 j).ownBlock ≠ some g) ?_ ?_ ?_ ?_ ?_ ?_ j hj_
    · exact fun _ h1 h2 => by have a := d4 g h1; have b := d1 g h2; omega
    · exact fun _ h1 h2 => by have a := d4 g h1; have b := d2 g h2; omega
    · exact fun _ h1 h2 => ap g h2 h1
    · exact fun h => absurd rfl h
    · exact fun _ h1 h2 => by have a := d4 g h1; have b := d5 g h2; omega
    · exact fun _ h1 h2 => by have a := d4 g h1; have b := d6 g h2; omega
  · refine all6 (P := fun j => 4 ≠ j → (sel6 r1 r2 r3 r4 r5 r6 4).ownBlock = some g → (sel6 r1 r2 r3 r4 r5 r6 j).ownBlock ≠ some g) ?_ ?_ ?_ ?_ ?_ ?_ j hj_
    · exact fun _ h1 h2 => by have a := d5 g h1; have b := d1 g h2; omega
    · exact fun _ h1 h2 => by have a := d5 g h1; have b := d2 g h2; omega
    · exact fun _ h1 h2 => by have a := d5 g h1; have b := d3 g h2; omega
    · exact fun _ h1 h2 => by have a := d5 g h1; have b := d4 g h2; omega
    · exact fun h => absurd rfl h
    · exact fun _ h1 h2 => by have a := d5 g h1; have b := d6 g h2; omega
  · refine all6 (P := fun j => 5 ≠ j → (sel6 r1 r2 r3 r4 r5 r6 5).ownBlock = some g → (sel6 r1 r2 r3 r4 r5 r6 j).ownBlock ≠ some g) ?_ ?_ ?_ ?_ ?_ ?_ j hj_
    · exact fun _ h1 h2 => by have a := d6 g h1; have b := d1 g h2; omega
    · exact fun _ h1 h2 => by have a := d6 g h1; have b := d2 g h2; omega
    · exact fun _ h1 h2 => by have a := d6 g h1; have b := d3 g h2; omega
    · exact fun _ h1 h2 => by have a := d6 g h1; have b := d4 g h2; omega
    · exact fun _ h1 h2 => by have a := d6 g h1; have b := d5 g h2; omega
    · exact fun h => absurd rfl h
theorem spoil6 {w : World} {b lo hi z3 z4 z5 z6 : Nat} {r1 r2 r3 r4 r5 r6 : Value} {l1 l2 l3 l4 l5 l6 : List ByteArray} (hb : b < w.heap.size) (hbr : b < lo ∨ hi ≤ b) (hc : ∀ i, i < 6 → w.cell? ⟨b, i, none⟩ = some (sel6 r1 r2 r3 r4 r5 r6 i)) (o1 : OwnT w lo r1 l1) (o2 : OwnT w lo r2 l2) (o3 : OwnT w lo r3 l3) (o4 : OwnT w lo r4 l4) (o5 : OwnT w lo r5 l5) (o6 : OwnT w lo r6 l6) (d1 : ∀ g, r1.ownBlock = some g → lo ≤ g ∧ g < z3) (d2 : ∀ g, r2.ownBlock = some g → z3 ≤ g ∧ g < z4) (d3 : ∀ g, r3.ownBlock = some g → z4 ≤ g ∧ g < z5) (d4 : ∀ g, r4.ownBlock = some g → z4 ≤ g ∧ g < z5) (d5 : ∀ g, r5.ownBlock = some g → z5 ≤ g ∧ g < z6) (d6 : ∀ g, r6.ownBlock = some g → z6 ≤ g ∧ g < hi) (ap : ∀ g, r3.ownBlock = some g → r4.ownBlock ≠ some g) (hs : lo ≤ z3 ∧ z3 ≤ z4 ∧ z4 ≤ z5 ∧ z5 ≤ z6 ∧ z6 ≤ hi) (x : ByteArray) :
    Calls Try.prog 21 #[.slice (some ⟨b, 0, none⟩) 6 6, .string x] w fun e w' => e = .returned (.tuple #[]) ∧ SpR lo hi w w' :=
  spoil_rows (sf := sel6 l1 l2 l3 l4 l5 l6) hb hbr hc (all6 o1 o2 o3 o4 o5 o6) (all6 (fun g hg => by have := d1 g hg; omega) (fun g hg => by have := d2 g hg; omega) (fun g hg => by have := d3 g hg; omega) (fun g hg => by have := d4 g hg; omega) (fun g hg => by have := d5 g hg; omega) (fun g hg => by have := d6 g hg; omega)) (apart6 d1 d2 d3 d4 d5 d6 ap hs) (by decide) x

end Go.Proofs.Ytmghcankdaomgaa

/-
  PACKAGE poly: Polynomial.Shift.
-/
namespace Go.Proofs.Ytmghcankdaomgaa
open Go.RowKit Go.Shelf
open Num
set_option linter.unusedVariables false
set_option maxRecDepth 100000
set_option linter.unusedSimpArgs false
attribute [local go_sem] Oper.semAt_some

/-- What holds between two rounds. -/
def SI (w : World) (lp : List Rat) (n : Nat) (rs : Nat → Nr) (q : Rat) (g5 G bf : Nat) (pre : List {i : Nat // i < n}) (W : World) : Prop :=
  (∃ p6 n6 c6, Sbx W G p6 n6 c6 ∧ PN W (.slice p6 n6 c6) (mvf lp q (pre.map (·.1)))) ∧ (∀ i, i < n → NF W (nag (rs i)) (co lp i)) ∧ Sbx W g5 (some ⟨bf, 0, none⟩) 2 2 ∧ PN W (.slice (some ⟨bf, 0, none⟩) 2 2) [q, 1] ∧ Below w.heap.size w W ∧ G + 1 < W.heap.size
section
variable {w : World} {lp : List Rat} {n : Nat} {rs : Nat → Nr} {q : Rat} {g5 G bf : Nat}
theorem SI.own {K : Nat} (hK : w.heap.size ≤ K) : OwnFrom K (SI w lp n rs q g5 G bf) := by
  rintro s W W' row ⟨⟨p6, n6, c6, h1, h2⟩, h3, h4, h5, h7, h8⟩ hg hr
  have hr' := fun r e => (hr r e).2
  exact ⟨⟨p6, n6, c6, h1.turned hg hr', h2.turned hg hr'⟩, fun i hi => (h3 i hi).turned hg hr', h4.turned hg hr', h5.turned hg hr', h7.grown hg h7.size (fun g e => Nat.le_trans hK (hr g e).1), Nat.lt_of_lt_of_le h8 hg.size⟩
theorem SI.alloc {pre : List {i : Nat // i < n}} {W : World} (h : SI w lp n rs q g5 G bf pre W) (o : Obj) : SI w lp n rs q g5 G bf pre (W.alloc o) := by
  have hb := (Below.refl W.heap.size W).alloc (Nat.le_refl _) o
  obtain ⟨⟨p6, n6, c6, h1, h2⟩, h3, h4, h5, h7, h8⟩ := h
  exact ⟨⟨p6, n6, c6, h1.below hb h1.lt, h2.on hb⟩, fun i hi => (h3 i hi).on hb, h4.below hb h4.lt, h5.on hb, h7.trans (hb.mono h7.size), Nat.lt_of_lt_of_le h8 hb.size⟩
end

set_option maxHeartbeats 8000000 in
theorem pshift_p {w : World} {v xv : Value} {lp : List Rat} {q : Rat} {m nq : Nat} (h : PN w v lp) (hx : NF w xv q) (hs : Sml lp m) (hsx : Sm q nq) (hm : shb lp.length m nq) (hl : lp.length ≤ 1000) :
    Calls Try.prog 35 #[v, xv] w fun e w' => ∃ v', e = .returned v' ∧ PN w' v' (moved lp q) ∧ Below w.heap.size w w' := by
  refine (callsIn_wide (n := 10)).1 ?_
  obtain ⟨a, c, rs, rfl, hn, hc, hA⟩ := h
  obtain ⟨n, hN⟩ : ∃ n, lp.length = n := ⟨_, rfl⟩
  have HN := hid hN
  rw [hN] at hn hA hm hl ⊢
  obtain ⟨s1a, p1a, n1a, c1a, s1b, p1b, n1b, c1b, rfl⟩ := hx.opened
  have HA := hid hA
  have SL := hid hs
  have SX := hid hsx
  have HM := hid hm
  have HW : Hid (∀ i, i < n → NF w (nag (rs i)) (co lp i)) := hid (fun i hi => by obtain ⟨_, _, _, _, h⟩ := hA i hi; exact h)
  have B := hid (Below.refl w.heap.size w)
  have HX := hid hx
  obtain ⟨hb1, hx2, hs3⟩ := Nbx.made w s1a s1b (.slice p1a n1a c1a) (.slice p1b n1b c1b)
  replace HX := nf HX hb1
  replace HW := hid (fun q_ hq_ => (HW.out q_ hq_).on hb1)
  replace B := bb B hb1
  have X3 := hid hx2
  clear hb1 hx2
  clear hA hs hsx hx hm hN hs3
  refine callsIn_of_wp_marks Try.func35 rfl trivial ?_ rfl
  simp only [Try.ntmps35, List.size_toArray, List.length_cons, List.length_nil, Nat.reduceAdd, Nat.reduceSub, Array.replicate_succ, Array.replicate_zero, List.push_toArray, List.append_toArray, List.nil_append, List.cons_append]
  gi_wp2
  generalize hW : w.alloc (.cells #[.bool s1a, .slice p1a n1a c1a, .bool s1b, .slice p1b n1b c1b] 52) = W4 at *
  clear hW
  refine wpIn_wide.2 ?_
  refine region_ops (by kernel_rfl) (by kernel_rfl) (fun a f a' w' => ∃ u5 u9 u10 u11 u12 v9 : Value, a' = { tmps := (((((a.tmps.setIfInBounds 5 u5).setIfInBounds 9 u9).setIfInBounds 10 u10).setIfInBounds 11 u11).setIfInBounds 12 u12), defers := a.defers } ∧ Hid (Below W4.heap.size W4 w') ∧ Hid (f 0 = true → u9 = (.agg #[.bool s1a, .slice p1a n1a c1a, .bool s1b, .slice p1b n1b c1b])) ∧ Hid (f 1 = true → Whl w' u10 1 1) ∧ Hid (f 2 = true → NF w' u11 1) ∧ Hid (f 3 = true → ((∃ bf, u12 = .slice (some ⟨bf, 0, none⟩) 2 2) ∧ u12 = v9 ∧ PN w' u12 [q, 1])) ∧ Hid (f 4 = true → NewS W4 w' u5 (f 5) v9) ∧ (f 5 = true → f 4 = true) ∧ (f 5 = true → f 3 = true)) ?h0 ⟨?s0, ?s1, ?s2, ?s3, ?s4, ?s5, trivial⟩ ?hend
  case h0 =>
    simp only [List.setIfInBounds_toArray, List.set_cons_zero, List.set_cons_succ]
    exact ⟨_, _, _, _, _, .nilIface, rfl, hid (Below.drew (Below.refl _ _)), hid (fun h => by cases h), hid (fun h => by cases h), hid (fun h => by cases h), hid (fun h => by cases h), hid (fun h => by cases h), fun h => h, fun h => h⟩
  case s0 =>
    rintro f a1 w1 ⟨u5, u9, u10, u11, u12, v9, rfl, HBW, h0, h1, h2, h3, h4, o5_4, o5_3⟩ hf hd K hK
    simp only [List.setIfInBounds_toArray, List.set_cons_zero, List.set_cons_succ] at hK ⊢
    replace hK := hid hK
    obtain ⟨y1, y2, y3, y4⟩ := (X3.out.below HBW.out X3.out.lt).cells
    go_simp
    exact hK.out _ _ ⟨_, _, _, _, _, v9, rfl, HBW, hid (fun h => rfl), hid (fun h => h1.out h), hid (fun h => h2.out h), hid (fun h => h3.out h), hid (fun h => h4.out h), fun h => o5_4 h, fun h => o5_3 h⟩
  case s1 =>
    rintro f a1 w1 ⟨u5, u9, u10, u11, u12, v9, rfl, HBW, h0, h1, h2, h3, h4, o5_4, o5_3⟩ hf hd K hK
    simp only [List.setIfInBounds_toArray, List.set_cons_zero, List.set_cons_succ] at hK ⊢
    replace hK := hid hK
    go_simp
    refine (of_small 1 (by decide) _).mono ?_
    rintro e w2 ⟨v, rfl, hv, hb⟩
    go_wp2_with fail
    exact hK.out _ _ ⟨_, _, _, _, _, v9, rfl, hid (below_next HBW.out hb), hid (fun h => h0.out h), hid (fun h => hv), hid (fun h => (h2.out h).on hb), hid (fun h => ⟨(h3.out h).1, (h3.out h).2.1, (h3.out h).2.2.on hb⟩), hid (fun h => (h4.out h).on hb), fun h => o5_4 h, fun h => o5_3 h⟩
  case s2 =>
    rintro f a1 w1 ⟨u5, u9, u10, u11, u12, v9, rfl, HBW, h0, h1, h2, h3, h4, o5_4, o5_3⟩ hf hd K hK
    simp only [List.setIfInBounds_toArray, List.set_cons_zero, List.set_cons_succ] at hK ⊢
    replace hK := hid hK
    simp [Region.binds] at hd
    have hw := h1.out (by simp only [hd])
    obtain ⟨s6, p6, n6, c6, rfl⟩ := hw.opened
    go_simp
    refine (wholeq hw).mono ?_
    rintro e w2 ⟨v, rfl, hv, hb⟩
    go_wp2_with fail
    exact hK.out _ _ ⟨_, _, _, _, _, v9, rfl, hid (below_next HBW.out hb), hid (fun h => h0.out h), hid (fun h => (h1.out h).on hb), hid (fun h => hv.nf.cast (by simp)), hid (fun h => ⟨(h3.out h).1, (h3.out h).2.1, (h3.out h).2.2.on hb⟩), hid (fun h => (h4.out h).on hb), fun h => o5_4 h, fun h => o5_3 h⟩
  case s3 =>
    rintro f a1 w1 ⟨u5, u9, u10, u11, u12, v9, rfl, HBW, h0, h1, h2, h3, h4, o5_4, o5_3⟩ hf hd K hK
    simp only [List.setIfInBounds_toArray, List.set_cons_zero, List.set_cons_succ] at hK ⊢
    replace hK := hid hK
    simp [Region.binds] at hd
    obtain rfl := h0.out (by simp only [hd])
    have hn6 := h2.out (by simp only [hd])
    obtain ⟨s6a, p6a, n6a, c6a, s6b, p6b, n6b, c6b, rfl⟩ := hn6.opened
    go_simp
    exact hK.out _ _ ⟨_, _, _, _, _, .slice (some ⟨w1.heap.size, 0, none⟩) 2 2, rfl, hid (below_next HBW.out ((Below.refl _ _).alloc (Nat.le_refl _) _)), hid (fun h => rfl), hid (fun h => (h1.out h).on ((Below.refl _ _).alloc (Nat.le_refl _) _)), hid (fun h => (h2.out h).on ((Below.refl _ _).alloc (Nat.le_refl _) _)), hid (fun h => ⟨⟨_, rfl⟩, rfl, pn_new2 (HX.out.on HBW.out) hn6⟩), hid (fun h => ((h4.out h).on ((Below.refl _ _).alloc (Nat.le_refl _) _)).free (by cases e : f 5 with | false => rfl | true => exact absurd (o5_3 e) (by rw [hf]; decide))), fun h => o5_4 h, fun _ => rfl⟩
  case s4 =>
    rintro f a1 w1 ⟨u5, u9, u10, u11, u12, v9, rfl, HBW, h0, h1, h2, h3, h4, o5_4, o5_3⟩ hf hd K hK
    simp only [List.setIfInBounds_toArray, List.set_cons_zero, List.set_cons_succ] at hK ⊢
    replace hK := hid hK
    go_simp
    exact hK.out _ _ ⟨_, _, _, _, _, v9, rfl, hid (below_next HBW.out ((Below.refl _ _).alloc (Nat.le_refl _) _)), hid (fun h => h0.out h), hid (fun h => (h1.out h).on ((Below.refl _ _).alloc (Nat.le_refl _) _)), hid (fun h => (h2.out h).on ((Below.refl _ _).alloc (Nat.le_refl _) _)), hid (fun h => ⟨(h3.out h).1, (h3.out h).2.1, (h3.out h).2.2.on ((Below.refl _ _).alloc (Nat.le_refl _) _)⟩), hid (fun h => ⟨w1.heap.size, rfl, HBW.out.size, fun _ => (Sbx.made w1 none 0 0).2.1, fun e => absurd (o5_4 e) (by rw [hf]; decide)⟩), fun _ => rfl, fun h => o5_3 h⟩
  case s5 =>
    rintro f a1 w1 ⟨u5, u9, u10, u11, u12, v9, rfl, HBW, h0, h1, h2, h3, h4, o5_4, o5_3⟩ hf hd K hK
    simp only [List.setIfInBounds_toArray, List.set_cons_zero, List.set_cons_succ] at hK ⊢
    replace hK := hid hK
    simp [Region.binds] at hd
    have g3 : f 3 = true := by simp only [hd]
    have g4 : f 4 = true := by simp only [hd]
    obtain ⟨⟨bf, e8⟩, e9, hp⟩ := h3.out g3
    subst e9
    subst e8
    obtain ⟨g, rfl, hg, hn, _⟩ := h4.out g4
    replace hn := hn hf
    obtain ⟨c1, c2⟩ := hn.stores
    obtain ⟨n1, n2, n3⟩ := hn.last HBW.out hg (some ⟨bf, 0, none⟩) 2 2
    have HN2 := hid (And.intro n1 n2)
    have HV := hid (fun v z k h => @n3 v z k h)
    have HP9 := hid (hp.sbx hn (some ⟨bf, 0, none⟩) 2 2)
    clear n1 n2 n3
    go_simp
    exact hK.out _ _ ⟨_, _, _, _, _, _, rfl, hid HN2.out.2, hid (fun h => h0.out h), hid (fun h => HV.out _ _ _ (h1.out h)), hid (fun h => (h2.out h).moved HV.out), hid (fun h => ⟨⟨bf, rfl⟩, rfl, HP9.out⟩), hid (fun h => ⟨g, rfl, hg, fun e => by simp [more] at e, fun _ => ⟨_, _, _, rfl, HN2.out.1⟩⟩), fun _ => g4, fun _ => g3⟩
  case hend =>
    rintro f a1 w1 ⟨u5, u9, u10, u11, u12, v9, rfl, HBW, h0, h1, h2, h3, h4, _⟩ hall
    simp only [List.setIfInBounds_toArray, List.set_cons_zero, List.set_cons_succ]
    obtain ⟨⟨bf, e8⟩, e9, hp⟩ := h3.out (hall 3 (by decide))
    subst e9
    subst e8
    obtain ⟨g5, rfl, hg, _, hn5⟩ := h4.out (hall 4 (by decide))
    obtain ⟨p5, n5, c5, e10, hn2⟩ := hn5 (hall 5 (by decide))
    cases e10
    have X5 := hid hn2
    have HF := hid hp
    replace HW := hid (fun i hi => (HW.out i hi).on HBW.out)
    replace B := bb B HBW.out
    have LW0 := hid (show w.heap.size ≤ w1.heap.size from B.out.size)
    clear h0 h1 h2 h3 h4 hall hn5 hn2 hp HBW X3 HX
    have LG5 := hid X5.out.lt
    obtain ⟨hb301, hx302, hs303⟩ := Sbx.made w1 none 0 0
    have L0 := hid X5.out.lt
    replace X5 := sx X5 hb301
    replace HW := hid (fun q_ hq_ => (HW.out q_ hq_).on hb301)
    replace HF := pno HF hb301
    replace B := bb B hb301
    have X6 := hid hx302
    clear hb301 hx302
    have hS8 := hs303
    gi_wp2
    generalize hW8 : w1.alloc (.cells #[.slice none 0 0] 46) = W8 at *
    clear hW8
    generalize hG : w1.heap.size = G at *
    clear hG
    refine ⟨trivial, (pbk_in Fence.wide _ trivial rfl _ _ _ _).mono ?_⟩
    rintro e w' ⟨rfl, rfl⟩
    have hbS := (Below.refl _ _).alloc (Nat.le_refl W8.heap.size) (.cells #[.slice a n c] 46)
    have cS : (W8.alloc (.cells #[.slice a n c] 46)).cell? ⟨G + 1, 0, none⟩ = some (.slice a n c) := by rw [← hS8]; simp
    replace X5 := sx X5 hbS
    replace X6 := sx X6 hbS
    replace HW := hid (fun q_ hq_ => (HW.out q_ hq_).on hbS)
    replace HF := pno HF hbS
    replace B := bb B hbS
    have hS9 : (W8.alloc (.cells #[.slice a n c] 46)).heap.size = G + 1 + 1 := by simp [hS8]
    rw [hS8]
    clear hbS
    generalize hW9 : W8.alloc (.cells #[.slice a n c] 46) = W0 at *
    clear hW9
    gi_wp2
    have hsz := B.out.size
    have hI0 : SI w lp n rs q g5 G bf [] W0 := ⟨⟨_, _, _, X6.out, PN.nil W0 (Nat.zero_le _)⟩, HW.out, X5.out, HF.out, B.out, by omega⟩
    have hget : ∀ W', KB w.heap.size (G + 1) W0 W' → ∀ i, i < n → ∃ x : {i : Nat // i < n}, x.1 = i ∧ ∃ b, a = some ⟨b, 0, none⟩ ∧ At4 W' b (i * 4) (rs x.1) := fun W' h i hi => by
      obtain ⟨b, e, hb, hA, _⟩ := HA.out i hi
      exact ⟨⟨i, hi⟩, rfl, b, e, (hA.kept (B.out.block b hb)).kept (h.1.block b hb)⟩
    clear X5 X6 HF HW
    refine wpIn_rangeFunc_ownH (F := Fence.wide) rfl (by decide) (gf := 55) (lb := #[.pointer (some ⟨G + 1, 0, none⟩)]) rfl trivial (enters_of Try.func55 (by kernel_rfl) rfl)
      (pbk_stops Fence.wide (10 - 1) trivial rfl (by decide) (fun x : {i : Nat // i < n} => x.1) (fun x => rs x.1) (G + 1) n c a (by omega) (KB w.heap.size (G + 1)) (KB.refl _ _) (fun h h' => h.trans h') W0 (fun W hW => ⟨hW.mono hsz, hW.block _ (by omega)⟩) (fun W' h => (h.cell 0).trans cS) hget)
      (fun h h' => h.trans h') (fun W l o o' h1 h2 h3 h4 => ⟨belowK_b hsz W l o o' h1 h2 h3 h4, World.putObj_heap_other (fun e => by omega)⟩) (Below.refl _ _) (fun _ => rfl)
      (SI w lp n rs q g5 G bf) (fun _ _ _ => False) (SI.own hsz) (fun _ _ _ _ _ hs _ _ => hs) hI0
      (fun x a' W => ∃ Bx, G + 1 < Bx ∧ Nbx W Bx (rs x.1).1.1 (.slice (rs x.1).1.2.1 (rs x.1).1.2.2.1 (rs x.1).1.2.2.2) (rs x.1).2.1 (.slice (rs x.1).2.2.1 (rs x.1).2.2.2.1 (rs x.1).2.2.2.2) ∧ a' = { tmps := #[Value.slice a n c, (.agg #[.bool s1a, .slice p1a n1a c1a, .bool s1b, .slice p1b n1b c1b]), undef, Value.pointer (some ⟨w.heap.size, 0, none⟩), Value.slice none 0 0, Value.pointer (some ⟨g5, 0, none⟩), Value.pointer (some ⟨G, 0, none⟩), undef, Value.pointer (some ⟨Bx, 0, none⟩), u9, u10, u11, Value.slice (some ⟨bf, 0, none⟩) 2 2, Value.slice a n c, Value.func (Fn.func 55) #[] #[Value.pointer (some ⟨G + 1, 0, none⟩)], Value.int IntKind.i64 (x.1 : Int), (.agg #[.bool (rs x.1).1.1, .slice (rs x.1).1.2.1 (rs x.1).1.2.2.1 (rs x.1).1.2.2.2, .bool (rs x.1).2.1, .slice (rs x.1).2.2.1 (rs x.1).2.2.2.1 (rs x.1).2.2.2.2]), undef, undef, undef, undef, undef, undef, undef], defers := [] })
      (fun x a' _ X Y row hs hg hr => by obtain ⟨Bx, h1, h2, h3⟩ := hs; exact ⟨Bx, h1, h2.turned hg (fun r e => (hr r e).2), h3⟩)
      ?assign ?body ?done ?stop
    case assign =>
      intro l pre x W K hi hK
      have hs1 : G + 1 < W.heap.size := hi.2.2.2.2.2
      have hlw := LW0.out
      have hX := Nbx.new W (rs x.1).1.1 (rs x.1).2.1 (.slice (rs x.1).1.2.1 (rs x.1).1.2.2.1 (rs x.1).1.2.2.2) (.slice (rs x.1).2.2.1 (rs x.1).2.2.2.1 (rs x.1).2.2.2.2)
      simp only [nag] at hK ⊢
      gi_wp2
      exact hK _ _ ((KeepsOthers.alloc _ _).from _) ⟨(Below.refl _ W).alloc (by omega) _, Below.heap_alloc _ _ _ (by omega)⟩ (hi.alloc _) ⟨W.heap.size, by omega, hX, rfl⟩
    case body =>
      rintro l pre x a' W hl_ _ hi ⟨Bx, hBx, hX, rfl⟩ hlt
      obtain ⟨⟨p6, n6, c6, hT, hV⟩, hZ, hx5, hf5, hBw, hs1⟩ := hi
      have hC := hZ x.1 x.2
      obtain ⟨s7a, p7a, n7a, c7a, s7b, p7b, n7b, c7b, hz7⟩ : ∃ s7a p7a n7a c7a s7b p7b n7b c7b, rs x.1 = ((s7a, p7a, n7a, c7a), (s7b, p7b, n7b, c7b)) := ⟨_, _, _, _, _, _, _, _, rfl⟩
      rw [hz7] at hX hC ⊢
      simp only [nag] at hX hC
      simp only [] at hX ⊢
      have X6 := hid hT
      have HS := hid hV
      have HW := hid hZ
      have X5 := hid hx5
      have HF := hid hf5
      have B := hid hBw
      have HS1 := hid hs1
      have XX := hid hX
      have HC := hid hC
      have LX := hid hBx
      have HPL := hid (show (pre.map (·.1)).length = pre.length from List.length_map _)
      have HLL := hid (show (mvf lp q (pre.map (·.1))).length ≤ pre.length by have := mvf_len lp q (pre.map (·.1)) []; rw [HPL.out, List.length_nil, Nat.zero_add] at this; exact this)
      have SV := hid (show Sml (mvf lp q (pre.map (·.1))) ((m + nq + 4) * 2 ^ pre.length - (m + nq + 3)) by have := Sml.mvf SL.out SX.out (pre.map (·.1)) [] 0 (Sml.nil (by omega)); rw [HPL.out, Nat.zero_add] at this; exact this)
      have SF := hid (Sml.lin SX.out)
      have HB1 := hid (shb_mul HM.out (Nat.le_of_lt hlt) HLL.out)
      have HB2 := hid (shb_add HM.out (Nat.le_of_lt hlt))
      have HE := hid (mvf_snoc lp q (pre.map (·.1)) x.1)
      have HPN := hid (show pre.length ≤ 1000 by omega)
      clear hT hV hZ hx5 hf5 hBw hs1 hX hC hBx hz7 hI0 cS hget hlt
      generalize mvf lp q (pre.map (·.1)) = mm at *
      generalize hM : (m + nq + 4) * 2 ^ pre.length - (m + nq + 3) = M at *
      clear hM
      gi_wp2
      refine region_ops_in (by kernel_rfl) (by kernel_rfl) (by kernel_rfl) (fun a f a' w' => ∃ u17 u18 u19 u20 u21 u22 : Value, a' = { tmps := ((((((a.tmps.setIfInBounds 17 u17).setIfInBounds 18 u18).setIfInBounds 19 u19).setIfInBounds 20 u20).setIfInBounds 21 u21).setIfInBounds 22 u22), defers := a.defers } ∧ Hid (Below W.heap.size W w' ∨ f 6 = true) ∧ Hid (f 0 = true → u17 = .slice p6 n6 c6) ∧ Hid (f 1 = true → u18 = .slice (some ⟨bf, 0, none⟩) 2 2) ∧ Hid (f 2 = true → PN w' u19 (mulp mm [q, 1])) ∧ Hid (f 3 = true → u20 = (.agg #[.bool s7a, .slice p7a n7a c7a, .bool s7b, .slice p7b n7b c7b])) ∧ Hid (f 4 = true → PN w' u21 [co lp x.1]) ∧ Hid (f 5 = true → (PN w' u22 (addp (mulp mm [q, 1]) [co lp x.1]) ∧ ∃ p n c, u22 = .slice p n c)) ∧ Hid (f 6 = true → ((∃ p8 n8 c8, Sbx w' G p8 n8 c8 ∧ PN w' (.slice p8 n8 c8) (addp (mulp mm [q, 1]) [co lp x.1])) ∧ (∀ i, i < n → NF w' (nag (rs i)) (co lp i)) ∧ Sbx w' g5 (some ⟨bf, 0, none⟩) 2 2 ∧ PN w' (.slice (some ⟨bf, 0, none⟩) 2 2) [q, 1] ∧ Below w.heap.size w w' ∧ G + 1 < w'.heap.size ∧ KB w.heap.size (G + 1) W w' ∧ KeepsOthers W w')) ∧ (f 6 = true → f 0 = true) ∧ (f 6 = true → f 1 = true) ∧ (f 6 = true → f 2 = true) ∧ (f 6 = true → f 3 = true) ∧ (f 6 = true → f 4 = true) ∧ (f 6 = true → f 5 = true)) ?h0 ⟨?s0, ?s1, ?s2, ?s3, ?s4, ?s5, ?s6, trivial⟩ ?hend
      case h0 =>
        simp only [List.setIfInBounds_toArray, List.set_cons_zero, List.set_cons_succ]
        exact ⟨_, _, _, _, _, _, rfl, hid (.inl (Below.drew (Below.refl _ _))), hid (fun h => by cases h), hid (fun h => by cases h), hid (fun h => by cases h), hid (fun h => by cases h), hid (fun h => by cases h), hid (fun h => by cases h), hid (fun h => by cases h), fun h => h, fun h => h, fun h => h, fun h => h, fun h => h, fun h => h⟩
      case s0 =>
        rintro f a1 w1 ⟨u17, u18, u19, u20, u21, u22, rfl, HBW, h0, h1, h2, h3, h4, h5, h6, o6_0, o6_1, o6_2, o6_3, o6_4, o6_5⟩ hf hd K hK
        replace HBW := hid (HBW.out.resolve_right (fun e => absurd (o6_0 e) (by rw [hf]; decide)))
        simp only [List.setIfInBounds_toArray, List.set_cons_zero, List.set_cons_succ] at hK ⊢
        replace hK := hid hK
        have y1 := (X6.out.below HBW.out X6.out.lt).cells
        go_simp
        exact hK.out _ _ ⟨_, _, _, _, _, _, rfl, hid (.inl (HBW).out), hid (fun h => rfl), hid (fun h => h1.out h), hid (fun h => h2.out h), hid (fun h => h3.out h), hid (fun h => h4.out h), hid (fun h => h5.out h), hid (fun h => absurd (o6_0 h) (by rw [hf]; decide)), fun _ => rfl, fun h => o6_1 h, fun h => o6_2 h, fun h => o6_3 h, fun h => o6_4 h, fun h => o6_5 h⟩
      case s1 =>
        rintro f a1 w1 ⟨u17, u18, u19, u20, u21, u22, rfl, HBW, h0, h1, h2, h3, h4, h5, h6, o6_0, o6_1, o6_2, o6_3, o6_4, o6_5⟩ hf hd K hK
        replace HBW := hid (HBW.out.resolve_right (fun e => absurd (o6_1 e) (by rw [hf]; decide)))
        simp only [List.setIfInBounds_toArray, List.set_cons_zero, List.set_cons_succ] at hK ⊢
        replace hK := hid hK
        have y1 := (X5.out.below HBW.out X5.out.lt).cells
        go_simp
        exact hK.out _ _ ⟨_, _, _, _, _, _, rfl, hid (.inl (HBW).out), hid (fun h => h0.out h), hid (fun h => rfl), hid (fun h => h2.out h), hid (fun h => h3.out h), hid (fun h => h4.out h), hid (fun h => h5.out h), hid (fun h => absurd (o6_1 h) (by rw [hf]; decide)), fun h => o6_0 h, fun _ => rfl, fun h => o6_2 h, fun h => o6_3 h, fun h => o6_4 h, fun h => o6_5 h⟩
      case s2 =>
        rintro f a1 w1 ⟨u17, u18, u19, u20, u21, u22, rfl, HBW, h0, h1, h2, h3, h4, h5, h6, o6_0, o6_1, o6_2, o6_3, o6_4, o6_5⟩ hf hd K hK
        replace HBW := hid (HBW.out.resolve_right (fun e => absurd (o6_2 e) (by rw [hf]; decide)))
        simp only [List.setIfInBounds_toArray, List.set_cons_zero, List.set_cons_succ] at hK ⊢
        replace hK := hid hK
        simp [Region.binds] at hd
        obtain rfl := h0.out (by simp only [hd])
        obtain rfl := h1.out (by simp only [hd])
        go_simp
        refine (pmul_p (HS.out.on HBW.out) (HF.out.on HBW.out) SV.out SF.out HB1.out (by have := HLL.out; have := HPN.out; omega) (by simp)).mono ?_
        rintro e w2 ⟨v, rfl, hv, hb⟩
        go_wp2_with fail
        exact hK.out _ _ ⟨_, _, _, _, _, _, rfl, hid (.inl (hid (below_next HBW.out hb)).out), hid (fun h => rfl), hid (fun h => rfl), hid (fun h => hv), hid (fun h => h3.out h), hid (fun h => (h4.out h).on hb), hid (fun h => ⟨(h5.out h).1.on hb, (h5.out h).2⟩), hid (fun h => absurd (o6_2 h) (by rw [hf]; decide)), fun h => o6_0 h, fun h => o6_1 h, fun _ => rfl, fun h => o6_3 h, fun h => o6_4 h, fun h => o6_5 h⟩
      case s3 =>
        rintro f a1 w1 ⟨u17, u18, u19, u20, u21, u22, rfl, HBW, h0, h1, h2, h3, h4, h5, h6, o6_0, o6_1, o6_2, o6_3, o6_4, o6_5⟩ hf hd K hK
        replace HBW := hid (HBW.out.resolve_right (fun e => absurd (o6_3 e) (by rw [hf]; decide)))
        simp only [List.setIfInBounds_toArray, List.set_cons_zero, List.set_cons_succ] at hK ⊢
        replace hK := hid hK
        obtain ⟨y1, y2, y3, y4⟩ := (XX.out.below HBW.out XX.out.lt).cells
        go_simp
        exact hK.out _ _ ⟨_, _, _, _, _, _, rfl, hid (.inl (HBW).out), hid (fun h => h0.out h), hid (fun h => h1.out h), hid (fun h => h2.out h), hid (fun h => rfl), hid (fun h => h4.out h), hid (fun h => h5.out h), hid (fun h => absurd (o6_3 h) (by rw [hf]; decide)), fun h => o6_0 h, fun h => o6_1 h, fun h => o6_2 h, fun _ => rfl, fun h => o6_4 h, fun h => o6_5 h⟩
      case s4 =>
        rintro f a1 w1 ⟨u17, u18, u19, u20, u21, u22, rfl, HBW, h0, h1, h2, h3, h4, h5, h6, o6_0, o6_1, o6_2, o6_3, o6_4, o6_5⟩ hf hd K hK
        replace HBW := hid (HBW.out.resolve_right (fun e => absurd (o6_4 e) (by rw [hf]; decide)))
        simp only [List.setIfInBounds_toArray, List.set_cons_zero, List.set_cons_succ] at hK ⊢
        replace hK := hid hK
        simp [Region.binds] at hd
        obtain rfl := h3.out (by simp only [hd])
        go_simp
        exact hK.out _ _ ⟨_, _, _, _, _, _, rfl, hid (.inl (hid (below_next HBW.out ((Below.refl _ _).alloc (Nat.le_refl _) _))).out), hid (fun h => h0.out h), hid (fun h => h1.out h), hid (fun h => (h2.out h).on ((Below.refl _ _).alloc (Nat.le_refl _) _)), hid (fun h => rfl), hid (fun h => pn_new1 (HC.out.on HBW.out)), hid (fun h => ⟨(h5.out h).1.on ((Below.refl _ _).alloc (Nat.le_refl _) _), (h5.out h).2⟩), hid (fun h => absurd (o6_4 h) (by rw [hf]; decide)), fun h => o6_0 h, fun h => o6_1 h, fun h => o6_2 h, fun h => o6_3 h, fun _ => rfl, fun h => o6_5 h⟩
      case s5 =>
        rintro f a1 w1 ⟨u17, u18, u19, u20, u21, u22, rfl, HBW, h0, h1, h2, h3, h4, h5, h6, o6_0, o6_1, o6_2, o6_3, o6_4, o6_5⟩ hf hd K hK
        replace HBW := hid (HBW.out.resolve_right (fun e => absurd (o6_5 e) (by rw [hf]; decide)))
        simp only [List.setIfInBounds_toArray, List.set_cons_zero, List.set_cons_succ] at hK ⊢
        replace hK := hid hK
        simp [Region.binds] at hd
        have g2 : f 2 = true := by simp only [hd]
        have g4 : f 4 = true := by simp only [hd]
        go_simp
        refine (padd_p (h2.out g2) (h4.out g4) (SV.out.linp SX.out) (Sml.one (SL.out.2 x.1)) HB2.out.1 HB2.out.2 (Nat.le_trans (trim_len _) (by have := HLL.out; have := HPN.out; simp [lof]; omega)) (by simp)).mono ?_
        rintro e w2 ⟨v, rfl, hv, hb⟩
        have hv2 : ∃ p n c, v = .slice p n c := by obtain ⟨a, c, e, _⟩ := hv.opened; exact ⟨_, _, _, e⟩
        go_wp2_with fail
        exact hK.out _ _ ⟨_, _, _, _, _, _, rfl, hid (.inl (hid (below_next HBW.out hb)).out), hid (fun h => h0.out h), hid (fun h => h1.out h), hid (fun h => (h2.out h).on hb), hid (fun h => h3.out h), hid (fun h => (h4.out h).on hb), hid (fun h => ⟨hv, hv2⟩), hid (fun h => absurd (o6_5 h) (by rw [hf]; decide)), fun h => o6_0 h, fun h => o6_1 h, fun h => o6_2 h, fun h => o6_3 h, fun h => o6_4 h, fun _ => rfl⟩
      case s6 =>
        rintro f a1 w1 ⟨u17, u18, u19, u20, u21, u22, rfl, HBW, h0, h1, h2, h3, h4, h5, h6, o6_0, o6_1, o6_2, o6_3, o6_4, o6_5⟩ hf hd K hK
        replace HBW := hid (HBW.out.resolve_right (fun e => by rw [hf] at e; cases e))
        simp only [List.setIfInBounds_toArray, List.set_cons_zero, List.set_cons_succ] at hK ⊢
        replace hK := hid hK
        simp [Region.binds] at hd
        obtain ⟨hp9, p9, n9, c9, rfl⟩ := h5.out (by simp only [hd])
        have hx6 := X6.out.below HBW.out X6.out.lt
        obtain ⟨y1, y2⟩ := hx6.stores
        have hlw := LW0.out
        have hb1 := B.out.trans (HBW.out.mono B.out.size)
        have hs1 := Nat.lt_of_lt_of_le HS1.out HBW.out.size
        have hlg := LG5.out
        have HFIN : Hid ((∃ p8 n8 c8, Sbx (w1.setCell ⟨G, 0, none⟩ (.slice p9 n9 c9)) G p8 n8 c8 ∧ PN (w1.setCell ⟨G, 0, none⟩ (.slice p9 n9 c9)) (.slice p8 n8 c8) (addp (mulp mm [q, 1]) [co lp x.1])) ∧ (∀ i, i < n → NF (w1.setCell ⟨G, 0, none⟩ (.slice p9 n9 c9)) (nag (rs i)) (co lp i)) ∧ Sbx (w1.setCell ⟨G, 0, none⟩ (.slice p9 n9 c9)) g5 (some ⟨bf, 0, none⟩) 2 2 ∧ PN (w1.setCell ⟨G, 0, none⟩ (.slice p9 n9 c9)) (.slice (some ⟨bf, 0, none⟩) 2 2) [q, 1] ∧ Below w.heap.size w (w1.setCell ⟨G, 0, none⟩ (.slice p9 n9 c9)) ∧ G + 1 < (w1.setCell ⟨G, 0, none⟩ (.slice p9 n9 c9)).heap.size ∧ KB w.heap.size (G + 1) W (w1.setCell ⟨G, 0, none⟩ (.slice p9 n9 c9)) ∧ KeepsOthers W (w1.setCell ⟨G, 0, none⟩ (.slice p9 n9 c9))) := hid ⟨⟨p9, n9, c9, hx6.set0 p9 n9 c9, hp9.sbx hx6 p9 n9 c9⟩, fun i hi => ((HW.out i hi).on HBW.out).moved fun _ _ _ h => h.sbx hx6 0 _, (X5.out.below HBW.out X5.out.lt).kept (heap1 (by omega) _), (HF.out.on HBW.out).sbx hx6 p9 n9 c9, hb1.setCell (p := ⟨G, 0, none⟩) hlw _, by simpa [World.setCell] using hs1, KB.set ⟨HBW.out.mono B.out.size, HBW.out.block (G + 1) HS1.out⟩ hlw (by omega) 0 _, (KeepsOthers.of_below HBW.out).trans (KeepsOthers.setCell _ ⟨G, 0, none⟩ _)⟩
        have HX6 := hid hx6
        clear hb1 hs1 hx6 hp9
        have g0 : f 0 = true := by simp only [hd]
        have g1 : f 1 = true := by simp only [hd]
        have g2 : f 2 = true := by simp only [hd]
        have g3 : f 3 = true := by simp only [hd]
        have g4 : f 4 = true := by simp only [hd]
        have g5 : f 5 = true := by simp only [hd]
        go_simp
        exact hK.out _ _ ⟨_, _, _, _, _, _, rfl, hid (.inr rfl), hid (fun h => h0.out h), hid (fun h => h1.out h), hid (fun h => (h2.out h).sbx HX6.out p9 n9 c9), hid (fun h => h3.out h), hid (fun h => (h4.out h).sbx HX6.out p9 n9 c9), hid (fun h => ⟨(h5.out h).1.sbx HX6.out p9 n9 c9, (h5.out h).2⟩), hid (fun h => HFIN.out), fun _ => g0, fun _ => g1, fun _ => g2, fun _ => g3, fun _ => g4, fun _ => g5⟩
      case hend =>
        rintro f a1 w1 ⟨u17, u18, u19, u20, u21, u22, rfl, _, h0, h1, h2, h3, h4, h5, h6, _⟩ hall
        simp only [List.setIfInBounds_toArray, List.set_cons_zero, List.set_cons_succ]
        obtain ⟨h1, h2, h3, h4, h5, h6, h7, h8⟩ := h6.out (hall 6 (by decide))
        gi_wp2
        exact ⟨h8.from _, h7, ⟨by rw [List.map_append]; exact HE.out ▸ h1, h2, h3, h4, h5, h6⟩⟩
    case done =>
      rintro D ys W hD hys ⟨⟨p6, n6, c6, hT, hV⟩, hZ, hx5, hf5, hBw, hs1⟩ hK
      have y1 := hT.cells
      have HV : Hid (PN W (.slice p6 n6 c6) (moved lp q)) := hid (by have e : mvf lp q (ys.map (·.1)) = moved lp q := (by rw [hys]; exact mvf_all HN.out q); rw [← e]; exact hV)
      have B := hid hBw
      have LD := hid (show w.heap.size ≤ D by omega)
      have hKD := hK
      clear hT hV hZ hx5 hf5 hBw hs1 hK hI0 cS hget
      gi_wp2
      have hgp := grownBy_putObj' W D (.deferred none)
      have hgr : ∀ r, some D = some r → ∃ o : Obj, W.heap[r]? = some o ∧ o.isCells = false := fun r e => by cases e; exact ⟨_, hKD, rfl⟩
      refine ⟨by simp, .inl ⟨_, _, rfl, run_takeDeferred hKD, ?_⟩⟩
      refine ⟨_, res_tmp rfl rfl, ?_⟩
      exact ⟨_, rfl, HV.out.turned hgp hgr, B.out.grown hgp B.out.size (fun g e => by cases e; have := LD.out; omega)⟩
    case stop =>
      rintro D c pre W _ _ h _
      exact h.elim

end Go.Proofs.Ytmghcankdaomgaa

/-
  PACKAGE poly: Shift.
-/
namespace Go.Proofs.Ytmghcankdaomgaa
open Go.RowKit
open Num
set_option linter.unusedVariables false
set_option maxRecDepth 100000
set_option linter.unusedSimpArgs false

theorem shb_nine {n : Nat} (h : n ≤ 9) : (n + 2) * ((25 + 25 + 4) * 2 ^ n + 25 + 25 + 4) ≤ 68719476736 := by
  have h1 : 2 ^ n ≤ 2 ^ 9 := Nat.pow_le_pow_right (by omega) h
  have h2 := Nat.mul_le_mul (show n + 2 ≤ 11 by omega) (show (25 + 25 + 4) * 2 ^ n + 25 + 25 + 4 ≤ (25 + 25 + 4) * 2 ^ 9 + 25 + 25 + 4 by omega)
  omega
theorem two_nine {n m : Nat} (h : n ≤ 9) (hm : m ≤ 1000) : m * 2 ^ n ≤ 512000 := by
  have h1 : 2 ^ n ≤ 2 ^ 9 := Nat.pow_le_pow_right (by omega) h
  exact Nat.le_trans (Nat.mul_le_mul hm h1) (by decide)
set_option maxHeartbeats 1000000 in
theorem pshifts_any {w : World} {v : Value} {p : List ByteArray} {x : ByteArray} (h : TxsW w v p) (hs : Szs p) (hx : x.size ≤ maxLen) :
    Calls Try.prog 15 #[v, .string x] w fun e w' => ∃ r ss k, e = .returned (.tuple #[r, errv k]) ∧ OwnS w' w.heap.size r ss ∧ PShifts p x ss k ∧ Below w.heap.size w w' := by
  have H1 := hid (pwith_any h hs hx)
  have hne := errv_neq
  have hgd := errv_guard
  clear h hs hx
  have B := hid (Below.refl w.heap.size w)
  go_enter Try.func15, Try.ntmps15
  go_wp2_with fail
  refine H1.out.mono ?_
  rintro e w1 ⟨y, z, k, rfl, hr, hb⟩
  replace B := bb B hb
  rcases hr with ⟨rfl, hg, hq, hp, hn⟩ | ⟨hk, hw, rfl, rfl⟩
  · obtain ⟨s3a, p3a, n3a, c3a, s3b, p3b, n3b, c3b, rfl⟩ := hn.opened
    have HG := hid hg
    have HQ := hid hq
    have HP := hid hp
    have HN := hid hn
    clear hb hg hq hp hn
    obtain ⟨hb101, hx102, hs103⟩ := Nbx.made w1 s3a s3b (.slice p3a n3a c3a) (.slice p3b n3b c3b)
    replace HN := nf HN hb101
    replace HP := pno HP hb101
    replace B := bb B hb101
    have X7 := hid hx102
    clear hb101 hx102
    have cc104 := X7.out.cells
    go_wp2_with fail
    generalize hW : w1.alloc (.cells #[.bool s3a, .slice p3a n3a c3a, .bool s3b, .slice p3b n3b c3b] 52) = W105 at *
    clear hW
    refine (pshift_p HP.out HN.out HG.out.sml (Sm.good HQ.out) (by have := HG.out.1; unfold shb; rw [rdp_len]; exact shb_nine this) (by have := HG.out.1; rw [rdp_len]; omega)).mono ?_
    rintro e w106 ⟨v2, rfl, hv, hb⟩
    have HV := hid hv
    replace X7 := nx X7 hb
    replace HN := nf HN hb
    replace HP := pno HP hb
    replace B := bb B hb
    clear cc104
    clear hb hv
    go_wp2_with fail
    refine (texts_s HV.out (trm_moved _ _) ((sml_moved HG.out.sml (Sm.good HQ.out)).mono (two_nine (by have := HG.out.1; rw [rdp_len]; exact this) (by decide))) (by decide) (by rw [moved_len HG.out.2.2, rdp_len]; have := HG.out.1; omega)).mono ?_
    rintro e w9 ⟨s, rfl, ho, hb⟩
    have HO := hid (show OwnS w9 w.heap.size s _ from ⟨ho.1.mono B.out.size, ho.2⟩)
    replace B := bb B hb
    clear hb ho
    go_wp2_with fail
    go_ret2
    exact ⟨_, _, 0, rfl, HO.out, .inl ⟨rfl, HG.out, HQ.out, rfl⟩, B.out⟩
  · have HK := hid hk
    have HW := hid hw
    have f1 : (k != 0) = true := by simpa using hk
    clear hb hw
    obtain ⟨hb301, hx302, hs303⟩ := Nbx.made w1 false false (.slice none 0 0) (.slice none 0 0)
    replace B := bb B hb301
    have X7 := hid hx302
    clear hb301 hx302
    have cc304 := X7.out.cells
    go_wp2_with fail
    go_ret2
    exact ⟨_, [], k, rfl, OwnS.nil _ _, .inr ⟨HK.out, HW.out, rfl⟩, B.out⟩

end Go.Proofs.Ytmghcankdaomgaa

/-
  THE LAW PolyOwn.
-/
namespace Go.Proofs.Ytmghcankdaomgaa
open Go.RowKit
open Num
set_option linter.unusedVariables false
set_option maxRecDepth 100000
set_option linter.unusedSimpArgs false

set_option maxHeartbeats 2000000 in
theorem pown_walk {w : World} {v_ u_ : Value} {p q : List ByteArray} {a x : ByteArray} (hp : TxsW w v_ p) (hq : TxsW w u_ q) (sp : Szs p) (sq : Szs q) (za : a.size ≤ maxLen) (zx : x.size ≤ maxLen) (mp : p.length * 16 ≤ 140737488355328) (mq : q.length * 16 ≤ 140737488355328) :
    Calls Try.prog 6 #[v_, u_, .string a, .string x] w fun e w' => e = .returned (.bool true) ∧ Below w.heap.size w w' := by
  have hne := errv_neq
  have heq := errv_eql
  have hgd := errv_guard
  have TP := hid hp
  have TQ := hid hq
  have SZp := hid sp
  have SZq := hid sq
  have RP := hid mp
  have RQ := hid mq
  have B := hid (Below.refl w.heap.size w)
  clear hp hq sp sq mp mq
  go_enter Try.func6, Try.ntmps6
  go_wp2_with fail
  refine (copied_any TP.out RP.out).mono ?_
  rintro e w1 ⟨u, rfl, ou, b1⟩
  replace B := bb B b1
  go_wp2_with fail
  refine (copied_any (TQ.out.on B.out) RQ.out).mono ?_
  rintro e w2 ⟨v, rfl, ov, b2⟩
  replace B := bb B b2
  have UL : Hid (∀ g, u.ownBlock = some g → g < w2.heap.size) := hid (fun g hg => Nat.lt_of_lt_of_le (World.ownsRow.lt ou g hg).2 b2.size)
  have VL : Hid (∀ g, v.ownBlock = some g → g < w2.heap.size) := hid (fun g hg => (World.ownsRow.lt ov g hg).2)
  have TFu := hid (ou.on b2).txs
  have TFv := hid ov.txs
  have TXu := hid TFu.out.weak
  have TXv := hid TFv.out.weak
  have WS := hid B.out.size
  clear ou ov b1 b2
  go_wp2_with fail
  refine (padds_any TXu.out TXv.out SZp.out SZq.out).mono ?_
  rintro e w3 ⟨r1, l1, k3, rfl, o3, t3, b3⟩
  replace TXu := hid (TXu.out.on b3)
  replace TXv := hid (TXv.out.on b3)
  replace TFu := hid (TFu.out.on b3)
  replace TFv := hid (TFv.out.on b3)
  replace B := bb B b3
  obtain ⟨Pr1, Cr1, Er1, _⟩ := ownT_form o3.1
  subst Er1
  have Dr1 : Hid (∀ g, (Value.slice Pr1 l1.length Cr1).ownBlock = some g → w2.heap.size ≤ g ∧ g < w3.heap.size) := hid (fun g hg => World.ownsRow.lt o3.1 g hg)
  have Rr1 := hid (o3.1.mono (L := w2.heap.size) (Nat.le_refl _))
  have S3 : Hid (w2.heap.size ≤ w3.heap.size) := hid b3.size
  have ZZ := hid b3.size
  have T3 := hid t3
  clear b3 t3 o3
  have ZP := ZZ
  go_wp2_with fail
  refine (pmuls_any TXu.out TXv.out SZp.out SZq.out).mono ?_
  rintro e w4 ⟨r2, l2, k4, rfl, o4, t4, b4⟩
  replace TXu := hid (TXu.out.on b4)
  replace TXv := hid (TXv.out.on b4)
  replace TFu := hid (TFu.out.on b4)
  replace TFv := hid (TFv.out.on b4)
  replace Rr1 := hid (Rr1.out.on b4)
  replace ZZ := hid (Nat.le_trans ZZ.out b4.size)
  replace B := bb B b4
  obtain ⟨Pr2, Cr2, Er2, _⟩ := ownT_form o4.1
  subst Er2
  have Dr2 : Hid (∀ g, (Value.slice Pr2 l2.length Cr2).ownBlock = some g → w3.heap.size ≤ g ∧ g < w4.heap.size) := hid (fun g hg => World.ownsRow.lt o4.1 g hg)
  have Rr2 := hid (o4.1.mono (L := w2.heap.size) ZP.out)
  have S4 : Hid (w3.heap.size ≤ w4.heap.size) := hid b4.size
  clear ZP
  have T4 := hid t4
  clear b4 t4 o4
  have ZP := ZZ
  go_wp2_with fail
  refine (pdivs_two TXu.out TXv.out SZp.out SZq.out).mono ?_
  rintro e w5 ⟨r3, r4, l3, l4, k5, rfl, o5, o'5, t5, ap, b5⟩
  replace TXu := hid (TXu.out.on b5)
  replace TXv := hid (TXv.out.on b5)
  replace TFu := hid (TFu.out.on b5)
  replace TFv := hid (TFv.out.on b5)
  replace Rr1 := hid (Rr1.out.on b5)
  replace ZZ := hid (Nat.le_trans ZZ.out b5.size)
  replace Rr2 := hid (Rr2.out.on b5)
  replace B := bb B b5
  obtain ⟨Pr3, Cr3, Er3, _⟩ := ownT_form o5.1
  subst Er3
  have Dr3 : Hid (∀ g, (Value.slice Pr3 l3.length Cr3).ownBlock = some g → w4.heap.size ≤ g ∧ g < w5.heap.size) := hid (fun g hg => World.ownsRow.lt o5.1 g hg)
  have Rr3 := hid (o5.1.mono (L := w2.heap.size) ZP.out)
  obtain ⟨Pr4, Cr4, Er4, _⟩ := ownT_form o'5.1
  subst Er4
  have Dr4 : Hid (∀ g, (Value.slice Pr4 l4.length Cr4).ownBlock = some g → w4.heap.size ≤ g ∧ g < w5.heap.size) := hid (fun g hg => World.ownsRow.lt o'5.1 g hg)
  have Rr4 := hid (o'5.1.mono (L := w2.heap.size) ZP.out)
  have S5 : Hid (w4.heap.size ≤ w5.heap.size) := hid b5.size
  clear ZP
  have AP := hid ap
  clear ap
  have T5 := hid t5
  clear b5 t5 o5 o'5
  have ZP := ZZ
  go_wp2_with fail
  refine (pshifts_any TXu.out SZp.out za).mono ?_
  rintro e w6 ⟨r5, l5, k6, rfl, o6, t6, b6⟩
  replace TXu := hid (TXu.out.on b6)
  replace TXv := hid (TXv.out.on b6)
  replace TFu := hid (TFu.out.on b6)
  replace TFv := hid (TFv.out.on b6)
  replace Rr1 := hid (Rr1.out.on b6)
  replace ZZ := hid (Nat.le_trans ZZ.out b6.size)
  replace Rr2 := hid (Rr2.out.on b6)
  replace Rr3 := hid (Rr3.out.on b6)
  replace Rr4 := hid (Rr4.out.on b6)
  replace B := bb B b6
  obtain ⟨Pr5, Cr5, Er5, _⟩ := ownT_form o6.1
  subst Er5
  have Dr5 : Hid (∀ g, (Value.slice Pr5 l5.length Cr5).ownBlock = some g → w5.heap.size ≤ g ∧ g < w6.heap.size) := hid (fun g hg => World.ownsRow.lt o6.1 g hg)
  have Rr5 := hid (o6.1.mono (L := w2.heap.size) ZP.out)
  have S6 : Hid (w5.heap.size ≤ w6.heap.size) := hid b6.size
  clear ZP
  have T6 := hid t6
  clear b6 t6 o6
  have ZP := ZZ
  go_wp2_with fail
  refine (pderivs_any TXu.out SZp.out).mono ?_
  rintro e w7 ⟨r6, l6, k7, rfl, o7, t7, b7⟩
  replace TXu := hid (TXu.out.on b7)
  replace TXv := hid (TXv.out.on b7)
  replace TFu := hid (TFu.out.on b7)
  replace TFv := hid (TFv.out.on b7)
  replace Rr1 := hid (Rr1.out.on b7)
  replace ZZ := hid (Nat.le_trans ZZ.out b7.size)
  replace Rr2 := hid (Rr2.out.on b7)
  replace Rr3 := hid (Rr3.out.on b7)
  replace Rr4 := hid (Rr4.out.on b7)
  replace Rr5 := hid (Rr5.out.on b7)
  replace B := bb B b7
  obtain ⟨Pr6, Cr6, Er6, _⟩ := ownT_form o7.1
  subst Er6
  have Dr6 : Hid (∀ g, (Value.slice Pr6 l6.length Cr6).ownBlock = some g → w6.heap.size ≤ g ∧ g < w7.heap.size) := hid (fun g hg => World.ownsRow.lt o7.1 g hg)
  have Rr6 := hid (o7.1.mono (L := w2.heap.size) ZP.out)
  have S7 : Hid (w6.heap.size ≤ w7.heap.size) := hid b7.size
  clear ZP
  have T7 := hid t7
  clear b7 t7 o7
  have SH1 := hid (T3.out.short (fun a b => Nat.le_trans (addp_len a b) (by omega)))
  have SH2 := hid (T4.out.short mulp_len)
  have SH3 := hid T5.out.short.1
  have SH4 := hid T5.out.short.2
  have SH5 := hid T6.out.short
  have SH6 := hid T7.out.short
  have YY := hid (Nat.le_refl w7.heap.size)
  have YP := YY
  go_wp2_with fail
  refine (copied_any Rr1.out.txs.weak (by have := SH1.out; omega)).mono ?_
  rintro e w8 ⟨c1, rfl, o8, b8⟩
  replace TXu := hid (TXu.out.on b8)
  replace TXv := hid (TXv.out.on b8)
  replace TFu := hid (TFu.out.on b8)
  replace TFv := hid (TFv.out.on b8)
  replace Rr1 := hid (Rr1.out.on b8)
  replace ZZ := hid (Nat.le_trans ZZ.out b8.size)
  replace Rr2 := hid (Rr2.out.on b8)
  replace Rr3 := hid (Rr3.out.on b8)
  replace Rr4 := hid (Rr4.out.on b8)
  replace Rr5 := hid (Rr5.out.on b8)
  replace Rr6 := hid (Rr6.out.on b8)
  replace YY := hid (Nat.le_trans YY.out b8.size)
  replace B := bb B b8
  obtain ⟨Pc1, Cc1, Ec1, _⟩ := ownT_form o8
  subst Ec1
  have CC1 := hid o8.txs
  have CB1 : Hid (∀ g, (Value.slice Pc1 l1.length Cc1).ownBlock = some g → w7.heap.size ≤ g) := hid (fun g hg => Nat.le_trans (Nat.le_trans (show w7.heap.size ≤ w7.heap.size from YP.out) (Nat.le_refl _)) (World.ownsRow.lt o8 g hg).1)
  clear o8 b8 YP
  have YP := YY
  go_wp2_with fail
  refine (copied_any Rr2.out.txs.weak (by have := SH2.out; omega)).mono ?_
  rintro e w9 ⟨c2, rfl, o9, b9⟩
  replace TXu := hid (TXu.out.on b9)
  replace TXv := hid (TXv.out.on b9)
  replace TFu := hid (TFu.out.on b9)
  replace TFv := hid (TFv.out.on b9)
  replace Rr1 := hid (Rr1.out.on b9)
  replace ZZ := hid (Nat.le_trans ZZ.out b9.size)
  replace Rr2 := hid (Rr2.out.on b9)
  replace Rr3 := hid (Rr3.out.on b9)
  replace Rr4 := hid (Rr4.out.on b9)
  replace Rr5 := hid (Rr5.out.on b9)
  replace Rr6 := hid (Rr6.out.on b9)
  replace YY := hid (Nat.le_trans YY.out b9.size)
  replace CC1 := hid (CC1.out.on b9)
  replace B := bb B b9
  obtain ⟨Pc2, Cc2, Ec2, _⟩ := ownT_form o9
  subst Ec2
  have CC2 := hid o9.txs
  have CB2 : Hid (∀ g, (Value.slice Pc2 l2.length Cc2).ownBlock = some g → w7.heap.size ≤ g) := hid (fun g hg => Nat.le_trans (Nat.le_trans (show w7.heap.size ≤ w8.heap.size from YP.out) (Nat.le_refl _)) (World.ownsRow.lt o9 g hg).1)
  clear o9 b9 YP
  have YP := YY
  go_wp2_with fail
  refine (copied_any Rr3.out.txs.weak (by have := SH3.out; omega)).mono ?_
  rintro e w10 ⟨c3, rfl, o10, b10⟩
  replace TXu := hid (TXu.out.on b10)
  replace TXv := hid (TXv.out.on b10)
  replace TFu := hid (TFu.out.on b10)
  replace TFv := hid (TFv.out.on b10)
  replace Rr1 := hid (Rr1.out.on b10)
  replace ZZ := hid (Nat.le_trans ZZ.out b10.size)
  replace Rr2 := hid (Rr2.out.on b10)
  replace Rr3 := hid (Rr3.out.on b10)
  replace Rr4 := hid (Rr4.out.on b10)
  replace Rr5 := hid (Rr5.out.on b10)
  replace Rr6 := hid (Rr6.out.on b10)
  replace YY := hid (Nat.le_trans YY.out b10.size)
  replace CC1 := hid (CC1.out.on b10)
  replace CC2 := hid (CC2.out.on b10)
  replace B := bb B b10
  obtain ⟨Pc3, Cc3, Ec3, _⟩ := ownT_form o10
  subst Ec3
  have CC3 := hid o10.txs
  have CB3 : Hid (∀ g, (Value.slice Pc3 l3.length Cc3).ownBlock = some g → w7.heap.size ≤ g) := hid (fun g hg => Nat.le_trans (Nat.le_trans (show w7.heap.size ≤ w9.heap.size from YP.out) (Nat.le_refl _)) (World.ownsRow.lt o10 g hg).1)
  clear o10 b10 YP
  have YP := YY
  go_wp2_with fail
  refine (copied_any Rr4.out.txs.weak (by have := SH4.out; omega)).mono ?_
  rintro e w11 ⟨c4, rfl, o11, b11⟩
  replace TXu := hid (TXu.out.on b11)
  replace TXv := hid (TXv.out.on b11)
  replace TFu := hid (TFu.out.on b11)
  replace TFv := hid (TFv.out.on b11)
  replace Rr1 := hid (Rr1.out.on b11)
  replace ZZ := hid (Nat.le_trans ZZ.out b11.size)
  replace Rr2 := hid (Rr2.out.on b11)
  replace Rr3 := hid (Rr3.out.on b11)
  replace Rr4 := hid (Rr4.out.on b11)
  replace Rr5 := hid (Rr5.out.on b11)
  replace Rr6 := hid (Rr6.out.on b11)
  replace YY := hid (Nat.le_trans YY.out b11.size)
  replace CC1 := hid (CC1.out.on b11)
  replace CC2 := hid (CC2.out.on b11)
  replace CC3 := hid (CC3.out.on b11)
  replace B := bb B b11
  obtain ⟨Pc4, Cc4, Ec4, _⟩ := ownT_form o11
  subst Ec4
  have CC4 := hid o11.txs
  have CB4 : Hid (∀ g, (Value.slice Pc4 l4.length Cc4).ownBlock = some g → w7.heap.size ≤ g) := hid (fun g hg => Nat.le_trans (Nat.le_trans (show w7.heap.size ≤ w10.heap.size from YP.out) (Nat.le_refl _)) (World.ownsRow.lt o11 g hg).1)
  clear o11 b11 YP
  have YP := YY
  go_wp2_with fail
  refine (copied_any Rr5.out.txs.weak (by have := SH5.out; omega)).mono ?_
  rintro e w12 ⟨c5, rfl, o12, b12⟩
  replace TXu := hid (TXu.out.on b12)
  replace TXv := hid (TXv.out.on b12)
  replace TFu := hid (TFu.out.on b12)
  replace TFv := hid (TFv.out.on b12)
  replace Rr1 := hid (Rr1.out.on b12)
  replace ZZ := hid (Nat.le_trans ZZ.out b12.size)
  replace Rr2 := hid (Rr2.out.on b12)
  replace Rr3 := hid (Rr3.out.on b12)
  replace Rr4 := hid (Rr4.out.on b12)
  replace Rr5 := hid (Rr5.out.on b12)
  replace Rr6 := hid (Rr6.out.on b12)
  replace YY := hid (Nat.le_trans YY.out b12.size)
  replace CC1 := hid (CC1.out.on b12)
  replace CC2 := hid (CC2.out.on b12)
  replace CC3 := hid (CC3.out.on b12)
  replace CC4 := hid (CC4.out.on b12)
  replace B := bb B b12
  obtain ⟨Pc5, Cc5, Ec5, _⟩ := ownT_form o12
  subst Ec5
  have CC5 := hid o12.txs
  have CB5 : Hid (∀ g, (Value.slice Pc5 l5.length Cc5).ownBlock = some g → w7.heap.size ≤ g) := hid (fun g hg => Nat.le_trans (Nat.le_trans (show w7.heap.size ≤ w11.heap.size from YP.out) (Nat.le_refl _)) (World.ownsRow.lt o12 g hg).1)
  clear o12 b12 YP
  have YP := YY
  go_wp2_with fail
  refine (copied_any Rr6.out.txs.weak (by have := SH6.out; omega)).mono ?_
  rintro e w13 ⟨c6, rfl, o13, b13⟩
  replace TXu := hid (TXu.out.on b13)
  replace TXv := hid (TXv.out.on b13)
  replace TFu := hid (TFu.out.on b13)
  replace TFv := hid (TFv.out.on b13)
  replace Rr1 := hid (Rr1.out.on b13)
  replace ZZ := hid (Nat.le_trans ZZ.out b13.size)
  replace Rr2 := hid (Rr2.out.on b13)
  replace Rr3 := hid (Rr3.out.on b13)
  replace Rr4 := hid (Rr4.out.on b13)
  replace Rr5 := hid (Rr5.out.on b13)
  replace Rr6 := hid (Rr6.out.on b13)
  replace YY := hid (Nat.le_trans YY.out b13.size)
  replace CC1 := hid (CC1.out.on b13)
  replace CC2 := hid (CC2.out.on b13)
  replace CC3 := hid (CC3.out.on b13)
  replace CC4 := hid (CC4.out.on b13)
  replace CC5 := hid (CC5.out.on b13)
  replace B := bb B b13
  obtain ⟨Pc6, Cc6, Ec6, _⟩ := ownT_form o13
  subst Ec6
  have CC6 := hid o13.txs
  have CB6 : Hid (∀ g, (Value.slice Pc6 l6.length Cc6).ownBlock = some g → w7.heap.size ≤ g) := hid (fun g hg => Nat.le_trans (Nat.le_trans (show w7.heap.size ≤ w12.heap.size from YP.out) (Nat.le_refl _)) (World.ownsRow.lt o13 g hg).1)
  clear o13 b13 YP
  have A1H := YY
  have A1 : Hid (∀ i, i < 6 → (w13.alloc (.cells #[(Value.slice Pc1 l1.length Cc1), (Value.slice Pc2 l2.length Cc2), (Value.slice Pc3 l3.length Cc3), (Value.slice Pc4 l4.length Cc4), (Value.slice Pc5 l5.length Cc5), (Value.slice Pc6 l6.length Cc6)] 22)).cell? ⟨w13.heap.size, i, none⟩ = some (sel6 (Value.slice Pc1 l1.length Cc1) (Value.slice Pc2 l2.length Cc2) (Value.slice Pc3 l3.length Cc3) (Value.slice Pc4 l4.length Cc4) (Value.slice Pc5 l5.length Cc5) (Value.slice Pc6 l6.length Cc6) i)) := hid (new6 _ _ _ _ _ _ _ _)
  have A1L : Hid (w13.heap.size < (w13.alloc (.cells #[(Value.slice Pc1 l1.length Cc1), (Value.slice Pc2 l2.length Cc2), (Value.slice Pc3 l3.length Cc3), (Value.slice Pc4 l4.length Cc4), (Value.slice Pc5 l5.length Cc5), (Value.slice Pc6 l6.length Cc6)] 22)).heap.size) := hid (by simp)
  have hl1 := (Below.refl w13.heap.size w13).alloc (Nat.le_refl _) (.cells #[(Value.slice Pc1 l1.length Cc1), (Value.slice Pc2 l2.length Cc2), (Value.slice Pc3 l3.length Cc3), (Value.slice Pc4 l4.length Cc4), (Value.slice Pc5 l5.length Cc5), (Value.slice Pc6 l6.length Cc6)] 22)
  replace TXu := hid (TXu.out.on hl1)
  replace TXv := hid (TXv.out.on hl1)
  replace TFu := hid (TFu.out.on hl1)
  replace TFv := hid (TFv.out.on hl1)
  replace Rr1 := hid (Rr1.out.on hl1)
  replace ZZ := hid (Nat.le_trans ZZ.out hl1.size)
  replace Rr2 := hid (Rr2.out.on hl1)
  replace Rr3 := hid (Rr3.out.on hl1)
  replace Rr4 := hid (Rr4.out.on hl1)
  replace Rr5 := hid (Rr5.out.on hl1)
  replace Rr6 := hid (Rr6.out.on hl1)
  replace YY := hid (Nat.le_trans YY.out hl1.size)
  replace CC1 := hid (CC1.out.on hl1)
  replace CC2 := hid (CC2.out.on hl1)
  replace CC3 := hid (CC3.out.on hl1)
  replace CC4 := hid (CC4.out.on hl1)
  replace CC5 := hid (CC5.out.on hl1)
  replace CC6 := hid (CC6.out.on hl1)
  replace B := bb B hl1
  have hl2 := (Below.refl (w13.alloc (.cells #[(Value.slice Pc1 l1.length Cc1), (Value.slice Pc2 l2.length Cc2), (Value.slice Pc3 l3.length Cc3), (Value.slice Pc4 l4.length Cc4), (Value.slice Pc5 l5.length Cc5), (Value.slice Pc6 l6.length Cc6)] 22)).heap.size (w13.alloc (.cells #[(Value.slice Pc1 l1.length Cc1), (Value.slice Pc2 l2.length Cc2), (Value.slice Pc3 l3.length Cc3), (Value.slice Pc4 l4.length Cc4), (Value.slice Pc5 l5.length Cc5), (Value.slice Pc6 l6.length Cc6)] 22))).alloc (Nat.le_refl _) (.cells #[(Value.slice Pr1 l1.length Cr1), (Value.slice Pr2 l2.length Cr2), (Value.slice Pr3 l3.length Cr3), (Value.slice Pr4 l4.length Cr4), (Value.slice Pr5 l5.length Cr5), (Value.slice Pr6 l6.length Cr6)] 22)
  have A2 : ∀ i, i < 6 → ((w13.alloc (.cells #[(Value.slice Pc1 l1.length Cc1), (Value.slice Pc2 l2.length Cc2), (Value.slice Pc3 l3.length Cc3), (Value.slice Pc4 l4.length Cc4), (Value.slice Pc5 l5.length Cc5), (Value.slice Pc6 l6.length Cc6)] 22)).alloc (.cells #[(Value.slice Pr1 l1.length Cr1), (Value.slice Pr2 l2.length Cr2), (Value.slice Pr3 l3.length Cr3), (Value.slice Pr4 l4.length Cr4), (Value.slice Pr5 l5.length Cr5), (Value.slice Pr6 l6.length Cr6)] 22)).cell? ⟨(w13.alloc (.cells #[(Value.slice Pc1 l1.length Cc1), (Value.slice Pc2 l2.length Cc2), (Value.slice Pc3 l3.length Cc3), (Value.slice Pc4 l4.length Cc4), (Value.slice Pc5 l5.length Cc5), (Value.slice Pc6 l6.length Cc6)] 22)).heap.size, i, none⟩ = some (sel6 (Value.slice Pr1 l1.length Cr1) (Value.slice Pr2 l2.length Cr2) (Value.slice Pr3 l3.length Cr3) (Value.slice Pr4 l4.length Cr4) (Value.slice Pr5 l5.length Cr5) (Value.slice Pr6 l6.length Cr6) i) := new6 _ _ _ _ _ _ _ _
  replace TXu := hid (TXu.out.on hl2)
  replace TXv := hid (TXv.out.on hl2)
  replace TFu := hid (TFu.out.on hl2)
  replace TFv := hid (TFv.out.on hl2)
  replace Rr1 := hid (Rr1.out.on hl2)
  replace ZZ := hid (Nat.le_trans ZZ.out hl2.size)
  replace Rr2 := hid (Rr2.out.on hl2)
  replace Rr3 := hid (Rr3.out.on hl2)
  replace Rr4 := hid (Rr4.out.on hl2)
  replace Rr5 := hid (Rr5.out.on hl2)
  replace Rr6 := hid (Rr6.out.on hl2)
  replace YY := hid (Nat.le_trans YY.out hl2.size)
  replace CC1 := hid (CC1.out.on hl2)
  replace CC2 := hid (CC2.out.on hl2)
  replace CC3 := hid (CC3.out.on hl2)
  replace CC4 := hid (CC4.out.on hl2)
  replace CC5 := hid (CC5.out.on hl2)
  replace CC6 := hid (CC6.out.on hl2)
  replace A1 : Hid (∀ i, i < 6 → _) := hid (fun i hi => (World.cell?_of_block (hl2.block w13.heap.size A1L.out)).trans (A1.out i hi))
  replace A1L := hid (Nat.lt_of_lt_of_le A1L.out hl2.size)
  replace B := bb B hl2
  have hsz : (w13.alloc (.cells #[(Value.slice Pc1 l1.length Cc1), (Value.slice Pc2 l2.length Cc2), (Value.slice Pc3 l3.length Cc3), (Value.slice Pc4 l4.length Cc4), (Value.slice Pc5 l5.length Cc5), (Value.slice Pc6 l6.length Cc6)] 22)).heap.size = w13.heap.size + 1 := by simp
  have HSP := spoil6 (w := ((w13.alloc (.cells #[(Value.slice Pc1 l1.length Cc1), (Value.slice Pc2 l2.length Cc2), (Value.slice Pc3 l3.length Cc3), (Value.slice Pc4 l4.length Cc4), (Value.slice Pc5 l5.length Cc5), (Value.slice Pc6 l6.length Cc6)] 22)).alloc (.cells #[(Value.slice Pr1 l1.length Cr1), (Value.slice Pr2 l2.length Cr2), (Value.slice Pr3 l3.length Cr3), (Value.slice Pr4 l4.length Cr4), (Value.slice Pr5 l5.length Cr5), (Value.slice Pr6 l6.length Cr6)] 22))) (b := (w13.alloc (.cells #[(Value.slice Pc1 l1.length Cc1), (Value.slice Pc2 l2.length Cc2), (Value.slice Pc3 l3.length Cc3), (Value.slice Pc4 l4.length Cc4), (Value.slice Pc5 l5.length Cc5), (Value.slice Pc6 l6.length Cc6)] 22)).heap.size) (lo := w2.heap.size) (hi := w7.heap.size) (by simp) (.inr (by have := A1H.out; rw [hsz]; omega)) A2 Rr1.out Rr2.out Rr3.out Rr4.out Rr5.out Rr6.out Dr1.out Dr2.out Dr3.out Dr4.out Dr5.out Dr6.out AP.out (by have h1 := S3.out; have h2 := S4.out; have h3 := S5.out; have h4 := S6.out; have h5 := S7.out; omega) x
  rw [hsz] at HSP
  have HSP := hid HSP
  clear A2 hl1 hl2 hsz S3 S4 S5 S6 S7 AP Dr1 SH1 Dr2 SH2 Dr3 SH3 Dr4 SH4 Dr5 SH5 Dr6 SH6
  clear ZZ YY Rr1 Rr2 Rr3 Rr4 Rr5 Rr6
  go_wp2_with fail
  refine HSP.out.mono ?_
  rintro e w14 ⟨rfl, b14⟩
  clear HSP
  replace B := hid (b14.below B.out WS.out B.out.size)
  replace TFu := hid (TFu.out.spr b14 (fun g hg => .inl (UL.out g hg)))
  replace TXu := hid TFu.out.weak
  replace TFv := hid (TFv.out.spr b14 (fun g hg => .inl (VL.out g hg)))
  replace TXv := hid TFv.out.weak
  replace CC1 := hid (CC1.out.spr b14 (fun g hg => .inr (CB1.out g hg)))
  replace CC2 := hid (CC2.out.spr b14 (fun g hg => .inr (CB2.out g hg)))
  replace CC3 := hid (CC3.out.spr b14 (fun g hg => .inr (CB3.out g hg)))
  replace CC4 := hid (CC4.out.spr b14 (fun g hg => .inr (CB4.out g hg)))
  replace CC5 := hid (CC5.out.spr b14 (fun g hg => .inr (CB5.out g hg)))
  replace CC6 := hid (CC6.out.spr b14 (fun g hg => .inr (CB6.out g hg)))
  replace A1 : Hid (∀ i, i < 6 → _) := hid (fun i hi => (World.cell?_of_block (b14.2.2.2.2 _ A1L.out (.inr A1H.out))).trans (A1.out i hi))
  replace A1L := hid (Nat.lt_of_lt_of_le A1L.out b14.2.2.2.1)
  clear b14 UL VL A1H CB1 CB2 CB3 CB4 CB5 CB6
  go_wp2_with fail
  refine (same_w TFu.out (TP.out.on B.out)).mono ?_
  rintro e w15 ⟨rfl, b15⟩
  replace TXu := hid (TXu.out.on b15)
  replace TXv := hid (TXv.out.on b15)
  replace TFu := hid (TFu.out.on b15)
  replace TFv := hid (TFv.out.on b15)
  replace CC1 := hid (CC1.out.on b15)
  replace CC2 := hid (CC2.out.on b15)
  replace CC3 := hid (CC3.out.on b15)
  replace CC4 := hid (CC4.out.on b15)
  replace CC5 := hid (CC5.out.on b15)
  replace CC6 := hid (CC6.out.on b15)
  replace A1 : Hid (∀ i, i < 6 → _) := hid (fun i hi => (World.cell?_of_block (b15.block w13.heap.size A1L.out)).trans (A1.out i hi))
  replace A1L := hid (Nat.lt_of_lt_of_le A1L.out b15.size)
  replace B := bb B b15
  clear b15
  go_wp2_with fail
  refine (same_w TFv.out (TQ.out.on B.out)).mono ?_
  rintro e w16 ⟨rfl, b16⟩
  replace TXu := hid (TXu.out.on b16)
  replace TXv := hid (TXv.out.on b16)
  replace TFu := hid (TFu.out.on b16)
  replace TFv := hid (TFv.out.on b16)
  replace CC1 := hid (CC1.out.on b16)
  replace CC2 := hid (CC2.out.on b16)
  replace CC3 := hid (CC3.out.on b16)
  replace CC4 := hid (CC4.out.on b16)
  replace CC5 := hid (CC5.out.on b16)
  replace CC6 := hid (CC6.out.on b16)
  replace A1 : Hid (∀ i, i < 6 → _) := hid (fun i hi => (World.cell?_of_block (b16.block w13.heap.size A1L.out)).trans (A1.out i hi))
  replace A1L := hid (Nat.lt_of_lt_of_le A1L.out b16.size)
  replace B := bb B b16
  clear b16
  clear TP TQ RP RQ
  go_wp2_with fail
  refine (padds_any TXu.out TXv.out SZp.out SZq.out).mono ?_
  rintro e w17 ⟨q1, m1, k17, rfl, o17, t17, b17⟩
  replace TXu := hid (TXu.out.on b17)
  replace TXv := hid (TXv.out.on b17)
  replace TFu := hid (TFu.out.on b17)
  replace TFv := hid (TFv.out.on b17)
  replace CC1 := hid (CC1.out.on b17)
  replace CC2 := hid (CC2.out.on b17)
  replace CC3 := hid (CC3.out.on b17)
  replace CC4 := hid (CC4.out.on b17)
  replace CC5 := hid (CC5.out.on b17)
  replace CC6 := hid (CC6.out.on b17)
  replace A1 : Hid (∀ i, i < 6 → _) := hid (fun i hi => (World.cell?_of_block (b17.block w13.heap.size A1L.out)).trans (A1.out i hi))
  replace A1L := hid (Nat.lt_of_lt_of_le A1L.out b17.size)
  replace B := bb B b17
  obtain ⟨Pq1, Cq1, Eq1, _⟩ := ownT_form o17.1
  subst Eq1
  have Rq1 := hid o17.1.txs
  have T17 := hid t17
  clear b17 t17 o17
  go_wp2_with fail
  refine (pmuls_any TXu.out TXv.out SZp.out SZq.out).mono ?_
  rintro e w18 ⟨q2, m2, k18, rfl, o18, t18, b18⟩
  replace TXu := hid (TXu.out.on b18)
  replace TXv := hid (TXv.out.on b18)
  replace TFu := hid (TFu.out.on b18)
  replace TFv := hid (TFv.out.on b18)
  replace CC1 := hid (CC1.out.on b18)
  replace CC2 := hid (CC2.out.on b18)
  replace CC3 := hid (CC3.out.on b18)
  replace CC4 := hid (CC4.out.on b18)
  replace CC5 := hid (CC5.out.on b18)
  replace CC6 := hid (CC6.out.on b18)
  replace A1 : Hid (∀ i, i < 6 → _) := hid (fun i hi => (World.cell?_of_block (b18.block w13.heap.size A1L.out)).trans (A1.out i hi))
  replace A1L := hid (Nat.lt_of_lt_of_le A1L.out b18.size)
  replace Rq1 := hid (Rq1.out.on b18)
  replace B := bb B b18
  obtain ⟨Pq2, Cq2, Eq2, _⟩ := ownT_form o18.1
  subst Eq2
  have Rq2 := hid o18.1.txs
  have T18 := hid t18
  clear b18 t18 o18
  go_wp2_with fail
  refine (pdivs_two TXu.out TXv.out SZp.out SZq.out).mono ?_
  rintro e w19 ⟨q3, q4, m3, m4, k19, rfl, o19, o'19, t19, ap, b19⟩
  replace TXu := hid (TXu.out.on b19)
  replace TXv := hid (TXv.out.on b19)
  replace TFu := hid (TFu.out.on b19)
  replace TFv := hid (TFv.out.on b19)
  replace CC1 := hid (CC1.out.on b19)
  replace CC2 := hid (CC2.out.on b19)
  replace CC3 := hid (CC3.out.on b19)
  replace CC4 := hid (CC4.out.on b19)
  replace CC5 := hid (CC5.out.on b19)
  replace CC6 := hid (CC6.out.on b19)
  replace A1 : Hid (∀ i, i < 6 → _) := hid (fun i hi => (World.cell?_of_block (b19.block w13.heap.size A1L.out)).trans (A1.out i hi))
  replace A1L := hid (Nat.lt_of_lt_of_le A1L.out b19.size)
  replace Rq1 := hid (Rq1.out.on b19)
  replace Rq2 := hid (Rq2.out.on b19)
  replace B := bb B b19
  obtain ⟨Pq3, Cq3, Eq3, _⟩ := ownT_form o19.1
  subst Eq3
  have Rq3 := hid o19.1.txs
  obtain ⟨Pq4, Cq4, Eq4, _⟩ := ownT_form o'19.1
  subst Eq4
  have Rq4 := hid o'19.1.txs
  clear ap
  have T19 := hid t19
  clear b19 t19 o19 o'19
  go_wp2_with fail
  refine (pshifts_any TXu.out SZp.out za).mono ?_
  rintro e w20 ⟨q5, m5, k20, rfl, o20, t20, b20⟩
  replace TXu := hid (TXu.out.on b20)
  replace TXv := hid (TXv.out.on b20)
  replace TFu := hid (TFu.out.on b20)
  replace TFv := hid (TFv.out.on b20)
  replace CC1 := hid (CC1.out.on b20)
  replace CC2 := hid (CC2.out.on b20)
  replace CC3 := hid (CC3.out.on b20)
  replace CC4 := hid (CC4.out.on b20)
  replace CC5 := hid (CC5.out.on b20)
  replace CC6 := hid (CC6.out.on b20)
  replace A1 : Hid (∀ i, i < 6 → _) := hid (fun i hi => (World.cell?_of_block (b20.block w13.heap.size A1L.out)).trans (A1.out i hi))
  replace A1L := hid (Nat.lt_of_lt_of_le A1L.out b20.size)
  replace Rq1 := hid (Rq1.out.on b20)
  replace Rq2 := hid (Rq2.out.on b20)
  replace Rq3 := hid (Rq3.out.on b20)
  replace Rq4 := hid (Rq4.out.on b20)
  replace B := bb B b20
  obtain ⟨Pq5, Cq5, Eq5, _⟩ := ownT_form o20.1
  subst Eq5
  have Rq5 := hid o20.1.txs
  have T20 := hid t20
  clear b20 t20 o20
  go_wp2_with fail
  refine (pderivs_any TXu.out SZp.out).mono ?_
  rintro e w21 ⟨q6, m6, k21, rfl, o21, t21, b21⟩
  replace TXu := hid (TXu.out.on b21)
  replace TXv := hid (TXv.out.on b21)
  replace TFu := hid (TFu.out.on b21)
  replace TFv := hid (TFv.out.on b21)
  replace CC1 := hid (CC1.out.on b21)
  replace CC2 := hid (CC2.out.on b21)
  replace CC3 := hid (CC3.out.on b21)
  replace CC4 := hid (CC4.out.on b21)
  replace CC5 := hid (CC5.out.on b21)
  replace CC6 := hid (CC6.out.on b21)
  replace A1 : Hid (∀ i, i < 6 → _) := hid (fun i hi => (World.cell?_of_block (b21.block w13.heap.size A1L.out)).trans (A1.out i hi))
  replace A1L := hid (Nat.lt_of_lt_of_le A1L.out b21.size)
  replace Rq1 := hid (Rq1.out.on b21)
  replace Rq2 := hid (Rq2.out.on b21)
  replace Rq3 := hid (Rq3.out.on b21)
  replace Rq4 := hid (Rq4.out.on b21)
  replace Rq5 := hid (Rq5.out.on b21)
  replace B := bb B b21
  obtain ⟨Pq6, Cq6, Eq6, _⟩ := ownT_form o21.1
  subst Eq6
  have Rq6 := hid o21.1.txs
  have T21 := hid t21
  clear b21 t21 o21
  obtain ⟨hk, hl⟩ := T3.out.det T17.out
  clear T3 T17
  subst hk
  subst hl
  obtain ⟨hk, hl⟩ := T4.out.det T18.out
  clear T4 T18
  subst hk
  subst hl
  obtain ⟨hk, hl, hl'⟩ := T5.out.det T19.out
  clear T5 T19
  subst hk
  subst hl
  subst hl'
  obtain ⟨hk, hl⟩ := T6.out.det T20.out
  clear T6 T20
  subst hk
  subst hl
  obtain ⟨hk, hl⟩ := T7.out.det T21.out
  clear T7 T21
  subst hk
  subst hl
  have A3 : ∀ i, i < 6 → (w21.alloc (.cells #[(Value.slice Pq1 l1.length Cq1), (Value.slice Pq2 l2.length Cq2), (Value.slice Pq3 l3.length Cq3), (Value.slice Pq4 l4.length Cq4), (Value.slice Pq5 l5.length Cq5), (Value.slice Pq6 l6.length Cq6)] 22)).cell? ⟨w21.heap.size, i, none⟩ = some (sel6 (Value.slice Pq1 l1.length Cq1) (Value.slice Pq2 l2.length Cq2) (Value.slice Pq3 l3.length Cq3) (Value.slice Pq4 l4.length Cq4) (Value.slice Pq5 l5.length Cq5) (Value.slice Pq6 l6.length Cq6) i) := new6 _ _ _ _ _ _ _ _
  have hl3 := (Below.refl w21.heap.size w21).alloc (Nat.le_refl _) (.cells #[(Value.slice Pq1 l1.length Cq1), (Value.slice Pq2 l2.length Cq2), (Value.slice Pq3 l3.length Cq3), (Value.slice Pq4 l4.length Cq4), (Value.slice Pq5 l5.length Cq5), (Value.slice Pq6 l6.length Cq6)] 22)
  replace TXu := hid (TXu.out.on hl3)
  replace TXv := hid (TXv.out.on hl3)
  replace TFu := hid (TFu.out.on hl3)
  replace TFv := hid (TFv.out.on hl3)
  replace CC1 := hid (CC1.out.on hl3)
  replace CC2 := hid (CC2.out.on hl3)
  replace CC3 := hid (CC3.out.on hl3)
  replace CC4 := hid (CC4.out.on hl3)
  replace CC5 := hid (CC5.out.on hl3)
  replace CC6 := hid (CC6.out.on hl3)
  replace A1 : Hid (∀ i, i < 6 → _) := hid (fun i hi => (World.cell?_of_block (hl3.block w13.heap.size A1L.out)).trans (A1.out i hi))
  replace A1L := hid (Nat.lt_of_lt_of_le A1L.out hl3.size)
  replace Rq1 := hid (Rq1.out.on hl3)
  replace Rq2 := hid (Rq2.out.on hl3)
  replace Rq3 := hid (Rq3.out.on hl3)
  replace Rq4 := hid (Rq4.out.on hl3)
  replace Rq5 := hid (Rq5.out.on hl3)
  replace Rq6 := hid (Rq6.out.on hl3)
  replace B := bb B hl3
  have HSR := hid (same_rows (w := (w21.alloc (.cells #[(Value.slice Pq1 l1.length Cq1), (Value.slice Pq2 l2.length Cq2), (Value.slice Pq3 l3.length Cq3), (Value.slice Pq4 l4.length Cq4), (Value.slice Pq5 l5.length Cq5), (Value.slice Pq6 l6.length Cq6)] 22))) (b := w21.heap.size) (c := w13.heap.size) (n := 6) (sf := sel6 l1 l2 l3 l4 l5 l6) (by simp) A1L.out A3 A1.out (all6 Rq1.out Rq2.out Rq3.out Rq4.out Rq5.out Rq6.out) (all6 CC1.out CC2.out CC3.out CC4.out CC5.out CC6.out) (by decide))
  clear A3 hl3 A1 A1L TXu TXv TFu TFv Rq1 Rq2 Rq3 Rq4 Rq5 Rq6 CC1 CC2 CC3 CC4 CC5 CC6
  go_wp2_with fail
  refine (HSR.out).mono ?_
  rintro e w22 ⟨rfl, b22⟩
  replace B := bb B b22
  clear b22 HSR
  go_wp2_with fail
  replace B := hid (Below.drew B.out)
  go_region_held3 (fun w' => True) (trivial) (first
    | (go_at_call 23; refine (awake_true _).mono ?_; rintro e w30 ⟨rfl, hb30⟩; replace B := bb B hb30; clear hb30)
    | fail)
  go_wp2_with fail
  go_ret
  exact ⟨rfl, B.out⟩

end Go.Proofs.Ytmghcankdaomgaa

/-
  The law PolyOwn of package abacistlaw5: whatever lists of texts and texts come in, the call returns true, and they read behind it as they did before. No condition.
-/
namespace Go.Proofs.Ytmghcankdaomgaa.polyOwn
open Go.ChangeShapes Go.WideShapes Go.ChangeAt Go.RowKit
open Go.ChangeMaps (open_string shut_string)
set_option linter.unusedVariables false

theorem own : ownKnob Try.prog.godebug = none := by kernel_rfl
theorem laidOut : laidOutB Try.prog = true := by kernel_rfl
theorem cellsS : Try.prog.cellsOf 9 = 1 := by kernel_rfl
theorem bytesS : Try.prog.bytesOf 9 = 16 := by kernel_rfl

set_option maxRecDepth 100000 in
theorem lifted (os : Os) (started : os.Started) (H : Type) (enc : TypeId × Value → H) :
    ReturnsInHanded {} Try.checked os 6 .any (Rows.polyOwnSpec.pre6 enc Try.prog Try.f6 Rows.polyOwnRow.domain false) (Rows.polyOwnSpec.post enc Try.prog Try.f6 false true false false) := by
  refine returnsInHanded_of_change_sized (C := Try.checked) own started (by kernel_rfl) Try.func6
    (ChangeSpec.witness6 (enc := enc) (C := Try.checked) false ⟨#[], #[.slice none 0 0, .slice none 0 0, .string ByteArray.empty, .string ByteArray.empty], []⟩ 8 (by kernel_rfl) (by kernel_rfl) (by kernel_rfl) (by kernel_rfl)) ?_
  intro W base args ds gs before hval0 hW hcnd hsz0 _
  have hval : ∀ (j : Nat) t v, Try.f6.params[j]? = some t → args[j]? = some v → Value.okWide Try.prog W .any base t v := hval0
  have hW' := hW
  obtain ⟨p, q, hA0, hV, rfl, hfz, hnd⟩ := hW
  have hA : DataW.TrodAll enc Try.prog W 0 (fun _ => true) true Try.f6.params.toList args.toList ds p := hA0
  rw [Try.params6] at hA hval
  have hsz : (DataW.weightsEach Try.prog (Try.f6.params.toList ++ Rows.polyOwnSpec.plain.varTypes Try.prog) (ds ++ gs)).all (· ≤ reachBytes) = true := hsz0
  rw [Try.params6] at hsz
  obtain ⟨v0, vs0, d0, ds0, p0, q0, hargs, rfl, rfl, h0, r0⟩ := trodAll_cons hA
  obtain ⟨v1, vs1, d1, ds1, p1, q1, rfl, rfl, rfl, h1, r1⟩ := trodAll_cons r0
  obtain ⟨v2, vs2, d2, ds2, p2, q2, rfl, rfl, rfl, h2, r2⟩ := trodAll_cons r1
  obtain ⟨v3, vs3, d3, ds3, p3, q3, rfl, rfl, rfl, h3, r3⟩ := trodAll_cons r2
  obtain ⟨rfl, rfl, rfl⟩ := trodAll_nil r3
  obtain rfl : args = #[v0, v1, v2, v3] := by cases args; simp_all
  obtain ⟨rfl, rfl⟩ := trodVars_none hV
  obtain ⟨a2, rfl, rfl, rfl, w2⟩ := open_string Try.underlying9 (hval 2 9 v2 rfl rfl) h2
  obtain ⟨a3, rfl, rfl, rfl, w3⟩ := open_string Try.underlying9 (hval 3 9 v3 rfl rfl) h3
  obtain ⟨pa0, len0, cap0, rfl⟩ := okWide_slice Try.underlying22 (hval 0 22 v0 rfl rfl)
  have h0k := h0
  obtain ⟨fuel0, hf0⟩ := h0
  obtain ⟨pa1, len1, cap1, rfl⟩ := okWide_slice Try.underlying22 (hval 1 22 v1 rfl rfl)
  have h1k := h1
  obtain ⟨fuel1, hf1⟩ := h1
  clear hA0 hval0
  have hlt0 : ∀ y ∈ p0, y.block < W.heap.size := fun y hy => hW'.lt y (by simp [hy])
  have hlt1 : ∀ y ∈ p1, y.block < W.heap.size := fun y hy => hW'.lt y (by simp [hy])
  have T0 : ∃ ss : List ByteArray, TxsW W (.slice pa0 len0 cap0) ss ∧ Szs ss ∧ ss.length * 16 ≤ 140737488355328 := by
    rcases open_strings Try.underlying22 Try.underlying9 cellsS hf0 with ⟨hcs, hx⟩ | ⟨b, len', cap', ss, hcs, _, hl, hm, hz, hx, hcell, hws⟩
    · simp [Value.cells] at hcs
      obtain ⟨rfl, rfl, rfl⟩ := hcs
      exact ⟨[], (Txs.nil W).weak, Szs.nil, by decide⟩
    · simp [Value.cells] at hcs
      obtain ⟨rfl, rfl, rfl⟩ := hcs
      simp only [Prod.mk.injEq] at hx
      obtain ⟨rfl, hx2⟩ := hx
      simp only [if_true] at hz
      have hlen : (ss.take len0).length = len0 := by rw [List.length_take]; omega
      have hreach : len0 * 16 ≤ 140737488355328 := by
        have := sized_slice hsz (j := 0) (t := 22) (e := 9) rfl rfl Try.underlying22
        rw [bytesS] at this
        simp only [strs, List.length_map, List.length_take, List.length_drop, reachBytes] at this
        omega
      refine ⟨ss.take len0, ?_, ?_, by rw [hlen]; exact hreach⟩
      · refine ⟨some b, cap0, by rw [hlen], by rw [hlen]; exact hl, hm, fun i hi => ?_⟩
        have hi2 : i < len0 := by rw [← hlen]; exact hi
        have h2 := hcell i (by omega)
        obtain ⟨g, off, spot⟩ := b
        have hspot : spot = none := by simpa [Addr.add] using World.cell?_spot (hcell 0 (by omega))
        subst hspot
        have hbW : g < W.heap.size := hlt0 (.cell g off) (by rw [hx2]; exact MemPlace.mem_row.2 ⟨0, by omega, by simp⟩)
        refine ⟨g, off, rfl, hbW, ?_⟩
        rw [add_plain, List.getD_eq_getElem?_getD, List.getElem?_eq_getElem (by omega), Option.getD_some] at h2
        rw [h2, tx_lt hi, List.getElem_take]
      · intro i hi
        rw [tx_lt hi]
        exact hws _ (List.mem_of_mem_take (List.getElem_mem hi))
  obtain ⟨l0, t0, s0, z0⟩ := T0
  have T1 : ∃ ss : List ByteArray, TxsW W (.slice pa1 len1 cap1) ss ∧ Szs ss ∧ ss.length * 16 ≤ 140737488355328 := by
    rcases open_strings Try.underlying22 Try.underlying9 cellsS hf1 with ⟨hcs, hx⟩ | ⟨b, len', cap', ss, hcs, _, hl, hm, hz, hx, hcell, hws⟩
    · simp [Value.cells] at hcs
      obtain ⟨rfl, rfl, rfl⟩ := hcs
      exact ⟨[], (Txs.nil W).weak, Szs.nil, by decide⟩
    · simp [Value.cells] at hcs
      obtain ⟨rfl, rfl, rfl⟩ := hcs
      simp only [Prod.mk.injEq] at hx
      obtain ⟨rfl, hx2⟩ := hx
      simp only [if_true] at hz
      have hlen : (ss.take len1).length = len1 := by rw [List.length_take]; omega
      have hreach : len1 * 16 ≤ 140737488355328 := by
        have := sized_slice hsz (j := 1) (t := 22) (e := 9) rfl rfl Try.underlying22
        rw [bytesS] at this
        simp only [strs, List.length_map, List.length_take, List.length_drop, reachBytes] at this
        omega
      refine ⟨ss.take len1, ?_, ?_, by rw [hlen]; exact hreach⟩
      · refine ⟨some b, cap1, by rw [hlen], by rw [hlen]; exact hl, hm, fun i hi => ?_⟩
        have hi2 : i < len1 := by rw [← hlen]; exact hi
        have h2 := hcell i (by omega)
        obtain ⟨g, off, spot⟩ := b
        have hspot : spot = none := by simpa [Addr.add] using World.cell?_spot (hcell 0 (by omega))
        subst hspot
        have hbW : g < W.heap.size := hlt1 (.cell g off) (by rw [hx2]; exact MemPlace.mem_row.2 ⟨0, by omega, by simp⟩)
        refine ⟨g, off, rfl, hbW, ?_⟩
        rw [add_plain, List.getD_eq_getElem?_getD, List.getElem?_eq_getElem (by omega), Option.getD_some] at h2
        rw [h2, tx_lt hi, List.getElem_take]
      · intro i hi
        rw [tx_lt hi]
        exact hws _ (List.mem_of_mem_take (List.getElem_mem hi))
  obtain ⟨l1, t1, s1, z1⟩ := T1
  refine (pown_walk t0 t1 s0 s1 w2 w3 z0 z1).mono fun e W' ⟨he, hg⟩ => ?_
  subst he
  refine ⟨_, rfl, _, _, _, [] ++ [], p0 ++ (p1 ++ ([] ++ ([] ++ []))), [], hW', ?_, ?_, rfl, hg.frame _, fun h => by cases h⟩
  · exact trodAll_cons_mk (shut_bool Try.underlying4 _) trodAll_mk0
  · exact (trodAll_cons_mk (Below.trod laidOut (by kernel_rfl) (of_decide_eq_true (by kernel_rfl)) h0k hg hlt0) (trodAll_cons_mk (Below.trod laidOut (by kernel_rfl) (of_decide_eq_true (by kernel_rfl)) h1k hg hlt1) (trodAll_cons_mk (shut_string Try.underlying9 w2) (trodAll_cons_mk (shut_string Try.underlying9 w3) trodAll_mk0))))

/-- The law PolyOwn: every input. -/
theorem proved : Rows.PolyOwnSaid :=
  OpenClaim.holds_of_wide 6 Try.f6 rfl rfl rfl rfl rfl rfl rfl ⟨rfl, rfl, rfl, rfl, rfl⟩ rfl rfl rfl rfl rfl (by kernel_rfl) Try.func6 (by kernel_rfl)
    (of_decide_eq_true (by kernel_rfl)) (by unfold Func.isWrapper; first | (rw [if_pos (by decide +kernel)]; kernel_rfl) | (rw [if_neg (by decide +kernel)]; exact ⟨rfl, rfl⟩))
    (fun os started H enc _ => lifted os started H enc)
#print axioms proved
end Go.Proofs.Ytmghcankdaomgaa.polyOwn
