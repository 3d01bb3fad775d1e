import Derived.Test.YthaidmngikkepaaDoorBunProofCfOwn11
import Derived.Test.YthaidmngikkepaaDoorBunProofCfOwn17
import Derived.Test.YthaidmngikkepaaDoorBunProofCfOwn15
/-
  THE LAW CfOwn's WALK: what comes out of cf.Of is the caller's own, and cf.Back leaves what comes in alone.
-/
namespace Go.Proofs.YthaidmngikkepaaDoor
open Go.RowKit
open Num
set_option linter.unusedVariables false
set_option maxRecDepth 100000
set_option linter.unusedSimpArgs false

theorem half_len : ((cfq (qnum ⟨#[49, 47, 50]⟩)).map ztxt).length = 2 := by
  have e : qnum ⟨#[49, 47, 50]⟩ = 1 / 2 := by decide +kernel
  have n : ((1 : Rat) / 2).num = 1 := by decide +kernel
  have d : ((1 : Rat) / 2).den = 2 := by decide +kernel
  rw [List.length_map, e]
  unfold cfq
  rw [n, d, cfl_pos _ (by decide), show ((1 : Int) % (2 : Nat)).toNat = 1 by decide, cfl_pos _ (by decide), show (((2 : Nat) : Int) % (1 : Nat)).toNat = 0 by decide, cfl_zero]
  rfl
theorem OfTells.short {a : ByteArray} {l : List ByteArray} {k : Int} (h : OfTells a l k) : l.length * 16 ≤ 140737488355328 := by
  rcases h with ⟨_, hg, rfl⟩ | ⟨_, _, rfl⟩
  · have := cfl_len 400 (qnum a).den (qnum a).num (Nat.lt_trans (qnum_lt hg).2 (by decide +kernel))
    rw [List.length_map]
    have h2 : (cfq (qnum a)).length = (cfl (qnum a).num (qnum a).den).length := rfl
    omega
  · exact Nat.zero_le _
theorem OfTells.same {a : ByteArray} {l m : List ByteArray} {k j : Int} (h : OfTells a l k) (h' : OfTells a m j) : j = k ∧ m = l := by
  have hno : ∀ {i : Int}, GoodQ a → BadQ a i → False := by
    rintro i ⟨h1, h2⟩ (⟨h, _⟩ | ⟨_, h, _⟩)
    · omega
    · rw [h2] at h; cases h
  rcases h with ⟨rfl, g1, rfl⟩ | ⟨_, b1, rfl⟩ <;> rcases h' with ⟨rfl, g2, rfl⟩ | ⟨_, b2, rfl⟩
  · exact ⟨rfl, rfl⟩
  · exact (hno g1 b2).elim
  · exact (hno g2 b1).elim
  · refine ⟨?_, rfl⟩
    rcases b1 with ⟨h1, h2⟩ | ⟨h1, h2, h3⟩ <;> rcases b2 with ⟨k1, k2⟩ | ⟨k1, k2, k3⟩ <;> omega
theorem OwnT.apart {w0 w : World} {K L : Nat} {u v : Value} {ss ts : List ByteArray} (h : OwnT w K u ss) (h' : OwnT w0 L v ts) (hK : w0.heap.size ≤ K) : u.ownBlock = none ∨ u.ownBlock ≠ v.ownBlock := by
  cases e : u.ownBlock with
  | none => exact .inl rfl
  | some g =>
    refine .inr fun h2 => ?_
    have h3 := (World.ownsRow.lt h g e).1
    have h4 := (World.ownsRow.lt h' g h2.symm).2
    omega

set_option maxHeartbeats 4000000 in
theorem cfown_walk (a x : ByteArray) (v : Value) (ss : List ByteArray) (ha : a.size ≤ maxLen) (w : World) (hv : TxsW w v ss) (hs : ∀ i, i < ss.length → (tx ss i).size ≤ maxLen) (hr : ss.length * 16 ≤ 140737488355328) (hd : Door w) :
    Calls Tryd.prog 3 #[.string a, v, .string x] w fun e w' => e = .returned (.bool true) ∧ Below w.heap.size w w' := by
  have hne := errv_neq
  have heq := errv_eql
  have hgd := errv_guard
  have V0 := hid hv
  have HS := hid hs
  have HR := hid hr
  have HD := hid hd
  clear hv hs hr hd
  go_enter Tryd.func3, Tryd.ntmps3
  go_wp2_with fail
  refine (of_any a ha w).mono ?_
  rintro e w1 ⟨v1, l1, k1, rfl, ho, t1, hb⟩
  have B := hid hb
  have O1 := hid ho
  have T1 := hid t1
  clear hb ho t1
  go_wp2_with fail
  refine (copied_any O1.out.txs.weak T1.out.short).mono ?_
  rintro e w2 ⟨u, rfl, hu, hb⟩
  have HNE := hid (hu.apart O1.out.1 (Nat.le_refl _))
  have O2 := hid (O1.out.on hb)
  have U2 := hid hu
  replace B := bb B hb
  clear hb hu O1
  go_wp2_with fail
  refine (spoil_any O2.out.1 x).mono ?_
  rintro e w3 ⟨rfl, hg⟩
  have U3 := hid (OwnT.txs (World.ownsRow.kept U2.out hg HNE.out))
  replace B := hid (O2.out.grown B.out B.out.size hg)
  clear hg U2 O2 HNE
  go_wp2_with fail
  refine (of_any a ha w3).mono ?_
  rintro e w4 ⟨v4, l4, k4, rfl, ho, t4, hb⟩
  obtain ⟨rfl, rfl⟩ := T1.out.same t4
  have O4 := hid ho.txs
  replace U3 := hid (U3.out.on hb)
  replace B := bb B hb
  clear hb ho t4
  go_wp2_with fail
  refine (copied_any (V0.out.below B.out (Nat.le_refl _)) HR.out).mono ?_
  rintro e w5 ⟨own, rfl, hw, hb⟩
  have W5 := hid hw.txs
  replace O4 := hid (O4.out.on hb)
  replace U3 := hid (U3.out.on hb)
  replace B := bb B hb
  clear hb hw
  go_wp2_with fail
  refine (back_any W5.out HS.out).mono ?_
  rintro e w6 ⟨s6, k6, rfl, _, hb⟩
  replace W5 := hid (W5.out.on hb)
  replace O4 := hid (O4.out.on hb)
  replace U3 := hid (U3.out.on hb)
  replace B := bb B hb
  clear hb
  go_wp2_with fail
  have hc := same_texts O4.out U3.out
  rw [decide_eq_true rfl] at hc
  refine hc.mono ?_
  clear hc
  rintro e w7 ⟨rfl, hb⟩
  replace W5 := hid (W5.out.on hb)
  replace B := bb B hb
  clear hb O4 U3
  go_wp2_with fail
  refine (same_w W5.out (V0.out.below B.out (Nat.le_refl _))).mono ?_
  rintro e w8 ⟨rfl, hb⟩
  replace B := bb B hb
  clear hb W5
  go_wp2_with fail
  refine (told_two k4 w8 (HD.out.below B.out)).mono ?_
  rintro e w9 ⟨rfl, hb⟩
  replace B := bb B hb
  clear hb
  go_wp2_with fail
  refine (of_good (s := ⟨#[49, 47, 50]⟩) ⟨by decide, by decide +kernel⟩ w9).mono ?_
  rintro e w10 ⟨v10, rfl, ho, hb⟩
  replace B := bb B hb
  obtain ⟨p, c, rfl, hn, hc, hp⟩ := ho.txs
  rw [half_len]
  clear hb ho hn hc hp
  go_wp2_with fail
  go_ret
  exact ⟨rfl, B.out⟩

end Go.Proofs.YthaidmngikkepaaDoor
