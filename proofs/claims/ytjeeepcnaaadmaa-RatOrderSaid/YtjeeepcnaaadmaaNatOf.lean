/-
  PACKAGE nat: Of, Gcd.
-/
import Derived.Test.YtjeeepcnaaadmaaDiv
import Derived.Deep.LoopGhost
namespace Go.Proofs.Ytjeeepcnaaadmaa
open Go.RowKit
open Num
set_option linter.unusedVariables false
set_option maxRecDepth 100000
set_option linter.unusedSimpArgs false

theorem val_two (a b : Nat) : val [a, b] = a + 4294967296 * b := by simp [val, B_eq]

set_option maxHeartbeats 400000 in
theorem natof_lim (n : Nat) (hn : n < 18446744073709551616) (w : World) :
    Calls Try.prog 96 #[.int .u64 n] w fun e w' => ∃ v zs, e = .returned v ∧ Lim w' v zs ∧ Trim zs ∧ zs.length ≤ 2 ∧ val zs = n ∧ Below w.heap.size w w' := by
  have h1 := Blk.new w [n % 4294967296, n / 4294967296]
  have hb := (Below.refl _ _).alloc (Nat.le_refl w.heap.size) (.cells (cellsOf [n % 4294967296, n / 4294967296]) 108)
  have hf : Fits [n % 4294967296, n / 4294967296] := by
    intro i
    rcases i with _ | _ | i <;> simp [dg] <;> omega
  have hl := h1.lim hf 0 2 2 (by simp) (Nat.le_refl _) (by unfold maxLen; omega)
  have hv : val [n % 4294967296, n / 4294967296] = n := by rw [val_two]; omega
  have hlen : (trimL [n % 4294967296, n / 4294967296]).length ≤ 2 := by rw [length_trimL]; exact tlen_le _
  have HT := hid (trim_lim hl)
  have HV := hid hv
  have HB := hid hb
  have HL := hid hlen
  clear h1 hb hf hl hv hlen
  go_enter Try.func96, Try.ntmps96
  go_wp2_with fail
  refine HT.out.mono ?_
  rintro e w' ⟨v, rfl, hL, rfl⟩
  go_wp2_with fail
  go_ret
  exact ⟨v, _, rfl, hL, trim_trimL _, HL.out, by rw [val_trimL]; exact HV.out, HB.out⟩

set_option maxHeartbeats 1000000 in
theorem gcd_lim {w : World} {v u : Value} {xs ys : List Nat} {K : Nat} (h1 : Lim w v xs) (h2 : Lim w u ys) (b1 : xs.length ≤ K) (b2 : ys.length ≤ K) (hK : K ≤ 1099511627776) :
    Calls Try.prog 99 #[v, u] w fun e w' => ∃ v zs, e = .returned v ∧ Lim w' v zs ∧ Trim zs ∧ zs.length ≤ K ∧ val zs = Nat.gcd (val xs) (val ys) ∧ Below w.heap.size w w' := by
  have HT1 := hid (trim_lim h1)
  have HT2 := hid (trim_lim h2)
  have HG := hid (show Nat.gcd (val (trimL xs)) (val (trimL ys)) = Nat.gcd (val xs) (val ys) by rw [val_trimL, val_trimL])
  have l1 : (trimL xs).length ≤ K := by rw [length_trimL]; exact Nat.le_trans (tlen_le xs) b1
  have l2 : (trimL ys).length ≤ K := by rw [length_trimL]; exact Nat.le_trans (tlen_le ys) b2
  have t1 := trim_trimL xs
  have t2 := trim_trimL ys
  generalize Nat.gcd (val xs) (val ys) = G at *
  generalize trimL xs = us at *
  generalize trimL ys = vs at *
  have L1 := hid l1
  have L2 := hid l2
  have T1 := hid t1
  have T2 := hid t2
  clear h1 h2 b1 b2 l1 l2 t1 t2
  go_enter Try.func99, Try.ntmps99
  go_wp2_with fail
  refine HT1.out.mono ?_
  rintro e w' ⟨v1, rfl, hL1, rfl⟩
  have HL1 := hid hL1
  clear hL1
  go_wp2_with fail
  refine HT2.out.mono ?_
  rintro e w' ⟨v2, rfl, hL2, rfl⟩
  have HL2 := hid hL2
  clear hL2
  go_wp2_with fail
  go_loopg [5, 6] (val vs) (fun g a b wr => ∃ (as' bs : List Nat) (p : Option Addr) (c : Nat), b = .slice p bs.length c ∧ Hid (Lim wr a as') ∧ Hid (Lim wr b bs) ∧ Hid (Trim as') ∧ Hid (Trim bs) ∧ Hid (as'.length ≤ K) ∧ Hid (bs.length ≤ K) ∧ Hid (Nat.gcd (val as') (val bs) = G) ∧ Hid (val bs = g) ∧ Hid (Below w.heap.size w wr))
  case atStart =>
    obtain ⟨p, c, rfl, _⟩ := lim_parts HL2.out
    exact ⟨us, vs, p, c, rfl, HL1, HL2, T1, T2, L1, L2, HG, hid rfl, hid (Below.refl _ _)⟩
  case round =>
    obtain ⟨as', bs, p, c, rfl, hA, hB, tA, tB, lA, lB, hG, hg, hbw⟩ := hrel
    have hbl := lB.out
    by_cases h0 : val bs = 0
    · have he : bs = [] := tB.out.zero_iff.1 h0
      have hG2 := hG.out
      rw [h0, Nat.gcd_zero_right] at hG2
      have HG2 := hid hG2
      subst he
      have HC := hid (clone_lim hA.out (Nat.le_trans lA.out hK))
      clear hG2 h0 hbl
      simp only [List.length_nil]
      go_wp2_with fail
      refine HC.out.mono ?_
      rintro e w2 ⟨v, rfl, hL, _, hb2⟩
      have HB2 := hid (hbw.out.trans (hb2.mono hbw.out.size))
      clear hb2 HC
      go_wp2_with fail
      go_ret
      exact ⟨v, as', rfl, hL, tA.out, lA.out, HG2.out, HB2.out⟩
    · have hD := div_lim hA.out hB.out (Nat.le_trans lA.out hK) (Nat.le_trans lB.out hK) (Nat.pos_of_ne_zero h0)
      have HD := hid hD
      have H0 := hid h0
      have hn : bs ≠ [] := fun e => h0 (by rw [e]; rfl)
      have hpos : (0 : Int) < (bs.length : Int) := by have := List.length_pos_iff.2 hn; omega
      generalize hN : bs.length = n at *
      have HN := hid hN
      clear hD h0 hn hN
      go_wp2_with fail
      refine HD.out.mono ?_
      rintro e w2 ⟨q, r, qs, rs, rfl, hq, hr, tq, tr, vq, vr, hb2⟩
      have HR := hid hr
      have TR := hid tr
      have VR := hid vr
      have HB2 := hid (hbw.out.trans (hb2.mono hbw.out.size))
      have HB' := hid (hB.out.below hb2 (Nat.le_refl _))
      clear hq hr tq tr vq vr hb2 HD
      go_wp2_with fail
      go_roundg (val rs)
      case rel =>
        obtain ⟨p', c', rfl, _⟩ := lim_parts HR.out
        have hlt : val rs < val bs := by rw [VR.out]; exact Nat.mod_lt _ (Nat.pos_of_ne_zero H0.out)
        refine ⟨bs, rs, p', c', rfl, HB', HR, tB, TR, hid (by rw [HN.out]; exact hbl), ?_, ?_, hid rfl, HB2⟩
        · refine hid (Nat.le_trans (length_le_of_val TR.out bs.length (Nat.lt_trans hlt (val_lt hB.out.1))) ?_)
          rw [HN.out]; exact hbl
        · refine hid ?_
          rw [VR.out, Nat.gcd_comm, ← Nat.gcd_rec, Nat.gcd_comm]; exact hG.out
      case measure =>
        rw [← hg.out, VR.out]; exact Nat.mod_lt _ (Nat.pos_of_ne_zero H0.out)

end Go.Proofs.Ytjeeepcnaaadmaa

