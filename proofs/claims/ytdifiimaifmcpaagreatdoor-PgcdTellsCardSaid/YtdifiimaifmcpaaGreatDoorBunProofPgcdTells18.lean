import Derived.Test.YtdifiimaifmcpaaGreatDoorBunProofPgcdTells17
import Derived.Test.YtdifiimaifmcpaaGreatDoorBunProofPgcdTells14
/-
  THE REFERENCE's Z: DivZ (on), WholeOf.
-/
namespace Go.Proofs.YtdifiimaifmcpaaGreatDoor
open Go.RowKit
open Num4
open Num (dg isNat dval)
set_option linter.unusedVariables false
set_option maxRecDepth 100000
set_option linter.unusedSimpArgs false

/-- A text that is an integer is read. -/
theorem rwholeof_good {s : ByteArray} (h : GoodZ s) (w : World) :
    Calls Tryz.prog 50 #[.string s] w fun e w' => ∃ v, e = .returned (.tuple #[v, .int .i64 0]) ∧ WhlR w' v (znum s) 100 ∧ Below w.heap.size w w' := by
  obtain ⟨x0, bw, sz⟩ := rboxes1 w false (.slice none 0 0) ⟨_, _, _, rfl⟩
  have X0 := hid x0
  have BW := hid bw
  have hzl := znum_lt h
  obtain ⟨hs, hn⟩ := h
  have hs' : (s.size : Int) ≤ 100 := by omega
  cases hb : (s.data.toList.head? == some 45)
  · have h2 : isNat s.data.toList = true := by rw [isWhl, hb] at hn; simpa using hn
    have hne := Num.isNat_ne h2
    have hpos : 0 < s.size := List.length_pos_iff.2 hne
    have hnc : ¬ (s[0].toNat : Int) = 45 := by
      intro e
      rw [head_at s hpos, (u8_eq (n := 45) (by omega)).2 e] at hb
      exact absurd hb (by decide)
    have HN := hid (fun w => natof_num (s := s) ⟨hs, h2⟩ w)
    have HW := hid (show znum s = (num s : Int) by unfold znum num; rw [whlOf, hb]; rfl)
    have hps : (0 : Int) < (s.size : Int) := by omega
    clear hb h2 hne hn x0 bw sz hs hzl
    go_enter Tryz.func50, Tryz.ntmps50
    go_wp2_with fail
    refine (HN.out _).mono ?_
    rintro e w1 ⟨v, xs, rfl, hl, ht, hv, hle, hb⟩
    obtain ⟨p, n, c, rfl⟩ := hl.slice
    have x1 := X0.out.below hb X0.out.lt
    obtain ⟨c0, f0, c1, f1⟩ := x1.stores
    have HV := hid (show WhlR w1 (.agg #[.bool false, .slice p n c]) (znum s) 100 from ⟨false, _, xs, rfl, hl, ht, hle, fun e => by simp at e, by rw [HW.out, hv]; rfl⟩)
    have X1 := hid x1
    have HB := hid (BW.out.trans (hb.mono BW.out.size))
    clear hl ht hv hle hb x1 HN
    go_wp2_with fail
    obtain ⟨r1, r2, r3⟩ := X1.out.last HB.out (Nat.le_refl _) false p n c
    refine bodyPost_ret (res_cell_tmpR rfl rfl rfl r1) rfl ?_
    exact ⟨_, rfl, r3 HV.out, r2⟩
  · obtain ⟨hc1, hc2⟩ := tail_cut hb
    have hcz : cutZ 45 s = s.extract 1 s.size := by rw [cutZ, hb]; rfl
    have h2 : isNat s.data.toList.tail = true ∧ dval s.data.toList.tail ≠ 0 := by
      rw [isWhl, hb] at hn
      simpa using hn
    have hpos : 0 < s.size := by omega
    have hnc : (s[0].toNat : Int) = 45 := by
      have h1 := head_at s hpos
      cases hd : s.data.toList with
      | nil => rw [hd] at hb; simp at hb
      | cons a l =>
        rw [hd] at hb h1
        simp only [List.head?_cons, Option.some_beq_some, beq_iff_eq, Option.some.injEq] at hb h1
        rw [← h1, hb]; rfl
    have HN := natof_num (s := cutZ 45 s) ⟨by omega, by rw [hc1]; exact h2.1⟩
    have hw : znum s = -(num (cutZ 45 s) : Int) := by unfold znum num; rw [hc1, whlOf, hb]; rfl
    have hd0 : num (cutZ 45 s) ≠ 0 := by unfold num; rw [hc1]; exact h2.2
    rw [hcz] at HN hw hd0
    have HN := hid HN
    have HW := hid hw
    have HD := hid hd0
    have hps : (1 : Int) ≤ (s.size : Int) := by omega
    clear hb h2 hc1 hc2 hcz hn x0 bw sz hs hzl hw hd0
    go_enter Tryz.func50, Tryz.ntmps50
    go_wp2_with fail
    refine (HN.out _).mono ?_
    rintro e w1 ⟨v, xs, rfl, hl, ht, hv, hle, hb⟩
    have hn0 : ∃ n, xs.length = n ∧ (n : Int) ≠ 0 := by
      refine ⟨_, rfl, ?_⟩
      have h1 := HD.out
      rw [← hv] at h1
      cases xs with
      | nil => simp [val] at h1
      | cons => simp; omega
    obtain ⟨n, hn, hn0⟩ := hn0
    obtain ⟨p, c, rfl, _⟩ := limR_parts hl
    rw [hn] at *
    have x1 := X0.out.below hb X0.out.lt
    obtain ⟨c0, f0, c1, f1⟩ := x1.stores
    have HV := hid (show WhlR w1 (.agg #[.bool true, .slice p n c]) (znum s) 100 from ⟨true, _, xs, rfl, hl, ht, by omega, fun e => by rw [hv]; exact HD.out, by rw [HW.out, hv]; rfl⟩)
    have X1 := hid x1
    have HB := hid (BW.out.trans (hb.mono BW.out.size))
    clear hl ht hv hle hb x1 HN hn
    go_wp2_with fail
    obtain ⟨r1, r2, r3⟩ := X1.out.last HB.out (Nat.le_refl _) true p n c
    refine bodyPost_ret (res_cell_tmpR rfl rfl rfl r1) rfl ?_
    exact ⟨_, rfl, r3 HV.out, r2⟩

end Go.Proofs.YtdifiimaifmcpaaGreatDoor

/-
  THE REFERENCE's Z: GcdZ.
-/
namespace Go.Proofs.YtdifiimaifmcpaaGreatDoor
open Go.RowKit
open Num4
open Num (dg isNat dval zg zg_zero zg_step zg_ind zg_small)
set_option linter.unusedVariables false
set_option maxRecDepth 100000
set_option linter.unusedSimpArgs false

theorem WhlR.lt {w : World} {v : Value} {z : Int} {k : Nat} (h : WhlR w v z k) : z.natAbs < B ^ k := by
  obtain ⟨s, sv, xs, h1, h2, h3, h4, h5, h6⟩ := h
  rw [← h6, natAbs_zof]
  exact few4 h2.1 h4

end Go.Proofs.YtdifiimaifmcpaaGreatDoor

/-
  THE REFERENCE's WholeOf OF ANY TEXT.
-/
namespace Go.Proofs.YtdifiimaifmcpaaGreatDoor
open Go.RowKit
open Num4
open Num (dg isNat dval zg zg_zero zg_step zg_ind zg_small)
set_option linter.unusedVariables false
set_option maxRecDepth 100000
set_option linter.unusedSimpArgs false

set_option maxHeartbeats 1000000 in
theorem rwholeof_bad {s : ByteArray} {k : Int} (h : BadZ s k) (w : World) (hs : s.size ≤ maxLen) :
    Calls Tryz.prog 50 #[.string s] w fun e w' => ∃ t p n c, e = .returned (.tuple #[.agg #[.bool t, .slice p n c], .int .i64 k]) ∧ Below w.heap.size w w' := by
  obtain ⟨x0, bw, sz⟩ := rboxes1 w false (.slice none 0 0) ⟨_, _, _, rfl⟩
  have X0 := hid x0
  have BW := hid bw
  unfold maxLen at hs
  rcases h with ⟨h, rfl⟩ | ⟨h, hn, rfl⟩
  · have h' : (100 : Int) < (s.size : Int) := by omega
    clear x0 bw sz h
    go_enter Tryz.func50, Tryz.ntmps50
    go_wp2_with fail
    refine bodyPost_ret (res_cell_tmpR rfl rfl rfl X0.out) rfl ?_
    exact ⟨_, _, _, _, rfl, BW.out⟩
  · have h' : (s.size : Int) ≤ 100 := by omega
    have fin : ∀ (w1 : World) (a : Bool) (p : Option Addr) (n c : Nat), Below (w.alloc (.cells #[.bool false, .slice none 0 0] 43)).heap.size (w.alloc (.cells #[.bool false, .slice none 0 0] 43)) w1 → BoxR ((w1.setCell ⟨w.heap.size, 0, none⟩ (.bool a)).setCell ⟨w.heap.size, 1, none⟩ (.slice p n c)) w.heap.size a (.slice p n c) ∧ Below w.heap.size w ((w1.setCell ⟨w.heap.size, 0, none⟩ (.bool a)).setCell ⟨w.heap.size, 1, none⟩ (.slice p n c)) := by
      intro w1 a p n c hb
      obtain ⟨r1, r2, r3⟩ := (X0.out.below hb X0.out.lt).last (BW.out.trans (hb.mono BW.out.size)) (Nat.le_refl _) a p n c
      exact ⟨r1, r2⟩
    have FIN := hid fin
    have sto : ∀ (w1 : World), Below (w.alloc (.cells #[.bool false, .slice none 0 0] 43)).heap.size (w.alloc (.cells #[.bool false, .slice none 0 0] 43)) w1 → _ := fun w1 hb => (X0.out.below hb X0.out.lt).stores
    have STO := hid sto
    clear x0 bw sz fin sto
    by_cases hp : (0 : Int) < (s.size : Int)
    · have hpos : 0 < s.size := by omega
      have hh := head_at s hpos
      by_cases hm : (s[0].toNat : Int) = 45
      · have hb : (s.data.toList.head? == some 45) = true := by
          rw [hh, (u8_eq (n := 45) (by omega)).2 hm]; rfl
        obtain ⟨hc1, hc2⟩ := tail_cut hb
        have hcz : cutZ 45 s = s.extract 1 s.size := by rw [cutZ, hb]; rfl
        have h1 : (1 : Int) ≤ (s.size : Int) := by omega
        by_cases h2 : isNat s.data.toList.tail = true
        · have h3 : dval s.data.toList.tail = 0 := by
            rw [isWhl, hb] at hn
            simpa [h2] using hn
          have HN := natof_num (s := cutZ 45 s) ⟨by omega, by rw [hc1]; exact h2⟩
          have hd0 : num (cutZ 45 s) = 0 := by unfold num; rw [hc1]; exact h3
          rw [hcz] at HN hd0
          have HN := hid HN
          have HD := hid hd0
          clear hb h2 hc1 hc2 hcz hn h3 hd0 hh h
          go_enter Tryz.func50, Tryz.ntmps50
          go_wp2_with fail
          refine (HN.out _).mono ?_
          rintro e w1 ⟨v, xs, rfl, hl, ht, hv, hle, hb⟩
          have h4 : xs = [] := ht.zero_iff.1 (by rw [hv, HD.out])
          subst h4
          obtain ⟨p, c, rfl, _⟩ := limR_parts hl
          obtain ⟨c0, f0, c1, f1⟩ := STO.out w1 hb
          have HF := hid (FIN.out w1 true p 0 c hb)
          clear hl ht hv hle hb HN STO FIN
          simp only [List.length_nil]
          go_wp2_with fail
          refine bodyPost_ret (res_cell_tmpR rfl rfl rfl HF.out.1) rfl ?_
          exact ⟨_, _, _, _, rfl, HF.out.2⟩
        · have h2' : isNat (cutZ 45 s).data.toList = false := by rw [hc1]; simpa using h2
          have HN := fun w => natof_bad (s := cutZ 45 s) (k := 1) w (by unfold maxLen; omega) (.inr ⟨by omega, h2', rfl⟩)
          rw [hcz] at HN
          have HN := hid HN
          clear hb h2 hc1 hc2 hcz hn h2' hh h
          go_enter Tryz.func50, Tryz.ntmps50
          go_wp2_with fail
          refine (HN.out _).mono ?_
          rintro e w1 ⟨rfl, hb⟩
          obtain ⟨c0, f0, c1, f1⟩ := STO.out w1 hb
          have HF := hid (FIN.out w1 true none 0 0 hb)
          clear hb HN STO FIN
          go_wp2_with fail
          refine bodyPost_ret (res_cell_tmpR rfl rfl rfl HF.out.1) rfl ?_
          exact ⟨_, _, _, _, rfl, HF.out.2⟩
      · have hb : (s.data.toList.head? == some 45) = false := by
          rw [hh, beq_eq_false_iff_ne]
          intro e
          simp only [Option.some.injEq] at e
          exact hm (by rw [e]; rfl)
        have h2 : isNat s.data.toList = false := by rw [isWhl, hb] at hn; simpa using hn
        have HN := hid (fun w => natof_bad (s := s) (k := 1) w (by unfold maxLen; omega) (.inr ⟨h, h2, rfl⟩))
        clear hb h2 hn hh h
        go_enter Tryz.func50, Tryz.ntmps50
        go_wp2_with fail
        refine (HN.out _).mono ?_
        rintro e w1 ⟨rfl, hb⟩
        obtain ⟨c0, f0, c1, f1⟩ := STO.out w1 hb
        have HF := hid (FIN.out w1 false none 0 0 hb)
        clear hb HN STO FIN
        go_wp2_with fail
        refine bodyPost_ret (res_cell_tmpR rfl rfl rfl HF.out.1) rfl ?_
        exact ⟨_, _, _, _, rfl, HF.out.2⟩
    · have hb : (s.data.toList.head? == some 45) = false := by
        have hl : s.data.toList.length = s.size := rfl
        cases hd : s.data.toList with
        | nil => rfl
        | cons a l => rw [hd] at hl; simp at hl; omega
      have h2 : isNat s.data.toList = false := by rw [isWhl, hb] at hn; simpa using hn
      have HN := hid (fun w => natof_bad (s := s) (k := 1) w (by unfold maxLen; omega) (.inr ⟨h, h2, rfl⟩))
      clear hb h2 hn h
      go_enter Tryz.func50, Tryz.ntmps50
      go_wp2_with fail
      refine (HN.out _).mono ?_
      rintro e w1 ⟨rfl, hb⟩
      obtain ⟨c0, f0, c1, f1⟩ := STO.out w1 hb
      have HF := hid (FIN.out w1 false none 0 0 hb)
      clear hb HN STO FIN
      go_wp2_with fail
      refine bodyPost_ret (res_cell_tmpR rfl rfl rfl HF.out.1) rfl ?_
      exact ⟨_, _, _, _, rfl, HF.out.2⟩

theorem rtextn {w : World} {v : Value} {z : Int} {k : Nat} (h : WhlR w (.agg #[.bool false, v]) z k) (hk : k ≤ 68719476736) :
    Calls Tryz.prog 34 #[v] w fun e w' => e = .returned (.string (ztxt z)) ∧ Below w.heap.size w w' := by
  obtain ⟨s, sv, xs, he, hl, ht, hle, _, hz⟩ := h
  simp only [Value.agg.injEq, Array.mk.injEq, List.cons.injEq, Value.bool.injEq, and_true] at he
  obtain ⟨rfl, rfl⟩ := he
  have e : ztxt z = txt (val xs) := by
    rw [← hz]
    show ztxt ((val xs : Nat) : Int) = _
    rw [ztxt, if_neg (by omega)]; rfl
  rw [e]
  exact rtext_lim hl (by omega)

end Go.Proofs.YtdifiimaifmcpaaGreatDoor
