import Derived.Test.YtjeeepcnaaadmaaGreatDoorBunProofCfTells18
namespace Go.Proofs.YtjeeepcnaaadmaaGreatDoor
open Go.RowKit
open Num
set_option linter.unusedVariables false

theorem dist_text {a b c s ac bc x y : ByteArray} (h1 : QTells (· + ·) a b s 0) (h2 : QTells (· * ·) a c ac 0) (h3 : QTells (· * ·) b c bc 0) (h4 : QTells (· * ·) s c x 0) (h5 : QTells (· + ·) ac bc y 0) : x = y := by
  have e1 := (h1.yes rfl).2.2
  have e2 := (h2.yes rfl).2.2
  have e3 := (h3.yes rfl).2.2
  have e4 := (h4.yes rfl).2.2
  have e5 := (h5.yes rfl).2.2

  rw [e4, e5, e1, e2, e3, qnum_qtxt, qnum_qtxt, qnum_qtxt, Rat.add_mul]
theorem cancel_text {a b q p : ByteArray} (h1 : QDivs a b q 0) (h2 : QTells (· * ·) q b p 0) : p = a := by
  obtain ⟨g1, g2, g3, e1⟩ := h1.yes rfl
  have e2 := (h2.yes rfl).2.2

  rw [e2, e1, qnum_qtxt, Rat.div_mul_cancel g3]
  exact qtxt_good g1
theorem zero_text {b : ByteArray} (h : GoodQ b) (h0 : qnum b = 0) : b = ⟨#[48]⟩ := by
  rw [← qtxt_good h, h0, qtxt_zero]
theorem addc_text {a b s t : ByteArray} (h1 : QTells (· + ·) a b s 0) (h2 : QTells (· + ·) b a t 0) : s = t := by
  have e1 := (h1.yes rfl).2.2
  have e2 := (h2.yes rfl).2.2

  rw [e1, e2, Rat.add_comm]
theorem mulc_text {a b s t : ByteArray} (h1 : QTells (· * ·) a b s 0) (h2 : QTells (· * ·) b a t 0) : s = t := by
  have e1 := (h1.yes rfl).2.2
  have e2 := (h2.yes rfl).2.2

  rw [e1, e2, Rat.mul_comm]
theorem toList_ne {a b : ByteArray} (h : a ≠ b) : (a.toList == b.toList) = false ∧ ¬ a.toList = b.toList := by
  have h1 : ¬ a.toList = b.toList := by
    intro e
    rw [ByteArray.toList_eq, ByteArray.toList_eq] at e
    exact h (ba_ext e)
  exact ⟨by simpa using h1, h1⟩
theorem less_true {a b : ByteArray} {t : Bool} (h : QLess a b t 0) (hl : qnum a < qnum b) : t = true := by
  rw [(h.yes rfl).2.2]; exact decide_eq_true hl
theorem less_false {a b : ByteArray} {t : Bool} (h : QLess a b t 0) (hl : ¬ qnum a < qnum b) : t = false := by
  rw [(h.yes rfl).2.2]; exact decide_eq_false hl
theorem rat_tri (p q : Rat) : p < q ∨ p = q ∨ q < p := by grind
theorem rat_asym {p q : Rat} (h : p < q) : ¬ q < p := by grind
theorem same_of_num {a b : ByteArray} (ha : GoodQ a) (hb : GoodQ b) (h : qnum a = qnum b) : a = b := by
  rw [← qtxt_good ha, h, qtxt_good hb]
theorem less_trans {a b c : ByteArray} {x z v : Bool} (h1 : QLess a b x 0) (h2 : QLess b c z 0) (h3 : QLess a c v 0) (hx : x = true) (hz : z = true) : v = true := by
  have e1 := (h1.yes rfl).2.2
  have e2 := (h2.yes rfl).2.2
  rw [hx] at e1; rw [hz] at e2
  have l1 := of_decide_eq_true e1.symm
  have l2 := of_decide_eq_true e2.symm
  exact less_true h3 (by grind)
theorem less_shift {a b c ac bc : ByteArray} {x u : Bool} (h1 : QLess a b x 0) (h2 : QTells (· + ·) a c ac 0) (h3 : QTells (· + ·) b c bc 0) (h4 : QLess ac bc u 0) : u = x := by
  rw [(h4.yes rfl).2.2, (h1.yes rfl).2.2, (h2.yes rfl).2.2, (h3.yes rfl).2.2, qnum_qtxt, qnum_qtxt]
  exact decide_eq_decide.2 Rat.add_lt_add_right

theorem good_one : GoodQ ⟨#[49]⟩ := ⟨by decide, by decide +kernel⟩
theorem qnum_one : qnum ⟨#[49]⟩ = 1 := by decide +kernel
theorem good_half : GoodQ ⟨#[49, 47, 50]⟩ := ⟨by decide, by decide +kernel⟩
theorem qnum_half : qnum ⟨#[49, 47, 50]⟩ = 1 / 2 := by decide +kernel
theorem good_neg : GoodQ ⟨#[45, 49]⟩ := ⟨by decide, by decide +kernel⟩
theorem qnum_neg : qnum ⟨#[45, 49]⟩ = -1 := by decide +kernel

/-- The text of an integer is no longer than that of a greater one of its sign. -/
theorem size_ztxt_mono {y z : Int} (h : y.natAbs ≤ z.natAbs) (hs : y < 0 → z < 0) : (ztxt y).size ≤ (ztxt z).size := by
  rw [size_ztxt, size_ztxt]
  have hl : (dtext y.natAbs).length ≤ (dtext z.natAbs).length := by
    have h1 := dval_lt (dtext_all z.natAbs)
    rw [dval_dtext] at h1
    refine length_dtext_le (Nat.lt_of_le_of_lt h h1) ?_
    exact List.length_pos_iff.2 (dtext_ne _)
  split <;> split <;> omega
theorem floor_good {a : ByteArray} (h : GoodQ a) : GoodQ (ztxt (qnum a).floor) ∧ GoodZ (ztxt (qnum a).floor) := by
  have hs : (ztxt (qnum a).floor).size ≤ 100 := by
    have e := qtxt_good h
    have h1 := h.1
    rw [← e] at h1
    by_cases hd : (qnum a).den = 1
    · rw [qtxt_one hd] at h1
      have e2 : (qnum a).floor = (qnum a).num := by rw [Rat.floor_def, hd]; simp
      rw [e2]; exact h1
    · have hd0 := (qnum a).den_pos
      have h2 : (ztxt (qnum a).num).size ≤ (qtxt (qnum a)).size := by
        have := congrArg List.length (qtxt_two hd)
        rw [List.length_append] at this
        have l1 : (qtxt (qnum a)).data.toList.length = (qtxt (qnum a)).size := rfl
        have l2 : (ztxt (qnum a).num).data.toList.length = (ztxt (qnum a).num).size := rfl
        omega
      refine Nat.le_trans (size_ztxt_mono ?_ ?_) (Nat.le_trans h2 h1)
      · rw [Rat.floor_def]; exact natAbs_ediv_le _ _
      · rw [Rat.floor_def]
        intro hn
        apply Int.lt_of_not_ge
        intro hge
        have := Int.ediv_nonneg hge (show (0 : Int) ≤ (qnum a).den by omega)
        omega
  refine ⟨⟨hs, ?_⟩, hs, isWhl_ztxt _⟩
  rw [← qtxt_int]
  exact isRat_qtxt _
theorem qnum_ztxt (z : Int) : qnum (ztxt z) = z := by rw [← qtxt_int, qnum_qtxt]
theorem floor_not {a : ByteArray} : ¬ qnum a < qnum (ztxt (qnum a).floor) := by
  rw [qnum_ztxt, Rat.not_lt]; exact Rat.floor_le _
theorem floor_next {a g : ByteArray} {y : Bool} (h1 : QTells (· + ·) (ztxt (qnum a).floor) ⟨#[49]⟩ g 0) (h2 : QLess a g y 0) : y = true := by
  refine less_true h2 ?_
  rw [(h1.yes rfl).2.2, qnum_qtxt, qnum_ztxt, qnum_one]
  have := Rat.lt_floor_add_one (qnum a)
  rwa [Rat.intCast_add] at this

/-- A text of an integer reads as that fraction. -/
theorem qnum_whole {s : ByteArray} (h : GoodZ s) : GoodQ s ∧ qnum s = (znum s : Rat) := by
  have e := ztxt_good h
  have h1 : qnum s = (znum s : Rat) := by rw [← qnum_ztxt, e]
  refine ⟨⟨h.1, ?_⟩, h1⟩
  rw [← e, ← qtxt_int]
  exact isRat_qtxt _
theorem make_times {n d a m : ByteArray} (h1 : QMakes n d a 0) (h2 : QTells (· * ·) a d m 0) : m = n := by
  obtain ⟨g1, g2, g3, e1⟩ := h1.yes rfl
  rw [(h2.yes rfl).2.2, e1, qnum_qtxt, (qnum_whole g2).2, Rat.divInt_eq_div, Rat.div_mul_cancel (by intro e; exact g3 (by exact_mod_cast e)), qtxt_int]
  exact ztxt_good g1
theorem make_scaled {n d k a x y b : ByteArray} (h1 : QMakes n d a 0) (h2 : ZTells (· * ·) n k x 0) (h3 : ZTells (· * ·) d k y 0) (h4 : QMakes x y b 0) : a = b := by
  obtain ⟨g1, g2, g3, e1⟩ := h1.yes rfl
  obtain ⟨f1, f2, f3, e4⟩ := h4.yes rfl
  have e2 := (h2.yes rfl).2.2
  have e3 := (h3.yes rfl).2.2
  rw [e3, znum_ztxt] at f3
  rw [e4, e1, e2, e3, znum_ztxt, znum_ztxt]
  have hk : znum k ≠ 0 := by intro e; apply f3; show znum d * znum k = 0; rw [e, Int.mul_zero]
  rw [Rat.divInt_mul_right hk]
theorem between {a b s m : ByteArray} {is x y : Bool} (h1 : QLess a b is 0) (h2 : QTells (· + ·) a b s 0) (h3 : QTells (· * ·) s ⟨#[49, 47, 50]⟩ m 0) (h4 : QLess a m x 0) (h5 : QLess m b y 0) (hi : is = true) : x = true ∧ y = true := by
  have e1 := (h1.yes rfl).2.2
  rw [hi] at e1
  have l := of_decide_eq_true e1.symm
  have em : qnum m = (qnum a + qnum b) * (1 / 2) := by
    rw [(h3.yes rfl).2.2, (h2.yes rfl).2.2, qnum_qtxt, qnum_qtxt, qnum_half]
  exact ⟨less_true h4 (by rw [em]; grind), less_true h5 (by rw [em]; grind)⟩
theorem less_itself {a t z : ByteArray} (h1 : QTells (· * ·) a ⟨#[45, 49]⟩ t 0) (h2 : QTells (· + ·) a t z 0) : z = ⟨#[48]⟩ := by
  rw [(h2.yes rfl).2.2, (h1.yes rfl).2.2, qnum_qtxt, qnum_neg]
  have : qnum a + qnum a * -1 = 0 := by grind
  rw [this, qtxt_zero]

end Go.Proofs.YtjeeepcnaaadmaaGreatDoor
