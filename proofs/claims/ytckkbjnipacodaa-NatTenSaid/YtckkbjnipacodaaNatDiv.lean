import Derived.Test.YtckkbjnipacodaaDiv
namespace Go.Proofs.Ytckkbjnipacodaa
open Go.RowKit
open Num
set_option linter.unusedVariables false
set_option maxRecDepth 100000
set_option linter.unusedSimpArgs false

set_option maxHeartbeats 400000 in
theorem both_good2 {a b : ByteArray} (ha : Good a) (hb : Good b) (K : Nat) (hcf : ∀ (args : Array Value) (w : World), Sem.run Try.prog (callFunc K args) w = .ok (.enter K args) w) (g g' : Nat) (w : World) (Post : Value → World → Prop) (hw : Works K #[.pointer (some ⟨g, 0, none⟩), .pointer (some ⟨g', 0, none⟩)] w (num a) (num b) Post) :
    Calls Try.prog 31 #[.string a, .string b, .func (.func K) #[] #[.pointer (some ⟨g, 0, none⟩), .pointer (some ⟨g', 0, none⟩)]] w fun e w' => ∃ v, e = .returned v ∧ Post v w' := by
  have HW := hid hw
  have HP := hid (read_good ha w)
  clear ha hw
  go_enter Try.func31, Try.ntmps31
  go_wp2_with fail
  refine HP.out.mono ?_
  rintro e w1 ⟨vx, xs, rfl, hO, hv, hl, hb1⟩
  have HV := hid hv
  have HB1 := hid hb1
  have HP2 := hid (read_good hb w1)
  clear hv hb hb1 HP
  go_wp2_with fail
  refine HP2.out.mono ?_
  rintro e w2 ⟨vy, ys, rfl, hO2, hv2, hl2, hb2⟩
  have HV2 := hid hv2
  have hO' := hO.below hb2 (Nat.le_refl _)
  have HB2 := hid (HB1.out.trans (hb2.mono HB1.out.size))
  have HC := hid (HW.out w2 vx vy xs ys HB2.out hO' hO2 HV.out HV2.out hl hl2)
  clear hv2 hb2
  go_wp2_with fail
  refine HC.out.mono ?_
  rintro e w3 ⟨v, rfl, hp⟩
  have HP3 := hid hp
  clear hp
  go_wp2_with fail
  go_ret
  exact ⟨v, rfl, HP3.out⟩

/-- What a division leaves: two texts in the caller's variables. -/
def Left2 (w : World) (g g' : Nat) (s t : ByteArray) : Value → World → Prop := fun v w' => v = .nilIface ∧ One w' g (.string s) 9 ∧ One w' g' (.string t) 9 ∧ Below (min g g') w w'

theorem One.other {w : World} {g : Nat} {v : Value} {t : TypeId} (h : One w g v t) {g2 : Nat} (hne : g ≠ g2) (u : Value) : One (w.setCell ⟨g2, 0, none⟩ u) g v t := by
  show (w.setCell ⟨g2, 0, none⟩ u).heap[g]? = _
  rw [Below.heap_setCell _ _ _ _ (by exact hne)]; exact h

set_option maxHeartbeats 1000000 in
theorem div_work {w : World} {g : Nat} {u u' : Value} (hg : One w g u 9) (hg' : One w (g + 1) u' 9) (a b : Nat) (hb0 : 0 < b) : Works 38 #[.pointer (some ⟨g, 0, none⟩), .pointer (some ⟨g + 1, 0, none⟩)] w a b (Left2 w g (g + 1) (txt (a / b)) (txt (a % b))) := by
  intro w1 vx vy xs ys hb hx hy ha hb' l1 l2
  show Calls Try.prog 38 #[vx, vy, .pointer (some ⟨g, 0, none⟩), .pointer (some ⟨g + 1, 0, none⟩)] w1 _
  have H1 := div_lim hx hy (by omega) (by omega) (by rw [hb']; exact hb0)
  rw [ha, hb'] at H1
  have hab : a < B ^ 100 := by rw [← ha]; exact few_limbs hx.1 l1
  have H1 := hid H1
  have HAB := hid hab
  have hg0 := hg.lt
  have hg1 := hg'.lt
  have HG := hid hg
  have HG' := hid hg'
  have HBW := hid hb
  clear ha hb' hx hy hg hg' hb hab
  go_enter Try.func38, Try.ntmps38
  go_wp2_with fail
  refine H1.out.mono ?_
  rintro e w2 ⟨q, r, qs, rs, rfl, hq, hr, tq, tr, eq, er, hb2⟩
  have hqb := length_le_of_val tq 100 (by rw [eq]; exact Nat.lt_of_le_of_lt (Nat.div_le_self _ _) HAB.out)
  have hrb := length_le_of_val tr 100 (by rw [er]; exact Nat.lt_of_le_of_lt (Nat.mod_le _ _) HAB.out)
  have H2 := string_lim hq (by omega)
  rw [eq] at H2
  have H2 := hid H2
  have ER := hid er
  have B2 := hid (HBW.out.trans (hb2.mono HBW.out.size))
  clear tq tr eq er hq hb2 H1
  go_wp2_with fail
  refine H2.out.mono ?_
  rintro e w3 ⟨rfl, hb3⟩
  have H3 := string_lim (hr.below hb3 (Nat.le_refl _)) (by omega)
  rw [ER.out] at H3
  have H3 := hid H3
  have B3 := hid (B2.out.trans (hb3.mono B2.out.size))
  clear hb3 H2 hr
  go_wp2_with fail
  refine H3.out.mono ?_
  rintro e w4 ⟨rfl, hb4⟩
  have B4 := hid (B3.out.trans (hb4.mono B3.out.size))
  have hone := HG.out.below B4.out hg0
  have hone' := HG'.out.below B4.out hg1
  have c3 := hone.cell
  have f3 := hone.free
  have c4 := hone'.cell
  have f4 := hone'.free
  have HO := hid hone
  have HO' := hid hone'
  clear hone hone' hb4 H3
  go_wp2_with fail
  go_ret
  exact ⟨_, rfl, rfl, (HO.out.set _).other (by omega) _, (HO'.out.other (by omega) _).set _, ((B4.out.mono (show min g (g + 1) ≤ w.heap.size by omega)).setCell (p := ⟨g, 0, none⟩) (show min g (g + 1) ≤ g by omega) _).setCell (p := ⟨g + 1, 0, none⟩) (show min g (g + 1) ≤ g + 1 by omega) _⟩

/-- What a piece of work leaves that tells an error. -/
def Failed' (w : World) (k : Int) : Value → World → Prop := fun v w' => v = errno k ∧ Below w.heap.size w w'

set_option maxHeartbeats 400000 in
theorem div_work_no {w : World} {g g' : Nat} (a : Nat) : Works 38 #[.pointer (some ⟨g, 0, none⟩), .pointer (some ⟨g', 0, none⟩)] w a 0 (Failed' w 5) := by
  intro w1 vx vy xs ys hb hx hy ha hb' l1 l2
  show Calls Try.prog 38 #[vx, vy, .pointer (some ⟨g, 0, none⟩), .pointer (some ⟨g', 0, none⟩)] w1 _
  have H1 := hid (div_lim_zero hx hy hb')
  clear ha hb' hx hy
  go_enter Try.func38, Try.ntmps38
  go_wp2_with fail
  refine H1.out.mono ?_
  rintro e w2 ⟨rfl, rfl⟩
  go_wp2_with fail
  go_ret
  exact ⟨_, rfl, rfl, hb⟩

set_option maxHeartbeats 1000000 in
theorem nat_div {a b : ByteArray} (ha : Good a) (hb : Good b) (h0 : 0 < num b) (w : World) :
    Calls Try.prog 16 #[.string a, .string b] w fun e w' => e = .returned (.tuple #[.string (txt (num a / num b)), .string (txt (num a % num b)), .nilIface]) ∧ Below w.heap.size w w' := by
  have hone := One.new w (.string ⟨#[]⟩) 9
  have hone' := One.new (w.alloc (.cells #[.string ⟨#[]⟩] 9)) (.string ⟨#[]⟩) 9
  have hbA : Below w.heap.size w ((w.alloc (.cells #[.string ⟨#[]⟩] 9)).alloc (.cells #[.string ⟨#[]⟩] 9)) := ((Below.refl _ _).alloc (Nat.le_refl _) _).alloc (by simp) _
  have hs1 : (w.alloc (.cells #[.string ⟨#[]⟩] 9)).heap.size = w.heap.size + 1 := by simp
  rw [hs1] at hone'
  have hone2 : One ((w.alloc (.cells #[.string ⟨#[]⟩] 9)).alloc (.cells #[.string ⟨#[]⟩] 9)) w.heap.size (.string ⟨#[]⟩) 9 := hone.below (Below.alloc (Below.refl _ _) (Nat.le_refl _) _) (by simp)
  have H1 := hid (both_good2 ha hb 38 Try.call38 w.heap.size (w.heap.size + 1) _ _ (div_work hone2 hone' (num a) (num b) h0))
  have HBA := hid hbA
  clear hone hone' hone2 ha hb h0 hbA hs1
  go_enter Try.func16, Try.ntmps16
  go_wp2_with fail
  refine H1.out.mono ?_
  rintro e w1 ⟨v, rfl, rfl, ho, ho', hb1⟩
  have c1 := ho.cell
  have c2 := ho'.cell
  have HB1 := hid (HBA.out.trans (hb1.mono (show w.heap.size ≤ min w.heap.size (w.heap.size + 1) by omega)))
  clear ho ho' hb1 H1
  go_wp2_with fail
  go_quiet (fail)
  go_wp2_with fail
  go_ret3
  exact ⟨rfl, below_drewN HB1.out _⟩

set_option maxHeartbeats 1000000 in
theorem nat_div_no {a b : ByteArray} (ha : Good a) (hb : Good b) (h0 : num b = 0) (w : World) :
    Calls Try.prog 16 #[.string a, .string b] w fun e w' => e = .returned (.tuple #[.string ⟨#[]⟩, .string ⟨#[]⟩, errno 5]) ∧ Below w.heap.size w w' := by
  have hone := One.new w (.string ⟨#[]⟩) 9
  have hone' := One.new (w.alloc (.cells #[.string ⟨#[]⟩] 9)) (.string ⟨#[]⟩) 9
  have hbA : Below w.heap.size w ((w.alloc (.cells #[.string ⟨#[]⟩] 9)).alloc (.cells #[.string ⟨#[]⟩] 9)) := ((Below.refl _ _).alloc (Nat.le_refl _) _).alloc (by simp) _
  have hs1 : (w.alloc (.cells #[.string ⟨#[]⟩] 9)).heap.size = w.heap.size + 1 := by simp
  rw [hs1] at hone'
  have hone2 : One ((w.alloc (.cells #[.string ⟨#[]⟩] 9)).alloc (.cells #[.string ⟨#[]⟩] 9)) w.heap.size (.string ⟨#[]⟩) 9 := hone.below (Below.alloc (Below.refl _ _) (Nat.le_refl _) _) (by simp)
  have H1 := both_good2 ha hb 38 Try.call38 w.heap.size (w.heap.size + 1) ((w.alloc (.cells #[.string ⟨#[]⟩] 9)).alloc (.cells #[.string ⟨#[]⟩] 9)) (Failed' ((w.alloc (.cells #[.string ⟨#[]⟩] 9)).alloc (.cells #[.string ⟨#[]⟩] 9)) 5) (by rw [h0]; exact div_work_no (num a))
  have H1 := hid H1
  have HBA := hid hbA
  have HO := hid hone2
  have HO' := hid hone'
  clear hone hone' hone2 ha hb h0 hbA hs1
  go_enter Try.func16, Try.ntmps16
  go_wp2_with fail
  refine H1.out.mono ?_
  rintro e w1 ⟨v, rfl, rfl, hb1⟩
  have c1 := (HO.out.below hb1 (by simp; omega)).cell
  have c2 := (HO'.out.below hb1 (by simp)).cell
  have HB1 := hid (HBA.out.trans (hb1.mono (by simp; omega)))
  clear hb1 H1
  go_wp2_with fail
  go_quiet (fail)
  go_wp2_with fail
  go_ret3
  exact ⟨rfl, below_drewN HB1.out _⟩

set_option maxHeartbeats 1000000 in
theorem nat_div_bad {a b : ByteArray} {k : Int} (h : Wrong a b k) (ha : a.size ≤ maxLen) (hb : b.size ≤ maxLen) (w : World) :
    Calls Try.prog 16 #[.string a, .string b] w fun e w' => e = .returned (.tuple #[.string ⟨#[]⟩, .string ⟨#[]⟩, errno k]) ∧ Below w.heap.size w w' := by
  have hone := One.new w (.string ⟨#[]⟩) 9
  have hone' := One.new (w.alloc (.cells #[.string ⟨#[]⟩] 9)) (.string ⟨#[]⟩) 9
  have hbA : Below w.heap.size w ((w.alloc (.cells #[.string ⟨#[]⟩] 9)).alloc (.cells #[.string ⟨#[]⟩] 9)) := ((Below.refl _ _).alloc (Nat.le_refl _) _).alloc (by simp) _
  have hs1 : (w.alloc (.cells #[.string ⟨#[]⟩] 9)).heap.size = w.heap.size + 1 := by simp
  rw [hs1] at hone'
  have hone2 : One ((w.alloc (.cells #[.string ⟨#[]⟩] 9)).alloc (.cells #[.string ⟨#[]⟩] 9)) w.heap.size (.string ⟨#[]⟩) 9 := hone.below (Below.alloc (Below.refl _ _) (Nat.le_refl _) _) (by simp)
  have H1 := hid (fun f w => both_bad h ha hb f w)
  have HBA := hid hbA
  have HO := hid hone2
  have HO' := hid hone'
  clear hone hone' hone2 h hbA hs1
  go_enter Try.func16, Try.ntmps16
  go_wp2_with fail
  refine (H1.out _ _).mono ?_
  rintro e w1 ⟨rfl, hb1⟩
  have c1 := (HO.out.below hb1 (by simp; omega)).cell
  have c2 := (HO'.out.below hb1 (by simp)).cell
  have HB1 := hid (HBA.out.trans (hb1.mono (by simp; omega)))
  clear hb1 H1
  go_wp2_with fail
  go_quiet (fail)
  go_wp2_with fail
  go_ret3
  exact ⟨rfl, below_drewN HB1.out _⟩

end Go.Proofs.Ytckkbjnipacodaa

