/-
  PACKAGE whole: THE METHODS Sub, Mul, Div, abs.
-/
import Derived.Test.YtjeeepcnaaadmaaWhole
namespace Go.Proofs.Ytjeeepcnaaadmaa
open Go.RowKit
open Num
set_option linter.unusedVariables false
set_option maxRecDepth 100000
set_option linter.unusedSimpArgs false

theorem Whl.opened {w : World} {v : Value} {z : Int} {k : Nat} (h : Whl w v z k) : ∃ s p n c, v = .agg #[.bool s, .slice p n c] := by
  obtain ⟨s, sv, xs, rfl, hl, _⟩ := h
  obtain ⟨p, n, c, rfl⟩ := hl.slice
  exact ⟨s, p, n, c, rfl⟩
/-- What is known of a box behind a call, and behind a store of two cells into another one. -/
theorem Box.keep {w w' : World} {g : Nat} {s : Bool} {sv : Value} (h : Box w g s sv) (hb : Below w.heap.size w w') : w'.cell? ⟨g, 0, none⟩ = some (.bool s) ∧ w'.cell? ⟨g, 1, none⟩ = some sv :=
  have h' := h.below hb h.lt
  ⟨h'.cell0, h'.cell1⟩
theorem Box.keep2 {w w' : World} {g : Nat} {s : Bool} {sv : Value} (h : Box w g s sv) (hb : Below w.heap.size w w') (g2 : Nat) (hne : g ≠ g2) :
    (∀ a b, ((w'.setCell ⟨g2, 0, none⟩ a).setCell ⟨g2, 1, none⟩ b).cell? ⟨g, 0, none⟩ = some (.bool s)) ∧ (∀ a b, ((w'.setCell ⟨g2, 0, none⟩ a).setCell ⟨g2, 1, none⟩ b).cell? ⟨g, 1, none⟩ = some sv) :=
  have h' := h.below hb h.lt
  ⟨fun a b => ((h'.other hne 0 a).other hne 1 b).cell0, fun a b => ((h'.other hne 0 a).other hne 1 b).cell1⟩
theorem natAbs_ediv_le (a b : Int) : (a / b).natAbs ≤ a.natAbs := Int.natAbs_ediv_le_natAbs a b
/-- The last store of a method. -/
theorem Box.last {w0 w : World} {g K : Nat} {s : Bool} {sv : Value} (h : Box w g s sv) (hb : Below K w0 w) (hg : K ≤ g) (s' : Bool) (p : Option Addr) (n c : Nat) :
    Box ((w.setCell ⟨g, 0, none⟩ (.bool s')).setCell ⟨g, 1, none⟩ (.slice p n c)) g s' (.slice p n c) ∧ Below K w0 ((w.setCell ⟨g, 0, none⟩ (.bool s')).setCell ⟨g, 1, none⟩ (.slice p n c)) ∧
    (∀ {v z k}, Whl w v z k → Whl ((w.setCell ⟨g, 0, none⟩ (.bool s')).setCell ⟨g, 1, none⟩ (.slice p n c)) v z k) :=
  ⟨(h.set0 _).set1 ⟨_, _, _, rfl⟩, (hb.setCell (p := ⟨g, 0, none⟩) hg _).setCell (p := ⟨g, 1, none⟩) hg _, fun hv => (hv.box h _ _).box (h.set0 _) _ _⟩

set_option maxHeartbeats 1000000 in
theorem sub_whl {w : World} {v u : Value} {z y : Int} {k l : Nat} (h : Whl w v z k) (h' : Whl w u y l) (hk : k ≤ 549755813888) (hl : l ≤ 549755813888) :
    Calls Try.prog 80 #[v, u] w fun e w' => ∃ v, e = .returned v ∧ Whl w' v (z - y) (max k l + 1) ∧ Below w.heap.size w w' := by
  obtain ⟨s, p, n, c, rfl⟩ := h.opened
  obtain ⟨s', p', n', c', rfl⟩ := h'.opened
  obtain ⟨x0, x1, x2, bw, sz⟩ := boxes3 w s s' false (.slice p n c) (.slice p' n' c') (.slice none 0 0) ⟨_, _, _, rfl⟩ ⟨_, _, _, rfl⟩ ⟨_, _, _, rfl⟩
  have i1 := h.on bw
  have HN := hid (neg_whl ((h'.on bw).on (Below.drew (Below.refl _ _))))
  have HA := hid (fun w' u' hb (h2 : Whl w' u' (-y) l) => add_whl (i1.below (w' := w') hb (Nat.le_refl _)) h2 hk hl)
  have X0 := hid x0
  have X1 := hid x1
  have X2 := hid x2
  have BW := hid bw
  have SZ := hid sz
  clear h h' hk hl x0 x1 x2 bw sz i1
  go_enter Try.func80, Try.ntmps80
  go_wp2_with fail
  go_region_held3 (fun w' => w'.cell? ⟨w.heap.size, 0, none⟩ = some (.bool s) ∧ w'.cell? ⟨w.heap.size, 1, none⟩ = some (.slice p n c) ∧ w'.cell? ⟨w.heap.size + 1, 0, none⟩ = some (.bool s') ∧ w'.cell? ⟨w.heap.size + 1, 1, none⟩ = some (.slice p' n' c')) (go_keep) (first
    | (go_at_call 82; refine HN.out.mono ?_; rintro e w4 ⟨v4, rfl, hv4, hb4⟩; replace hb4 := below_undrew' hb4; obtain ⟨c00, c01⟩ := X0.out.keep hb4; obtain ⟨c10, c11⟩ := X1.out.keep hb4; have HV4 := hid hv4; have HB4 := hid hb4; clear hv4; clear hb4)
    | (go_at_call 63; refine (HA.out w4 _ HB4.out HV4.out).mono ?_; rintro e w5 ⟨v5, rfl, hv5, hb5⟩; obtain ⟨s5, p5, n5, c5, rfl⟩ := hv5.opened; replace hb5 := HB4.out.trans (hb5.mono HB4.out.size); obtain ⟨d00, d01⟩ := X0.out.keep hb5; obtain ⟨d10, d11⟩ := X1.out.keep hb5; obtain ⟨z00, z01⟩ := X0.out.keep2 hb5 (w.heap.size + 1 + 1) (by omega); obtain ⟨z10, z11⟩ := X1.out.keep2 hb5 (w.heap.size + 1 + 1) (by omega); have x2' := X2.out.below hb5 X2.out.lt; obtain ⟨q0, g0, q1, g1⟩ := x2'.stores; have X2' := hid x2'; have HV5 := hid hv5; have HB5 := hid hb5; clear hv5; clear hb5; clear x2'))
  go_wp2_with fail
  obtain ⟨r1, r2, r3⟩ := X2'.out.last (BW.out.trans (HB5.out.mono (by rw [SZ.out]; omega))) (show w.heap.size ≤ w.heap.size + 1 + 1 by omega) s5 p5 n5 c5
  refine bodyPost_ret (res_one rfl rfl r1) rfl ?_
  exact ⟨_, rfl, r3 (by rw [Int.sub_eq_add_neg]; exact HV5.out), r2⟩

set_option maxHeartbeats 1000000 in
theorem mul_whl {w : World} {v u : Value} {z y : Int} {k l : Nat} (h : Whl w v z k) (h' : Whl w u y l) (hk : k ≤ 549755813888) (hl : l ≤ 549755813888) :
    Calls Try.prog 62 #[v, u] w fun e w' => ∃ v, e = .returned v ∧ Whl w' v (z * y) (k + l) ∧ Below w.heap.size w w' := by
  obtain ⟨s, sv, xs, rfl, hl1, ht, hk1, hs, rfl⟩ := h
  obtain ⟨s', sv', xs', rfl, hl1', ht', hk1', hs', rfl⟩ := h'
  obtain ⟨x0, x1, x2, bw, sz⟩ := boxes3 w s s' false sv sv' (.slice none 0 0) hl1.slice hl1'.slice ⟨_, _, _, rfl⟩
  have hM := mul_lim ((hl1.below bw (Nat.le_refl _)).below (Below.drew (Below.refl _ _)) (Nat.le_refl _)) ((hl1'.below bw (Nat.le_refl _)).below (Below.drew (Below.refl _ _)) (Nat.le_refl _)) (by omega) (by omega)
  have hlen : ∀ zs, Trim zs → val zs = val xs * val xs' → zs.length ≤ k + l := by
    intro zs tz vz
    refine length_le_of_val tz _ ?_
    rw [vz, Nat.pow_add]
    exact Nat.mul_lt_mul'' (few_limbs hl1.1 hk1) (few_limbs hl1'.1 hk1')
  have HM := hid hM
  have HLEN := hid hlen
  have X0 := hid x0
  have X1 := hid x1
  have X2 := hid x2
  have BW := hid bw
  have SZ := hid sz
  obtain ⟨p, n, c, rfl⟩ := hl1.slice
  obtain ⟨p', n', c', rfl⟩ := hl1'.slice
  clear hl1 hl1' hk1 hk1' ht ht' hs hs' x0 x1 x2 bw sz hM hlen
  have HZ := hid (zof_mul s s' (val xs) (val xs'))
  go_enter Try.func62, Try.ntmps62
  go_wp2_with fail
  go_region_held3 (fun w' => w'.cell? ⟨w.heap.size, 0, none⟩ = some (.bool s) ∧ w'.cell? ⟨w.heap.size, 1, none⟩ = some (.slice p n c) ∧ w'.cell? ⟨w.heap.size + 1, 0, none⟩ = some (.bool s') ∧ w'.cell? ⟨w.heap.size + 1, 1, none⟩ = some (.slice p' n' c')) (go_keep) (first
    | (go_at_call 84; refine HM.out.mono ?_; rintro e w4 ⟨v4, zs, rfl, hv4, tz, vz, hb4⟩; replace hb4 := below_undrew' hb4; obtain ⟨c00, c01⟩ := X0.out.keep hb4; obtain ⟨c10, c11⟩ := X1.out.keep hb4; have HS := hid (signed_lim (k := k + l) (s != s') hv4 tz (HLEN.out _ tz vz)); have VZ := hid vz; have HB4 := hid hb4; clear hv4; clear hb4; clear tz; clear vz)
    | (go_at_call 83; refine HS.out.mono ?_; rintro e w5 ⟨v5, rfl, hv5, hb5⟩; obtain ⟨s5, p5, n5, c5, rfl⟩ := hv5.opened; replace hb5 := HB4.out.trans (hb5.mono HB4.out.size); obtain ⟨d00, d01⟩ := X0.out.keep hb5; obtain ⟨d10, d11⟩ := X1.out.keep hb5; obtain ⟨z00, z01⟩ := X0.out.keep2 hb5 (w.heap.size + 1 + 1) (by omega); obtain ⟨z10, z11⟩ := X1.out.keep2 hb5 (w.heap.size + 1 + 1) (by omega); have x2' := X2.out.below hb5 X2.out.lt; obtain ⟨q0, g0, q1, g1⟩ := x2'.stores; have X2' := hid x2'; have HV5 := hid hv5; have HB5 := hid hb5; clear hv5; clear hb5; clear x2'))
  go_wp2_with fail
  obtain ⟨r1, r2, r3⟩ := X2'.out.last (BW.out.trans (HB5.out.mono (by rw [SZ.out]; omega))) (show w.heap.size ≤ w.heap.size + 1 + 1 by omega) s5 p5 n5 c5
  refine bodyPost_ret (res_one rfl rfl r1) rfl ?_
  have h5 := HV5.out
  rw [VZ.out, HZ.out] at h5
  exact ⟨_, rfl, r3 h5, r2⟩

theorem boxes4 (w : World) (a c e a4 : Bool) (b d f b4 : Value) (hb : ∃ p n c, b = .slice p n c) (hd : ∃ p n c, d = .slice p n c) (hf : ∃ p n c, f = .slice p n c) (hb4 : ∃ p n c, b4 = .slice p n c) :
    Box ((((w.alloc (.cells #[.bool a, b] 49)).alloc (.cells #[.bool c, d] 49)).alloc (.cells #[.bool e, f] 49)).alloc (.cells #[.bool a4, b4] 49)) w.heap.size a b ∧ Box ((((w.alloc (.cells #[.bool a, b] 49)).alloc (.cells #[.bool c, d] 49)).alloc (.cells #[.bool e, f] 49)).alloc (.cells #[.bool a4, b4] 49)) (w.heap.size + 1) c d ∧ Box ((((w.alloc (.cells #[.bool a, b] 49)).alloc (.cells #[.bool c, d] 49)).alloc (.cells #[.bool e, f] 49)).alloc (.cells #[.bool a4, b4] 49)) (w.heap.size + 1 + 1) e f ∧ Box ((((w.alloc (.cells #[.bool a, b] 49)).alloc (.cells #[.bool c, d] 49)).alloc (.cells #[.bool e, f] 49)).alloc (.cells #[.bool a4, b4] 49)) (w.heap.size + 1 + 1 + 1) a4 b4 ∧ Below w.heap.size w ((((w.alloc (.cells #[.bool a, b] 49)).alloc (.cells #[.bool c, d] 49)).alloc (.cells #[.bool e, f] 49)).alloc (.cells #[.bool a4, b4] 49)) ∧ ((((w.alloc (.cells #[.bool a, b] 49)).alloc (.cells #[.bool c, d] 49)).alloc (.cells #[.bool e, f] 49)).alloc (.cells #[.bool a4, b4] 49)).heap.size = w.heap.size + 1 + 1 + 1 + 1 := by
  obtain ⟨h1, h2, h3, h4, h5⟩ := boxes3 w a c e b d f hb hd hf
  obtain ⟨k1, k2, k3⟩ := boxes1 (((w.alloc (.cells #[.bool a, b] 49)).alloc (.cells #[.bool c, d] 49)).alloc (.cells #[.bool e, f] 49)) a4 b4 hb4
  rw [h5] at k1 k2 k3
  exact ⟨h1.below k2 (by omega), h2.below k2 (by omega), h3.below k2 (by omega), k1, h4.trans (k2.mono (by omega)), k3⟩

theorem lim_one {w w' : World} (hw : w' = w.alloc (.cells #[.int .u32 1] 108)) : Lim w' (.slice (some ⟨w.heap.size, 0, none⟩) 1 1) [1] := by
  have h := Blk.new w [1]
  have h2 := h.lim (Fits.single (by omega)) 0 1 1 (by simp) (Nat.le_refl _) (by unfold maxLen; omega)
  rw [hw]
  exact h2

/-- The quotient and what is left of two wholes, by signs and sizes. -/
theorem div_signs (s t : Bool) (a b : Nat) (hb : 0 < b) (hs : s = true → a ≠ 0) :
    (s = false ∨ a % b = 0 → zof s a / zof t b = zof (s != t) (a / b) ∧ zof s a % zof t b = ((a % b : Nat) : Int)) ∧
    (s = true → a % b ≠ 0 → zof s a / zof t b = zof (s != t) (a / b + 1) ∧ zof s a % zof t b = ((b - a % b : Nat) : Int)) := by
  have h1 := Nat.div_add_mod a b
  have h2 := Nat.mod_lt a hb
  generalize a / b = q at *
  generalize a % b = r at *
  have key : ∀ (x y Q : Int) (R : Nat), y ≠ 0 → x = y * Q + R → R < y.natAbs → x / y = Q ∧ x % y = R := by
    intro x y Q R hy hx hR
    have hr0 : (R : Int) / y = 0 := by
      rcases Int.natAbs_eq y with e | e
      · rw [e]; exact Int.ediv_eq_zero_of_lt (by omega) (by omega)
      · rw [e, Int.ediv_neg, Int.ediv_eq_zero_of_lt (by omega) (by omega)]; rfl
    have hrm : (R : Int) % y = R := by
      have := Int.mul_ediv_add_emod (R : Int) y
      rw [hr0, Int.mul_zero] at this; omega
    rw [hx]
    refine ⟨?_, ?_⟩
    · rw [Int.mul_add_ediv_left _ _ hy, hr0, Int.add_zero]
    · rw [Int.mul_add_emod_self_left, hrm]
  constructor
  · intro h
    refine key _ _ _ _ ?_ ?_ ?_
    · cases t <;> simp [zof] <;> omega
    · rw [← h1]
      cases s <;> cases t <;> simp [zof, Int.mul_neg, Int.neg_mul] at h ⊢ <;> omega
    · rw [natAbs_zof]; omega
  · rintro rfl hr
    refine key _ _ _ _ ?_ ?_ ?_
    · cases t <;> simp [zof] <;> omega
    · rw [← h1]
      cases t <;> simp [zof, Int.mul_neg, Int.neg_mul, Int.mul_add] <;> omega
    · rw [natAbs_zof]; omega

theorem res_two {fn : Func} {t t' t'' : Tmp} {tmps : Array Value} {w : World} {g g' : Nat} {s s' : Bool} {sv sv' u : Value} (hf : fn.results = #[.cell t 49, .cell t' 49, .tmp t'']) (ht : tmps.getD t undef = .pointer (some ⟨g, 0, none⟩)) (ht' : tmps.getD t' undef = .pointer (some ⟨g', 0, none⟩)) (hu : tmps.getD t'' undef = u) (h2 : Box w g s sv) (h2' : Box w g' s' sv') :
    (results fn tmps).run Try.prog w = .ok (.tuple #[.agg #[.bool s, sv], .agg #[.bool s', sv'], u]) w := by
  have h1 := at_addr (P := Try.prog) (w := w) ht
  have h1' := at_addr (P := Try.prog) (w := w) ht'
  have h3 := load_whl h2
  have h3' := load_whl h2'
  simp only [Array.getD_eq_getD_getElem?] at h1 h1' hu
  simp [results, hf, Sem.run_bind, h1, h3, h1', h3', hu]

set_option maxHeartbeats 1000000 in
theorem div_whl_zero {w : World} {v u : Value} {z : Int} {k l : Nat} (h : Whl w v z k) (h' : Whl w u 0 l) :
    Calls Try.prog 66 #[v, u] w fun e w' => e = .returned (.tuple #[.agg #[.bool false, .slice none 0 0], .agg #[.bool false, .slice none 0 0], errno 5]) ∧ Below w.heap.size w w' := by
  obtain ⟨s, sv, xs, rfl, hl, ht, hk, hs, hz⟩ := h
  obtain ⟨s', sv', xs', rfl, hl', ht', hk', hs', hz'⟩ := h'
  have h0 : val xs' = 0 := by rw [← natAbs_zof s' (val xs'), hz']; rfl
  obtain ⟨x0, x1, x2, x3, bw, sz⟩ := boxes4 w s s' false false sv sv' (.slice none 0 0) (.slice none 0 0) hl.slice hl'.slice ⟨_, _, _, rfl⟩ ⟨_, _, _, rfl⟩
  have HD := hid (div_lim_zero (hl.below bw (Nat.le_refl _)) (hl'.below bw (Nat.le_refl _)) h0)
  have X2 := hid x2
  have X3 := hid x3
  have BW := hid bw
  clear hl ht hk hs hz hl' ht' hk' hs' hz' h0 x0 x1 x2 x3 bw sz
  go_enter Try.func66, Try.ntmps66
  go_wp2_with fail
  refine HD.out.mono ?_
  rintro e w4 ⟨rfl, rfl⟩
  go_wp2_with fail
  refine bodyPost_ret (res_two rfl rfl rfl rfl X2.out X3.out) rfl ?_
  exact ⟨rfl, BW.out⟩

/-- Two boxes side by side, both written. -/
theorem Box.last2 {w0 w : World} {g K : Nat} {s s' : Bool} {sv sv' : Value} (h : Box w g s sv) (h' : Box w (g + 1) s' sv') (hb : Below K w0 w) (hg : K ≤ g) (a a' : Bool) (p p' : Option Addr) (n n' c c' : Nat) :
    Box ((((w.setCell ⟨g, 0, none⟩ (.bool a)).setCell ⟨g, 1, none⟩ (.slice p n c)).setCell ⟨g + 1, 0, none⟩ (.bool a')).setCell ⟨g + 1, 1, none⟩ (.slice p' n' c')) g a (.slice p n c) ∧ Box ((((w.setCell ⟨g, 0, none⟩ (.bool a)).setCell ⟨g, 1, none⟩ (.slice p n c)).setCell ⟨g + 1, 0, none⟩ (.bool a')).setCell ⟨g + 1, 1, none⟩ (.slice p' n' c')) (g + 1) a' (.slice p' n' c') ∧ Below K w0 ((((w.setCell ⟨g, 0, none⟩ (.bool a)).setCell ⟨g, 1, none⟩ (.slice p n c)).setCell ⟨g + 1, 0, none⟩ (.bool a')).setCell ⟨g + 1, 1, none⟩ (.slice p' n' c')) ∧ (∀ {v z k}, Whl w v z k → Whl ((((w.setCell ⟨g, 0, none⟩ (.bool a)).setCell ⟨g, 1, none⟩ (.slice p n c)).setCell ⟨g + 1, 0, none⟩ (.bool a')).setCell ⟨g + 1, 1, none⟩ (.slice p' n' c')) v z k) := by
  obtain ⟨r1, r2, r3⟩ := h.last hb hg a p n c
  have k1 := (h'.other (g2 := g) (by omega) 0 (.bool a)).other (g2 := g) (by omega) 1 (.slice p n c)
  obtain ⟨q1, q2, q3⟩ := k1.last r2 (Nat.le_succ_of_le hg) a' p' n' c'
  exact ⟨(r1.other (by omega) _ _).other (by omega) _ _, q1, q2, fun hv => q3 (r3 hv)⟩
/-- What a walk needs to write two boxes side by side. -/
theorem Box.stores2 {w : World} {g : Nat} {s s' : Bool} {sv sv' : Value} (h : Box w g s sv) (h' : Box w (g + 1) s' sv') :
    (w.cell? ⟨g, 0, none⟩ = some (.bool s) ∧ w.frozen? ⟨g, 0, none⟩ = false ∧ (∀ x, (w.setCell ⟨g, 0, none⟩ (.bool x)).cell? ⟨g, 1, none⟩ = some sv) ∧ (∀ x, (w.setCell ⟨g, 0, none⟩ (.bool x)).frozen? ⟨g, 1, none⟩ = false)) ∧
    (∀ a b, ((w.setCell ⟨g, 0, none⟩ a).setCell ⟨g, 1, none⟩ b).cell? ⟨g + 1, 0, none⟩ = some (.bool s')) ∧ (∀ a b, ((w.setCell ⟨g, 0, none⟩ a).setCell ⟨g, 1, none⟩ b).frozen? ⟨g + 1, 0, none⟩ = false) ∧
    (∀ a b x, (((w.setCell ⟨g, 0, none⟩ a).setCell ⟨g, 1, none⟩ b).setCell ⟨g + 1, 0, none⟩ (.bool x)).cell? ⟨g + 1, 1, none⟩ = some sv') ∧ (∀ a b x, (((w.setCell ⟨g, 0, none⟩ a).setCell ⟨g, 1, none⟩ b).setCell ⟨g + 1, 0, none⟩ (.bool x)).frozen? ⟨g + 1, 1, none⟩ = false) := by
  have k1 := fun a b => (h'.other (g2 := g) (by omega) 0 a).other (g2 := g) (by omega) 1 b
  exact ⟨h.stores, fun a b => (k1 a b).cell0, fun a b => (k1 a b).free 0, fun a b x => ((k1 a b).set0 x).cell1, fun a b x => ((k1 a b).set0 x).free 1⟩

set_option maxHeartbeats 2000000 in
theorem div_even {w : World} {s s' : Bool} {sv sv' : Value} {xs xs' : List Nat} {k l : Nat} (hl : Lim w sv xs) (hk : xs.length ≤ k) (hl' : Lim w sv' xs') (hk' : xs'.length ≤ l) (h0 : 0 < val xs') (he : s = false ∨ val xs % val xs' = 0) (hs : s = true → val xs ≠ 0) (hkb : k ≤ 549755813888) (hlb : l ≤ 549755813888) :
    Calls Try.prog 66 #[.agg #[.bool s, sv], .agg #[.bool s', sv']] w fun e w' => ∃ v u, e = .returned (.tuple #[v, u, .nilIface]) ∧ Whl w' v (zof s (val xs) / zof s' (val xs')) (k + 1) ∧ Whl w' u (zof s (val xs) % zof s' (val xs')) l ∧ Below w.heap.size w w' := by
  obtain ⟨x0, x1, x2, x3, bw, sz⟩ := boxes4 w s s' false false sv sv' (.slice none 0 0) (.slice none 0 0) hl.slice hl'.slice ⟨_, _, _, rfl⟩ ⟨_, _, _, rfl⟩
  have HD := hid (div_lim (hl.below bw (Nat.le_refl _)) (hl'.below bw (Nat.le_refl _)) (by omega) (by omega) h0)
  obtain ⟨e1, e2⟩ := (div_signs s s' (val xs) (val xs') h0 hs).1 he
  rw [e1, e2]
  have hq : val xs / val xs' < B ^ (k + 1) := Nat.lt_of_le_of_lt (Nat.div_le_self _ _) (Nat.lt_of_lt_of_le (few_limbs hl.1 hk) (Nat.pow_le_pow_right B_pos (Nat.le_succ _)))
  have hr : val xs % val xs' < B ^ l := Nat.lt_trans (Nat.mod_lt _ h0) (few_limbs hl'.1 hk')
  have hz : s = true → ¬ (0 : Int) < ((val xs % val xs' : Nat) : Int) := by
    rcases he with rfl | e
    · intro e; cases e
    · rw [e]; simp
  have HQ := hid hq
  have HR := hid hr
  have HZ := hid hz
  have X0 := hid x0
  have X1 := hid x1
  have X2 := hid x2
  have X3 := hid x3
  have BW := hid bw
  have SZ := hid sz
  clear hl hk hl' hk' h0 hs x0 x1 x2 x3 bw sz e1 e2 hq hr hz he
  have hrs : ∀ rs : List Nat, Trim rs → val rs = val xs % val xs' → s = true → rs = [] := by
    intro rs tr vr e
    have := HZ.out e
    exact tr.zero_iff.1 (by omega)
  have HRS := hid hrs
  clear hrs
  cases s
  · rw [show (false != s') = s' by cases s' <;> rfl]
    go_enter Try.func66, Try.ntmps66
    go_wp2_with fail
    refine HD.out.mono ?_
    rintro e w4 ⟨q, r, qs, rs, rfl, hq, hr, tq, tr, vq, vr, hb⟩
    obtain ⟨c00, c01⟩ := X0.out.keep hb
    obtain ⟨c10, c11⟩ := X1.out.keep hb
    obtain ⟨p, n, c, rfl⟩ := hr.slice
    have hS := signed_lim (k := k + 1) s' hq tq (length_le_of_val tq _ (by rw [vq]; exact HQ.out))
    rw [vq] at hS
    have HS := hid hS
    have HWR := hid (show Whl w4 (.agg #[.bool false, .slice p n c]) ((val xs % val xs' : Nat) : Int) l from ⟨false, _, rs, rfl, hr, tr, length_le_of_val tr _ (by rw [vr]; exact HR.out), fun e => by simp at e, by rw [vr]; rfl⟩)
    have HB := hid hb
    clear hS hq hr tq tr vq vr hb
    go_wp2_with fail
    refine HS.out.mono ?_
    rintro e w5 ⟨v5, rfl, hv5, hb5⟩
    obtain ⟨s5, p5, n5, c5, rfl⟩ := hv5.opened
    have HWR5 := hid (HWR.out.on hb5)
    replace hb5 := HB.out.trans (hb5.mono HB.out.size)
    have x2' := X2.out.below hb5 X2.out.lt
    have x3' := X3.out.below hb5 X3.out.lt
    obtain ⟨⟨q0, g0, q1, g1⟩, q2, g2, q3, g3⟩ := x2'.stores2 x3'
    have HL := hid (x2'.last2 x3' (BW.out.trans (hb5.mono (by rw [SZ.out]; omega))) (by omega) s5 false p5 p n5 n c5 c)
    have HV5 := hid hv5
    clear hv5 hb5 x2' x3'
    go_wp2_with fail
    obtain ⟨r1, r2, r3, r4⟩ := HL.out
    refine bodyPost_ret (res_two rfl rfl rfl rfl r1 r2) rfl ?_
    exact ⟨_, _, rfl, r4 HV5.out, r4 HWR5.out, r3⟩
  · rw [show (true != s') = !s' by cases s' <;> rfl]
    go_enter Try.func66, Try.ntmps66
    go_wp2_with fail
    refine HD.out.mono ?_
    rintro e w4 ⟨q, r, qs, rs, rfl, hq, hr, tq, tr, vq, vr, hb⟩
    obtain rfl := HRS.out rs tr vr (by simp)
    obtain ⟨c00, c01⟩ := X0.out.keep hb
    obtain ⟨c10, c11⟩ := X1.out.keep hb
    obtain ⟨p, c, rfl, _⟩ := lim_parts hr
    have hS := signed_lim (k := k + 1) (!s') hq tq (length_le_of_val tq _ (by rw [vq]; exact HQ.out))
    rw [vq] at hS
    have HS := hid hS
    have HWR := hid (show Whl w4 (.agg #[.bool false, .slice p 0 c]) ((val xs % val xs' : Nat) : Int) l from ⟨false, _, [], rfl, hr, tr, Nat.zero_le _, fun e => by simp at e, by rw [vr]; rfl⟩)
    have HB := hid hb
    clear hS hq hr tq tr vq vr hb
    go_wp2_with fail
    refine HS.out.mono ?_
    rintro e w5 ⟨v5, rfl, hv5, hb5⟩
    obtain ⟨s5, p5, n5, c5, rfl⟩ := hv5.opened
    have HWR5 := hid (HWR.out.on hb5)
    replace hb5 := HB.out.trans (hb5.mono HB.out.size)
    have x2' := X2.out.below hb5 X2.out.lt
    have x3' := X3.out.below hb5 X3.out.lt
    obtain ⟨⟨q0, g0, q1, g1⟩, q2, g2, q3, g3⟩ := x2'.stores2 x3'
    have HL := hid (x2'.last2 x3' (BW.out.trans (hb5.mono (by rw [SZ.out]; omega))) (by omega) s5 false p5 p n5 0 c5 c)
    have HV5 := hid hv5
    clear hv5 hb5 x2' x3'
    go_wp2_with fail
    obtain ⟨r1, r2, r3, r4⟩ := HL.out
    refine bodyPost_ret (res_two rfl rfl rfl rfl r1 r2) rfl ?_
    exact ⟨_, _, rfl, r4 HV5.out, r4 HWR5.out, r3⟩

set_option maxHeartbeats 2000000 in
theorem div_odd {w : World} {s' : Bool} {sv sv' : Value} {xs xs' : List Nat} {k l : Nat} (hl : Lim w sv xs) (hk : xs.length ≤ k) (hl' : Lim w sv' xs') (hk' : xs'.length ≤ l) (h0 : 0 < val xs') (he : val xs % val xs' ≠ 0) (hs : val xs ≠ 0) (hkb : k ≤ 549755813888) (hlb : l ≤ 549755813888) :
    Calls Try.prog 66 #[.agg #[.bool true, sv], .agg #[.bool s', sv']] w fun e w' => ∃ v u, e = .returned (.tuple #[v, u, .nilIface]) ∧ Whl w' v (zof true (val xs) / zof s' (val xs')) (k + 1) ∧ Whl w' u (zof true (val xs) % zof s' (val xs')) l ∧ Below w.heap.size w w' := by
  obtain ⟨x0, x1, x2, x3, bw, sz⟩ := boxes4 w true s' false false sv sv' (.slice none 0 0) (.slice none 0 0) hl.slice hl'.slice ⟨_, _, _, rfl⟩ ⟨_, _, _, rfl⟩
  have HD := hid (div_lim (hl.below bw (Nat.le_refl _)) (hl'.below bw (Nat.le_refl _)) (by omega) (by omega) h0)
  obtain ⟨e1, e2⟩ := (div_signs true s' (val xs) (val xs') h0 (fun _ => hs)).2 rfl he
  rw [e1, e2, show (true != s') = !s' by cases s' <;> rfl]
  have hq0 : val xs / val xs' < B ^ k := Nat.lt_of_le_of_lt (Nat.div_le_self _ _) (few_limbs hl.1 hk)
  have hq : val xs / val xs' + 1 < B ^ (k + 1) := by
    have : 0 < B ^ k := Nat.pow_pos B_pos
    rw [Nat.pow_succ, B_eq] at *
    omega
  have hr : val xs' - val xs % val xs' < B ^ l := Nat.lt_of_le_of_lt (Nat.sub_le _ _) (few_limbs hl'.1 hk')
  have hm := Nat.mod_lt (val xs) h0
  have HQ0 := hid hq0
  have HQ := hid hq
  have HR := hid hr
  have HM := hid hm
  have HE := hid he
  have L2 := hid (hl'.below bw (Nat.le_refl _))
  have LB := hid (show xs'.length ≤ 1099511627776 by omega)
  have X0 := hid x0
  have X1 := hid x1
  have X2 := hid x2
  have X3 := hid x3
  have BW := hid bw
  have SZ := hid sz
  clear hl hk hl' hk' h0 hs x0 x1 x2 x3 bw sz e1 e2 hq hr he hm hq0
  go_enter Try.func66, Try.ntmps66
  go_wp2_with fail
  refine HD.out.mono ?_
  rintro e w4 ⟨q, r, qs, rs, rfl, hq, hr, tq, tr, vq, vr, hb⟩
  obtain ⟨c00, c01⟩ := X0.out.keep hb
  obtain ⟨c10, c11⟩ := X1.out.keep hb
  have hn0 : ∃ n, rs.length = n ∧ (0 : Int) < (n : Int) := by
    refine ⟨_, rfl, ?_⟩
    have h1 := HE.out
    rw [← vr] at h1
    cases rs with
    | nil => simp [val] at h1
    | cons => simp
  obtain ⟨n, hn, hn0⟩ := hn0
  obtain ⟨p, c, rfl, _⟩ := lim_parts hr
  rw [hn] at *
  have hAq := (Below.refl w4.heap.size w4).alloc (Nat.le_refl _) (.cells #[.int .u32 1] 108)
  have hlq := length_le_of_val tq k (by rw [vq]; exact HQ0.out)
  have HA := hid (add_lim (hq.below hAq (Nat.le_refl _)) (lim_one rfl) (by omega) (by simp))
  have hS := fun w' (hb' : Below w4.heap.size w4 w') => sub_lim (L2.out.below (hb.trans (hb'.mono hb.size)) (Nat.le_refl _)) (hr.below hb' (Nat.le_refl _)) LB.out (by rw [vr]; exact Nat.le_of_lt HM.out)
  have HS := hid hS
  have HB := hid hb
  have HBA := hid hAq
  have VQ := hid vq
  have VR := hid vr
  clear hq hr tq tr vq vr hb hn hAq hS hlq
  go_wp2_with fail
  refine HA.out.mono ?_
  rintro e w5 ⟨q2, qs2, rfl, hq2, tq2, vq2, hb5⟩
  have B5 := hid (HBA.out.trans (hb5.mono (by simp)))
  obtain ⟨c50, c51⟩ := X1.out.keep (HB.out.trans (B5.out.mono HB.out.size))
  obtain ⟨c60, c61⟩ := X0.out.keep (HB.out.trans (B5.out.mono HB.out.size))
  have HC := hid (HS.out w5 B5.out)
  have L5 := hid hq2
  have TQ2 := hid tq2
  have VQ2 := hid vq2
  clear hq2 tq2 vq2 hb5 HA HS
  go_wp2_with fail
  refine HC.out.mono ?_
  rintro e w6 ⟨r2, rs2, rfl, hr2, tr2, vr2, hb6⟩
  have B6 := hid ((HB.out.trans (B5.out.mono HB.out.size)).trans (hb6.mono (Nat.le_trans HB.out.size B5.out.size)))
  obtain ⟨c70, c71⟩ := X1.out.keep B6.out
  obtain ⟨c80, c81⟩ := X0.out.keep B6.out
  obtain ⟨p2, n2, c2, rfl⟩ := hr2.slice
  have hv2 : val qs2 = val xs / val xs' + 1 := by rw [VQ2.out, VQ.out]; rfl
  have hF := signed_lim (k := k + 1) (!s') (L5.out.below hb6 (Nat.le_refl _)) TQ2.out (length_le_of_val TQ2.out _ (by rw [hv2]; exact HQ.out))
  rw [hv2] at hF
  have HF := hid hF
  rw [VR.out] at vr2
  have HWR := hid (show Whl w6 (.agg #[.bool false, .slice p2 n2 c2]) ((val xs' - val xs % val xs' : Nat) : Int) l from ⟨false, _, rs2, rfl, hr2, tr2, length_le_of_val tr2 _ (by rw [vr2]; exact HR.out), fun e => by simp at e, by rw [vr2]; rfl⟩)
  clear hr2 tr2 vr2 hb6 hF hv2 HC
  go_wp2_with fail
  refine HF.out.mono ?_
  rintro e w7 ⟨v5, rfl, hv5, hb5⟩
  obtain ⟨s5, p5, n5, c5, rfl⟩ := hv5.opened
  have HWR5 := hid (HWR.out.on hb5)
  replace hb5 := B6.out.trans (hb5.mono B6.out.size)
  have x2' := X2.out.below hb5 X2.out.lt
  have x3' := X3.out.below hb5 X3.out.lt
  obtain ⟨⟨q0, g0, q1, g1⟩, q2, g2, q3, g3⟩ := x2'.stores2 x3'
  have HL := hid (x2'.last2 x3' (BW.out.trans (hb5.mono (by rw [SZ.out]; omega))) (by omega) s5 false p5 p2 n5 n2 c5 c2)
  have HV5 := hid hv5
  clear hv5 hb5 x2' x3'
  go_wp2_with fail
  obtain ⟨r1, r2, r3, r4⟩ := HL.out
  refine bodyPost_ret (res_two rfl rfl rfl rfl r1 r2) rfl ?_
  exact ⟨_, _, rfl, r4 HV5.out, r4 HWR5.out, r3⟩

theorem div_whl {w : World} {v u : Value} {z y : Int} {k l : Nat} (h : Whl w v z k) (h' : Whl w u y l) (hy : y ≠ 0) (hk : k ≤ 549755813888) (hl : l ≤ 549755813888) :
    Calls Try.prog 66 #[v, u] w fun e w' => ∃ v u, e = .returned (.tuple #[v, u, .nilIface]) ∧ Whl w' v (z / y) (k + 1) ∧ Whl w' u (z % y) l ∧ Below w.heap.size w w' := by
  obtain ⟨s, sv, xs, rfl, hl1, ht, hk1, hs, rfl⟩ := h
  obtain ⟨s', sv', xs', rfl, hl1', ht', hk1', hs', rfl⟩ := h'
  have h0 : 0 < val xs' := by
    apply Nat.pos_of_ne_zero
    intro e
    rw [e] at hy
    cases s' <;> simp [zof] at hy
  by_cases he : s = false ∨ val xs % val xs' = 0
  · exact div_even hl1 hk1 hl1' hk1' h0 he hs hk hl
  · have hst : s = true := by
      cases s
      · exact absurd (.inl rfl) he
      · rfl
    subst hst
    exact div_odd hl1 hk1 hl1' hk1' h0 (fun e => he (.inr e)) (hs rfl) hk hl

end Go.Proofs.Ytjeeepcnaaadmaa

