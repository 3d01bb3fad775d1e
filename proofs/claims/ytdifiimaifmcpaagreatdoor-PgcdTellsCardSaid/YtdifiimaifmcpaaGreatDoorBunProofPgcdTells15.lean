import Derived.Test.YtdifiimaifmcpaaGreatDoorBunProofPgcdTells13
/-
  THE REFERENCE's Z: TextZ, AddZ, MulZ, DivZ, SmallZ.
-/
namespace Go.Proofs.YtdifiimaifmcpaaGreatDoor
open Go.RowKit
open Num4
open Num (dg)
set_option linter.unusedVariables false
set_option maxRecDepth 100000
set_option linter.unusedSimpArgs false

theorem WhlR.opened {w : World} {v : Value} {z : Int} {k : Nat} (h : WhlR w v z k) : ∃ s p n c, v = .agg #[.bool s, .slice p n c] := by
  obtain ⟨s, sv, xs, rfl, hl, _⟩ := h
  obtain ⟨p, n, c, rfl⟩ := hl.slice
  exact ⟨s, p, n, c, rfl⟩
theorem BoxR.drew {w : World} {g : Nat} {s : Bool} {sv : Value} (h : BoxR w g s sv) : BoxR w.drew g s sv := h
theorem WhlR.drew {w : World} {v : Value} {z : Int} {k : Nat} (h : WhlR w v z k) : WhlR w.drew v z k := h.on (Below.drew (Below.refl _ _))
theorem BoxR.keep {w w' : World} {g : Nat} {s : Bool} {sv : Value} (h : BoxR w g s sv) (hb : Below w.heap.size w w') : w'.cell? ⟨g, 0, none⟩ = some (.bool s) ∧ w'.cell? ⟨g, 1, none⟩ = some sv :=
  have h' := h.below hb h.lt
  ⟨h'.cell0, h'.cell1⟩
theorem BoxR.keep2 {w w' : World} {g : Nat} {s : Bool} {sv : Value} (h : BoxR w g s sv) (hb : Below w.heap.size w w') (g2 : Nat) (hne : g ≠ g2) :
    (∀ a b, ((w'.setCell ⟨g2, 0, none⟩ a).setCell ⟨g2, 1, none⟩ b).cell? ⟨g, 0, none⟩ = some (.bool s)) ∧ (∀ a b, ((w'.setCell ⟨g2, 0, none⟩ a).setCell ⟨g2, 1, none⟩ b).cell? ⟨g, 1, none⟩ = some sv) :=
  have h' := h.below hb h.lt
  ⟨fun a b => ((h'.other hne 0 a).other hne 1 b).cell0, fun a b => ((h'.other hne 0 a).other hne 1 b).cell1⟩
theorem BoxR.last {w0 w : World} {g K : Nat} {s : Bool} {sv : Value} (h : BoxR w g s sv) (hb : Below K w0 w) (hg : K ≤ g) (s' : Bool) (p : Option Addr) (n c : Nat) :
    BoxR ((w.setCell ⟨g, 0, none⟩ (.bool s')).setCell ⟨g, 1, none⟩ (.slice p n c)) g s' (.slice p n c) ∧ Below K w0 ((w.setCell ⟨g, 0, none⟩ (.bool s')).setCell ⟨g, 1, none⟩ (.slice p n c)) ∧
    (∀ {v z k}, WhlR w v z k → WhlR ((w.setCell ⟨g, 0, none⟩ (.bool s')).setCell ⟨g, 1, none⟩ (.slice p n c)) v z k) :=
  ⟨(h.set0 _).set1 ⟨_, _, _, rfl⟩, (hb.setCell (p := ⟨g, 0, none⟩) hg _).setCell (p := ⟨g, 1, none⟩) hg _, fun hv => (hv.box h _ _).box (h.set0 _) _ _⟩

theorem dtext_size {n k : Nat} (h : n < B ^ k) : (txt n).size ≤ 4 * k + 1 := by
  refine size_txt_le ?_ (by omega)
  refine Nat.lt_of_lt_of_le h (Nat.le_trans (Nat.pow_le_pow_left (show B ≤ 10 ^ 4 by decide) _) ?_)
  rw [← Nat.pow_mul]
  exact Nat.pow_le_pow_right (by omega) (by omega)

set_option maxHeartbeats 400000 in
theorem rtextz {w : World} {v : Value} {z : Int} {k : Nat} (h : WhlR w v z k) (hk : k ≤ 68719476736) :
    Calls Tryz.prog 33 #[v] w fun e w' => e = .returned (.string (ztxt z)) ∧ Below w.heap.size w w' := by
  obtain ⟨s, sv, xs, rfl, hl, ht, hkk, hs, hz⟩ := h.neg
  obtain ⟨x0, bw, sz⟩ := rboxes1 w s sv hl.slice
  have HS0 := rtext_lim (hl.below bw (Nat.le_refl _)) (by omega)
  rw [hz] at HS0
  have HS : Hid (Calls Tryz.prog 34 #[sv] _ fun e w' => e = .returned (.string (txt z.natAbs)) ∧ Below _ _ w') := hid HS0
  have BW := hid bw
  have SZ := hid sz
  have HZ := hid hs
  have hsz : (txt z.natAbs).size ≤ 687194767370 := by
    have h1 := few4 hl.1 hkk
    rw [hz] at h1
    have := dtext_size h1
    omega
  clear hl ht hs hkk x0 bw sz h HS0
  cases s <;>
  ( go_enter Tryz.func33, Tryz.ntmps33
    go_wp2_with fail
    refine HS.out.mono ?_
    rintro e w1 ⟨rfl, hb⟩
    have HB := hid (BW.out.trans (hb.mono (by rw [SZ.out]; omega)))
    clear hb
    go_wp2_with fail
    go_ret
    refine ⟨?_, HB.out⟩
    have hz := HZ.out.symm
    first
    | (rw [ztxt, if_pos (by simpa using hz)]; rfl)
    | (rw [ztxt, if_neg (by simpa using hz)]; rfl) )

set_option maxHeartbeats 1000000 in
theorem rmulz {w : World} {v u : Value} {z y : Int} {k l : Nat} (h : WhlR w v z k) (h' : WhlR w u y l) (hk : k ≤ 549755813888) (hl : l ≤ 549755813888) :
    Calls Tryz.prog 57 #[v, u] w fun e w' => ∃ v, e = .returned v ∧ WhlR w' v (z * y) (k + l) ∧ Below w.heap.size w w' := by
  obtain ⟨s, sv, xs, rfl, hl1, ht, hk1, hs, rfl⟩ := h
  obtain ⟨s', sv', xs', rfl, hl1', ht', hk1', hs', rfl⟩ := h'
  obtain ⟨x0, x1, x2, bw, sz⟩ := rboxes3 w s s' false sv sv' (.slice none 0 0) hl1.slice hl1'.slice ⟨_, _, _, rfl⟩
  have hM := rmul_lim ((hl1.below bw (Nat.le_refl _)).below (Below.drew (Below.refl _ _)) (Nat.le_refl _)) ((hl1'.below bw (Nat.le_refl _)).below (Below.drew (Below.refl _ _)) (Nat.le_refl _)) (by omega) (by omega)
  have hlen : ∀ zs, Trim zs → val zs = val xs * val xs' → zs.length ≤ k + l := by
    intro zs tz vz
    refine length_le_of_val tz _ ?_
    rw [vz, Nat.pow_add]
    exact Nat.mul_lt_mul'' (few4 hl1.1 hk1) (few4 hl1'.1 hk1')
  have HM := hid hM
  have HLEN := hid hlen
  have X0 := hid x0
  have X1 := hid x1
  have X2 := hid x2
  have BW := hid bw
  have SZ := hid sz
  obtain ⟨p, n, c, rfl⟩ := hl1.slice
  obtain ⟨p', n', c', rfl⟩ := hl1'.slice
  clear hl1 hl1' hk1 hk1' ht ht' hs hs' x0 x1 x2 bw sz hM hlen
  have HZ := hid (zof_mul s s' (val xs) (val xs'))
  go_enter Tryz.func57, Tryz.ntmps57
  go_wp2_with fail
  go_region_held3 (fun w' => w'.cell? ⟨w.heap.size, 0, none⟩ = some (.bool s) ∧ w'.cell? ⟨w.heap.size, 1, none⟩ = some (.slice p n c) ∧ w'.cell? ⟨w.heap.size + 1, 0, none⟩ = some (.bool s') ∧ w'.cell? ⟨w.heap.size + 1, 1, none⟩ = some (.slice p' n' c')) (go_keep) (first
    | (go_at_call 58; refine HM.out.mono ?_; rintro e w4 ⟨v4, zs, rfl, hv4, tz, vz, hb4⟩; replace hb4 := below_undrew' hb4; obtain ⟨c00, c01⟩ := X0.out.keep hb4; obtain ⟨c10, c11⟩ := X1.out.keep hb4; have HS := hid (rsigned_lim (k := k + l) (s != s') hv4 tz (HLEN.out _ tz vz)); have VZ := hid vz; have HB4 := hid hb4; clear hv4; clear hb4; clear tz; clear vz)
    | (go_at_call 59; refine HS.out.mono ?_; rintro e w5 ⟨v5, rfl, hv5, hb5⟩; obtain ⟨s5, p5, n5, c5, rfl⟩ := hv5.opened; replace hb5 := HB4.out.trans (hb5.mono HB4.out.size); obtain ⟨d00, d01⟩ := X0.out.keep hb5; obtain ⟨d10, d11⟩ := X1.out.keep hb5; obtain ⟨z00, z01⟩ := X0.out.keep2 hb5 (w.heap.size + 1 + 1) (by omega); obtain ⟨z10, z11⟩ := X1.out.keep2 hb5 (w.heap.size + 1 + 1) (by omega); have x2' := X2.out.below hb5 X2.out.lt; obtain ⟨q0, g0, q1, g1⟩ := x2'.stores; have X2' := hid x2'; have HV5 := hid hv5; have HB5 := hid hb5; clear hv5; clear hb5; clear x2'))
  go_wp2_with fail
  obtain ⟨r1, r2, r3⟩ := X2'.out.last (BW.out.trans (HB5.out.mono (by rw [SZ.out]; omega))) (show w.heap.size ≤ w.heap.size + 1 + 1 by omega) s5 p5 n5 c5
  refine bodyPost_ret (res_oneR rfl rfl r1) rfl ?_
  have h5 := HV5.out
  rw [VZ.out, HZ.out] at h5
  exact ⟨_, rfl, r3 h5, r2⟩

set_option maxHeartbeats 1000000 in
theorem raddz_same {w : World} {s : Bool} {sv sv' : Value} {xs xs' : List Nat} {k l : Nat} (hl : LimR w sv xs) (ht : Trim xs) (hk : xs.length ≤ k) (hl' : LimR w sv' xs') (ht' : Trim xs') (hk' : xs'.length ≤ l)  (hkb : k ≤ 68719476736) (hlb : l ≤ 68719476736) :
    Calls Tryz.prog 87 #[.agg #[.bool s, sv], .agg #[.bool s, sv']] w fun e w' => ∃ v, e = .returned v ∧ WhlR w' v (zof s (val xs) + zof s (val xs')) (max k l + 1) ∧ Below w.heap.size w w' := by
  obtain ⟨x0, x1, x2, bw, sz⟩ := rboxes3 w s s false sv sv' (.slice none 0 0) hl.slice hl'.slice ⟨_, _, _, rfl⟩
  have L1 := hl.below bw (Nat.le_refl _)
  have L2 := hl'.below bw (Nat.le_refl _)

  have HC := hid (radd_lim (L1.below (Below.drew (Below.refl _ _)) (Nat.le_refl _)) (L2.below (Below.drew (Below.refl _ _)) (Nat.le_refl _)) (by omega) (by omega))
  have hlen : ∀ zs, Trim zs → val zs = val xs + val xs' → zs.length ≤ max k l + 1 := by
    intro zs tz vz
    refine length_le_of_val tz _ ?_
    rw [vz, Nat.pow_succ]
    have h1 := few4 hl.1 (Nat.le_trans hk (Nat.le_max_left k l))
    have h2 := few4 hl'.1 (Nat.le_trans hk' (Nat.le_max_right k l))
    have h3 : B ^ (max k l) * B = B ^ (max k l) * 10000 := rfl
    omega
  have HLEN := hid hlen
  have HG := hid (show zof s (val xs + val xs') = zof s (val xs) + zof s (val xs') by exact zof_add s _ _)
  have X0 := hid x0
  have X1 := hid x1
  have X2 := hid x2
  have BW := hid bw
  have SZ := hid sz
  obtain ⟨p, n, c, rfl⟩ := hl.slice
  obtain ⟨p', n', c', rfl⟩ := hl'.slice
  clear hl hk hl' hk' ht ht' x0 x1 x2 bw sz hlen L1 L2
  have hss : (s == s) = true := by cases s <;> rfl
  go_enter Tryz.func87, Tryz.ntmps87
  go_wp2_with fail
  go_region_held3 (fun w' => w'.cell? ⟨w.heap.size, 0, none⟩ = some (.bool s) ∧ w'.cell? ⟨w.heap.size, 1, none⟩ = some (.slice p n c) ∧ w'.cell? ⟨w.heap.size + 1, 0, none⟩ = some (.bool s) ∧ w'.cell? ⟨w.heap.size + 1, 1, none⟩ = some (.slice p' n' c')) (go_keep) (first
    | (go_at_call 85; refine HC.out.mono ?_; rintro e w4 ⟨v4, zs, rfl, hv4, tz, vz, hb4⟩; replace hb4 := below_undrew' hb4; obtain ⟨c00, c01⟩ := X0.out.keep hb4; obtain ⟨c10, c11⟩ := X1.out.keep hb4; have HS := hid (rsigned_lim (k := max k l + 1) s hv4 tz (HLEN.out _ tz vz)); have VZ := hid vz; have HB4 := hid hb4; clear hv4; clear hb4; clear tz; clear vz)
    | (go_at_call 59; refine HS.out.mono ?_; rintro e w5 ⟨v5, rfl, hv5, hb5⟩; obtain ⟨s5, p5, n5, c5, rfl⟩ := hv5.opened; replace hb5 := HB4.out.trans (hb5.mono HB4.out.size); obtain ⟨d00, d01⟩ := X0.out.keep hb5; obtain ⟨d10, d11⟩ := X1.out.keep hb5; obtain ⟨z00, z01⟩ := X0.out.keep2 hb5 (w.heap.size + 1 + 1) (by omega); obtain ⟨z10, z11⟩ := X1.out.keep2 hb5 (w.heap.size + 1 + 1) (by omega); have x2' := X2.out.below hb5 X2.out.lt; obtain ⟨q0, g0, q1, g1⟩ := x2'.stores; have X2' := hid x2'; have HV5 := hid hv5; have HB5 := hid hb5; clear hv5; clear hb5; clear x2'))
  go_wp2_with fail
  obtain ⟨r1, r2, r3⟩ := X2'.out.last (BW.out.trans (HB5.out.mono (by rw [SZ.out]; omega))) (show w.heap.size ≤ w.heap.size + 1 + 1 by omega) s5 p5 n5 c5
  refine bodyPost_ret (res_oneR rfl rfl r1) rfl ?_
  have h5 := HV5.out
  rw [VZ.out, HG.out] at h5
  exact ⟨_, rfl, r3 h5, r2⟩

set_option maxHeartbeats 1000000 in
theorem raddz_ge {w : World} {s : Bool} {sv sv' : Value} {xs xs' : List Nat} {k l : Nat} (hl : LimR w sv xs) (ht : Trim xs) (hk : xs.length ≤ k) (hl' : LimR w sv' xs') (ht' : Trim xs') (hk' : xs'.length ≤ l) (hge : val xs' ≤ val xs) (hkb : k ≤ 68719476736) (hlb : l ≤ 68719476736) :
    Calls Tryz.prog 87 #[.agg #[.bool s, sv], .agg #[.bool (!s), sv']] w fun e w' => ∃ v, e = .returned v ∧ WhlR w' v (zof s (val xs) + zof (!s) (val xs')) (max k l + 1) ∧ Below w.heap.size w w' := by
  obtain ⟨x0, x1, x2, bw, sz⟩ := rboxes3 w s (!s) false sv sv' (.slice none 0 0) hl.slice hl'.slice ⟨_, _, _, rfl⟩
  have L1 := hl.below bw (Nat.le_refl _)
  have L2 := hl'.below bw (Nat.le_refl _)
  have hcm := cmp_lim L1 L2 (by omega) (by omega)
  have hcv : (0 : Int) ≤ cmpv (val xs) (val xs') := by rw [cmpv, if_neg (by omega)]; split <;> omega
  have HCMP := hid hcm
  have HC := hid (rsub_lim (L1.below (Below.drew (Below.refl _ _)) (Nat.le_refl _)) (L2.below (Below.drew (Below.refl _ _)) (Nat.le_refl _)) (by omega) ht' hge)
  have hlen : ∀ zs, Trim zs → val zs = val xs - val xs' → zs.length ≤ max k l + 1 := by
    intro zs tz vz
    refine length_le_of_val tz _ ?_
    rw [vz, Nat.pow_succ]
    have h1 := few4 hl.1 (Nat.le_trans hk (Nat.le_max_left k l))
    have h2 := few4 hl'.1 (Nat.le_trans hk' (Nat.le_max_right k l))
    have h3 : B ^ (max k l) * B = B ^ (max k l) * 10000 := rfl
    omega
  have HLEN := hid hlen
  have HG := hid (show zof s (val xs - val xs') = zof s (val xs) + zof (!s) (val xs') by exact zof_sub s _ _ hge)
  have X0 := hid x0
  have X1 := hid x1
  have X2 := hid x2
  have BW := hid bw
  have SZ := hid sz
  obtain ⟨p, n, c, rfl⟩ := hl.slice
  obtain ⟨p', n', c', rfl⟩ := hl'.slice
  clear hl hk hl' hk' ht ht' x0 x1 x2 bw sz hlen L1 L2 hcm hge
  have hss : (s == (!s)) = false := by cases s <;> rfl
  go_enter Tryz.func87, Tryz.ntmps87
  go_wp2_with fail
  refine HCMP.out.mono ?_
  rintro e w9 ⟨rfl, rfl⟩
  go_wp2_with fail
  go_region_held3 (fun w' => w'.cell? ⟨w.heap.size, 0, none⟩ = some (.bool s) ∧ w'.cell? ⟨w.heap.size, 1, none⟩ = some (.slice p n c) ∧ w'.cell? ⟨w.heap.size + 1, 0, none⟩ = some (.bool (!s)) ∧ w'.cell? ⟨w.heap.size + 1, 1, none⟩ = some (.slice p' n' c')) (go_keep) (first
    | (go_at_call 108; refine HC.out.mono ?_; rintro e w4 ⟨v4, zs, rfl, hv4, tz, vz, hb4⟩; replace hb4 := below_undrew' hb4; obtain ⟨c00, c01⟩ := X0.out.keep hb4; obtain ⟨c10, c11⟩ := X1.out.keep hb4; have HS := hid (rsigned_lim (k := max k l + 1) s hv4 tz (HLEN.out _ tz vz)); have VZ := hid vz; have HB4 := hid hb4; clear hv4; clear hb4; clear tz; clear vz)
    | (go_at_call 59; refine HS.out.mono ?_; rintro e w5 ⟨v5, rfl, hv5, hb5⟩; obtain ⟨s5, p5, n5, c5, rfl⟩ := hv5.opened; replace hb5 := HB4.out.trans (hb5.mono HB4.out.size); obtain ⟨d00, d01⟩ := X0.out.keep hb5; obtain ⟨d10, d11⟩ := X1.out.keep hb5; obtain ⟨z00, z01⟩ := X0.out.keep2 hb5 (w.heap.size + 1 + 1) (by omega); obtain ⟨z10, z11⟩ := X1.out.keep2 hb5 (w.heap.size + 1 + 1) (by omega); have x2' := X2.out.below hb5 X2.out.lt; obtain ⟨q0, g0, q1, g1⟩ := x2'.stores; have X2' := hid x2'; have HV5 := hid hv5; have HB5 := hid hb5; clear hv5; clear hb5; clear x2'))
  go_wp2_with fail
  obtain ⟨r1, r2, r3⟩ := X2'.out.last (BW.out.trans (HB5.out.mono (by rw [SZ.out]; omega))) (show w.heap.size ≤ w.heap.size + 1 + 1 by omega) s5 p5 n5 c5
  refine bodyPost_ret (res_oneR rfl rfl r1) rfl ?_
  have h5 := HV5.out
  rw [VZ.out, HG.out] at h5
  exact ⟨_, rfl, r3 h5, r2⟩

set_option maxHeartbeats 1000000 in
theorem raddz_lt {w : World} {s : Bool} {sv sv' : Value} {xs xs' : List Nat} {k l : Nat} (hl : LimR w sv xs) (ht : Trim xs) (hk : xs.length ≤ k) (hl' : LimR w sv' xs') (ht' : Trim xs') (hk' : xs'.length ≤ l) (hlt : val xs < val xs') (hkb : k ≤ 68719476736) (hlb : l ≤ 68719476736) :
    Calls Tryz.prog 87 #[.agg #[.bool s, sv], .agg #[.bool (!s), sv']] w fun e w' => ∃ v, e = .returned v ∧ WhlR w' v (zof s (val xs) + zof (!s) (val xs')) (max k l + 1) ∧ Below w.heap.size w w' := by
  obtain ⟨x0, x1, x2, bw, sz⟩ := rboxes3 w s (!s) false sv sv' (.slice none 0 0) hl.slice hl'.slice ⟨_, _, _, rfl⟩
  have L1 := hl.below bw (Nat.le_refl _)
  have L2 := hl'.below bw (Nat.le_refl _)
  have hcm := cmp_lim L1 L2 (by omega) (by omega)
  have hcv : cmpv (val xs) (val xs') < (0 : Int) := by rw [cmpv, if_pos hlt]; omega
  have HCMP := hid hcm
  have HC := hid (rsub_lim (L2.below (Below.drew (Below.refl _ _)) (Nat.le_refl _)) (L1.below (Below.drew (Below.refl _ _)) (Nat.le_refl _)) (by omega) ht (Nat.le_of_lt hlt))
  have hlen : ∀ zs, Trim zs → val zs = val xs' - val xs → zs.length ≤ max k l + 1 := by
    intro zs tz vz
    refine length_le_of_val tz _ ?_
    rw [vz, Nat.pow_succ]
    have h1 := few4 hl.1 (Nat.le_trans hk (Nat.le_max_left k l))
    have h2 := few4 hl'.1 (Nat.le_trans hk' (Nat.le_max_right k l))
    have h3 : B ^ (max k l) * B = B ^ (max k l) * 10000 := rfl
    omega
  have HLEN := hid hlen
  have HG := hid (show zof (!s) (val xs' - val xs) = zof s (val xs) + zof (!s) (val xs') by rw [zof_sub (!s) _ _ (Nat.le_of_lt hlt), Bool.not_not, Int.add_comm])
  have X0 := hid x0
  have X1 := hid x1
  have X2 := hid x2
  have BW := hid bw
  have SZ := hid sz
  obtain ⟨p, n, c, rfl⟩ := hl.slice
  obtain ⟨p', n', c', rfl⟩ := hl'.slice
  clear hl hk hl' hk' ht ht' x0 x1 x2 bw sz hlen L1 L2 hcm hlt
  have hss : (s == (!s)) = false := by cases s <;> rfl
  go_enter Tryz.func87, Tryz.ntmps87
  go_wp2_with fail
  refine HCMP.out.mono ?_
  rintro e w9 ⟨rfl, rfl⟩
  go_wp2_with fail
  go_region_held3 (fun w' => w'.cell? ⟨w.heap.size, 0, none⟩ = some (.bool s) ∧ w'.cell? ⟨w.heap.size, 1, none⟩ = some (.slice p n c) ∧ w'.cell? ⟨w.heap.size + 1, 0, none⟩ = some (.bool (!s)) ∧ w'.cell? ⟨w.heap.size + 1, 1, none⟩ = some (.slice p' n' c')) (go_keep) (first
    | (go_at_call 108; refine HC.out.mono ?_; rintro e w4 ⟨v4, zs, rfl, hv4, tz, vz, hb4⟩; replace hb4 := below_undrew' hb4; obtain ⟨c00, c01⟩ := X0.out.keep hb4; obtain ⟨c10, c11⟩ := X1.out.keep hb4; have HS := hid (rsigned_lim (k := max k l + 1) (!s) hv4 tz (HLEN.out _ tz vz)); have VZ := hid vz; have HB4 := hid hb4; clear hv4; clear hb4; clear tz; clear vz)
    | (go_at_call 59; refine HS.out.mono ?_; rintro e w5 ⟨v5, rfl, hv5, hb5⟩; obtain ⟨s5, p5, n5, c5, rfl⟩ := hv5.opened; replace hb5 := HB4.out.trans (hb5.mono HB4.out.size); obtain ⟨d00, d01⟩ := X0.out.keep hb5; obtain ⟨d10, d11⟩ := X1.out.keep hb5; obtain ⟨z00, z01⟩ := X0.out.keep2 hb5 (w.heap.size + 1 + 1) (by omega); obtain ⟨z10, z11⟩ := X1.out.keep2 hb5 (w.heap.size + 1 + 1) (by omega); have x2' := X2.out.below hb5 X2.out.lt; obtain ⟨q0, g0, q1, g1⟩ := x2'.stores; have X2' := hid x2'; have HV5 := hid hv5; have HB5 := hid hb5; clear hv5; clear hb5; clear x2'))
  go_wp2_with fail
  obtain ⟨r1, r2, r3⟩ := X2'.out.last (BW.out.trans (HB5.out.mono (by rw [SZ.out]; omega))) (show w.heap.size ≤ w.heap.size + 1 + 1 by omega) s5 p5 n5 c5
  refine bodyPost_ret (res_oneR rfl rfl r1) rfl ?_
  have h5 := HV5.out
  rw [VZ.out, HG.out] at h5
  exact ⟨_, rfl, r3 h5, r2⟩

theorem raddz {w : World} {v u : Value} {z y : Int} {k l : Nat} (h : WhlR w v z k) (h' : WhlR w u y l) (hk : k ≤ 68719476736) (hl : l ≤ 68719476736) :
    Calls Tryz.prog 87 #[v, u] w fun e w' => ∃ v, e = .returned v ∧ WhlR w' v (z + y) (max k l + 1) ∧ Below w.heap.size w w' := by
  obtain ⟨s, sv, xs, rfl, hl1, ht, hk1, hs, rfl⟩ := h
  obtain ⟨s', sv', xs', rfl, hl1', ht', hk1', hs', rfl⟩ := h'
  by_cases e : s = s'
  · subst e
    exact raddz_same hl1 ht hk1 hl1' ht' hk1' hk hl
  · have e' : s' = !s := by cases s <;> cases s' <;> simp at e ⊢
    subst e'
    by_cases hge : val xs' ≤ val xs
    · exact raddz_ge hl1 ht hk1 hl1' ht' hk1' hge hk hl
    · exact raddz_lt hl1 ht hk1 hl1' ht' hk1' (by omega) hk hl

end Go.Proofs.YtdifiimaifmcpaaGreatDoor
