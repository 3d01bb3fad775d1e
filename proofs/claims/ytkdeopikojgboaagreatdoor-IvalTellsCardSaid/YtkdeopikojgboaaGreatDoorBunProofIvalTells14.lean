import Derived.Test.YtkdeopikojgboaaGreatDoorBunProofIvalTells12
import Derived.Deep.RegionWith
import Derived.Deep.RegionHeld3
import Derived.Test.YtkdeopikojgboaaGreatDoorBunProofIvalTells5
/-
  PACKAGE rat: parts, moreThanOne.
-/
namespace Go.Proofs.YtkdeopikojgboaaGreatDoor
open Go.RowKit
open Num
set_option linter.unusedVariables false
set_option maxRecDepth 100000
set_option linter.unusedSimpArgs false

theorem res_ii {fn : Func} {t t' : Tmp} {tmps : Array Value} {w : World} {g g' : Nat} {s s' : Bool} {sv sv' : Value} (hf : fn.results = #[.cell t 58, .cell t' 58]) (ht : tmps.getD t undef = .pointer (some ⟨g, 0, none⟩)) (ht' : tmps.getD t' undef = .pointer (some ⟨g', 0, none⟩)) (h2 : Box w g s sv) (h2' : Box w g' s' sv') :
    (results fn tmps).run Tryz.prog w = .ok (.tuple #[.agg #[.bool s, sv], .agg #[.bool s', sv']]) w := by
  have h1 := at_addr (P := Tryz.prog) (w := w) ht
  have h1' := at_addr (P := Tryz.prog) (w := w) ht'
  have h3 := load_whl h2
  have h3' := load_whl h2'
  simp only [Array.getD_eq_getD_getElem?] at h1 h1'
  simp [results, hf, Sem.run_bind, h1, h3, h1', h3']

/-- A value of four cells reads as a fraction: its two parts. -/
theorem Rtl.two {w : World} {q : Rat} {k : Nat} {s p n c s' p' n' c'} (h : Rtl w (.agg #[.bool s, .slice p n c, .bool s', .slice p' n' c']) q k) : Whl w (.agg #[.bool s, .slice p n c]) q.num k ∧ ∃ d : Int, Whl w (.agg #[.bool s', .slice p' n' c']) d k ∧ (d = q.den ∨ (d = 0 ∧ q.den = 1)) := by
  obtain ⟨s1, p1, n1, c1, s2, p2, n2, c2, h1, h2⟩ := h
  simp only [Value.agg.injEq, Array.mk.injEq, List.cons.injEq, Value.bool.injEq, Value.slice.injEq, and_true] at h1
  obtain ⟨rfl, ⟨rfl, rfl, rfl⟩, rfl, rfl, rfl, rfl⟩ := h1
  exact h2
theorem Rtl.mk2 {w : World} {q : Rat} {k : Nat} {s p n c s' p' n' c'} {d : Int} (h1 : Whl w (.agg #[.bool s, .slice p n c]) q.num k) (h2 : Whl w (.agg #[.bool s', .slice p' n' c']) d k) (h3 : d = q.den ∨ (d = 0 ∧ q.den = 1)) : Rtl w (.agg #[.bool s, .slice p n c, .bool s', .slice p' n' c']) q k :=
  ⟨_, _, _, _, _, _, _, _, rfl, h1, d, h2, h3⟩

theorem list_dg_ext {xs ys : List Nat} (hl : xs.length = ys.length) (h : ∀ i, i < xs.length → dg xs i = dg ys i) : xs = ys := by
  apply List.ext_getElem hl
  intro i h1 h2
  have := h i h1
  rw [dg_lt h1, dg_lt h2] at this
  exact this
theorem Lim.inj {w : World} {v : Value} {xs ys : List Nat} (h : Lim w v xs) (h' : Lim w v ys) : xs = ys := by
  obtain ⟨h1, p, c, h2, h3, h4, h5⟩ := h
  obtain ⟨h1', p', c', h2', h3', h4', h5'⟩ := h'
  rw [h2] at h2'
  obtain ⟨rfl, hl, rfl⟩ := Value.slice.inj h2'
  refine list_dg_ext hl fun i hi => ?_
  rcases h5 with ⟨_, h5⟩ | ⟨b, off, h6, h7, h8⟩
  · omega
  · rcases h5' with ⟨_, h5'⟩ | ⟨b', off', h6', h7', h8'⟩
    · omega
    · rw [h6] at h6'
      simp only [Option.some.injEq, Addr.mk.injEq, and_true] at h6'
      obtain ⟨rfl, rfl⟩ := h6'
      have e1 := h8 i hi
      have e2 := h8' i (by omega)
      rw [e1] at e2
      simp only [Option.some.injEq, Value.int.injEq, true_and] at e2
      omega

set_option maxHeartbeats 1000000 in
theorem parts_zero {w : World} {v : Value} {q : Rat} {k : Nat} (h : Rtl w v q k) (hz : ∀ d : Int, ∀ {s p n c s' p' n' c'}, Whl w (.agg #[.bool s', .slice p' n' c']) d k → v = .agg #[.bool s, .slice p n c, .bool s', .slice p' n' c'] → d = 0) (hk : 1 ≤ k) :
    Calls Tryz.prog 76 #[v] w fun e w' => ∃ v u, e = .returned (.tuple #[v, u]) ∧ Whl w' v q.num k ∧ Whl w' u q.den k ∧ Below w.heap.size w w' := by
  obtain ⟨s1a, p1a, n1a, c1a, s1b, p1b, n1b, c1b, rfl⟩ := h.opened
  obtain ⟨h1, d, h2, h3⟩ := h.two
  have hd : d = 0 := hz d h2 rfl
  subst hd
  have hq : q.den = 1 := by rcases h3 with h3 | h3; exact absurd h3 (by have := q.den_pos; omega); exact h3.2
  have YG : (0 : Int).sign = 0 := rfl
  have HQ := hid hq
  have HK := hid hk
  have B := hid (Below.refl w.heap.size w)
  have HT := hid h1
  have HU := hid h2
  have hb1 := (Below.refl _ _).alloc (Nat.le_refl w.heap.size) (.cells #[.bool s1a, .slice p1a n1a c1a, .bool s1b, .slice p1b n1b c1b] 60)
  have hx2 := Nbx.new w s1a s1b (.slice p1a n1a c1a) (.slice p1b n1b c1b)
  replace HT := wl HT hb1
  replace HU := wl HU hb1
  replace B := bb B hb1
  have XQ := hid hx2
  have hs3 : (w.alloc (.cells #[.bool s1a, .slice p1a n1a c1a, .bool s1b, .slice p1b n1b c1b] 60)).heap.size = w.heap.size + 1 := by simp
  clear hb1 hx2
  have hb4 := (Below.refl _ _).alloc (Nat.le_refl (w.alloc (.cells #[.bool s1a, .slice p1a n1a c1a, .bool s1b, .slice p1b n1b c1b] 60)).heap.size) (.cells #[.bool false, .slice none 0 0] 58)
  have hx5 := Box.new (w.alloc (.cells #[.bool s1a, .slice p1a n1a c1a, .bool s1b, .slice p1b n1b c1b] 60)) false none 0 0
  rw [hs3] at hx5
  replace XQ := nx XQ hb4
  replace HT := wl HT hb4
  replace HU := wl HU hb4
  replace B := bb B hb4
  have R1 := hid hx5
  have hs6 : ((w.alloc (.cells #[.bool s1a, .slice p1a n1a c1a, .bool s1b, .slice p1b n1b c1b] 60)).alloc (.cells #[.bool false, .slice none 0 0] 58)).heap.size = w.heap.size + 1 + 1 := by simp [hs3]
  clear hb4 hx5
  have hb7 := (Below.refl _ _).alloc (Nat.le_refl ((w.alloc (.cells #[.bool s1a, .slice p1a n1a c1a, .bool s1b, .slice p1b n1b c1b] 60)).alloc (.cells #[.bool false, .slice none 0 0] 58)).heap.size) (.cells #[.bool false, .slice none 0 0] 58)
  have hx8 := Box.new ((w.alloc (.cells #[.bool s1a, .slice p1a n1a c1a, .bool s1b, .slice p1b n1b c1b] 60)).alloc (.cells #[.bool false, .slice none 0 0] 58)) false none 0 0
  rw [hs6] at hx8
  replace XQ := nx XQ hb7
  replace R1 := bx R1 hb7
  replace HT := wl HT hb7
  replace HU := wl HU hb7
  replace B := bb B hb7
  have R2 := hid hx8
  have hs9 : (((w.alloc (.cells #[.bool s1a, .slice p1a n1a c1a, .bool s1b, .slice p1b n1b c1b] 60)).alloc (.cells #[.bool false, .slice none 0 0] 58)).alloc (.cells #[.bool false, .slice none 0 0] 58)).heap.size = w.heap.size + 1 + 1 + 1 := by simp [hs6]
  clear hb7 hx8
  clear hs9 h h1 h2 h3 hz hq hk
  go_enter Tryz.func76, Tryz.ntmps76
  obtain ⟨cc10a, cc10b, cc10c, cc10d⟩ := XQ.out.cells
  obtain ⟨cc11a, cc11b⟩ := R1.out.both
  obtain ⟨cc12a, cc12b⟩ := R2.out.both
  go_wp2_with fail
  generalize hW : ((w.alloc (.cells #[.bool s1a, .slice p1a n1a c1a, .bool s1b, .slice p1b n1b c1b] 60)).alloc (.cells #[.bool false, .slice none 0 0] 58)).alloc (.cells #[.bool false, .slice none 0 0] 58) = W13 at *
  clear hW
  have HS := sgn_whl HU.out
  rw [YG] at HS
  refine (HS).mono ?_
  rintro e w14 ⟨rfl, hb⟩
  replace XQ := nx XQ hb
  replace R1 := bx R1 hb
  replace R2 := bx R2 hb
  replace HT := wl HT hb
  replace HU := wl HU hb
  replace B := bb B hb
  clear cc10a cc10b cc10c cc10d cc11a cc11b cc12a cc12b
  clear hb 
  clear HS YG
  obtain ⟨cc15a, cc15b, cc15c, cc15d⟩ := XQ.out.cells
  obtain ⟨cc16a, cc16b⟩ := R1.out.both
  obtain ⟨cc17a, cc17b⟩ := R2.out.both
  go_wp2_with fail
  obtain ⟨cc18a, cc18b, cc18c, cc18d⟩ := XQ.out.cells
  replace XQ := hid XQ.out.dr
  replace R1 := hid R1.out.dr
  replace R2 := hid R2.out.dr
  replace HT := hid HT.out.drew
  replace HU := hid HU.out.drew
  replace B := hid (Below.drew B.out)
  obtain ⟨cc19a, cc19b, cc19c, cc19d⟩ := XQ.out.cells
  go_region_held3 (fun w' => w'.cell? ⟨w.heap.size, 0, none⟩ = some (.bool s1a) ∧ w'.cell? ⟨w.heap.size, 1, none⟩ = some (.slice p1a n1a c1a) ∧ w'.cell? ⟨w.heap.size, 2, none⟩ = some (.bool s1b) ∧ w'.cell? ⟨w.heap.size, 3, none⟩ = some (.slice p1b n1b c1b)) (go_keep) (first
    | (go_at_call 61; refine (of_small 1 (by decide) _).mono ?_; rintro e w21 ⟨v, rfl, hv, hb⟩; obtain ⟨s4, p4, n4, c4, rfl⟩ := hv.opened; replace XQ := nx XQ hb; replace R1 := bx R1 hb; replace R2 := bx R2 hb; replace HT := wl HT hb; replace HU := wl HU hb; replace B := bb B hb; clear cc15a cc15b cc15c cc15d cc16a cc16b cc17a cc17b cc18a cc18b cc18c cc18d cc19a cc19b cc19c cc19d; have HO := hid hv; clear hb hv; obtain ⟨cc22a, cc22b, cc22c, cc22d⟩ := XQ.out.cells; obtain ⟨cc23a, cc23b, cc23c, cc23d⟩ := R1.out.stores; obtain ⟨r24a, r24b, r24c⟩ := R1.out.last B.out (by omega) s1a p1a n1a c1a; replace XQ := hid ((XQ.out.other (g2 := w.heap.size + 1) (by omega) 0 (.bool s1a)).other (g2 := w.heap.size + 1) (by omega) 1 (.slice p1a n1a c1a)); replace R2 := hid ((R2.out.other (g2 := w.heap.size + 1) (by omega) 0 (.bool s1a)).other (g2 := w.heap.size + 1) (by omega) 1 (.slice p1a n1a c1a)); replace HT := hid (r24c HT.out); replace HU := hid (r24c HU.out); replace HO := hid (r24c HO.out); replace R1 := hid r24a; replace B := hid r24b; clear r24a r24b r24c; obtain ⟨cc25a, cc25b, cc25c, cc25d⟩ := XQ.out.cells; obtain ⟨cc26a, cc26b, cc26c, cc26d⟩ := R2.out.stores; obtain ⟨r27a, r27b, r27c⟩ := R2.out.last B.out (by omega) s4 p4 n4 c4; replace XQ := hid ((XQ.out.other (g2 := w.heap.size + 1 + 1) (by omega) 0 (.bool s4)).other (g2 := w.heap.size + 1 + 1) (by omega) 1 (.slice p4 n4 c4)); replace R1 := hid ((R1.out.other (g2 := w.heap.size + 1 + 1) (by omega) 0 (.bool s4)).other (g2 := w.heap.size + 1 + 1) (by omega) 1 (.slice p4 n4 c4)); replace HT := hid (r27c HT.out); replace HU := hid (r27c HU.out); replace HO := hid (r27c HO.out); replace R2 := hid r27a; replace B := hid r27b; clear r27a r27b r27c; obtain ⟨cc28a, cc28b, cc28c, cc28d⟩ := XQ.out.cells; have mk20_0 := hid True.intro))
  go_wp2_with fail
  refine bodyPost_ret (res_ii rfl rfl rfl R1.out R2.out) rfl ?_
  exact ⟨_, _, rfl, HT.out, (show Whl _ _ (q.den : Int) _ by rw [HQ.out]; exact HO.out.mono HK.out), B.out⟩

set_option maxHeartbeats 1000000 in
theorem parts_some {w : World} {v : Value} {q : Rat} {k : Nat} (h : Rtl w v q k) (hz : ∀ d : Int, ∀ {s p n c s' p' n' c'}, Whl w (.agg #[.bool s', .slice p' n' c']) d k → v = .agg #[.bool s, .slice p n c, .bool s', .slice p' n' c'] → 0 < d) (hk : 1 ≤ k) :
    Calls Tryz.prog 76 #[v] w fun e w' => ∃ v u, e = .returned (.tuple #[v, u]) ∧ Whl w' v q.num k ∧ Whl w' u q.den k ∧ Below w.heap.size w w' := by
  obtain ⟨s1a, p1a, n1a, c1a, s1b, p1b, n1b, c1b, rfl⟩ := h.opened
  obtain ⟨h1, d, h2, h3⟩ := h.two
  have hd : 0 < d := hz d h2 rfl
  have hq : d = q.den := by rcases h3 with h3 | h3; exact h3; omega
  have YG := Int.sign_eq_one_of_pos hd
  have HQ := hid hq
  have HK := hid hk
  have B := hid (Below.refl w.heap.size w)
  have HT := hid h1
  have HU := hid h2
  have hb1 := (Below.refl _ _).alloc (Nat.le_refl w.heap.size) (.cells #[.bool s1a, .slice p1a n1a c1a, .bool s1b, .slice p1b n1b c1b] 60)
  have hx2 := Nbx.new w s1a s1b (.slice p1a n1a c1a) (.slice p1b n1b c1b)
  replace HT := wl HT hb1
  replace HU := wl HU hb1
  replace B := bb B hb1
  have XQ := hid hx2
  have hs3 : (w.alloc (.cells #[.bool s1a, .slice p1a n1a c1a, .bool s1b, .slice p1b n1b c1b] 60)).heap.size = w.heap.size + 1 := by simp
  clear hb1 hx2
  have hb4 := (Below.refl _ _).alloc (Nat.le_refl (w.alloc (.cells #[.bool s1a, .slice p1a n1a c1a, .bool s1b, .slice p1b n1b c1b] 60)).heap.size) (.cells #[.bool false, .slice none 0 0] 58)
  have hx5 := Box.new (w.alloc (.cells #[.bool s1a, .slice p1a n1a c1a, .bool s1b, .slice p1b n1b c1b] 60)) false none 0 0
  rw [hs3] at hx5
  replace XQ := nx XQ hb4
  replace HT := wl HT hb4
  replace HU := wl HU hb4
  replace B := bb B hb4
  have R1 := hid hx5
  have hs6 : ((w.alloc (.cells #[.bool s1a, .slice p1a n1a c1a, .bool s1b, .slice p1b n1b c1b] 60)).alloc (.cells #[.bool false, .slice none 0 0] 58)).heap.size = w.heap.size + 1 + 1 := by simp [hs3]
  clear hb4 hx5
  have hb7 := (Below.refl _ _).alloc (Nat.le_refl ((w.alloc (.cells #[.bool s1a, .slice p1a n1a c1a, .bool s1b, .slice p1b n1b c1b] 60)).alloc (.cells #[.bool false, .slice none 0 0] 58)).heap.size) (.cells #[.bool false, .slice none 0 0] 58)
  have hx8 := Box.new ((w.alloc (.cells #[.bool s1a, .slice p1a n1a c1a, .bool s1b, .slice p1b n1b c1b] 60)).alloc (.cells #[.bool false, .slice none 0 0] 58)) false none 0 0
  rw [hs6] at hx8
  replace XQ := nx XQ hb7
  replace R1 := bx R1 hb7
  replace HT := wl HT hb7
  replace HU := wl HU hb7
  replace B := bb B hb7
  have R2 := hid hx8
  have hs9 : (((w.alloc (.cells #[.bool s1a, .slice p1a n1a c1a, .bool s1b, .slice p1b n1b c1b] 60)).alloc (.cells #[.bool false, .slice none 0 0] 58)).alloc (.cells #[.bool false, .slice none 0 0] 58)).heap.size = w.heap.size + 1 + 1 + 1 := by simp [hs6]
  clear hb7 hx8
  clear hs9 h h1 h2 h3 hz hq hk hd
  go_enter Tryz.func76, Tryz.ntmps76
  obtain ⟨cc10a, cc10b, cc10c, cc10d⟩ := XQ.out.cells
  obtain ⟨cc11a, cc11b⟩ := R1.out.both
  obtain ⟨cc12a, cc12b⟩ := R2.out.both
  go_wp2_with fail
  generalize hW : ((w.alloc (.cells #[.bool s1a, .slice p1a n1a c1a, .bool s1b, .slice p1b n1b c1b] 60)).alloc (.cells #[.bool false, .slice none 0 0] 58)).alloc (.cells #[.bool false, .slice none 0 0] 58) = W13 at *
  clear hW
  have HS := sgn_whl HU.out
  rw [YG] at HS
  refine (HS).mono ?_
  rintro e w14 ⟨rfl, hb⟩
  replace XQ := nx XQ hb
  replace R1 := bx R1 hb
  replace R2 := bx R2 hb
  replace HT := wl HT hb
  replace HU := wl HU hb
  replace B := bb B hb
  clear cc10a cc10b cc10c cc10d cc11a cc11b cc12a cc12b
  clear hb 
  clear HS YG
  obtain ⟨cc15a, cc15b, cc15c, cc15d⟩ := XQ.out.cells
  obtain ⟨cc16a, cc16b⟩ := R1.out.both
  obtain ⟨cc17a, cc17b⟩ := R2.out.both
  go_wp2_with fail
  obtain ⟨cc18a, cc18b, cc18c, cc18d⟩ := XQ.out.cells
  obtain ⟨cc19a, cc19b, cc19c, cc19d⟩ := R1.out.stores
  obtain ⟨r20a, r20b, r20c⟩ := R1.out.last B.out (by omega) s1a p1a n1a c1a
  replace XQ := hid ((XQ.out.other (g2 := w.heap.size + 1) (by omega) 0 (.bool s1a)).other (g2 := w.heap.size + 1) (by omega) 1 (.slice p1a n1a c1a))
  replace R2 := hid ((R2.out.other (g2 := w.heap.size + 1) (by omega) 0 (.bool s1a)).other (g2 := w.heap.size + 1) (by omega) 1 (.slice p1a n1a c1a))
  replace HT := hid (r20c HT.out)
  replace HU := hid (r20c HU.out)
  replace R1 := hid r20a
  replace B := hid r20b
  clear r20a r20b r20c
  obtain ⟨cc21a, cc21b, cc21c, cc21d⟩ := XQ.out.cells
  obtain ⟨cc22a, cc22b, cc22c, cc22d⟩ := R2.out.stores
  obtain ⟨r23a, r23b, r23c⟩ := R2.out.last B.out (by omega) s1b p1b n1b c1b
  replace XQ := hid ((XQ.out.other (g2 := w.heap.size + 1 + 1) (by omega) 0 (.bool s1b)).other (g2 := w.heap.size + 1 + 1) (by omega) 1 (.slice p1b n1b c1b))
  replace R1 := hid ((R1.out.other (g2 := w.heap.size + 1 + 1) (by omega) 0 (.bool s1b)).other (g2 := w.heap.size + 1 + 1) (by omega) 1 (.slice p1b n1b c1b))
  replace HT := hid (r23c HT.out)
  replace HU := hid (r23c HU.out)
  replace R2 := hid r23a
  replace B := hid r23b
  clear r23a r23b r23c
  obtain ⟨cc24a, cc24b, cc24c, cc24d⟩ := XQ.out.cells
  go_region_held3 (fun w' => w'.cell? ⟨w.heap.size, 0, none⟩ = some (.bool s1a) ∧ w'.cell? ⟨w.heap.size, 1, none⟩ = some (.slice p1a n1a c1a) ∧ w'.cell? ⟨w.heap.size, 2, none⟩ = some (.bool s1b) ∧ w'.cell? ⟨w.heap.size, 3, none⟩ = some (.slice p1b n1b c1b)) (go_keep) (first | fail)
  replace XQ := hid XQ.out.dr
  replace R1 := hid R1.out.dr
  replace R2 := hid R2.out.dr
  replace HT := hid HT.out.drew
  replace HU := hid HU.out.drew
  replace B := hid (Below.drew B.out)
  go_wp2_with fail
  refine bodyPost_ret (res_ii rfl rfl rfl R1.out R2.out) rfl ?_
  exact ⟨_, _, rfl, HT.out, (show Whl _ _ (q.den : Int) _ by rw [← HQ.out]; exact HU.out), B.out⟩

theorem Whl.inj {w : World} {v : Value} {z y : Int} {k l : Nat} (h : Whl w v z k) (h' : Whl w v y l) : z = y := by
  obtain ⟨s, sv, xs, h1, h2, h3, h4, h5, h6⟩ := h
  obtain ⟨s', sv', xs', h1', h2', h3', h4', h5', h6'⟩ := h'
  rw [h1] at h1'
  simp only [Value.agg.injEq, Array.mk.injEq, List.cons.injEq, Value.bool.injEq, and_true] at h1'
  obtain ⟨rfl, rfl⟩ := h1'
  have hx : xs = xs' := h2.inj h2'
  rw [← h6, ← h6', hx]
theorem parts_rtl {w : World} {v : Value} {q : Rat} {k : Nat} (h : Rtl w v q k) (hk : 1 ≤ k) :
    Calls Tryz.prog 76 #[v] w fun e w' => ∃ v u, e = .returned (.tuple #[v, u]) ∧ Whl w' v q.num k ∧ Whl w' u q.den k ∧ Below w.heap.size w w' := by
  obtain ⟨s1, p1, n1, c1, s2, p2, n2, c2, rfl⟩ := id h.opened
  obtain ⟨h1, d, h2, h3⟩ := h.two
  by_cases h0 : d = 0
  · refine parts_zero h (fun d' {s p n c s' p' n' c'} hw he => ?_) hk
    simp only [Value.agg.injEq, Array.mk.injEq, List.cons.injEq, Value.bool.injEq, Value.slice.injEq, and_true] at he
    obtain ⟨rfl, ⟨rfl, rfl, rfl⟩, rfl, rfl, rfl, rfl⟩ := he
    rw [hw.inj h2]; exact h0
  · refine parts_some h (fun d' {s p n c s' p' n' c'} hw he => ?_) hk
    simp only [Value.agg.injEq, Array.mk.injEq, List.cons.injEq, Value.bool.injEq, Value.slice.injEq, and_true] at he
    obtain ⟨rfl, ⟨rfl, rfl, rfl⟩, rfl, rfl, rfl, rfl⟩ := he
    rw [hw.inj h2]
    rcases h3 with h3 | h3
    · have := q.den_pos; omega
    · exact absurd h3.1 h0

set_option maxHeartbeats 1000000 in
theorem more_whl {w : World} {v : Value} {z : Int} {k : Nat} (h : Whl w v z k) (hk : k ≤ 549755813888) :
    Calls Tryz.prog 71 #[v] w fun e w' => e = .returned (.bool (decide (1 < z))) ∧ Below w.heap.size w w' := by
  obtain ⟨s1, p1, n1, c1, rfl⟩ := h.opened
  have HK := hid hk
  have B := hid (Below.refl w.heap.size w)
  have HZ := hid h
  have hb1 := (Below.refl _ _).alloc (Nat.le_refl w.heap.size) (.cells #[.bool s1, .slice p1 n1 c1] 58)
  have hx2 := Box.new w s1 p1 n1 c1
  replace HZ := wl HZ hb1
  replace B := bb B hb1
  have X1 := hid hx2
  have hs3 : (w.alloc (.cells #[.bool s1, .slice p1 n1 c1] 58)).heap.size = w.heap.size + 1 := by simp
  clear hb1 hx2
  clear hs3 h hk
  go_enter Tryz.func71, Tryz.ntmps71
  go_wp2_with fail
  obtain ⟨cc4a, cc4b⟩ := X1.out.both
  replace X1 := hid X1.out.dr
  replace HZ := hid HZ.out.drew
  replace B := hid (Below.drew B.out)
  obtain ⟨cc5a, cc5b⟩ := X1.out.both
  go_region_held3 (fun w' => w'.cell? ⟨w.heap.size, 0, none⟩ = some (.bool s1) ∧ w'.cell? ⟨w.heap.size, 1, none⟩ = some (.slice p1 n1 c1)) (go_keep) (first
    | (have hm := mk6_0; clear hm; go_at_call 91; refine (zless_whl HO.out HZ.out (by omega) HK.out).mono ?_; rintro e w9 ⟨rfl, hb⟩; replace X1 := bx X1 hb; replace B := bb B hb; clear cc8a cc8b; clear hb ; obtain ⟨cc10a, cc10b⟩ := X1.out.both; have mk6_1 := hid True.intro)
    | (go_at_call 61; refine (of_small 1 (by decide) _).mono ?_; rintro e w7 ⟨v, rfl, hv, hb⟩; obtain ⟨s2, p2, n2, c2, rfl⟩ := hv.opened; replace X1 := bx X1 hb; replace HZ := wl HZ hb; replace B := bb B hb; clear cc4a cc4b cc5a cc5b; have HO := hid hv; clear hb hv; obtain ⟨cc8a, cc8b⟩ := X1.out.both; have mk6_0 := hid True.intro))
  go_wp2_with fail
  go_ret
  exact ⟨rfl, B.out⟩

end Go.Proofs.YtkdeopikojgboaaGreatDoor

/-
  AN INTERVAL IN MEMORY.
-/
namespace Go.Proofs.YtkdeopikojgboaaGreatDoor
open Go.RowKit
open Num
set_option linter.unusedVariables false
set_option maxRecDepth 100000
set_option linter.unusedSimpArgs false

/-- A block of two cells: an interval. -/
def Vbx (w : World) (g : Nat) (a b : ByteArray) : Prop := w.heap[g]? = some (.cells #[.string a, .string b] 23 (0, 0))
theorem Vbx.lt {w : World} {g : Nat} {a b : ByteArray} (h : Vbx w g a b) : g < w.heap.size := lt_of_block h
theorem Vbx.both {w : World} {g : Nat} {a b : ByteArray} (h : Vbx w g a b) : w.cell? ⟨g, 0, none⟩ = some (.string a) ∧ w.cell? ⟨g, 1, none⟩ = some (.string b) := by
  have : w.heap[g]? = some (.cells #[.string a, .string b] 23 (0, 0)) := h
  refine ⟨?_, ?_⟩ <;> simp [World.cell?, this]
theorem Vbx.free {w : World} {g : Nat} {a b : ByteArray} (h : Vbx w g a b) (i : Nat) : w.frozen? ⟨g, i, none⟩ = false := by
  have : w.heap[g]? = some (.cells #[.string a, .string b] 23 (0, 0)) := h
  simp [World.frozen?, this]
theorem Vbx.below {w w' : World} {g K : Nat} {a b : ByteArray} (h : Vbx w g a b) (hb : Below K w w') (hK : g < K) : Vbx w' g a b := (hb.block g hK).trans h
theorem Vbx.dr {w : World} {g : Nat} {a b : ByteArray} (h : Vbx w g a b) : Vbx w.drew g a b := h
theorem Vbx.new (w : World) (a b : ByteArray) : Vbx (w.alloc (.cells #[.string a, .string b] 23)) w.heap.size a b := by
  show (w.heap.push _)[w.heap.size]? = _
  simp
theorem Vbx.other {w : World} {g g2 : Nat} {a b : ByteArray} (h : Vbx w g a b) (hne : g ≠ g2) (i : Nat) (v : Value) : Vbx (w.setCell ⟨g2, i, none⟩ v) g a b := by
  show (w.setCell ⟨g2, i, none⟩ v).heap[g]? = _
  rw [Below.heap_setCell _ _ _ _ (by exact hne)]; exact h
theorem Vbx.set0 {w : World} {g : Nat} {a b : ByteArray} (h : Vbx w g a b) (x : ByteArray) : Vbx (w.setCell ⟨g, 0, none⟩ (.string x)) g x b := by
  have : w.heap[g]? = some (.cells #[.string a, .string b] 23 (0, 0)) := h
  show (w.setCell ⟨g, 0, none⟩ (.string x)).heap[g]? = _
  simp only [World.setCell, Array.getElem?_modify, this]
  simp
theorem Vbx.set1 {w : World} {g : Nat} {a b : ByteArray} (h : Vbx w g a b) (x : ByteArray) : Vbx (w.setCell ⟨g, 1, none⟩ (.string x)) g a x := by
  have : w.heap[g]? = some (.cells #[.string a, .string b] 23 (0, 0)) := h
  show (w.setCell ⟨g, 1, none⟩ (.string x)).heap[g]? = _
  simp only [World.setCell, Array.getElem?_modify, this]
  simp
theorem Vbx.stores {w : World} {g : Nat} {a b : ByteArray} (h : Vbx w g a b) :
    w.cell? ⟨g, 0, none⟩ = some (.string a) ∧ w.frozen? ⟨g, 0, none⟩ = false ∧ (∀ x, (w.setCell ⟨g, 0, none⟩ (.string x)).cell? ⟨g, 1, none⟩ = some (.string b)) ∧ (∀ x, (w.setCell ⟨g, 0, none⟩ (.string x)).frozen? ⟨g, 1, none⟩ = false) :=
  ⟨h.both.1, h.free 0, fun x => (h.set0 x).both.2, fun x => (h.set0 x).free 1⟩
theorem Lim.vbx {w : World} {v : Value} {xs : List Nat} {g : Nat} {a b : ByteArray} (h : Lim w v xs) (hx : Vbx w g a b) (i : Nat) (u : Value) : Lim (w.setCell ⟨g, i, none⟩ u) v xs := by
  have hg : w.heap[g]? = some (.cells #[.string a, .string b] 23 (0, 0)) := hx
  obtain ⟨h1, p, c, h2, h3, h4, h5⟩ := h
  refine ⟨h1, p, c, h2, h3, h4, ?_⟩
  rcases h5 with h5 | ⟨bk, off, h6, h7, h8⟩
  · exact .inl h5
  · refine .inr ⟨bk, off, h6, by simpa [World.setCell] using h7, fun i hi => ?_⟩
    have h9 := h8 i hi
    by_cases hb : bk = g
    · subst hb
      simp only [World.cell?, hg] at h9
      have hh : ∀ k : Nat, (#[Value.string a, Value.string b] : Array Value)[k]? ≠ some (.int .u32 (dg xs i)) := by
        intro k
        rcases k with _ | _ | k <;> simp
      exact absurd h9 (hh _)
    · rw [← h9]
      exact World.cell?_of_block (Below.heap_setCell _ _ _ _ (by exact hb))
theorem Whl.vbx {w : World} {v : Value} {z : Int} {k g : Nat} {a b : ByteArray} (h : Whl w v z k) (hx : Vbx w g a b) (i : Nat) (u : Value) : Whl (w.setCell ⟨g, i, none⟩ u) v z k := by
  obtain ⟨s', sv', xs, h1, h2, h3⟩ := h
  exact ⟨s', sv', xs, h1, h2.vbx hx i u, h3⟩
theorem Vbx.last {w0 w : World} {g K : Nat} {a b : ByteArray} (h : Vbx w g a b) (hb : Below K w0 w) (hg : K ≤ g) (x y : ByteArray) :
    Vbx ((w.setCell ⟨g, 0, none⟩ (.string x)).setCell ⟨g, 1, none⟩ (.string y)) g x y ∧ Below K w0 ((w.setCell ⟨g, 0, none⟩ (.string x)).setCell ⟨g, 1, none⟩ (.string y)) ∧
    (∀ {v z k}, Whl w v z k → Whl ((w.setCell ⟨g, 0, none⟩ (.string x)).setCell ⟨g, 1, none⟩ (.string y)) v z k) := by
  have h1 := h.set0 x
  refine ⟨h1.set1 y, (hb.setCell (p := ⟨g, 0, none⟩) hg _).setCell (p := ⟨g, 1, none⟩) hg _, fun hv => ?_⟩
  exact (hv.vbx h 0 _).vbx h1 1 _
theorem load_ival {w : World} {g : Nat} {a b : ByteArray} (h2 : Vbx w g a b) : (loadVar 23 ⟨g, 0, none⟩).run Tryz.prog w = .ok (.agg #[.string a, .string b]) w := by
  obtain ⟨h0, h1⟩ := h2.both
  simp [go_sem, h0, h1]
theorem res_ival_tmp {fn : Func} {t t' : Tmp} {tmps : Array Value} {w : World} {g : Nat} {a b : ByteArray} {u : Value} (hf : fn.results = #[.cell t 23, .tmp t']) (ht : tmps.getD t undef = .pointer (some ⟨g, 0, none⟩)) (hu : tmps.getD t' undef = u) (h2 : Vbx w g a b) :
    (results fn tmps).run Tryz.prog w = .ok (.tuple #[.agg #[.string a, .string b], u]) w := by
  have h1 := at_addr (P := Tryz.prog) (w := w) ht
  have h3 := load_ival h2
  simp only [Array.getD_eq_getD_getElem?] at h1 hu
  simp [results, hf, Sem.run_bind, h1, h3, hu]
theorem res_ival {fn : Func} {t : Tmp} {tmps : Array Value} {w : World} {g : Nat} {a b : ByteArray} (hf : fn.results = #[.cell t 23]) (ht : tmps.getD t undef = .pointer (some ⟨g, 0, none⟩)) (h2 : Vbx w g a b) :
    (results fn tmps).run Tryz.prog w = .ok (.agg #[.string a, .string b]) w := by
  have h1 := at_addr (P := Tryz.prog) (w := w) ht
  have h3 := load_ival h2
  simp only [Array.getD_eq_getD_getElem?] at h1
  simp [results, hf, Sem.run_bind, h1, h3]
theorem vx {w w' : World} {g : Nat} {a b : ByteArray} (h : Hid (Vbx w g a b)) (hb : Below w.heap.size w w') : Hid (Vbx w' g a b) := hid (h.out.below hb h.out.lt)

end Go.Proofs.YtkdeopikojgboaaGreatDoor

/-
  A Number's box that a region makes.
-/
namespace Go.Proofs.YtkdeopikojgboaaGreatDoor
open Go.RowKit
open Num
set_option linter.unusedVariables false
set_option maxRecDepth 100000
set_option linter.unusedSimpArgs false


theorem below_next {a c d : World} (h : Below a.heap.size a c) (hb : Below c.heap.size c d) : Below a.heap.size a d := h.trans (hb.mono h.size)
/-- A Number's box that the region has made. -/
def NewN (w0 w : World) (u : Value) (b : Bool) (v : Value) : Prop := ∃ g, u = .pointer (some ⟨g, 0, none⟩) ∧ w0.heap.size ≤ g ∧ (b = false → Nbx w g false (.slice none 0 0) false (.slice none 0 0)) ∧ (b = true → ∃ s p n c s' p' n' c', v = .agg #[.bool s, .slice p n c, .bool s', .slice p' n' c'] ∧ Nbx w g s (.slice p n c) s' (.slice p' n' c'))
theorem NewN.free {w0 w : World} {u v v' : Value} {b : Bool} (h : NewN w0 w u b v) (hb : b = false) : NewN w0 w u b v' := by
  obtain ⟨g, h1, h2, h3, h4⟩ := h
  exact ⟨g, h1, h2, h3, fun e => absurd (hb.symm.trans e) (by decide)⟩
theorem NewN.on {w0 w w' : World} {u v : Value} {b : Bool} (h : NewN w0 w u b v) (hb : Below w.heap.size w w') : NewN w0 w' u b v := by
  obtain ⟨g, h1, h2, h3, h4⟩ := h
  refine ⟨g, h1, h2, fun e => (h3 e).below hb (h3 e).lt, fun e => ?_⟩
  obtain ⟨s, p, n, c, s', p', n', c', e1, e2⟩ := h4 e
  exact ⟨s, p, n, c, s', p', n', c', e1, e2.below hb e2.lt⟩

theorem NewN.lt {w0 w : World} {u v : Value} {b : Bool} (h : NewN w0 w u b v) : ∃ g, u = .pointer (some ⟨g, 0, none⟩) ∧ g < w.heap.size := by
  obtain ⟨g, h1, h2, h3, h4⟩ := h
  refine ⟨g, h1, ?_⟩
  cases b with
  | false => exact (h3 rfl).lt
  | true => obtain ⟨_, _, _, _, _, _, _, _, _, h⟩ := h4 rfl; exact h.lt
theorem NewN.set {w0 w : World} {u v : Value} {b : Bool} {g : Nat} (h : NewN w0 w u b v) (hne : u ≠ .pointer (some ⟨g, 0, none⟩)) (a1 a2 a3 a4 : Value) : NewN w0 ((((w.setCell ⟨g, 0, none⟩ a1).setCell ⟨g, 1, none⟩ a2).setCell ⟨g, 2, none⟩ a3).setCell ⟨g, 3, none⟩ a4) u b v := by
  obtain ⟨g', rfl, h2, h3, h4⟩ := h
  have hg : g' ≠ g := fun e => hne (by rw [e])
  refine ⟨g', rfl, h2, fun e => ((((h3 e).other hg _ _).other hg _ _).other hg _ _).other hg _ _, fun e => ?_⟩
  obtain ⟨s, p, n, c, s', p', n', c', e1, e2⟩ := h4 e
  exact ⟨s, p, n, c, s', p', n', c', e1, (((e2.other hg _ _).other hg _ _).other hg _ _).other hg _ _⟩
theorem Rtl.moved {w w' : World} {v : Value} {q : Rat} {k : Nat} (h : Rtl w v q k) (hm : ∀ v z k, Whl w v z k → Whl w' v z k) : Rtl w' v q k := by
  obtain ⟨s, p, n, c, s', p', n', c', h1, h2, d, h3, h4⟩ := h
  exact ⟨s, p, n, c, s', p', n', c', h1, hm _ _ _ h2, d, hm _ _ _ h3, h4⟩

end Go.Proofs.YtkdeopikojgboaaGreatDoor
