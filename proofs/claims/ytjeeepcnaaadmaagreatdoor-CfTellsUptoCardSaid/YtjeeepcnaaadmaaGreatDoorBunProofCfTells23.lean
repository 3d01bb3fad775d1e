import Derived.Test.YtjeeepcnaaadmaaGreatDoorBunProofCfTells22
import Derived.Test.YtjeeepcnaaadmaaGreatDoorBunProofCfTells18
import Derived.Test.YtjeeepcnaaadmaaGreatDoorBunProofCfTells1
import Derived.Test.YtjeeepcnaaadmaaGreatDoorBunProofCfTells11
import Derived.Test.YtjeeepcnaaadmaaGreatDoorBunProofCfTells19
import Derived.Test.YtjeeepcnaaadmaaGreatDoorBunProofCfTells14
/-
  PACKAGE cf: collapse.
-/
namespace Go.Proofs.YtjeeepcnaaadmaaGreatDoor
open Go.RowKit Go.Shelf
open Num
set_option linter.unusedVariables false
set_option maxRecDepth 100000
set_option linter.unusedSimpArgs false
attribute [local go_sem] Oper.semAt_some

/-- A turn of what is no cells changes no number. -/
theorem Lim.turned {w w' : World} {v : Value} {xs : List Nat} {row : Option Nat} (h : Lim w v xs) (hg : w.grownBy w' row) (hr : ∀ r, row = some r → ∃ o : Obj, w.heap[r]? = some o ∧ o.isCells = false) : Lim w' v xs := by
  obtain ⟨h1, p, c, h2, h3, h4, h5⟩ := h
  refine ⟨h1, p, c, h2, h3, h4, ?_⟩
  rcases h5 with h5 | ⟨b, off, h6, h7, h8⟩
  · exact .inl h5
  · refine .inr ⟨b, off, h6, Nat.lt_of_lt_of_le h7 hg.size, fun i hi => ?_⟩
    have h9 := h8 i hi
    by_cases hb : row = some b
    · exfalso
      obtain ⟨o, ho, hc⟩ := hr b hb
      simp only [World.cell?, ho] at h9
      cases o <;> simp_all [Obj.isCells]
    · rw [← h9]
      exact World.cell?_of_block (hg.block b h7 (fun e => hb e.symm))
theorem Whl.turned {w w' : World} {v : Value} {z : Int} {k : Nat} {row : Option Nat} (h : Whl w v z k) (hg : w.grownBy w' row) (hr : ∀ r, row = some r → ∃ o : Obj, w.heap[r]? = some o ∧ o.isCells = false) : Whl w' v z k := by
  obtain ⟨s, sv, xs, h1, h2, h3⟩ := h
  exact ⟨s, sv, xs, h1, h2.turned hg hr, h3⟩
theorem Box.turned {w w' : World} {g : Nat} {s : Bool} {sv : Value} {row : Option Nat} (h : Box w g s sv) (hg : w.grownBy w' row) (hr : ∀ r, row = some r → ∃ o : Obj, w.heap[r]? = some o ∧ o.isCells = false) : Box w' g s sv := by
  refine ⟨(hg.block g h.lt (fun e => ?_)).trans h.1, h.2⟩
  obtain ⟨o, ho, hc⟩ := hr g e.symm
  rw [h.1] at ho
  cases ho
  cases hc
theorem Nbx.turned {w w' : World} {g : Nat} {s s' : Bool} {sv sv' : Value} {row : Option Nat} (h : Nbx w g s sv s' sv') (hg : w.grownBy w' row) (hr : ∀ r, row = some r → ∃ o : Obj, w.heap[r]? = some o ∧ o.isCells = false) : Nbx w' g s sv s' sv' := by
  refine (hg.block g h.lt (fun e => ?_)).trans h
  obtain ⟨o, ho, hc⟩ := hr g e.symm
  rw [show w.heap[g]? = _ from h] at ho
  cases ho
  cases hc

/-- The places that have come, folded. -/
def cac (zf : Nat → Int) (pre : List Nat) : Int × Int := pre.foldl (fun p x => (zf x * p.1 + p.2, p.1)) (1, 0)
theorem cac_snoc (zf : Nat → Int) (pre : List Nat) (x : Nat) : cac zf (pre ++ [x]) = (zf x * (cac zf pre).1 + (cac zf pre).2, (cac zf pre).1) := by simp [cac]

theorem KB.on {n₀ Bs : Nat} {W A A' : World} (h : KB n₀ Bs W A) (hb : Below A.heap.size A A') (h1 : n₀ ≤ A.heap.size) (h2 : Bs < A.heap.size) : KB n₀ Bs W A' := ⟨h.1.trans (hb.mono h1), (hb.block Bs h2).trans h.2⟩
theorem KB.set {n₀ Bs g : Nat} {W A : World} (h : KB n₀ Bs W A) (h1 : n₀ ≤ g) (h2 : Bs ≠ g) (i : Nat) (u : Value) : KB n₀ Bs W (A.setCell ⟨g, i, none⟩ u) := ⟨h.1.setCell (p := ⟨g, i, none⟩) h1 _, (Below.heap_setCell _ _ _ _ (by exact h2)).trans h.2⟩
theorem KeepsOthers.of_below {W W' : World} (h : Below W.heap.size W W') : KeepsOthers W W' := ⟨h.size, fun k o hk _ => (h.block k (Array.getElem?_eq_some_iff.1 hk).1).trans hk⟩

/-- What holds between two rounds. -/
def CI (w : World) (G : Nat) (vs : List Zr) (zf : Nat → Int) (pre : List Nat) (W : World) : Prop :=
  (∃ s1 p1 n1 c1 s2 p2 n2 c2, Box W G s1 (.slice p1 n1 c1) ∧ Box W (G + 1) s2 (.slice p2 n2 c2) ∧ Whl W (.agg #[.bool s1, .slice p1 n1 c1]) (cac zf pre).1 (101 * pre.length + 1) ∧ Whl W (.agg #[.bool s2, .slice p2 n2 c2]) (cac zf pre).2 (101 * pre.length + 1)) ∧
  (∀ i, Whl W (zag (zat vs i)) (zf i) 100) ∧ Nbx W w.heap.size false (.slice none 0 0) false (.slice none 0 0) ∧ Below w.heap.size w W ∧ G + 1 + 1 < W.heap.size
theorem CI.own {w : World} {G : Nat} {vs : List Zr} {zf : Nat → Int} {K : Nat} (hK : w.heap.size ≤ K) : OwnFrom K (CI w G vs zf) := by
  rintro s W W' row ⟨⟨s1, p1, n1, c1, s2, p2, n2, c2, h1, h2, h3, h4⟩, h5, h6, h7, h8⟩ hg hr
  have hr' := fun r e => (hr r e).2
  exact ⟨⟨s1, p1, n1, c1, s2, p2, n2, c2, h1.turned hg hr', h2.turned hg hr', h3.turned hg hr', h4.turned hg hr'⟩, fun i => (h5 i).turned hg hr', h6.turned hg hr', h7.grown hg h7.size (fun g e => Nat.le_trans hK (hr g e).1), Nat.lt_of_lt_of_le h8 hg.size⟩
theorem CI.size {w : World} {G : Nat} {vs : List Zr} {zf : Nat → Int} {pre : List Nat} {W : World} (h : CI w G vs zf pre W) : G + 1 + 1 < W.heap.size := h.2.2.2.2
theorem CI.on {w : World} {G : Nat} {vs : List Zr} {zf : Nat → Int} {pre : List Nat} {W W' : World} (h : CI w G vs zf pre W) (hb : Below W.heap.size W W') : CI w G vs zf pre W' := by
  obtain ⟨⟨s1, p1, n1, c1, s2, p2, n2, c2, h1, h2, h3, h4⟩, h5, h6, h7, h8⟩ := h
  exact ⟨⟨s1, p1, n1, c1, s2, p2, n2, c2, h1.below hb h1.lt, h2.below hb h2.lt, h3.on hb, h4.on hb⟩, fun i => (h5 i).on hb, h6.below hb h6.lt, h7.trans (hb.mono h7.size), Nat.lt_of_lt_of_le h8 hb.size⟩
theorem CI.alloc {w : World} {G : Nat} {vs : List Zr} {zf : Nat → Int} {pre : List Nat} {W : World} (h : CI w G vs zf pre W) (o : Obj) : CI w G vs zf pre (W.alloc o) := h.on ((Below.refl _ _).alloc (Nat.le_refl _) o)
theorem CI.store {w : World} {G : Nat} {vs : List Zr} {zf : Nat → Int} {pre : List Nat} {W : World} (h : CI w G vs zf pre W) {g : Nat} {s : Bool} {sv : Value} (hX : Box W g s sv) (i : Nat) (u : Value) (hg : G + 1 < g) (hw : w.heap.size < g) : CI w G vs zf pre (W.setCell ⟨g, i, none⟩ u) := by
  obtain ⟨⟨s1, p1, n1, c1, s2, p2, n2, c2, h1, h2, h3, h4⟩, h5, h6, h7, h8⟩ := h
  exact ⟨⟨s1, p1, n1, c1, s2, p2, n2, c2, h1.other (by omega) _ _, h2.other (by omega) _ _, h3.box hX _ _, h4.box hX _ _⟩, fun i => (h5 i).box hX _ _, h6.other (by omega) _ _, h7.setCell (p := ⟨g, i, none⟩) (Nat.le_of_lt hw) _, by simpa [World.setCell] using h8⟩

set_option maxHeartbeats 8000000 in
theorem collapse_rtl {w : World} {b n : Nat} {vs : List Zr} {zf : Nat → Int} (hrow : Zrow w b vs) (hvs : vs.length = n) (hw : ∀ i, Whl w (zag (zat vs i)) (zf i) 100) (hn1 : 1 ≤ n) (hn : n ≤ 30) (hb0 : (cac zf (dwn n n)).2 ≠ 0) :
    Calls Tryz.prog 70 #[.slice (some ⟨b, 0, none⟩) n n] w fun e w' => ∃ v, e = .returned v ∧ Rtl w' v (Rat.divInt (cac zf (dwn n n)).1 (cac zf (dwn n n)).2) 4000 ∧ Below w.heap.size w w' := by
  refine (callsIn_wide (n := 10)).1 ?_
  have HROW := hid hrow
  have HW := hid hw
  have B := hid (Below.refl w.heap.size w)
  have hb1 := (Below.refl _ _).alloc (Nat.le_refl w.heap.size) (.cells #[.bool false, .slice none 0 0, .bool false, .slice none 0 0] 83)
  have hx2 := Nbx.new w false false (.slice none 0 0) (.slice none 0 0)
  replace B := bb B hb1
  have XQ := hid hx2
  have hs3 : (w.alloc (.cells #[.bool false, .slice none 0 0, .bool false, .slice none 0 0] 83)).heap.size = w.heap.size + 1 := by simp
  clear hb1 hx2
  clear hrow hw
  refine callsIn_of_wp_marks Tryz.func70 rfl trivial ?_ rfl
  simp only [Tryz.ntmps70, List.size_toArray, List.length_cons, List.length_nil, Nat.reduceAdd, Nat.reduceSub, Array.replicate_succ, Array.replicate_zero, List.push_toArray, List.append_toArray, List.nil_append, List.cons_append]
  gi_wp2
  generalize hW : w.alloc (.cells #[.bool false, .slice none 0 0, .bool false, .slice none 0 0] 83) = W4 at *
  clear hW
  refine ⟨trivial, callsIn_wide.2 ((of_small 1 (by decide) _).mono ?_)⟩
  rintro e w5 ⟨v, rfl, hv, hb⟩
  obtain ⟨s1, p1, n1, c1, rfl⟩ := hv.opened
  replace XQ := nx XQ hb
  replace B := bb B hb
  have HT := hid hv
  clear hb hv
  gi_wp2
  refine ⟨trivial, callsIn_wide.2 ((of_small 0 (by decide) _).mono ?_)⟩
  rintro e w6 ⟨v, rfl, hv, hb⟩
  obtain ⟨s2, p2, n2, c2, rfl⟩ := hv.opened
  replace XQ := nx XQ hb
  replace HT := wl HT hb
  replace B := bb B hb
  have HU := hid hv
  clear hb hv
  have LQ := hid (show w.heap.size < w6.heap.size from XQ.out.lt)
  have hb7 := (Below.refl _ _).alloc (Nat.le_refl w6.heap.size) (.cells #[.bool s1, .slice p1 n1 c1] 81)
  have hx8 := Box.new w6 s1 p1 n1 c1
  have L1 := hid XQ.out.lt
  replace XQ := nx XQ hb7
  replace HT := wl HT hb7
  replace HU := wl HU hb7
  replace B := bb B hb7
  have XT := hid hx8
  have hs9 : (w6.alloc (.cells #[.bool s1, .slice p1 n1 c1] 81)).heap.size = w6.heap.size + 1 := by simp
  clear hb7 hx8
  have hb10 := (Below.refl _ _).alloc (Nat.le_refl (w6.alloc (.cells #[.bool s1, .slice p1 n1 c1] 81)).heap.size) (.cells #[.bool s2, .slice p2 n2 c2] 81)
  have hx11 := Box.new (w6.alloc (.cells #[.bool s1, .slice p1 n1 c1] 81)) s2 p2 n2 c2
  rw [hs9] at hx11
  replace XQ := nx XQ hb10
  replace XT := bx XT hb10
  replace HT := wl HT hb10
  replace HU := wl HU hb10
  replace B := bb B hb10
  have XB := hid hx11
  have hs12 : ((w6.alloc (.cells #[.bool s1, .slice p1 n1 c1] 81)).alloc (.cells #[.bool s2, .slice p2 n2 c2] 81)).heap.size = w6.heap.size + 1 + 1 := by simp [hs9]
  clear hb10 hx11
  gi_wp2
  generalize hW8 : (w6.alloc (.cells #[.bool s1, .slice p1 n1 c1] 81)).alloc (.cells #[.bool s2, .slice p2 n2 c2] 81) = W8 at *
  clear hW8
  generalize hG : w6.heap.size = G at *
  clear hG
  have hS8 : W8.heap.size = G + 1 + 1 := hs12
  refine ⟨trivial, (bkwd_in Fence.wide _ trivial rfl _ _ _ _).mono ?_⟩
  rintro e w' ⟨rfl, rfl⟩
  have hbS := (Below.refl _ _).alloc (Nat.le_refl W8.heap.size) (.cells #[.slice (some ⟨b, 0, none⟩) n n] 107)
  have cS : (W8.alloc (.cells #[.slice (some ⟨b, 0, none⟩) n n] 107)).cell? ⟨G + 1 + 1, 0, none⟩ = some (.slice (some ⟨b, 0, none⟩) n n) := by rw [← hS8]; simp
  replace XQ := nx XQ hbS
  replace XT := bx XT hbS
  replace XB := bx XB hbS
  replace HT := wl HT hbS
  replace HU := wl HU hbS
  replace B := bb B hbS
  have hS9 : (W8.alloc (.cells #[.slice (some ⟨b, 0, none⟩) n n] 107)).heap.size = G + 1 + 1 + 1 := by simp [hS8]
  rw [hS8]
  clear hbS
  generalize hW9 : W8.alloc (.cells #[.slice (some ⟨b, 0, none⟩) n n] 107) = W0 at *
  clear hW9
  gi_wp2
  have hLb : b < w.heap.size := HROW.out.lt
  have hSB := HROW.out.below B.out hLb
  have hI0 : CI w G vs zf [] W0 := ⟨⟨_, _, _, _, _, _, _, _, XT.out, XB.out, HT.out, HU.out⟩, fun i => (HW.out i).below B.out (Nat.le_refl _), XQ.out, B.out, by omega⟩
  have hsz := B.out.size
  clear HT HU XT XB XQ
  refine wpIn_rangeFunc_ownH (F := Fence.wide) rfl (by decide) (gf := 131) (lb := #[.pointer (some ⟨G + 1 + 1, 0, none⟩)]) rfl trivial (enters_of Tryz.func131 (by kernel_rfl) rfl)
    (bkwd_stops Fence.wide (10 - 1) trivial rfl (by decide) (G + 1 + 1) w.heap.size b n vs hvs (by omega) W0 hLb (by omega) hsz cS hSB) (fun h h' => h.trans h') (fun W l o o' h1 h2 h3 h4 => ⟨belowK_b hsz W l o o' h1 h2 h3 h4, World.putObj_heap_other (fun e => by omega)⟩) (Below.refl _ _) (fun _ => rfl)
    (CI w G vs zf) (fun _ _ _ => False) (CI.own (by omega)) (fun _ _ _ _ _ hs _ _ => hs) hI0
    (fun x a' W => ∃ Bx, G + 1 < Bx ∧ Box W Bx (zat vs x).1 (.slice (zat vs x).2.1 (zat vs x).2.2.1 (zat vs x).2.2.2) ∧ a' = { tmps := #[Value.slice (some ⟨b, 0, none⟩) n n, undef, Value.pointer (some ⟨w.heap.size, 0, none⟩), Value.pointer (some ⟨G, 0, none⟩), Value.pointer (some ⟨G + 1, 0, none⟩), undef, Value.pointer (some ⟨Bx, 0, none⟩), undef, undef, Value.agg #[Value.bool s1, Value.slice p1 n1 c1], Value.agg #[Value.bool s2, Value.slice p2 n2 c2], Value.slice (some ⟨b, 0, none⟩) n n, Value.func (Fn.func 131) #[] #[Value.pointer (some ⟨G + 1 + 1, 0, none⟩)], Value.int IntKind.i64 (x : Int), (.agg #[.bool (zat vs x).1, .slice (zat vs x).2.1 (zat vs x).2.2.1 (zat vs x).2.2.2]), undef, undef, undef, undef, undef, undef, undef, undef, undef, undef, undef, undef, undef], defers := [] })
    (fun x a' _ X Y row hs hg hr => by obtain ⟨Bx, h1, h2, h3⟩ := hs; exact ⟨Bx, h1, h2.turned hg (fun r e => (hr r e).2), h3⟩)
    ?assign ?body ?done ?stop
  case assign =>
    intro l pre x W K hi hK
    have hs1 := hi.size
    have hLQ := LQ.out
    have hX := Box.new W (zat vs x).1 (zat vs x).2.1 (zat vs x).2.2.1 (zat vs x).2.2.2
    simp only [zag] at hK ⊢
    gi_wp2
    exact hK _ _ ((KeepsOthers.alloc _ _).from _) ⟨(Below.refl _ W).alloc (by omega) _, Below.heap_alloc _ _ _ (by omega)⟩ (hi.alloc _) ⟨W.heap.size, by omega, hX, rfl⟩
  case body =>
    rintro l pre x a' W hl _ hi ⟨Bx, hBx, hX, rfl⟩ hlt
    have hs1 := hi.size
    obtain ⟨⟨s5, p5, n5, c5, s6, p6, n6, c6, hT, hU, hA, hB⟩, hZ, hQ, hBw, _⟩ := hi
    have hV := hZ x
    have hXlt := hX.lt
    have hne : ∃ s7 p7 n7 c7, zat vs x = (s7, p7, n7, c7) := ⟨_, _, _, _, rfl⟩
    obtain ⟨s7, p7, n7, c7, hz⟩ := hne
    rw [hz] at hX hV ⊢
    simp only [zag] at hX hV
    simp only [] at hX ⊢
    have XT := hid hT
    have XU := hid hU
    have XX := hid hX
    have XQ := hid hQ
    have HA := hid hA
    have HB := hid hB
    have HV := hid hV
    have HZ := hid hZ
    have B := hid hBw
    have LX := hid hBx
    have HS1 := hid hs1
    have HKB := hid (show KB w.heap.size (G + 1 + 1) W W.drew from ⟨Below.drew (Below.refl _ _), rfl⟩)
    have HKO := hid (KeepsOthers.drew W)
    have HL := hid (show pre.length < 30 by omega)
    have HC := hid (cac_snoc zf pre x)
    have hmx : Tryz.prog.follows .mixedOrders = true := by kernel_rfl
    clear hT hU hX hQ hA hB hV hZ hBw hBx hs1 hXlt hz hl hI0 hSB cS
    replace XT := hid XT.out.dr
    replace XU := hid XU.out.dr
    replace XX := hid XX.out.dr
    replace XQ := hid XQ.out.dr
    replace HA := hid HA.out.drew
    replace HB := hid HB.out.drew
    replace HV := hid HV.out.drew
    replace B := hid (Below.drew B.out)
    replace HZ := hid (fun i => (HZ.out i).drew)
    replace HS1 := hid (show G + 1 + 1 < W.drew.heap.size from HS1.out)
    obtain ⟨cc501a, cc501b⟩ := XT.out.both
    obtain ⟨cc502a, cc502b⟩ := XU.out.both
    obtain ⟨cc503a, cc503b⟩ := XX.out.both
    gi_wp2
    gi_region_with_o (first
      | (have hm := mk_0; clear hm; refine ⟨trivial, ?_⟩; gi_at_call 95; refine (CallsIn.inRound l (callsIn_wide.2 (add_whl HM.out HB.out (by have := HL.out; omega) (by have := HL.out; omega)))).mono ?_; rintro e w508 ⟨v, rfl, hv, hb⟩; replace HZ := hid (fun i => (HZ.out i).on hb); replace HKB := hid (HKB.out.on hb (by have := B.out.size; omega) HS1.out); replace HKO := hid (HKO.out.trans (KeepsOthers.of_below hb)); replace HS1 := hid (Nat.lt_of_lt_of_le HS1.out hb.size); obtain ⟨s9, p9, n9, c9, rfl⟩ := hv.opened; replace XT := bx XT hb; replace XU := bx XU hb; replace XX := bx XX hb; replace XQ := nx XQ hb; replace HA := wl HA hb; replace HB := wl HB hb; replace HV := wl HV hb; replace HM := wl HM hb; replace B := bb B hb; clear cc505a cc505b cc506a cc506b cc507a cc507b; have HS := hid hv; clear hb hv; obtain ⟨cc509a, cc509b⟩ := XT.out.both; obtain ⟨cc510a, cc510b⟩ := XU.out.both; obtain ⟨cc511a, cc511b⟩ := XX.out.both; replace HZ := hid (fun i => ((HZ.out i).box XT.out 0 (.bool s9)).box (XT.out.set0 s9) 1 (.slice p9 n9 c9)); replace HKB := hid ((HKB.out.set (g := G) (by have := LQ.out; have := LX.out; omega) (by omega) 0 (.bool s9)).set (g := G) (by have := LQ.out; have := LX.out; omega) (by omega) 1 (.slice p9 n9 c9)); replace HKO := hid ((HKO.out.trans (KeepsOthers.setCell _ ⟨G, 0, none⟩ (.bool s9))).trans (KeepsOthers.setCell _ ⟨G, 1, none⟩ (.slice p9 n9 c9))); obtain ⟨cc512a, cc512b, cc512c, cc512d⟩ := XT.out.stores; obtain ⟨r513a, r513b, r513c⟩ := XT.out.last B.out (by have := LQ.out; have := LX.out; omega) s9 p9 n9 c9; replace XU := hid ((XU.out.other (g2 := G) (by have := LQ.out; have := LX.out; omega) 0 (.bool s9)).other (g2 := G) (by have := LQ.out; have := LX.out; omega) 1 (.slice p9 n9 c9)); replace XX := hid ((XX.out.other (g2 := G) (by have := LQ.out; have := LX.out; omega) 0 (.bool s9)).other (g2 := G) (by have := LQ.out; have := LX.out; omega) 1 (.slice p9 n9 c9)); replace XQ := hid ((XQ.out.other (g2 := G) (by have := LQ.out; have := LX.out; omega) 0 (.bool s9)).other (g2 := G) (by have := LQ.out; have := LX.out; omega) 1 (.slice p9 n9 c9)); replace HA := hid (r513c HA.out); replace HB := hid (r513c HB.out); replace HV := hid (r513c HV.out); replace HM := hid (r513c HM.out); replace HS := hid (r513c HS.out); replace XT := hid r513a; replace B := hid r513b; clear r513a r513b r513c; replace HZ := hid (fun i => ((HZ.out i).box XU.out 0 (.bool s5)).box (XU.out.set0 s5) 1 (.slice p5 n5 c5)); replace HKB := hid ((HKB.out.set (g := G + 1) (by have := LQ.out; have := LX.out; omega) (by omega) 0 (.bool s5)).set (g := G + 1) (by have := LQ.out; have := LX.out; omega) (by omega) 1 (.slice p5 n5 c5)); replace HKO := hid ((HKO.out.trans (KeepsOthers.setCell _ ⟨G + 1, 0, none⟩ (.bool s5))).trans (KeepsOthers.setCell _ ⟨G + 1, 1, none⟩ (.slice p5 n5 c5))); obtain ⟨cc514a, cc514b, cc514c, cc514d⟩ := XU.out.stores; obtain ⟨r515a, r515b, r515c⟩ := XU.out.last B.out (by have := LQ.out; have := LX.out; omega) s5 p5 n5 c5; replace XT := hid ((XT.out.other (g2 := G + 1) (by have := LQ.out; have := LX.out; omega) 0 (.bool s5)).other (g2 := G + 1) (by have := LQ.out; have := LX.out; omega) 1 (.slice p5 n5 c5)); replace XX := hid ((XX.out.other (g2 := G + 1) (by have := LQ.out; have := LX.out; omega) 0 (.bool s5)).other (g2 := G + 1) (by have := LQ.out; have := LX.out; omega) 1 (.slice p5 n5 c5)); replace XQ := hid ((XQ.out.other (g2 := G + 1) (by have := LQ.out; have := LX.out; omega) 0 (.bool s5)).other (g2 := G + 1) (by have := LQ.out; have := LX.out; omega) 1 (.slice p5 n5 c5)); replace HA := hid (r515c HA.out); replace HB := hid (r515c HB.out); replace HV := hid (r515c HV.out); replace HM := hid (r515c HM.out); replace HS := hid (r515c HS.out); replace XU := hid r515a; replace B := hid r515b; clear r515a r515b r515c; replace HS1 := hid (show G + 1 + 1 < ((((w508.setCell ⟨G, 0, none⟩ (.bool s9)).setCell ⟨G, 1, none⟩ (.slice p9 n9 c9)).setCell ⟨G + 1, 0, none⟩ (.bool s5)).setCell ⟨G + 1, 1, none⟩ (.slice p5 n5 c5)).heap.size by simpa [World.setCell] using HS1.out))
      | (refine ⟨trivial, ?_⟩; gi_at_call 94; refine (CallsIn.inRound l (callsIn_wide.2 (mul_whl HV.out HA.out (by decide) (by have := HL.out; omega)))).mono ?_; rintro e w504 ⟨v, rfl, hv, hb⟩; replace HZ := hid (fun i => (HZ.out i).on hb); replace HKB := hid (HKB.out.on hb (by have := B.out.size; omega) HS1.out); replace HKO := hid (HKO.out.trans (KeepsOthers.of_below hb)); replace HS1 := hid (Nat.lt_of_lt_of_le HS1.out hb.size); obtain ⟨s8, p8, n8, c8, rfl⟩ := hv.opened; replace XT := bx XT hb; replace XU := bx XU hb; replace XX := bx XX hb; replace XQ := nx XQ hb; replace HA := wl HA hb; replace HB := wl HB hb; replace HV := wl HV hb; replace B := bb B hb; clear cc501a cc501b cc502a cc502b cc503a cc503b; have HM := hid hv; clear hb hv; obtain ⟨cc505a, cc505b⟩ := XT.out.both; obtain ⟨cc506a, cc506b⟩ := XU.out.both; obtain ⟨cc507a, cc507b⟩ := XX.out.both; have mk_0 := hid True.intro))
    all_goals gi_wp2
    all_goals exact ⟨HKO.out.from _, HKB.out, ⟨⟨_, _, _, _, _, _, _, _, XT.out, XU.out, by rw [HC.out]; exact HS.out.mono (by rw [List.length_append]; simp; omega), by rw [HC.out]; exact HA.out.mono (by rw [List.length_append]; simp; omega)⟩, HZ.out, XQ.out, B.out, HS1.out⟩⟩
  case done =>
    rintro D ys W hD rfl ⟨⟨s5, p5, n5, c5, s6, p6, n6, c6, hT, hU, hA, hB⟩, hZ, hQ, hBw, hs1⟩ hK
    have XT := hid hT
    have XU := hid hU
    have XQ := hid hQ
    have HA := hid hA
    have HB := hid hB
    have B := hid hBw
    have HKD := hid hK
    have HB0 := hid hb0
    have HLD := hid (show dwn n n = dwn n n ∧ (dwn n n).length = n from ⟨rfl, dwn_len n n⟩)
    have HN := hid hn
    have LD := hid (show w.heap.size < D by have := LQ.out; omega)
    clear hT hU hZ hQ hA hB hBw hK hs1 hI0 hSB cS
    obtain ⟨cc701a, cc701b⟩ := XT.out.both
    obtain ⟨cc702a, cc702b⟩ := XU.out.both
    obtain ⟨cc703a, cc703b, cc703c, cc703d⟩ := XQ.out.cells
    gi_wp2
    refine ⟨trivial, callsIn_wide.2 ((quot_some (k := 4000) (HA.out.mono (by have := HLD.out.2; have := HN.out; omega)) (HB.out.mono (by have := HLD.out.2; have := HN.out; omega)) HB0.out (by decide)).mono ?_)⟩
    rintro e w704 ⟨v, rfl, hv, hb⟩
    replace HKD := hid ((hb.block D (Array.getElem?_eq_some_iff.1 HKD.out).1).trans HKD.out)
    obtain ⟨s9a, p9a, n9a, c9a, s9b, p9b, n9b, c9b, rfl⟩ := hv.opened
    obtain ⟨ht9, d9, hu9, hd9⟩ := hv.two
    have HD9 := hid hd9
    replace XT := bx XT hb
    replace XU := bx XU hb
    replace XQ := nx XQ hb
    replace HA := wl HA hb
    replace HB := wl HB hb
    replace B := bb B hb
    clear cc701a cc701b cc702a cc702b cc703a cc703b cc703c cc703d
    have HT9 := hid ht9
    have HU9 := hid hu9
    clear hb hv ht9 hu9 hd9
    have LN := hid (show w.heap.size < w704.heap.size from XQ.out.lt)
    have hb705 := (Below.refl _ _).alloc (Nat.le_refl w704.heap.size) (.cells #[.bool s9a, .slice p9a n9a c9a, .bool s9b, .slice p9b n9b c9b] 83)
    have hx706 := Nbx.new w704 s9a s9b (.slice p9a n9a c9a) (.slice p9b n9b c9b)
    have L2 := hid XQ.out.lt
    replace XT := bx XT hb705
    replace XU := bx XU hb705
    replace XQ := nx XQ hb705
    replace HA := wl HA hb705
    replace HB := wl HB hb705
    replace HT9 := wl HT9 hb705
    replace HU9 := wl HU9 hb705
    replace B := bb B hb705
    have XN := hid hx706
    have hs707 : (w704.alloc (.cells #[.bool s9a, .slice p9a n9a c9a, .bool s9b, .slice p9b n9b c9b] 83)).heap.size = w704.heap.size + 1 := by simp
    clear hb705 hx706
    replace HKD := hid ((Below.heap_alloc _ (.cells #[.bool s9a, .slice p9a n9a c9a, .bool s9b, .slice p9b n9b c9b] 83) D (Array.getElem?_eq_some_iff.1 HKD.out).1).trans HKD.out)
    obtain ⟨cc708a, cc708b⟩ := XT.out.both
    obtain ⟨cc709a, cc709b⟩ := XU.out.both
    obtain ⟨cc710a, cc710b, cc710c, cc710d⟩ := XQ.out.cells
    obtain ⟨cc711a, cc711b, cc711c, cc711d⟩ := XN.out.cells
    obtain ⟨⟨cc712a, cc712b⟩, ⟨cc712c, cc712d⟩, ⟨cc712e, cc712f⟩, cc712g, cc712h⟩ := XQ.out.stores
    obtain ⟨r713a, r713b, r713c⟩ := XQ.out.last B.out (by have := LQ.out; have := LN.out; have := L2.out; omega) s9a s9b p9a p9b n9a n9b c9a c9b
    replace XT := hid ((((XT.out.other (g2 := w.heap.size) (by have := LQ.out; have := LN.out; have := L2.out; omega) 0 (.bool s9a)).other (g2 := w.heap.size) (by have := LQ.out; have := LN.out; have := L2.out; omega) 1 (.slice p9a n9a c9a)).other (g2 := w.heap.size) (by have := LQ.out; have := LN.out; have := L2.out; omega) 2 (.bool s9b)).other (g2 := w.heap.size) (by have := LQ.out; have := LN.out; have := L2.out; omega) 3 (.slice p9b n9b c9b))
    replace XU := hid ((((XU.out.other (g2 := w.heap.size) (by have := LQ.out; have := LN.out; have := L2.out; omega) 0 (.bool s9a)).other (g2 := w.heap.size) (by have := LQ.out; have := LN.out; have := L2.out; omega) 1 (.slice p9a n9a c9a)).other (g2 := w.heap.size) (by have := LQ.out; have := LN.out; have := L2.out; omega) 2 (.bool s9b)).other (g2 := w.heap.size) (by have := LQ.out; have := LN.out; have := L2.out; omega) 3 (.slice p9b n9b c9b))
    replace XN := hid ((((XN.out.other (g2 := w.heap.size) (by have := LQ.out; have := LN.out; have := L2.out; omega) 0 (.bool s9a)).other (g2 := w.heap.size) (by have := LQ.out; have := LN.out; have := L2.out; omega) 1 (.slice p9a n9a c9a)).other (g2 := w.heap.size) (by have := LQ.out; have := LN.out; have := L2.out; omega) 2 (.bool s9b)).other (g2 := w.heap.size) (by have := LQ.out; have := LN.out; have := L2.out; omega) 3 (.slice p9b n9b c9b))
    replace HA := hid (r713c HA.out)
    replace HB := hid (r713c HB.out)
    replace HT9 := hid (r713c HT9.out)
    replace HU9 := hid (r713c HU9.out)
    replace XQ := hid r713a
    replace B := hid r713b
    clear r713a r713b r713c
    have hKD : (((((w704.alloc (.cells #[.bool s9a, .slice p9a n9a c9a, .bool s9b, .slice p9b n9b c9b] 83)).setCell ⟨w.heap.size, 0, none⟩ (.bool s9a)).setCell ⟨w.heap.size, 1, none⟩ (.slice p9a n9a c9a)).setCell ⟨w.heap.size, 2, none⟩ (.bool s9b)).setCell ⟨w.heap.size, 3, none⟩ (.slice p9b n9b c9b)).heap[D]? = some (.deferred (some [])) := by
      rw [Below.heap_setCell _ _ _ _ (by have := LD.out; simp; omega), Below.heap_setCell _ _ _ _ (by have := LD.out; simp; omega), Below.heap_setCell _ _ _ _ (by have := LD.out; simp; omega), Below.heap_setCell _ _ _ _ (by have := LD.out; simp; omega)]; exact HKD.out
    gi_wp2
    have hgp := grownBy_putObj' (((((w704.alloc (.cells #[.bool s9a, .slice p9a n9a c9a, .bool s9b, .slice p9b n9b c9b] 83)).setCell ⟨w.heap.size, 0, none⟩ (.bool s9a)).setCell ⟨w.heap.size, 1, none⟩ (.slice p9a n9a c9a)).setCell ⟨w.heap.size, 2, none⟩ (.bool s9b)).setCell ⟨w.heap.size, 3, none⟩ (.slice p9b n9b c9b)) D (.deferred none)
    have hgr : ∀ r, some D = some r → ∃ o : Obj, (((((w704.alloc (.cells #[.bool s9a, .slice p9a n9a c9a, .bool s9b, .slice p9b n9b c9b] 83)).setCell ⟨w.heap.size, 0, none⟩ (.bool s9a)).setCell ⟨w.heap.size, 1, none⟩ (.slice p9a n9a c9a)).setCell ⟨w.heap.size, 2, none⟩ (.bool s9b)).setCell ⟨w.heap.size, 3, none⟩ (.slice p9b n9b c9b)).heap[r]? = some o ∧ o.isCells = false := fun r e => by cases e; exact ⟨_, hKD, rfl⟩
    refine ⟨by simp, .inl ⟨_, _, rfl, run_takeDeferred hKD, ?_⟩⟩
    refine ⟨_, res_num rfl rfl (XQ.out.turned hgp hgr), ?_⟩
    exact ⟨_, rfl, Rtl.mk2 (HT9.out.turned hgp hgr) (HU9.out.turned hgp hgr) HD9.out, B.out.grown hgp B.out.size (fun g e => by cases e; exact Nat.le_of_lt LD.out)⟩
  case stop =>
    rintro D c pre W _ _ h _
    exact h.elim

end Go.Proofs.YtjeeepcnaaadmaaGreatDoor

/-
  PACKAGE cf: Back.
-/
namespace Go.Proofs.YtjeeepcnaaadmaaGreatDoor
open Go.RowKit
open Num
set_option linter.unusedVariables false
set_option maxRecDepth 100000
set_option linter.unusedSimpArgs false

/-- The fraction of numbers. -/
def cfback (l : List Int) : Rat := Rat.divInt (cfb l).1 (cfb l).2
theorem dwn_map {α : Type} (f : Nat → α) : ∀ (n : Nat), (dwn n n).map f = ((List.range n).map f).reverse := by
  intro n
  rw [dwn, ← List.map_reverse, List.map_map]
  apply List.ext_getElem
  · simp
  · intro i h1 h2
    simp at h1
    simp
theorem cac_map (zf : Nat → Int) (n : Nat) : cac zf (dwn n n) = cfb ((List.range n).map zf) := by
  unfold cac cfb
  rw [List.foldr_eq_foldl_reverse, ← dwn_map, List.foldl_map]
theorem cfb_pos : ∀ (l : List Int), (∀ z ∈ l, 1 ≤ z) → 1 ≤ (cfb l).1 ∧ 0 ≤ (cfb l).2 := by
  intro l
  induction l with
  | nil => intro _; simp [cfb]
  | cons z l ih =>
    intro h
    obtain ⟨h1, h2⟩ := ih (fun x hx => h x (by simp [hx]))
    have hz := h z (by simp)
    rw [cfb_cons]
    have := Int.mul_le_mul_of_nonneg_right hz (show (0 : Int) ≤ (cfb l).1 by omega)
    omega
theorem cfb_two {z : Int} {l : List Int} (h : ∀ x ∈ l, 1 ≤ x) : 1 ≤ (cfb (z :: l)).2 := by
  rw [cfb_cons]; exact (cfb_pos l h).1
/-- What a list of texts reads as. -/
def zlist (ss : List ByteArray) : List Int := ss.map znum
theorem zlist_range (ss : List ByteArray) : (List.range ss.length).map (fun i => if i < ss.length then znum (tx ss i) else 0) = zlist ss := by
  apply List.ext_getElem
  · simp [zlist]
  · intro i h1 h2
    simp [zlist] at h2
    simp [zlist, h2, tx]
/-- Lists that have a fraction. -/
def GoodL (ss : List ByteArray) : Prop := AllZ ss ∧ 1 ≤ ss.length ∧ ss.length ≤ 30 ∧ ∀ i, 1 ≤ i → i < ss.length → 1 ≤ znum (tx ss i)
/-- What is wrong with a list. -/
def BadL (ss : List ByteArray) (k : Int) : Prop :=
  (∃ i, i < ss.length ∧ (∀ j, j < i → GoodZ (tx ss j)) ∧ BadZ (tx ss i) k) ∨ (AllZ ss ∧ ss.length = 0 ∧ k = 3) ∨ (AllZ ss ∧ 30 < ss.length ∧ k = 4) ∨
  (AllZ ss ∧ 1 ≤ ss.length ∧ ss.length ≤ 30 ∧ (∃ i, 1 ≤ i ∧ i < ss.length ∧ znum (tx ss i) ≤ 0) ∧ k = 2)
theorem BadL.ne {ss : List ByteArray} {k : Int} (h : BadL ss k) : k ≠ 0 := by
  rcases h with ⟨i, _, _, h⟩ | ⟨_, _, rfl⟩ | ⟨_, _, rfl⟩ | ⟨_, _, _, _, rfl⟩
  · exact h.ne
  all_goals decide
theorem BadL.not {ss : List ByteArray} {k : Int} (h : BadL ss k) : ¬ GoodL ss := by
  rintro ⟨g1, g2, g3, g4⟩
  rcases h with ⟨i, hi, _, h⟩ | ⟨_, h, _⟩ | ⟨_, h, _⟩ | ⟨_, _, _, ⟨i, h1, h2, h3⟩, _⟩
  · have := g1 i hi
    obtain ⟨a1, a2⟩ := this
    rcases h with ⟨h, _⟩ | ⟨_, h, _⟩
    · omega
    · rw [h] at a2; cases a2
  · omega
  · omega
  · have := g4 i h1 h2; omega
theorem GoodL.den {ss : List ByteArray} (h : GoodL ss) : 1 ≤ (cfb (zlist ss)).2 := by
  obtain ⟨h1, h2, h3, h4⟩ := h
  match ss, h2, h4 with
  | s :: ss, _, h4 =>
    refine cfb_two fun x hx => ?_
    obtain ⟨s', hs', rfl⟩ := List.mem_map.1 hx
    obtain ⟨i, hi, rfl⟩ := List.mem_iff_getElem.1 hs'
    have := h4 (i + 1) (by omega) (by simpa using hi)
    rw [tx_lt (by simpa using hi)] at this
    simpa using this
theorem cells_whl_zero (w : World) (k : Nat) : Whl w (.agg #[.bool false, .slice none 0 0]) 0 k := ⟨false, _, [], rfl, Lim.nil w, .inl rfl, Nat.zero_le _, by simp, rfl⟩
theorem zat_ge {vs : List Zr} {i : Nat} (h : vs.length ≤ i) : zat vs i = (false, none, 0, 0) := by simp [zat, h]

theorem BadZ.uniq {s : ByteArray} {k l : Int} (h : BadZ s k) (h' : BadZ s l) : k = l := by
  rcases h with ⟨h1, rfl⟩ | ⟨h1, h2, rfl⟩ <;> rcases h' with ⟨k1, rfl⟩ | ⟨k1, k2, rfl⟩ <;> first | rfl | omega
theorem GoodZ.notBad {s : ByteArray} {k : Int} (h : GoodZ s) (h' : BadZ s k) : False := by
  obtain ⟨a1, a2⟩ := h
  rcases h' with ⟨h, _⟩ | ⟨_, h, _⟩
  · omega
  · rw [h] at a2; cases a2
theorem BadL.uniq {ss : List ByteArray} {k l : Int} (h : BadL ss k) (h' : BadL ss l) : k = l := by
  have first : ∀ i j (k l : Int), i < ss.length → (∀ j, j < i → GoodZ (tx ss j)) → BadZ (tx ss i) k → j < ss.length → (∀ i, i < j → GoodZ (tx ss i)) → BadZ (tx ss j) l → k = l := by
    intro i j k l h1 h2 h3 g1 g2 g3
    rcases Nat.lt_trichotomy i j with h | h | h
    · exact absurd h3 (g2 i h).notBad
    · subst h; exact h3.uniq g3
    · exact absurd g3 (h2 j h).notBad
  rcases h with ⟨i, h1, h2, h3⟩ | ⟨h1, h2, rfl⟩ | ⟨h1, h2, rfl⟩ | ⟨h1, h2, h3, h4, rfl⟩ <;> rcases h' with ⟨j, g1, g2, g3⟩ | ⟨g1, g2, rfl⟩ | ⟨g1, g2, rfl⟩ | ⟨g1, g2, g3, g4, rfl⟩
  · exact first i j k l h1 h2 h3 g1 g2 g3
  any_goals rfl
  any_goals omega
  all_goals first | exact absurd h3 (g1 i h1).notBad | exact absurd g3 (h1 j g1).notBad
theorem readq_errno {w w' : World} {ss : List ByteArray} {k : Int} {e : Ending} (hk : BadL ss k) (h : (ReadQ w ss e w')) : e = .returned (.tuple #[.slice none 0 0, errno k]) := by
  obtain ⟨h, _⟩ := h
  rcases h with ⟨l, i, h1, h2, h3, rfl⟩ | ⟨h1, h2, rfl⟩ | ⟨h1, h2, rfl⟩ | ⟨h1, h2, h3, h4, rfl⟩ | ⟨h1, h2, h3, h4, _⟩
  · rw [hk.uniq (.inl ⟨i, h1, h2, h3⟩)]
  · rw [hk.uniq (.inr (.inl ⟨h1, h2, rfl⟩))]
  · rw [hk.uniq (.inr (.inr (.inl ⟨h1, h2, rfl⟩)))]
  · rw [hk.uniq (.inr (.inr (.inr ⟨h1, h2, h3, h4, rfl⟩)))]
  · exact absurd ⟨h1, h2, h3, h4⟩ hk.not

set_option maxHeartbeats 1000000 in
theorem back_good {w : World} {v : Value} {ss : List ByteArray} (h : TxsW w v ss) (hs : ∀ i, i < ss.length → (tx ss i).size ≤ maxLen) (hg : GoodL ss) :
    Calls Tryz.prog 34 #[v] w fun e w' => e = .returned (.tuple #[.string (qtxt (cfback (zlist ss))), .nilIface]) ∧ Below w.heap.size w w' := by
  have HP := hid (readq h hs)
  have HG := hid hg
  have B := hid (Below.refl w.heap.size w)
  clear  h hs hg
  go_enter Tryz.func34, Tryz.ntmps34
  go_wp2_with fail
  refine HP.out.mono ?_
  rintro e w1 ⟨hx, hb⟩
  rcases hx with ⟨k, i, h1, h2, h3, rfl⟩ | ⟨h1, h2, rfl⟩ | ⟨h1, h2, rfl⟩ | ⟨h1, h2, h3, h4, rfl⟩ | ⟨h1, h2, h3, h4, b, vs, rfl, h6, h7, h8, h9⟩
  · exact absurd HG.out (BadL.not (.inl ⟨i, h1, h2, h3⟩))
  · exact absurd HG.out (BadL.not (.inr (.inl ⟨h1, h2, rfl⟩)))
  · exact absurd HG.out (BadL.not (.inr (.inr (.inl ⟨h1, h2, rfl⟩))))
  · exact absurd HG.out (BadL.not (.inr (.inr (.inr ⟨h1, h2, h3, h4, rfl⟩))))
  have hz : ∀ i, Whl w1 (zag (zat vs i)) ((fun i => if i < ss.length then znum (tx ss i) else 0) i) 100 := by
    intro i
    by_cases hi : i < ss.length
    · simpa [hi] using h9 i hi
    · rw [zat_ge (by omega)]; simpa [hi, zag] using cells_whl_zero w1 100
  have hden : (cac (fun i => if i < ss.length then znum (tx ss i) else 0) (dwn ss.length ss.length)).2 ≠ 0 := by
    rw [cac_map, zlist_range]; have := HG.out.den; omega
  have HC := collapse_rtl h7 h8 hz h2 h3 hden
  rw [cac_map, zlist_range] at HC
  replace HC := hid HC
  replace B := bb B hb
  clear hz hden h1 h2 h3 h4 h6 h7 h8 h9 hb HP
  go_wp2_with fail
  refine (HC.out).mono ?_
  rintro e w1 ⟨v, rfl, hv, hb⟩
  obtain ⟨s3a, p3a, n3a, c3a, s3b, p3b, n3b, c3b, rfl⟩ := hv.opened
  obtain ⟨ht3, d3, hu3, hd3⟩ := hv.two
  have HD3 := hid hd3
  replace B := bb B hb
  have HT3 := hid ht3
  have HU3 := hid hu3
  clear hb hv ht3 hu3 hd3 HC
  go_wp2_with fail
  refine (qstring (Rtl.mk2 HT3.out HU3.out HD3.out) (by decide)).mono ?_
  rintro e w2 ⟨rfl, hb⟩
  replace B := bb B hb
  clear hb 
  go_wp2_with fail
  go_ret2
  exact ⟨rfl, B.out⟩

set_option maxHeartbeats 1000000 in
theorem back_bad {w : World} {v : Value} {ss : List ByteArray} (h : TxsW w v ss) (hs : ∀ i, i < ss.length → (tx ss i).size ≤ maxLen) {k : Int} (hk : BadL ss k) :
    Calls Tryz.prog 34 #[v] w fun e w' => e = .returned (.tuple #[.string ⟨#[]⟩, errno k]) ∧ Below w.heap.size w w' := by
  have HP := hid (readq h hs)
  have HB := hid hk
  have hne := errv_neq
  have hkk := errv_some hk.ne
  have B := hid (Below.refl w.heap.size w)
  clear  h hs hk
  go_enter Tryz.func34, Tryz.ntmps34
  go_wp2_with fail
  refine HP.out.mono ?_
  rintro e w1 hq
  have hx2 := readq_errno HB.out hq
  have hb := hq.2
  clear hq
  subst hx2
  replace B := bb B hb
  clear hb HP
  go_wp2_with fail
  go_ret2
  exact ⟨rfl, B.out⟩

theorem goodL_or_bad (ss : List ByteArray) : GoodL ss ∨ ∃ k, BadL ss k := by
  by_cases hz : AllZ ss
  · by_cases h0 : ss.length = 0
    · exact .inr ⟨3, .inr (.inl ⟨hz, h0, rfl⟩)⟩
    by_cases h30 : 30 < ss.length
    · exact .inr ⟨4, .inr (.inr (.inl ⟨hz, h30, rfl⟩))⟩
    by_cases hp : ∀ i, 1 ≤ i → i < ss.length → 1 ≤ znum (tx ss i)
    · exact .inl ⟨hz, by omega, by omega, hp⟩
    · refine .inr ⟨2, .inr (.inr (.inr ⟨hz, by omega, by omega, ?_, rfl⟩))⟩
      apply Classical.byContradiction
      intro hn
      exact hp fun i h1 h2 => by
        apply Classical.byContradiction
        intro h3
        exact hn ⟨i, h1, h2, by omega⟩
  · right
    have first : ∀ n, n ≤ ss.length → (∀ i, i < n → GoodZ (tx ss i)) ∨ ∃ i k, i < ss.length ∧ (∀ j, j < i → GoodZ (tx ss j)) ∧ BadZ (tx ss i) k := by
      intro n
      induction n with
      | zero => intro _; exact .inl fun i hi => by omega
      | succ n ih =>
        intro hn
        rcases ih (by omega) with h | h
        · rcases goodZ_or_bad (tx ss n) with hg | ⟨k, hk⟩
          · exact .inl fun i hi => if h' : i < n then h i h' else (show n = i by omega) ▸ hg
          · exact .inr ⟨n, k, by omega, h, hk⟩
        · exact .inr h
    rcases first ss.length (Nat.le_refl _) with h | ⟨i, k, h1, h2, h3⟩
    · exact absurd h hz
    · exact ⟨k, .inl ⟨i, h1, h2, h3⟩⟩
/-- What cf.Back tells. -/
def BackTells (ss : List ByteArray) (s : ByteArray) (k : Int) : Prop := (k = 0 ∧ GoodL ss ∧ s = qtxt (cfback (zlist ss))) ∨ (k ≠ 0 ∧ BadL ss k ∧ s = ⟨#[]⟩)
theorem back_any {w : World} {v : Value} {ss : List ByteArray} (h : TxsW w v ss) (hs : ∀ i, i < ss.length → (tx ss i).size ≤ maxLen) :
    Calls Tryz.prog 34 #[v] w fun e w' => ∃ s k, e = .returned (.tuple #[.string s, errv k]) ∧ BackTells ss s k ∧ Below w.heap.size w w' := by
  rcases goodL_or_bad ss with hg | ⟨k, hk⟩
  · refine (back_good h hs hg).mono ?_
    rintro e w' ⟨rfl, hb⟩
    exact ⟨_, 0, rfl, .inl ⟨rfl, hg, rfl⟩, hb⟩
  · refine (back_bad h hs hk).mono ?_
    rintro e w' ⟨rfl, hb⟩
    exact ⟨_, k, by rw [errv_some hk.ne], .inr ⟨hk.ne, hk, rfl⟩, hb⟩

end Go.Proofs.YtjeeepcnaaadmaaGreatDoor

/-
  CONTINUED FRACTIONS AS TEXTS.
-/
namespace Go.Proofs.YtjeeepcnaaadmaaGreatDoor
open Go.RowKit
open Num
set_option linter.unusedVariables false
set_option maxRecDepth 100000
set_option linter.unusedSimpArgs false

/-- The texts of a fraction's numbers. -/
def cft (q : Rat) : List ByteArray := (cfq q).map ztxt
theorem cfq_cons (q : Rat) : cfq q = q.floor :: cfl q.den (q.num % q.den).toNat := by
  unfold cfq
  rw [cfl_pos _ (by have := q.den_pos; omega), Rat.floor_def]
theorem cft_len (q : Rat) : (cft q).length = (cfq q).length := by simp [cft]
theorem tx_cft (q : Rat) {i : Nat} (h : i < (cft q).length) : tx (cft q) i = ztxt ((cfq q)[i]'(by rw [cft_len] at h; exact h)) := by
  rw [tx_lt h]; simp [cft]
theorem rest_den (q : Rat) : (q.num % q.den).toNat < q.den := by
  exact (rest_lt q.num (by have := q.den_pos; omega)).1
theorem cfq_tail (q : Rat) {i : Nat} (h : i + 1 < (cfq q).length) : 1 ≤ (cfq q)[i + 1] ∧ (cfq q)[i + 1] ≤ q.den ∧ (i + 2 = (cfq q).length → (cfq q)[i + 1] ≠ 1) := by
  have e := cfq_cons q
  obtain ⟨h1, h2⟩ := cfl_less _ (q.num % q.den).toNat q.den (Nat.le_refl _) (rest_den q)
  simp only [e, List.length_cons, List.getElem_cons_succ] at h ⊢
  have hm := h1 _ (List.getElem_mem (l := cfl q.den (q.num % q.den).toNat) (n := i) (by omega))
  refine ⟨hm.1, hm.2, fun hl => h2 _ ?_⟩
  rw [List.getLast?_eq_getElem?, ← List.getElem?_eq_getElem]
  congr 1
  omega
theorem cft_one_iff (q : Rat) : (cft q).length = 1 ↔ q.den = 1 := by
  rw [cft_len, cfq_cons]
  simp only [List.length_cons]
  constructor
  · intro h
    have h0 : cfl q.den (q.num % q.den).toNat = [] := List.length_eq_zero_iff.1 (by omega)
    by_cases hr : (q.num % q.den).toNat = 0
    · have hd : (q.den : Int) ∣ q.num := by
        have := rest_lt q.num (b := q.den) (by have := q.den_pos; omega)
        exact Int.dvd_of_emod_eq_zero (by omega)
      have hc := q.reduced
      have h1 : q.den ∣ Nat.gcd q.num.natAbs q.den := Nat.dvd_gcd (by have := Int.natAbs_dvd_natAbs.2 hd; simpa using this) (Nat.dvd_refl _)
      rw [hc] at h1
      exact Nat.dvd_one.1 h1
    · rw [cfl_pos _ hr] at h0; cases h0
  · intro h
    rw [h]
    have : (q.num % (1 : Nat)).toNat = 0 := by omega
    rw [this, cfl_zero]; rfl
theorem den_size {a : ByteArray} (h : GoodQ a) (hd : (qnum a).den ≠ 1) : (ztxt (qnum a).den).size ≤ 100 := by
  have e := qtxt_two hd
  have h1 := h.1
  rw [← qtxt_good h] at h1
  have h2 : (qtxt (qnum a)).data.toList.length = (qtxt (qnum a)).size := by simp
  rw [e] at h2
  simp only [List.length_append, List.length_cons] at h2
  have h3 : (ztxt (qnum a).den).data.toList.length = (ztxt (qnum a).den).size := by simp
  omega
theorem cft_good {a : ByteArray} (h : GoodQ a) {i : Nat} (hi : i < (cft (qnum a)).length) : GoodZ (tx (cft (qnum a)) i) := by
  rw [tx_cft _ hi]
  have hi' := hi
  rw [cft_len] at hi'
  match i, hi' with
  | 0, hi' =>
    have e : (cfq (qnum a))[0] = (qnum a).floor := by simp [cfq_cons]
    rw [e]
    exact (floor_good h).2
  | i + 1, hi' =>
    obtain ⟨h1, h2, _⟩ := cfq_tail (qnum a) hi'
    have hd : (qnum a).den ≠ 1 := by
      intro hd
      have := (cft_one_iff _).2 hd
      rw [cft_len] at this
      omega
    exact ⟨Nat.le_trans (size_ztxt_mono (by omega) (by omega)) (den_size h hd), isWhl_ztxt _⟩
theorem cft_goodL {a : ByteArray} (h : GoodQ a) (hl : (cft (qnum a)).length ≤ 30) : GoodL (cft (qnum a)) := by
  refine ⟨fun i hi => cft_good h hi, ?_, hl, fun i h1 hi => ?_⟩
  · rw [cft_len, cfq_cons]; simp
  · rw [tx_cft _ hi, znum_ztxt]
    rw [cft_len] at hi
    obtain ⟨j, rfl⟩ : ∃ j, i = j + 1 := ⟨i - 1, by omega⟩
    exact (cfq_tail _ hi).1
theorem zlist_cft (q : Rat) : zlist (cft q) = cfq q := by
  unfold zlist cft
  rw [List.map_map]
  conv => rhs; rw [← List.map_id (cfq q)]
  apply List.map_congr_left
  intro z _
  exact znum_ztxt z
theorem cfback_cfq (q : Rat) : cfback (cfq q) = q := by
  obtain ⟨h1, h2⟩ := cfb_cfl q.den q.den q.num (Nat.le_refl _) (.inl q.den_pos)
  have hg : Int.gcd q.num q.den = 1 := q.reduced
  rw [hg] at h1 h2
  simp only [Int.natCast_one, Int.mul_one] at h1 h2
  show Rat.divInt (cfb (cfl q.num q.den)).1 (cfb (cfl q.num q.den)).2 = q
  rw [h1, h2, Rat.num_divInt_den]
/-- Of what is above 1, turned upside down. -/
theorem cfq_turned {q : Rat} (h : 1 < q) : cfq (1 / q) = 0 :: cfq q := by
  have hn : (q.den : Int) < q.num := by
    have := (Rat.lt_iff 1 q).1 h
    simpa using this
  have hd := q.den_pos
  have hg : Int.gcd (q.den : Int) q.num = 1 := by rw [Int.gcd_comm]; exact q.reduced
  have e : (1 : Rat) / q = Rat.divInt q.den q.num := by
    have := div_parts 1 q
    simpa using this
  obtain ⟨e1, e2⟩ := divInt_cop (show 0 < q.num by omega) hg
  have e3 : (1 / q).den = q.num.toNat := by rw [e]; omega
  show cfl (1 / q).num (1 / q).den = _
  rw [e3, e, e1]
  rw [cfl_pos _ (by omega)]
  have h4 : (q.num.toNat : Int) = q.num := by omega
  rw [h4, Int.ediv_eq_zero_of_lt (by omega) hn, Int.emod_eq_of_lt (by omega) hn]
  rfl
theorem cft_turned {q : Rat} (h : 1 < q) : cft (1 / q) = ⟨#[48]⟩ :: cft q := by
  unfold cft
  rw [cfq_turned h, List.map_cons, ztxt_zero]
theorem den_one_iff {a : ByteArray} (h : GoodQ a) : (qnum a).den = 1 ↔ GoodZ a := by
  constructor
  · intro hd
    have e := qtxt_good h
    rw [qtxt_one hd] at e
    exact ⟨h.1, by rw [← e]; exact isWhl_ztxt _⟩
  · intro hz
    rw [(qnum_whole hz).2]; rfl

end Go.Proofs.YtjeeepcnaaadmaaGreatDoor

/-
  FRACTIONS: what is left of one below its whole, turned upside down.
-/
namespace Go.Proofs.YtjeeepcnaaadmaaGreatDoor
open Go.RowKit
set_option linter.unusedVariables false
set_option maxRecDepth 100000

theorem rest_divInt (q : Rat) : q - (q.floor : Rat) = Rat.divInt (q.num % q.den) q.den := by
  have hd : ((q.den : Int) : Rat) ≠ 0 := by
    rw [Ne, Rat.intCast_eq_zero_iff]
    have := q.den_pos
    omega
  have h1 : q = (q.num : Rat) / ((q.den : Int) : Rat) := by
    conv => lhs; rw [← Rat.num_divInt_den q]
    rw [Rat.divInt_eq_div]
  have h2 : ((q.num % q.den : Int) : Rat) = (q.num : Rat) - ((q.den : Int) : Rat) * ((q.num / q.den : Int) : Rat) := by
    rw [← Rat.intCast_mul, ← Rat.intCast_sub, Int.emod_def]
  rw [Rat.divInt_eq_div, Rat.floor_def, h2]
  generalize ((q.num / q.den : Int) : Rat) = f at *
  generalize ((q.den : Int) : Rat) = d at *
  generalize (q.num : Rat) = n at *
  rw [h1]
  grind
theorem rest_parts (q : Rat) : (q - (q.floor : Rat)).num = q.num % q.den ∧ (q - (q.floor : Rat)).den = q.den := by
  have hp := q.den_pos
  have hg : Int.gcd (q.num % q.den) q.den = 1 := by
    have h1 := Int.gcd_add_mul_left_left (m := (q.den : Int)) (n := q.num % q.den) (k := q.num / q.den)
    rw [Int.emod_add_mul_ediv] at h1
    rw [← h1]; exact q.reduced
  obtain ⟨e1, e2⟩ := divInt_cop (show (0 : Int) < (q.den : Int) by omega) hg
  rw [rest_divInt]
  exact ⟨e1, by omega⟩
theorem cfq_stop {q : Rat} (h : q.num % q.den = 0) : cfq q = [q.floor] := by
  rw [cfq_cons, h]
  show _ :: cfl _ 0 = _
  rw [cfl_zero]
theorem cfq_step {q : Rat} (h : q.num % q.den ≠ 0) : cfq q = q.floor :: cfq (1 / (q - (q.floor : Rat))) ∧ q - (q.floor : Rat) ≠ 0 ∧ (1 / (q - (q.floor : Rat))).num = q.den ∧ (1 / (q - (q.floor : Rat))).den = (q.num % q.den).toNat := by
  have hp := q.den_pos
  obtain ⟨h1, h2⟩ := rest_parts q
  have hm := Int.emod_nonneg q.num (show (q.den : Int) ≠ 0 by omega)
  have hg : Int.gcd (q.den : Int) (q.num % q.den) = 1 := by
    rw [Int.gcd_comm]
    have h1 := Int.gcd_add_mul_left_left (m := (q.den : Int)) (n := q.num % q.den) (k := q.num / q.den)
    rw [Int.emod_add_mul_ediv] at h1
    rw [← h1]; exact q.reduced
  have e : 1 / (q - (q.floor : Rat)) = Rat.divInt q.den (q.num % q.den) := by
    have := div_parts 1 (q - (q.floor : Rat))
    rw [h1, h2] at this
    simpa using this
  obtain ⟨e1, e2⟩ := divInt_cop (show (0 : Int) < q.num % q.den by omega) hg
  have e3 : (1 / (q - (q.floor : Rat))).den = (q.num % q.den).toNat := by rw [e]; omega
  refine ⟨?_, ?_, by rw [e, e1], e3⟩
  · rw [cfq_cons]
    congr 1
    unfold cfq
    rw [e3, e, e1]
  · intro h0
    rw [← Rat.num_eq_zero, h1] at h0
    exact h h0

end Go.Proofs.YtjeeepcnaaadmaaGreatDoor

/-
  PACKAGE cf: mediant.
-/
namespace Go.Proofs.YtjeeepcnaaadmaaGreatDoor
open Go.RowKit
open Num
set_option linter.unusedVariables false
set_option maxRecDepth 100000
set_option linter.unusedSimpArgs false

set_option maxHeartbeats 4000000 in
theorem mediant_rtl {w : World} {v u : Value} {q r : Rat} {k : Nat} (h : Rtl w v q k) (h' : Rtl w u r k) (hk1 : 1 ≤ k) (hk : k ≤ 68719476736) :
    Calls Tryz.prog 106 #[v, u] w fun e w' => ∃ v, e = .returned v ∧ Rtl w' v (med q r) (k + 1) ∧ Below w.heap.size w w' := by
  obtain ⟨s1a, p1a, n1a, c1a, s1b, p1b, n1b, c1b, rfl⟩ := h.opened
  obtain ⟨ht1, d1, hu1, hd1⟩ := h.two
  have HD1 := hid hd1
  obtain ⟨s2a, p2a, n2a, c2a, s2b, p2b, n2b, c2b, rfl⟩ := h'.opened
  obtain ⟨ht2, d2, hu2, hd2⟩ := h'.two
  have HD2 := hid hd2
  have HK := hid hk
  have HK1 := hid hk1
  have B := hid (Below.refl w.heap.size w)
  have HT1 := hid ht1
  have HU1 := hid hu1
  have HT2 := hid ht2
  have HU2 := hid hu2
  have hb1 := (Below.refl _ _).alloc (Nat.le_refl w.heap.size) (.cells #[.bool s1a, .slice p1a n1a c1a, .bool s1b, .slice p1b n1b c1b] 83)
  have hx2 := Nbx.new w s1a s1b (.slice p1a n1a c1a) (.slice p1b n1b c1b)
  replace HT1 := wl HT1 hb1
  replace HU1 := wl HU1 hb1
  replace HT2 := wl HT2 hb1
  replace HU2 := wl HU2 hb1
  replace B := bb B hb1
  have X1 := hid hx2
  have hs3 : (w.alloc (.cells #[.bool s1a, .slice p1a n1a c1a, .bool s1b, .slice p1b n1b c1b] 83)).heap.size = w.heap.size + 1 := by simp
  clear hb1 hx2
  have hb4 := (Below.refl _ _).alloc (Nat.le_refl (w.alloc (.cells #[.bool s1a, .slice p1a n1a c1a, .bool s1b, .slice p1b n1b c1b] 83)).heap.size) (.cells #[.bool s2a, .slice p2a n2a c2a, .bool s2b, .slice p2b n2b c2b] 83)
  have hx5 := Nbx.new (w.alloc (.cells #[.bool s1a, .slice p1a n1a c1a, .bool s1b, .slice p1b n1b c1b] 83)) s2a s2b (.slice p2a n2a c2a) (.slice p2b n2b c2b)
  rw [hs3] at hx5
  replace X1 := nx X1 hb4
  replace HT1 := wl HT1 hb4
  replace HU1 := wl HU1 hb4
  replace HT2 := wl HT2 hb4
  replace HU2 := wl HU2 hb4
  replace B := bb B hb4
  have X2 := hid hx5
  have hs6 : ((w.alloc (.cells #[.bool s1a, .slice p1a n1a c1a, .bool s1b, .slice p1b n1b c1b] 83)).alloc (.cells #[.bool s2a, .slice p2a n2a c2a, .bool s2b, .slice p2b n2b c2b] 83)).heap.size = w.heap.size + 1 + 1 := by simp [hs3]
  clear hb4 hx5
  have hb7 := (Below.refl _ _).alloc (Nat.le_refl ((w.alloc (.cells #[.bool s1a, .slice p1a n1a c1a, .bool s1b, .slice p1b n1b c1b] 83)).alloc (.cells #[.bool s2a, .slice p2a n2a c2a, .bool s2b, .slice p2b n2b c2b] 83)).heap.size) (.cells #[.bool false, .slice none 0 0, .bool false, .slice none 0 0] 83)
  have hx8 := Nbx.new ((w.alloc (.cells #[.bool s1a, .slice p1a n1a c1a, .bool s1b, .slice p1b n1b c1b] 83)).alloc (.cells #[.bool s2a, .slice p2a n2a c2a, .bool s2b, .slice p2b n2b c2b] 83)) false false (.slice none 0 0) (.slice none 0 0)
  rw [hs6] at hx8
  replace X1 := nx X1 hb7
  replace X2 := nx X2 hb7
  replace HT1 := wl HT1 hb7
  replace HU1 := wl HU1 hb7
  replace HT2 := wl HT2 hb7
  replace HU2 := wl HU2 hb7
  replace B := bb B hb7
  have XR := hid hx8
  have hs9 : (((w.alloc (.cells #[.bool s1a, .slice p1a n1a c1a, .bool s1b, .slice p1b n1b c1b] 83)).alloc (.cells #[.bool s2a, .slice p2a n2a c2a, .bool s2b, .slice p2b n2b c2b] 83)).alloc (.cells #[.bool false, .slice none 0 0, .bool false, .slice none 0 0] 83)).heap.size = w.heap.size + 1 + 1 + 1 := by simp [hs6]
  clear hb7 hx8
  clear hs9 h h' ht1 hu1 ht2 hu2 hd1 hd2 hk hk1
  go_enter Tryz.func106, Tryz.ntmps106
  obtain ⟨cc10a, cc10b, cc10c, cc10d⟩ := X1.out.cells
  obtain ⟨cc11a, cc11b, cc11c, cc11d⟩ := X2.out.cells
  obtain ⟨cc12a, cc12b, cc12c, cc12d⟩ := XR.out.cells
  go_wp2_with fail
  generalize hW : ((w.alloc (.cells #[.bool s1a, .slice p1a n1a c1a, .bool s1b, .slice p1b n1b c1b] 83)).alloc (.cells #[.bool s2a, .slice p2a n2a c2a, .bool s2b, .slice p2b n2b c2b] 83)).alloc (.cells #[.bool false, .slice none 0 0, .bool false, .slice none 0 0] 83) = W13 at *
  clear hW
  refine (parts_rtl (Rtl.mk2 HT1.out HU1.out HD1.out) HK1.out).mono ?_
  rintro e w14 ⟨v, u, rfl, hv, hu, hb⟩
  obtain ⟨s3, p3, n3, c3, rfl⟩ := hv.opened
  obtain ⟨s4, p4, n4, c4, rfl⟩ := hu.opened
  replace X2 := nx X2 hb
  replace XR := nx XR hb
  replace HT2 := wl HT2 hb
  replace HU2 := wl HU2 hb
  replace B := bb B hb
  clear cc10a cc10b cc10c cc10d cc11a cc11b cc11c cc11d cc12a cc12b cc12c cc12d
  have HA := hid hv
  have HB := hid hu
  clear hb hv hu
  have hb15 := (Below.refl _ _).alloc (Nat.le_refl w14.heap.size) (.cells #[.bool s3, .slice p3 n3 c3] 81)
  have hx16 := Box.new w14 s3 p3 n3 c3
  have L0 := hid XR.out.lt
  replace X2 := nx X2 hb15
  replace XR := nx XR hb15
  replace HT2 := wl HT2 hb15
  replace HU2 := wl HU2 hb15
  replace HA := wl HA hb15
  replace HB := wl HB hb15
  replace B := bb B hb15
  have XA := hid hx16
  have hs17 : (w14.alloc (.cells #[.bool s3, .slice p3 n3 c3] 81)).heap.size = w14.heap.size + 1 := by simp
  clear hb15 hx16
  have hb18 := (Below.refl _ _).alloc (Nat.le_refl (w14.alloc (.cells #[.bool s3, .slice p3 n3 c3] 81)).heap.size) (.cells #[.bool s4, .slice p4 n4 c4] 81)
  have hx19 := Box.new (w14.alloc (.cells #[.bool s3, .slice p3 n3 c3] 81)) s4 p4 n4 c4
  rw [hs17] at hx19
  replace X2 := nx X2 hb18
  replace XR := nx XR hb18
  replace XA := bx XA hb18
  replace HT2 := wl HT2 hb18
  replace HU2 := wl HU2 hb18
  replace HA := wl HA hb18
  replace HB := wl HB hb18
  replace B := bb B hb18
  have XB := hid hx19
  have hs20 : ((w14.alloc (.cells #[.bool s3, .slice p3 n3 c3] 81)).alloc (.cells #[.bool s4, .slice p4 n4 c4] 81)).heap.size = w14.heap.size + 1 + 1 := by simp [hs17]
  clear hb18 hx19
  obtain ⟨cc21a, cc21b, cc21c, cc21d⟩ := X2.out.cells
  obtain ⟨cc22a, cc22b, cc22c, cc22d⟩ := XR.out.cells
  obtain ⟨cc23a, cc23b⟩ := XA.out.both
  obtain ⟨cc24a, cc24b⟩ := XB.out.both
  go_wp2_with fail
  generalize hW : (w14.alloc (.cells #[.bool s3, .slice p3 n3 c3] 81)).alloc (.cells #[.bool s4, .slice p4 n4 c4] 81) = W25 at *
  clear hW
  refine (parts_rtl (Rtl.mk2 HT2.out HU2.out HD2.out) HK1.out).mono ?_
  rintro e w26 ⟨v, u, rfl, hv, hu, hb⟩
  obtain ⟨s5, p5, n5, c5, rfl⟩ := hv.opened
  obtain ⟨s6, p6, n6, c6, rfl⟩ := hu.opened
  replace XR := nx XR hb
  replace XA := bx XA hb
  replace XB := bx XB hb
  replace HA := wl HA hb
  replace HB := wl HB hb
  replace B := bb B hb
  clear cc21a cc21b cc21c cc21d cc22a cc22b cc22c cc22d cc23a cc23b cc24a cc24b
  have HC := hid hv
  have HE := hid hu
  clear hb hv hu
  have hb27 := (Below.refl _ _).alloc (Nat.le_refl w26.heap.size) (.cells #[.bool s5, .slice p5 n5 c5] 81)
  have hx28 := Box.new w26 s5 p5 n5 c5
  have L1 := hid XB.out.lt
  replace XR := nx XR hb27
  replace XA := bx XA hb27
  replace XB := bx XB hb27
  replace HA := wl HA hb27
  replace HB := wl HB hb27
  replace HC := wl HC hb27
  replace HE := wl HE hb27
  replace B := bb B hb27
  have XC := hid hx28
  have hs29 : (w26.alloc (.cells #[.bool s5, .slice p5 n5 c5] 81)).heap.size = w26.heap.size + 1 := by simp
  clear hb27 hx28
  have hb30 := (Below.refl _ _).alloc (Nat.le_refl (w26.alloc (.cells #[.bool s5, .slice p5 n5 c5] 81)).heap.size) (.cells #[.bool s6, .slice p6 n6 c6] 81)
  have hx31 := Box.new (w26.alloc (.cells #[.bool s5, .slice p5 n5 c5] 81)) s6 p6 n6 c6
  rw [hs29] at hx31
  replace XR := nx XR hb30
  replace XA := bx XA hb30
  replace XB := bx XB hb30
  replace XC := bx XC hb30
  replace HA := wl HA hb30
  replace HB := wl HB hb30
  replace HC := wl HC hb30
  replace HE := wl HE hb30
  replace B := bb B hb30
  have XD := hid hx31
  have hs32 : ((w26.alloc (.cells #[.bool s5, .slice p5 n5 c5] 81)).alloc (.cells #[.bool s6, .slice p6 n6 c6] 81)).heap.size = w26.heap.size + 1 + 1 := by simp [hs29]
  clear hb30 hx31
  obtain ⟨cc33a, cc33b, cc33c, cc33d⟩ := XR.out.cells
  obtain ⟨cc34a, cc34b⟩ := XA.out.both
  obtain ⟨cc35a, cc35b⟩ := XB.out.both
  obtain ⟨cc36a, cc36b⟩ := XC.out.both
  obtain ⟨cc37a, cc37b⟩ := XD.out.both
  go_wp2_with fail
  generalize hW : (w26.alloc (.cells #[.bool s5, .slice p5 n5 c5] 81)).alloc (.cells #[.bool s6, .slice p6 n6 c6] 81) = W38 at *
  clear hW
  clear cc33a cc33b cc33c cc33d cc34a cc34b cc35a cc35b cc36a cc36b cc37a cc37b
  clear HT1 HU1 HT2 HU2 X1 X2
  refine region_ops (by kernel_rfl) (by kernel_rfl) (fun a f a' w' => ∃ u9 u10 u21 u22 u23 u24 u25 u26 u27 u28 u29 u30 v9 : Value, a' = { tmps := ((((((((((((a.tmps.setIfInBounds 9 u9).setIfInBounds 10 u10).setIfInBounds 21 u21).setIfInBounds 22 u22).setIfInBounds 23 u23).setIfInBounds 24 u24).setIfInBounds 25 u25).setIfInBounds 26 u26).setIfInBounds 27 u27).setIfInBounds 28 u28).setIfInBounds 29 u29).setIfInBounds 30 u30), defers := a.defers } ∧ Hid (Below W38.heap.size W38 w') ∧ Hid (f 0 = true → u22 = (.agg #[.bool s3, .slice p3 n3 c3])) ∧ Hid (f 1 = true → u23 = (.agg #[.bool s5, .slice p5 n5 c5])) ∧ Hid (f 2 = true → Whl w' u24 (q.num + r.num) (k + 1)) ∧ Hid (f 3 = true → u25 = (.agg #[.bool s4, .slice p4 n4 c4])) ∧ Hid (f 4 = true → u26 = (.agg #[.bool s6, .slice p6 n6 c6])) ∧ Hid (f 5 = true → Whl w' u27 ((q.den : Int) + r.den) (k + 1)) ∧ Hid (f 6 = true → (u28 = .tuple #[v9, .nilIface] ∧ Rtl w' v9 (med q r) (k + 1))) ∧ Hid (f 7 = true → u21 = .tuple #[v9, .nilIface]) ∧ Hid (f 8 = true → u29 = v9) ∧ Hid (f 9 = true → u30 = .nilIface) ∧ Hid (f 10 = true → NewN W38 w' u9 (f 11) v9) ∧ Hid (f 12 = true → u10 = .nilIface) ∧ (f 7 = true → f 6 = true) ∧ (f 8 = true → f 7 = true) ∧ (f 9 = true → f 7 = true) ∧ (f 11 = true → f 10 = true) ∧ (f 11 = true → f 8 = true)) ?h0 ⟨?s0, ?s1, ?s2, ?s3, ?s4, ?s5, ?s6, ?s7, ?s8, ?s9, ?s10, ?s11, ?s12, trivial⟩ ?hend
  case h0 =>
    simp only [List.setIfInBounds_toArray, List.set_cons_zero, List.set_cons_succ]
    exact ⟨_, _, _, _, _, _, _, _, _, _, _, _, .nilIface, rfl, hid (Below.drew (Below.refl _ _)), hid (fun h => by cases h), hid (fun h => by cases h), hid (fun h => by cases h), hid (fun h => by cases h), hid (fun h => by cases h), hid (fun h => by cases h), hid (fun h => by cases h), hid (fun h => by cases h), hid (fun h => by cases h), hid (fun h => by cases h), hid (fun h => by cases h), hid (fun h => by cases h), fun h => h, fun h => h, fun h => h, fun h => h, fun h => h⟩
  case s0 =>
    rintro f a1 w1 ⟨u9, u10, u21, u22, u23, u24, u25, u26, u27, u28, u29, u30, v9, rfl, HBW, h0, h1, h2, h3, h4, h5, h6, h7, h8, h9, h10, h12, o7_6, o8_7, o9_7, o11_10, o11_8⟩ hf hd K hK
    simp only [List.setIfInBounds_toArray, List.set_cons_zero, List.set_cons_succ] at hK ⊢
    replace hK := hid hK
    obtain ⟨c1, c2⟩ := (XA.out.below HBW.out XA.out.lt).both
    go_simp
    exact hK.out _ _ ⟨_, _, _, _, _, _, _, _, _, _, _, _, v9, rfl, HBW, hid (fun h => rfl), hid (fun h => h1.out h), hid (fun h => h2.out h), hid (fun h => h3.out h), hid (fun h => h4.out h), hid (fun h => h5.out h), hid (fun h => h6.out h), hid (fun h => h7.out h), hid (fun h => h8.out h), hid (fun h => h9.out h), hid (fun h => h10.out h), hid (fun h => h12.out h), fun h => o7_6 h, fun h => o8_7 h, fun h => o9_7 h, fun h => o11_10 h, fun h => o11_8 h⟩
  case s1 =>
    rintro f a1 w1 ⟨u9, u10, u21, u22, u23, u24, u25, u26, u27, u28, u29, u30, v9, rfl, HBW, h0, h1, h2, h3, h4, h5, h6, h7, h8, h9, h10, h12, o7_6, o8_7, o9_7, o11_10, o11_8⟩ hf hd K hK
    simp only [List.setIfInBounds_toArray, List.set_cons_zero, List.set_cons_succ] at hK ⊢
    replace hK := hid hK
    obtain ⟨c1, c2⟩ := (XC.out.below HBW.out XC.out.lt).both
    go_simp
    exact hK.out _ _ ⟨_, _, _, _, _, _, _, _, _, _, _, _, v9, rfl, HBW, hid (fun h => h0.out h), hid (fun h => rfl), hid (fun h => h2.out h), hid (fun h => h3.out h), hid (fun h => h4.out h), hid (fun h => h5.out h), hid (fun h => h6.out h), hid (fun h => h7.out h), hid (fun h => h8.out h), hid (fun h => h9.out h), hid (fun h => h10.out h), hid (fun h => h12.out h), fun h => o7_6 h, fun h => o8_7 h, fun h => o9_7 h, fun h => o11_10 h, fun h => o11_8 h⟩
  case s2 =>
    rintro f a1 w1 ⟨u9, u10, u21, u22, u23, u24, u25, u26, u27, u28, u29, u30, v9, rfl, HBW, h0, h1, h2, h3, h4, h5, h6, h7, h8, h9, h10, h12, o7_6, o8_7, o9_7, o11_10, o11_8⟩ hf hd K hK
    simp only [List.setIfInBounds_toArray, List.set_cons_zero, List.set_cons_succ] at hK ⊢
    replace hK := hid hK
    simp [Region.binds] at hd
    obtain rfl := h0.out hd.1
    obtain rfl := h1.out hd.2
    go_simp
    refine (add_whl (HA.out.below HBW.out (Nat.le_refl _)) (HC.out.below HBW.out (Nat.le_refl _)) (by have := HK.out; omega) (by have := HK.out; omega)).mono ?_
    rintro e w2 ⟨v, rfl, hv, hb⟩
    go_wp2_with fail
    exact hK.out _ _ ⟨_, _, _, _, _, _, _, _, _, _, _, _, v9, rfl, hid (below_next HBW.out hb), hid (fun h => rfl), hid (fun h => rfl), hid (fun h => by simpa using hv), hid (fun h => h3.out h), hid (fun h => h4.out h), hid (fun h => (h5.out h).on hb), hid (fun h => ⟨(h6.out h).1, (h6.out h).2.on hb⟩), hid (fun h => h7.out h), hid (fun h => h8.out h), hid (fun h => h9.out h), hid (fun h => (h10.out h).on hb), hid (fun h => h12.out h), fun h => o7_6 h, fun h => o8_7 h, fun h => o9_7 h, fun h => o11_10 h, fun h => o11_8 h⟩
  case s3 =>
    rintro f a1 w1 ⟨u9, u10, u21, u22, u23, u24, u25, u26, u27, u28, u29, u30, v9, rfl, HBW, h0, h1, h2, h3, h4, h5, h6, h7, h8, h9, h10, h12, o7_6, o8_7, o9_7, o11_10, o11_8⟩ hf hd K hK
    simp only [List.setIfInBounds_toArray, List.set_cons_zero, List.set_cons_succ] at hK ⊢
    replace hK := hid hK
    obtain ⟨c1, c2⟩ := (XB.out.below HBW.out XB.out.lt).both
    go_simp
    exact hK.out _ _ ⟨_, _, _, _, _, _, _, _, _, _, _, _, v9, rfl, HBW, hid (fun h => h0.out h), hid (fun h => h1.out h), hid (fun h => h2.out h), hid (fun h => rfl), hid (fun h => h4.out h), hid (fun h => h5.out h), hid (fun h => h6.out h), hid (fun h => h7.out h), hid (fun h => h8.out h), hid (fun h => h9.out h), hid (fun h => h10.out h), hid (fun h => h12.out h), fun h => o7_6 h, fun h => o8_7 h, fun h => o9_7 h, fun h => o11_10 h, fun h => o11_8 h⟩
  case s4 =>
    rintro f a1 w1 ⟨u9, u10, u21, u22, u23, u24, u25, u26, u27, u28, u29, u30, v9, rfl, HBW, h0, h1, h2, h3, h4, h5, h6, h7, h8, h9, h10, h12, o7_6, o8_7, o9_7, o11_10, o11_8⟩ hf hd K hK
    simp only [List.setIfInBounds_toArray, List.set_cons_zero, List.set_cons_succ] at hK ⊢
    replace hK := hid hK
    obtain ⟨c1, c2⟩ := (XD.out.below HBW.out XD.out.lt).both
    go_simp
    exact hK.out _ _ ⟨_, _, _, _, _, _, _, _, _, _, _, _, v9, rfl, HBW, hid (fun h => h0.out h), hid (fun h => h1.out h), hid (fun h => h2.out h), hid (fun h => h3.out h), hid (fun h => rfl), hid (fun h => h5.out h), hid (fun h => h6.out h), hid (fun h => h7.out h), hid (fun h => h8.out h), hid (fun h => h9.out h), hid (fun h => h10.out h), hid (fun h => h12.out h), fun h => o7_6 h, fun h => o8_7 h, fun h => o9_7 h, fun h => o11_10 h, fun h => o11_8 h⟩
  case s5 =>
    rintro f a1 w1 ⟨u9, u10, u21, u22, u23, u24, u25, u26, u27, u28, u29, u30, v9, rfl, HBW, h0, h1, h2, h3, h4, h5, h6, h7, h8, h9, h10, h12, o7_6, o8_7, o9_7, o11_10, o11_8⟩ hf hd K hK
    simp only [List.setIfInBounds_toArray, List.set_cons_zero, List.set_cons_succ] at hK ⊢
    replace hK := hid hK
    simp [Region.binds] at hd
    obtain rfl := h3.out hd.1
    obtain rfl := h4.out hd.2.1
    go_simp
    refine (add_whl (HB.out.below HBW.out (Nat.le_refl _)) (HE.out.below HBW.out (Nat.le_refl _)) (by have := HK.out; omega) (by have := HK.out; omega)).mono ?_
    rintro e w2 ⟨v, rfl, hv, hb⟩
    go_wp2_with fail
    exact hK.out _ _ ⟨_, _, _, _, _, _, _, _, _, _, _, _, v9, rfl, hid (below_next HBW.out hb), hid (fun h => h0.out h), hid (fun h => h1.out h), hid (fun h => (h2.out h).on hb), hid (fun h => rfl), hid (fun h => rfl), hid (fun h => by simpa using hv), hid (fun h => ⟨(h6.out h).1, (h6.out h).2.on hb⟩), hid (fun h => h7.out h), hid (fun h => h8.out h), hid (fun h => h9.out h), hid (fun h => (h10.out h).on hb), hid (fun h => h12.out h), fun h => o7_6 h, fun h => o8_7 h, fun h => o9_7 h, fun h => o11_10 h, fun h => o11_8 h⟩
  case s6 =>
    rintro f a1 w1 ⟨u9, u10, u21, u22, u23, u24, u25, u26, u27, u28, u29, u30, v9, rfl, HBW, h0, h1, h2, h3, h4, h5, h6, h7, h8, h9, h10, h12, o7_6, o8_7, o9_7, o11_10, o11_8⟩ hf hd K hK
    simp only [List.setIfInBounds_toArray, List.set_cons_zero, List.set_cons_succ] at hK ⊢
    replace hK := hid hK
    simp [Region.binds] at hd
    go_simp
    refine (quot_some (h2.out hd.1) (h5.out hd.2) (by have := q.den_pos; omega) (by have := HK.out; omega)).mono ?_
    rintro e w2 ⟨v, rfl, hv, hb⟩
    go_wp2_with fail
    exact hK.out _ _ ⟨_, _, _, _, _, _, _, _, _, _, _, _, v, rfl, hid (below_next HBW.out hb), hid (fun h => h0.out h), hid (fun h => h1.out h), hid (fun h => (h2.out h).on hb), hid (fun h => h3.out h), hid (fun h => h4.out h), hid (fun h => (h5.out h).on hb), hid (fun h => ⟨rfl, hv⟩), hid (fun h => absurd (o7_6 h) (by rw [hf]; decide)), hid (fun h => absurd (o7_6 (o8_7 h)) (by rw [hf]; decide)), hid (fun h => h9.out h), hid (fun h => ((h10.out h).on hb).free (by cases e : f 11 with | false => rfl | true => exact absurd (o7_6 (o8_7 (o11_8 e))) (by rw [hf]; decide))), hid (fun h => h12.out h), fun _ => rfl, fun h => o8_7 h, fun h => o9_7 h, fun h => o11_10 h, fun h => o11_8 h⟩
  case s7 =>
    rintro f a1 w1 ⟨u9, u10, u21, u22, u23, u24, u25, u26, u27, u28, u29, u30, v9, rfl, HBW, h0, h1, h2, h3, h4, h5, h6, h7, h8, h9, h10, h12, o7_6, o8_7, o9_7, o11_10, o11_8⟩ hf hd K hK
    simp only [List.setIfInBounds_toArray, List.set_cons_zero, List.set_cons_succ] at hK ⊢
    replace hK := hid hK
    simp [Region.binds] at hd
    obtain ⟨rfl, e2⟩ := h6.out hd
    go_simp
    exact hK.out _ _ ⟨_, _, _, _, _, _, _, _, _, _, _, _, v9, rfl, HBW, hid (fun h => h0.out h), hid (fun h => h1.out h), hid (fun h => h2.out h), hid (fun h => h3.out h), hid (fun h => h4.out h), hid (fun h => h5.out h), hid (fun h => ⟨rfl, e2⟩), hid (fun h => rfl), hid (fun h => h8.out h), hid (fun h => h9.out h), hid (fun h => h10.out h), hid (fun h => h12.out h), fun _ => hd, fun _ => rfl, fun _ => rfl, fun h => o11_10 h, fun h => o11_8 h⟩
  case s8 =>
    rintro f a1 w1 ⟨u9, u10, u21, u22, u23, u24, u25, u26, u27, u28, u29, u30, v9, rfl, HBW, h0, h1, h2, h3, h4, h5, h6, h7, h8, h9, h10, h12, o7_6, o8_7, o9_7, o11_10, o11_8⟩ hf hd K hK
    simp only [List.setIfInBounds_toArray, List.set_cons_zero, List.set_cons_succ] at hK ⊢
    replace hK := hid hK
    simp [Region.binds] at hd
    have e1 := h7.out hd
    subst e1
    go_simp
    exact hK.out _ _ ⟨_, _, _, _, _, _, _, _, _, _, _, _, v9, rfl, HBW, hid (fun h => h0.out h), hid (fun h => h1.out h), hid (fun h => h2.out h), hid (fun h => h3.out h), hid (fun h => h4.out h), hid (fun h => h5.out h), hid (fun h => h6.out h), hid (fun h => h7.out h), hid (fun h => rfl), hid (fun h => h9.out h), hid (fun h => h10.out h), hid (fun h => h12.out h), fun h => o7_6 h, fun _ => hd, fun h => o9_7 h, fun h => o11_10 h, fun _ => rfl⟩
  case s9 =>
    rintro f a1 w1 ⟨u9, u10, u21, u22, u23, u24, u25, u26, u27, u28, u29, u30, v9, rfl, HBW, h0, h1, h2, h3, h4, h5, h6, h7, h8, h9, h10, h12, o7_6, o8_7, o9_7, o11_10, o11_8⟩ hf hd K hK
    simp only [List.setIfInBounds_toArray, List.set_cons_zero, List.set_cons_succ] at hK ⊢
    replace hK := hid hK
    simp [Region.binds] at hd
    have e1 := h7.out hd
    subst e1
    go_simp
    exact hK.out _ _ ⟨_, _, _, _, _, _, _, _, _, _, _, _, v9, rfl, HBW, hid (fun h => h0.out h), hid (fun h => h1.out h), hid (fun h => h2.out h), hid (fun h => h3.out h), hid (fun h => h4.out h), hid (fun h => h5.out h), hid (fun h => h6.out h), hid (fun h => h7.out h), hid (fun h => h8.out h), hid (fun h => rfl), hid (fun h => h10.out h), hid (fun h => h12.out h), fun h => o7_6 h, fun h => o8_7 h, fun _ => hd, fun h => o11_10 h, fun h => o11_8 h⟩
  case s10 =>
    rintro f a1 w1 ⟨u9, u10, u21, u22, u23, u24, u25, u26, u27, u28, u29, u30, v9, rfl, HBW, h0, h1, h2, h3, h4, h5, h6, h7, h8, h9, h10, h12, o7_6, o8_7, o9_7, o11_10, o11_8⟩ hf hd K hK
    simp only [List.setIfInBounds_toArray, List.set_cons_zero, List.set_cons_succ] at hK ⊢
    replace hK := hid hK
    go_simp
    exact hK.out _ _ ⟨_, _, _, _, _, _, _, _, _, _, _, _, v9, rfl, hid (below_next HBW.out ((Below.refl _ _).alloc (Nat.le_refl _) _)), hid (fun h => h0.out h), hid (fun h => h1.out h), hid (fun h => (h2.out h).on ((Below.refl _ _).alloc (Nat.le_refl _) _)), hid (fun h => h3.out h), hid (fun h => h4.out h), hid (fun h => (h5.out h).on ((Below.refl _ _).alloc (Nat.le_refl _) _)), hid (fun h => ⟨(h6.out h).1, (h6.out h).2.on ((Below.refl _ _).alloc (Nat.le_refl _) _)⟩), hid (fun h => h7.out h), hid (fun h => h8.out h), hid (fun h => h9.out h), hid (fun h => ⟨w1.heap.size, rfl, HBW.out.size, fun _ => Nbx.new w1 false false _ _, fun e => absurd (o11_10 e) (by rw [hf]; decide)⟩), hid (fun h => h12.out h), fun h => o7_6 h, fun h => o8_7 h, fun h => o9_7 h, fun _ => rfl, fun h => o11_8 h⟩
  case s11 =>
    rintro f a1 w1 ⟨u9, u10, u21, u22, u23, u24, u25, u26, u27, u28, u29, u30, v9, rfl, HBW, h0, h1, h2, h3, h4, h5, h6, h7, h8, h9, h10, h12, o7_6, o8_7, o9_7, o11_10, o11_8⟩ hf hd K hK
    simp only [List.setIfInBounds_toArray, List.set_cons_zero, List.set_cons_succ] at hK ⊢
    replace hK := hid hK
    simp [Region.binds] at hd
    have e8 := h8.out hd.2.1
    subst e8
    obtain ⟨g, rfl, hg, hn, _⟩ := h10.out hd.1
    replace hn := hn hf
    have hv9 := (h6.out hd.2.2.1).2
    obtain ⟨s9a, p9a, n9a, c9a, s9b, p9b, n9b, c9b, rfl⟩ := hv9.opened
    obtain ⟨t1, d9, t2, hd9⟩ := hv9.two
    obtain ⟨⟨c1, c2⟩, ⟨c3, c4⟩, ⟨c5, c6⟩, c7, c8⟩ := hn.stores
    obtain ⟨n1, n2, n3⟩ := hn.last HBW.out hg s9a s9b p9a p9b n9a n9b c9a c9b
    have HN := hid (And.intro n1 n2)
    have HV := hid (fun v z k h => @n3 v z k h)
    have H9 := hid (Rtl.mk2 (n3 t1) (n3 t2) hd9)
    clear n1 n2 n3
    go_simp
    exact hK.out _ _ ⟨_, _, _, _, _, _, _, _, _, _, _, _, _, rfl, hid HN.out.2, hid (fun h => h0.out h), hid (fun h => h1.out h), hid (fun h => HV.out _ _ _ (h2.out h)), hid (fun h => h3.out h), hid (fun h => h4.out h), hid (fun h => HV.out _ _ _ (h5.out h)), hid (fun h => ⟨(h6.out h).1, H9.out⟩), hid (fun h => h7.out h), hid (fun h => h8.out h), hid (fun h => h9.out h), hid (fun h => ⟨g, rfl, hg, fun e => by simp [more] at e, fun _ => ⟨_, _, _, _, _, _, _, _, rfl, HN.out.1⟩⟩), hid (fun h => h12.out h), fun h => o7_6 h, fun h => o8_7 h, fun h => o9_7 h, fun _ => hd.1, fun _ => hd.2.1⟩
  case s12 =>
    rintro f a1 w1 ⟨u9, u10, u21, u22, u23, u24, u25, u26, u27, u28, u29, u30, v9, rfl, HBW, h0, h1, h2, h3, h4, h5, h6, h7, h8, h9, h10, h12, o7_6, o8_7, o9_7, o11_10, o11_8⟩ hf hd K hK
    simp only [List.setIfInBounds_toArray, List.set_cons_zero, List.set_cons_succ] at hK ⊢
    replace hK := hid hK
    simp [Region.binds] at hd
    have e1 := h9.out hd.1
    subst e1
    go_simp
    exact hK.out _ _ ⟨_, _, _, _, _, _, _, _, _, _, _, _, v9, rfl, HBW, hid (fun h => h0.out h), hid (fun h => h1.out h), hid (fun h => h2.out h), hid (fun h => h3.out h), hid (fun h => h4.out h), hid (fun h => h5.out h), hid (fun h => h6.out h), hid (fun h => h7.out h), hid (fun h => h8.out h), hid (fun h => h9.out h), hid (fun h => h10.out h), hid (fun h => rfl), fun h => o7_6 h, fun h => o8_7 h, fun h => o9_7 h, fun h => o11_10 h, fun h => o11_8 h⟩
  case hend =>
    rintro f a1 w1 ⟨u9, u10, u21, u22, u23, u24, u25, u26, u27, u28, u29, u30, v9, rfl, HBW, h0, h1, h2, h3, h4, h5, h6, h7, h8, h9, h10, h12, _⟩ hall
    simp only [List.setIfInBounds_toArray, List.set_cons_zero, List.set_cons_succ]
    have hv9 := (h6.out (hall 6 (by decide))).2
    obtain ⟨g, rfl, hg, _, hn⟩ := h10.out (hall 10 (by decide))
    obtain ⟨s9a, p9a, n9a, c9a, s9b, p9b, n9b, c9b, rfl, hn2⟩ := hn (hall 11 (by decide))
    obtain ⟨ht9, d9, hu9, hd9⟩ := hv9.two
    replace XR := nx XR HBW.out
    replace B := bb B HBW.out
    have XN := hid hn2
    have LN := hid hg
    have HT9 := hid ht9
    have HU9 := hid hu9
    have HD9 := hid hd9
    have LR := hid (show w.heap.size + 1 + 1 < W38.heap.size from (by have := L0.out; have := L1.out; omega))
    clear h0 h1 h2 h3 h4 h5 h6 h7 h8 h9 h10 h12 hall hn hn2 hg ht9 hu9 hd9 hv9 HBW
    obtain ⟨cc901a, cc901b, cc901c, cc901d⟩ := XN.out.cells
    obtain ⟨cc902a, cc902b, cc902c, cc902d⟩ := XR.out.cells
    obtain ⟨⟨cc903a, cc903b⟩, ⟨cc903c, cc903d⟩, ⟨cc903e, cc903f⟩, cc903g, cc903h⟩ := XR.out.stores
    obtain ⟨r904a, r904b, r904c⟩ := XR.out.last B.out (by have := LR.out; have := LN.out; omega) s9a s9b p9a p9b n9a n9b c9a c9b
    replace XN := hid ((((XN.out.other (g2 := w.heap.size + 1 + 1) (by have := LR.out; have := LN.out; omega) 0 (.bool s9a)).other (g2 := w.heap.size + 1 + 1) (by have := LR.out; have := LN.out; omega) 1 (.slice p9a n9a c9a)).other (g2 := w.heap.size + 1 + 1) (by have := LR.out; have := LN.out; omega) 2 (.bool s9b)).other (g2 := w.heap.size + 1 + 1) (by have := LR.out; have := LN.out; omega) 3 (.slice p9b n9b c9b))
    replace HT9 := hid (r904c HT9.out)
    replace HU9 := hid (r904c HU9.out)
    replace XR := hid r904a
    replace B := hid r904b
    clear r904a r904b r904c
    go_wp2_with fail
    refine bodyPost_ret (res_num rfl rfl XR.out) rfl ?_
    exact ⟨_, rfl, Rtl.mk2 HT9.out HU9.out HD9.out, B.out⟩

end Go.Proofs.YtjeeepcnaaadmaaGreatDoor

/-
  FRACTIONS: back from their numbers, one number after the other, from the last one on.
-/
namespace Go.Proofs.YtjeeepcnaaadmaaGreatDoor
open Go.RowKit
set_option linter.unusedVariables false
set_option maxRecDepth 100000

theorem cfb_gcd : ∀ l : List Int, Int.gcd (cfb l).1 (cfb l).2 = 1 := by
  intro l
  induction l with
  | nil => decide
  | cons z l ih =>
    rw [cfb_cons]
    show Int.gcd (z * (cfb l).1 + (cfb l).2) (cfb l).1 = 1
    rw [Int.add_comm, Int.mul_comm, Int.gcd_add_mul_left_left, Int.gcd_comm]
    exact ih
theorem cfb_tail : ∀ l : List Int, (∀ y ∈ l, 1 ≤ y) → 1 ≤ (cfb l).1 ∧ 0 ≤ (cfb l).2 ∧ (l ≠ [] → 1 ≤ (cfb l).2) := by
  intro l
  induction l with
  | nil => intro _; exact ⟨by decide, by decide, fun h => absurd rfl h⟩
  | cons z l ih =>
    intro h
    obtain ⟨h1, h2, _⟩ := ih fun y hy => h y (List.mem_cons_of_mem _ hy)
    have hz := h z (List.mem_cons_self ..)
    rw [cfb_cons]
    show 1 ≤ z * (cfb l).1 + (cfb l).2 ∧ 0 ≤ (cfb l).1 ∧ (_ → 1 ≤ (cfb l).1)
    have := Int.mul_le_mul hz h1 (by omega) (by omega)
    exact ⟨by omega, by omega, fun _ => h1⟩
theorem cfback_parts {z : Int} {l : List Int} (h : ∀ y ∈ l, 1 ≤ y) : (cfback (z :: l)).num = (cfb (z :: l)).1 ∧ ((cfback (z :: l)).den : Int) = (cfb l).1 := by
  obtain ⟨h1, _⟩ := cfb_tail l h
  exact divInt_cop (n := (cfb (z :: l)).1) (d := (cfb (z :: l)).2) (by show 0 < (cfb l).1; omega) (cfb_gcd _)
theorem cfback_one (z : Int) : cfback [z] = (z : Rat) := by
  have h1 : (cfb [z]).1 = z := by show z * 1 + 0 = z; omega
  have h2 : (cfb [z]).2 = 1 := rfl
  rw [cfback, h1, h2, Rat.divInt_eq_div, show ((1 : Int) : Rat) = 1 from rfl]
  grind
theorem cfback_cons {z y : Int} {l : List Int} (h : ∀ x ∈ y :: l, 1 ≤ x) : cfback (z :: y :: l) = (z : Rat) + 1 / cfback (y :: l) ∧ cfback (y :: l) ≠ 0 := by
  obtain ⟨h1, _, h2⟩ := cfb_tail (y :: l) h
  have h2 := h2 (by simp)
  have a : ((cfb (y :: l)).1 : Rat) ≠ 0 := by rw [Ne, Rat.intCast_eq_zero_iff]; omega
  have b : ((cfb (y :: l)).2 : Rat) ≠ 0 := by rw [Ne, Rat.intCast_eq_zero_iff]; omega
  have e : (cfb (z :: y :: l)).1 = z * (cfb (y :: l)).1 + (cfb (y :: l)).2 := rfl
  have e2 : (cfb (z :: y :: l)).2 = (cfb (y :: l)).1 := rfl
  rw [cfback, cfback, e, e2, Rat.divInt_eq_div, Rat.divInt_eq_div, Rat.intCast_add, Rat.intCast_mul]
  generalize ((cfb (y :: l)).1 : Rat) = p at *
  generalize ((cfb (y :: l)).2 : Rat) = r at *
  constructor
  · grind
  · intro h0
    have : p = p / r * r := by grind
    rw [h0] at this
    grind
theorem cfb_size (M : Nat) : ∀ l : List Int, (∀ y ∈ l, y.natAbs < M) → (cfb l).1.natAbs ≤ M ^ l.length ∧ (cfb l).2.natAbs ≤ M ^ l.length := by
  intro l
  induction l with
  | nil => intro _; exact ⟨by show 1 ≤ M ^ 0; simp, Nat.zero_le _⟩
  | cons z l ih =>
    intro h
    obtain ⟨h1, h2⟩ := ih fun y hy => h y (List.mem_cons_of_mem _ hy)
    have hz := h z (List.mem_cons_self ..)
    rw [cfb_cons]
    show (z * (cfb l).1 + (cfb l).2).natAbs ≤ M ^ (l.length + 1) ∧ (cfb l).1.natAbs ≤ M ^ (l.length + 1)
    have e := Int.natAbs_add_le (z * (cfb l).1) (cfb l).2
    rw [Int.natAbs_mul] at e
    have h3 : z.natAbs * (cfb l).1.natAbs ≤ (M - 1) * M ^ l.length := Nat.mul_le_mul (by omega) h1
    have h4 : (M - 1) * M ^ l.length + M ^ l.length = M ^ (l.length + 1) := by
      rw [← Nat.succ_mul, show (M - 1).succ = M by omega, Nat.pow_succ, Nat.mul_comm]
    omega

end Go.Proofs.YtjeeepcnaaadmaaGreatDoor

/-
  PACKAGE cf: nearer.
-/
namespace Go.Proofs.YtjeeepcnaaadmaaGreatDoor
open Go.RowKit
open Num
set_option linter.unusedVariables false
set_option maxRecDepth 100000
set_option linter.unusedSimpArgs false

set_option maxHeartbeats 8000000 in
theorem nearer_rtl {w : World} {v u t : Value} {x l r : Rat} {k : Nat} (h1 : Rtl w v x k) (h2 : Rtl w u l k) (h3 : Rtl w t r k) (hk1 : 1 ≤ k) (hk : k ≤ 4294967296) :
    Calls Tryz.prog 77 #[v, u, t] w fun e w' => ∃ v, e = .returned v ∧ Rtl w' v (nrq x l r) k ∧ Below w.heap.size w w' := by
  obtain ⟨s1a, p1a, n1a, c1a, s1b, p1b, n1b, c1b, rfl⟩ := h1.opened
  obtain ⟨ht1, d1, hu1, hd1⟩ := h1.two
  have HD1 := hid hd1
  obtain ⟨s2a, p2a, n2a, c2a, s2b, p2b, n2b, c2b, rfl⟩ := h2.opened
  obtain ⟨ht2, d2, hu2, hd2⟩ := h2.two
  have HD2 := hid hd2
  obtain ⟨s3a, p3a, n3a, c3a, s3b, p3b, n3b, c3b, rfl⟩ := h3.opened
  obtain ⟨ht3, d3, hu3, hd3⟩ := h3.two
  have HD3 := hid hd3
  have HK := hid hk
  have HK1 := hid hk1
  have B := hid (Below.refl w.heap.size w)
  have HT1 := hid ht1
  have HU1 := hid hu1
  have HT2 := hid ht2
  have HU2 := hid hu2
  have HT3 := hid ht3
  have HU3 := hid hu3
  have hb1 := (Below.refl _ _).alloc (Nat.le_refl w.heap.size) (.cells #[.bool s1a, .slice p1a n1a c1a, .bool s1b, .slice p1b n1b c1b] 83)
  have hx2 := Nbx.new w s1a s1b (.slice p1a n1a c1a) (.slice p1b n1b c1b)
  replace HT1 := wl HT1 hb1
  replace HU1 := wl HU1 hb1
  replace HT2 := wl HT2 hb1
  replace HU2 := wl HU2 hb1
  replace HT3 := wl HT3 hb1
  replace HU3 := wl HU3 hb1
  replace B := bb B hb1
  have X1 := hid hx2
  have hs3 : (w.alloc (.cells #[.bool s1a, .slice p1a n1a c1a, .bool s1b, .slice p1b n1b c1b] 83)).heap.size = w.heap.size + 1 := by simp
  clear hb1 hx2
  have hb4 := (Below.refl _ _).alloc (Nat.le_refl (w.alloc (.cells #[.bool s1a, .slice p1a n1a c1a, .bool s1b, .slice p1b n1b c1b] 83)).heap.size) (.cells #[.bool s2a, .slice p2a n2a c2a, .bool s2b, .slice p2b n2b c2b] 83)
  have hx5 := Nbx.new (w.alloc (.cells #[.bool s1a, .slice p1a n1a c1a, .bool s1b, .slice p1b n1b c1b] 83)) s2a s2b (.slice p2a n2a c2a) (.slice p2b n2b c2b)
  rw [hs3] at hx5
  replace X1 := nx X1 hb4
  replace HT1 := wl HT1 hb4
  replace HU1 := wl HU1 hb4
  replace HT2 := wl HT2 hb4
  replace HU2 := wl HU2 hb4
  replace HT3 := wl HT3 hb4
  replace HU3 := wl HU3 hb4
  replace B := bb B hb4
  have X2 := hid hx5
  have hs6 : ((w.alloc (.cells #[.bool s1a, .slice p1a n1a c1a, .bool s1b, .slice p1b n1b c1b] 83)).alloc (.cells #[.bool s2a, .slice p2a n2a c2a, .bool s2b, .slice p2b n2b c2b] 83)).heap.size = w.heap.size + 1 + 1 := by simp [hs3]
  clear hb4 hx5
  have hb7 := (Below.refl _ _).alloc (Nat.le_refl ((w.alloc (.cells #[.bool s1a, .slice p1a n1a c1a, .bool s1b, .slice p1b n1b c1b] 83)).alloc (.cells #[.bool s2a, .slice p2a n2a c2a, .bool s2b, .slice p2b n2b c2b] 83)).heap.size) (.cells #[.bool s3a, .slice p3a n3a c3a, .bool s3b, .slice p3b n3b c3b] 83)
  have hx8 := Nbx.new ((w.alloc (.cells #[.bool s1a, .slice p1a n1a c1a, .bool s1b, .slice p1b n1b c1b] 83)).alloc (.cells #[.bool s2a, .slice p2a n2a c2a, .bool s2b, .slice p2b n2b c2b] 83)) s3a s3b (.slice p3a n3a c3a) (.slice p3b n3b c3b)
  rw [hs6] at hx8
  replace X1 := nx X1 hb7
  replace X2 := nx X2 hb7
  replace HT1 := wl HT1 hb7
  replace HU1 := wl HU1 hb7
  replace HT2 := wl HT2 hb7
  replace HU2 := wl HU2 hb7
  replace HT3 := wl HT3 hb7
  replace HU3 := wl HU3 hb7
  replace B := bb B hb7
  have X3 := hid hx8
  have hs9 : (((w.alloc (.cells #[.bool s1a, .slice p1a n1a c1a, .bool s1b, .slice p1b n1b c1b] 83)).alloc (.cells #[.bool s2a, .slice p2a n2a c2a, .bool s2b, .slice p2b n2b c2b] 83)).alloc (.cells #[.bool s3a, .slice p3a n3a c3a, .bool s3b, .slice p3b n3b c3b] 83)).heap.size = w.heap.size + 1 + 1 + 1 := by simp [hs6]
  clear hb7 hx8
  have hb10 := (Below.refl _ _).alloc (Nat.le_refl (((w.alloc (.cells #[.bool s1a, .slice p1a n1a c1a, .bool s1b, .slice p1b n1b c1b] 83)).alloc (.cells #[.bool s2a, .slice p2a n2a c2a, .bool s2b, .slice p2b n2b c2b] 83)).alloc (.cells #[.bool s3a, .slice p3a n3a c3a, .bool s3b, .slice p3b n3b c3b] 83)).heap.size) (.cells #[.bool false, .slice none 0 0, .bool false, .slice none 0 0] 83)
  have hx11 := Nbx.new (((w.alloc (.cells #[.bool s1a, .slice p1a n1a c1a, .bool s1b, .slice p1b n1b c1b] 83)).alloc (.cells #[.bool s2a, .slice p2a n2a c2a, .bool s2b, .slice p2b n2b c2b] 83)).alloc (.cells #[.bool s3a, .slice p3a n3a c3a, .bool s3b, .slice p3b n3b c3b] 83)) false false (.slice none 0 0) (.slice none 0 0)
  rw [hs9] at hx11
  replace X1 := nx X1 hb10
  replace X2 := nx X2 hb10
  replace X3 := nx X3 hb10
  replace HT1 := wl HT1 hb10
  replace HU1 := wl HU1 hb10
  replace HT2 := wl HT2 hb10
  replace HU2 := wl HU2 hb10
  replace HT3 := wl HT3 hb10
  replace HU3 := wl HU3 hb10
  replace B := bb B hb10
  have XR := hid hx11
  have hs12 : ((((w.alloc (.cells #[.bool s1a, .slice p1a n1a c1a, .bool s1b, .slice p1b n1b c1b] 83)).alloc (.cells #[.bool s2a, .slice p2a n2a c2a, .bool s2b, .slice p2b n2b c2b] 83)).alloc (.cells #[.bool s3a, .slice p3a n3a c3a, .bool s3b, .slice p3b n3b c3b] 83)).alloc (.cells #[.bool false, .slice none 0 0, .bool false, .slice none 0 0] 83)).heap.size = w.heap.size + 1 + 1 + 1 + 1 := by simp [hs9]
  clear hb10 hx11
  clear hs12 h1 h2 h3 ht1 hu1 ht2 hu2 ht3 hu3 hd1 hd2 hd3 hk hk1
  go_enter Tryz.func77, Tryz.ntmps77
  obtain ⟨cc13a, cc13b, cc13c, cc13d⟩ := X1.out.cells
  obtain ⟨cc14a, cc14b, cc14c, cc14d⟩ := X2.out.cells
  obtain ⟨cc15a, cc15b, cc15c, cc15d⟩ := X3.out.cells
  obtain ⟨cc16a, cc16b, cc16c, cc16d⟩ := XR.out.cells
  go_wp2_with fail
  generalize hW : (((w.alloc (.cells #[.bool s1a, .slice p1a n1a c1a, .bool s1b, .slice p1b n1b c1b] 83)).alloc (.cells #[.bool s2a, .slice p2a n2a c2a, .bool s2b, .slice p2b n2b c2b] 83)).alloc (.cells #[.bool s3a, .slice p3a n3a c3a, .bool s3b, .slice p3b n3b c3b] 83)).alloc (.cells #[.bool false, .slice none 0 0, .bool false, .slice none 0 0] 83) = W17 at *
  clear hW
  refine (parts_rtl (Rtl.mk2 HT2.out HU2.out HD2.out) HK1.out).mono ?_
  rintro e w18 ⟨v, u, rfl, hv, hu, hb⟩
  obtain ⟨s4, p4, n4, c4, rfl⟩ := hv.opened
  obtain ⟨s5, p5, n5, c5, rfl⟩ := hu.opened
  replace X1 := nx X1 hb
  replace X2 := nx X2 hb
  replace X3 := nx X3 hb
  replace XR := nx XR hb
  replace HT1 := wl HT1 hb
  replace HU1 := wl HU1 hb
  replace HT2 := wl HT2 hb
  replace HU2 := wl HU2 hb
  replace HT3 := wl HT3 hb
  replace HU3 := wl HU3 hb
  replace B := bb B hb
  clear cc13a cc13b cc13c cc13d cc14a cc14b cc14c cc14d cc15a cc15b cc15c cc15d cc16a cc16b cc16c cc16d
  have HA := hid hv
  have HB := hid hu
  clear hb hv hu
  have hb19 := (Below.refl _ _).alloc (Nat.le_refl w18.heap.size) (.cells #[.bool s4, .slice p4 n4 c4] 81)
  have hx20 := Box.new w18 s4 p4 n4 c4
  have L0 := hid XR.out.lt
  replace X1 := nx X1 hb19
  replace X2 := nx X2 hb19
  replace X3 := nx X3 hb19
  replace XR := nx XR hb19
  replace HT1 := wl HT1 hb19
  replace HU1 := wl HU1 hb19
  replace HT2 := wl HT2 hb19
  replace HU2 := wl HU2 hb19
  replace HT3 := wl HT3 hb19
  replace HU3 := wl HU3 hb19
  replace HB := wl HB hb19
  replace B := bb B hb19
  have XA := hid hx20
  have hs21 : (w18.alloc (.cells #[.bool s4, .slice p4 n4 c4] 81)).heap.size = w18.heap.size + 1 := by simp
  clear hb19 hx20
  have hb22 := (Below.refl _ _).alloc (Nat.le_refl (w18.alloc (.cells #[.bool s4, .slice p4 n4 c4] 81)).heap.size) (.cells #[.bool s5, .slice p5 n5 c5] 81)
  have hx23 := Box.new (w18.alloc (.cells #[.bool s4, .slice p4 n4 c4] 81)) s5 p5 n5 c5
  rw [hs21] at hx23
  replace X1 := nx X1 hb22
  replace X2 := nx X2 hb22
  replace X3 := nx X3 hb22
  replace XR := nx XR hb22
  replace XA := bx XA hb22
  replace HT1 := wl HT1 hb22
  replace HU1 := wl HU1 hb22
  replace HT2 := wl HT2 hb22
  replace HU2 := wl HU2 hb22
  replace HT3 := wl HT3 hb22
  replace HU3 := wl HU3 hb22
  replace HB := wl HB hb22
  replace B := bb B hb22
  have XB := hid hx23
  have hs24 : ((w18.alloc (.cells #[.bool s4, .slice p4 n4 c4] 81)).alloc (.cells #[.bool s5, .slice p5 n5 c5] 81)).heap.size = w18.heap.size + 1 + 1 := by simp [hs21]
  clear hb22 hx23
  obtain ⟨cc25a, cc25b, cc25c, cc25d⟩ := X1.out.cells
  obtain ⟨cc26a, cc26b, cc26c, cc26d⟩ := X2.out.cells
  obtain ⟨cc27a, cc27b, cc27c, cc27d⟩ := X3.out.cells
  obtain ⟨cc28a, cc28b, cc28c, cc28d⟩ := XR.out.cells
  obtain ⟨cc29a, cc29b⟩ := XA.out.both
  obtain ⟨cc30a, cc30b⟩ := XB.out.both
  go_wp2_with fail
  generalize hW : (w18.alloc (.cells #[.bool s4, .slice p4 n4 c4] 81)).alloc (.cells #[.bool s5, .slice p5 n5 c5] 81) = W31 at *
  clear hW
  refine (parts_rtl (Rtl.mk2 HT3.out HU3.out HD3.out) HK1.out).mono ?_
  rintro e w32 ⟨v, u, rfl, hv, hu, hb⟩
  obtain ⟨s6, p6, n6, c6, rfl⟩ := hv.opened
  obtain ⟨s7, p7, n7, c7, rfl⟩ := hu.opened
  replace X1 := nx X1 hb
  replace X2 := nx X2 hb
  replace X3 := nx X3 hb
  replace XR := nx XR hb
  replace XB := bx XB hb
  replace HT1 := wl HT1 hb
  replace HU1 := wl HU1 hb
  replace HT2 := wl HT2 hb
  replace HU2 := wl HU2 hb
  replace HT3 := wl HT3 hb
  replace HU3 := wl HU3 hb
  replace HB := wl HB hb
  replace B := bb B hb
  clear cc25a cc25b cc25c cc25d cc26a cc26b cc26c cc26d cc27a cc27b cc27c cc27d cc28a cc28b cc28c cc28d cc29a cc29b cc30a cc30b
  have HC := hid hv
  have HD := hid hu
  clear hb hv hu
  have hb33 := (Below.refl _ _).alloc (Nat.le_refl w32.heap.size) (.cells #[.bool s6, .slice p6 n6 c6] 81)
  have hx34 := Box.new w32 s6 p6 n6 c6
  have L1 := hid XB.out.lt
  replace X1 := nx X1 hb33
  replace X2 := nx X2 hb33
  replace X3 := nx X3 hb33
  replace XR := nx XR hb33
  replace XB := bx XB hb33
  replace HT1 := wl HT1 hb33
  replace HU1 := wl HU1 hb33
  replace HT2 := wl HT2 hb33
  replace HU2 := wl HU2 hb33
  replace HT3 := wl HT3 hb33
  replace HU3 := wl HU3 hb33
  replace HB := wl HB hb33
  replace HD := wl HD hb33
  replace B := bb B hb33
  have XC := hid hx34
  have hs35 : (w32.alloc (.cells #[.bool s6, .slice p6 n6 c6] 81)).heap.size = w32.heap.size + 1 := by simp
  clear hb33 hx34
  have hb36 := (Below.refl _ _).alloc (Nat.le_refl (w32.alloc (.cells #[.bool s6, .slice p6 n6 c6] 81)).heap.size) (.cells #[.bool s7, .slice p7 n7 c7] 81)
  have hx37 := Box.new (w32.alloc (.cells #[.bool s6, .slice p6 n6 c6] 81)) s7 p7 n7 c7
  rw [hs35] at hx37
  replace X1 := nx X1 hb36
  replace X2 := nx X2 hb36
  replace X3 := nx X3 hb36
  replace XR := nx XR hb36
  replace XB := bx XB hb36
  replace XC := bx XC hb36
  replace HT1 := wl HT1 hb36
  replace HU1 := wl HU1 hb36
  replace HT2 := wl HT2 hb36
  replace HU2 := wl HU2 hb36
  replace HT3 := wl HT3 hb36
  replace HU3 := wl HU3 hb36
  replace HB := wl HB hb36
  replace HD := wl HD hb36
  replace B := bb B hb36
  have XD := hid hx37
  have hs38 : ((w32.alloc (.cells #[.bool s6, .slice p6 n6 c6] 81)).alloc (.cells #[.bool s7, .slice p7 n7 c7] 81)).heap.size = w32.heap.size + 1 + 1 := by simp [hs35]
  clear hb36 hx37
  obtain ⟨cc39a, cc39b, cc39c, cc39d⟩ := X1.out.cells
  obtain ⟨cc40a, cc40b, cc40c, cc40d⟩ := X2.out.cells
  obtain ⟨cc41a, cc41b, cc41c, cc41d⟩ := X3.out.cells
  obtain ⟨cc42a, cc42b, cc42c, cc42d⟩ := XR.out.cells
  obtain ⟨cc43a, cc43b⟩ := XB.out.both
  obtain ⟨cc44a, cc44b⟩ := XC.out.both
  obtain ⟨cc45a, cc45b⟩ := XD.out.both
  go_wp2_with fail
  generalize hW : (w32.alloc (.cells #[.bool s6, .slice p6 n6 c6] 81)).alloc (.cells #[.bool s7, .slice p7 n7 c7] 81) = W46 at *
  clear hW
  clear cc39a cc39b cc39c cc39d cc40a cc40b cc40c cc40d cc41a cc41b cc41c cc41d cc42a cc42b cc42c cc42d cc43a cc43b cc44a cc44b cc45a cc45b
  clear HA HC XA XC
  have LQ := hid XR.out.lt
  refine region_ops (by kernel_rfl) (by kernel_rfl) (fun a f a' w' => ∃ u11 u12 u23 u24 u25 u26 u27 u28 : Value, a' = { tmps := ((((((((a.tmps.setIfInBounds 11 u11).setIfInBounds 12 u12).setIfInBounds 23 u23).setIfInBounds 24 u24).setIfInBounds 25 u25).setIfInBounds 26 u26).setIfInBounds 27 u27).setIfInBounds 28 u28), defers := a.defers } ∧ Hid (Below W46.heap.size W46 w') ∧ Hid (f 0 = true → u23 = (.agg #[.bool s1a, .slice p1a n1a c1a, .bool s1b, .slice p1b n1b c1b])) ∧ Hid (f 1 = true → u24 = (.agg #[.bool s1a, .slice p1a n1a c1a, .bool s1b, .slice p1b n1b c1b])) ∧ Hid (f 2 = true → Rtl w' u25 (x + x) (k + k + 1)) ∧ Hid (f 3 = true → u26 = (.agg #[.bool s2a, .slice p2a n2a c2a, .bool s2b, .slice p2b n2b c2b])) ∧ Hid (f 4 = true → u27 = (.agg #[.bool s3a, .slice p3a n3a c3a, .bool s3b, .slice p3b n3b c3b])) ∧ Hid (f 5 = true → Rtl w' u28 (l + r) (k + k + 1)) ∧ Hid (f 6 = true → NewN W46 w' u11 (f 8) u25) ∧ Hid (f 7 = true → NewN W46 w' u12 (f 9) u28) ∧ (f 8 = true → f 6 = true) ∧ (f 8 = true → f 2 = true) ∧ (f 9 = true → f 7 = true) ∧ (f 9 = true → f 5 = true) ∧ (f 6 = true → f 7 = true → u11 ≠ u12)) ?h0 ⟨?s0, ?s1, ?s2, ?s3, ?s4, ?s5, ?s6, ?s7, ?s8, ?s9, trivial⟩ ?hend
  case h0 =>
    simp only [List.setIfInBounds_toArray, List.set_cons_zero, List.set_cons_succ]
    exact ⟨_, _, _, _, _, _, _, _, rfl, hid (Below.drew (Below.refl _ _)), hid (fun h => by cases h), hid (fun h => by cases h), hid (fun h => by cases h), hid (fun h => by cases h), hid (fun h => by cases h), hid (fun h => by cases h), hid (fun h => by cases h), hid (fun h => by cases h), fun h => h, fun h => h, fun h => h, fun h => h, fun h => by cases h⟩
  case s0 =>
    rintro f a1 w1 ⟨u11, u12, u23, u24, u25, u26, u27, u28, rfl, HBW, h0, h1, h2, h3, h4, h5, h6, h7, o8_6, o8_2, o9_7, o9_5, hne⟩ hf hd K hK
    simp only [List.setIfInBounds_toArray, List.set_cons_zero, List.set_cons_succ] at hK ⊢
    replace hK := hid hK
    obtain ⟨c1, c2, c3, c4⟩ := (X1.out.below HBW.out X1.out.lt).cells
    go_simp
    exact hK.out _ _ ⟨_, _, _, _, _, _, _, _, rfl, HBW, hid (fun h => rfl), hid (fun h => h1.out h), hid (fun h => h2.out h), hid (fun h => h3.out h), hid (fun h => h4.out h), hid (fun h => h5.out h), hid (fun h => h6.out h), hid (fun h => h7.out h), fun h => o8_6 h, fun h => o8_2 h, fun h => o9_7 h, fun h => o9_5 h, fun h => hne h⟩
  case s1 =>
    rintro f a1 w1 ⟨u11, u12, u23, u24, u25, u26, u27, u28, rfl, HBW, h0, h1, h2, h3, h4, h5, h6, h7, o8_6, o8_2, o9_7, o9_5, hne⟩ hf hd K hK
    simp only [List.setIfInBounds_toArray, List.set_cons_zero, List.set_cons_succ] at hK ⊢
    replace hK := hid hK
    obtain ⟨c1, c2, c3, c4⟩ := (X1.out.below HBW.out X1.out.lt).cells
    go_simp
    exact hK.out _ _ ⟨_, _, _, _, _, _, _, _, rfl, HBW, hid (fun h => h0.out h), hid (fun h => rfl), hid (fun h => h2.out h), hid (fun h => h3.out h), hid (fun h => h4.out h), hid (fun h => h5.out h), hid (fun h => h6.out h), hid (fun h => h7.out h), fun h => o8_6 h, fun h => o8_2 h, fun h => o9_7 h, fun h => o9_5 h, fun h => hne h⟩
  case s2 =>
    rintro f a1 w1 ⟨u11, u12, u23, u24, u25, u26, u27, u28, rfl, HBW, h0, h1, h2, h3, h4, h5, h6, h7, o8_6, o8_2, o9_7, o9_5, hne⟩ hf hd K hK
    simp only [List.setIfInBounds_toArray, List.set_cons_zero, List.set_cons_succ] at hK ⊢
    replace hK := hid hK
    simp [Region.binds] at hd
    obtain rfl := h0.out hd.1
    obtain rfl := h1.out hd.2
    go_simp
    refine (addq_rtl (Rtl.mk2 (HT1.out.below HBW.out (Nat.le_refl _)) (HU1.out.below HBW.out (Nat.le_refl _)) HD1.out) (Rtl.mk2 (HT1.out.below HBW.out (Nat.le_refl _)) (HU1.out.below HBW.out (Nat.le_refl _)) HD1.out) HK1.out (by have := HK.out; omega)).mono ?_
    rintro e w2 ⟨v, rfl, hv, hb⟩
    go_wp2_with fail
    exact hK.out _ _ ⟨_, _, _, _, _, _, _, _, rfl, hid (below_next HBW.out hb), hid (fun h => rfl), hid (fun h => rfl), hid (fun h => hv), hid (fun h => h3.out h), hid (fun h => h4.out h), hid (fun h => (h5.out h).on hb), hid (fun h => ((h6.out h).on hb).free (by cases e : f 8 with | false => rfl | true => exact absurd (o8_2 e) (by rw [hf]; decide))), hid (fun h => (h7.out h).on hb), fun h => o8_6 h, fun _ => rfl, fun h => o9_7 h, fun h => o9_5 h, fun h => hne h⟩
  case s3 =>
    rintro f a1 w1 ⟨u11, u12, u23, u24, u25, u26, u27, u28, rfl, HBW, h0, h1, h2, h3, h4, h5, h6, h7, o8_6, o8_2, o9_7, o9_5, hne⟩ hf hd K hK
    simp only [List.setIfInBounds_toArray, List.set_cons_zero, List.set_cons_succ] at hK ⊢
    replace hK := hid hK
    obtain ⟨c1, c2, c3, c4⟩ := (X2.out.below HBW.out X2.out.lt).cells
    go_simp
    exact hK.out _ _ ⟨_, _, _, _, _, _, _, _, rfl, HBW, hid (fun h => h0.out h), hid (fun h => h1.out h), hid (fun h => h2.out h), hid (fun h => rfl), hid (fun h => h4.out h), hid (fun h => h5.out h), hid (fun h => h6.out h), hid (fun h => h7.out h), fun h => o8_6 h, fun h => o8_2 h, fun h => o9_7 h, fun h => o9_5 h, fun h => hne h⟩
  case s4 =>
    rintro f a1 w1 ⟨u11, u12, u23, u24, u25, u26, u27, u28, rfl, HBW, h0, h1, h2, h3, h4, h5, h6, h7, o8_6, o8_2, o9_7, o9_5, hne⟩ hf hd K hK
    simp only [List.setIfInBounds_toArray, List.set_cons_zero, List.set_cons_succ] at hK ⊢
    replace hK := hid hK
    obtain ⟨c1, c2, c3, c4⟩ := (X3.out.below HBW.out X3.out.lt).cells
    go_simp
    exact hK.out _ _ ⟨_, _, _, _, _, _, _, _, rfl, HBW, hid (fun h => h0.out h), hid (fun h => h1.out h), hid (fun h => h2.out h), hid (fun h => h3.out h), hid (fun h => rfl), hid (fun h => h5.out h), hid (fun h => h6.out h), hid (fun h => h7.out h), fun h => o8_6 h, fun h => o8_2 h, fun h => o9_7 h, fun h => o9_5 h, fun h => hne h⟩
  case s5 =>
    rintro f a1 w1 ⟨u11, u12, u23, u24, u25, u26, u27, u28, rfl, HBW, h0, h1, h2, h3, h4, h5, h6, h7, o8_6, o8_2, o9_7, o9_5, hne⟩ hf hd K hK
    simp only [List.setIfInBounds_toArray, List.set_cons_zero, List.set_cons_succ] at hK ⊢
    replace hK := hid hK
    simp [Region.binds] at hd
    obtain rfl := h3.out hd.1
    obtain rfl := h4.out hd.2.1
    go_simp
    refine (addq_rtl (Rtl.mk2 (HT2.out.below HBW.out (Nat.le_refl _)) (HU2.out.below HBW.out (Nat.le_refl _)) HD2.out) (Rtl.mk2 (HT3.out.below HBW.out (Nat.le_refl _)) (HU3.out.below HBW.out (Nat.le_refl _)) HD3.out) HK1.out (by have := HK.out; omega)).mono ?_
    rintro e w2 ⟨v, rfl, hv, hb⟩
    go_wp2_with fail
    exact hK.out _ _ ⟨_, _, _, _, _, _, _, _, rfl, hid (below_next HBW.out hb), hid (fun h => h0.out h), hid (fun h => h1.out h), hid (fun h => (h2.out h).on hb), hid (fun h => rfl), hid (fun h => rfl), hid (fun h => hv), hid (fun h => (h6.out h).on hb), hid (fun h => ((h7.out h).on hb).free (by cases e : f 9 with | false => rfl | true => exact absurd (o9_5 e) (by rw [hf]; decide))), fun h => o8_6 h, fun h => o8_2 h, fun h => o9_7 h, fun _ => rfl, fun h => hne h⟩
  case s6 =>
    rintro f a1 w1 ⟨u11, u12, u23, u24, u25, u26, u27, u28, rfl, HBW, h0, h1, h2, h3, h4, h5, h6, h7, o8_6, o8_2, o9_7, o9_5, hne⟩ hf hd K hK
    simp only [List.setIfInBounds_toArray, List.set_cons_zero, List.set_cons_succ] at hK ⊢
    replace hK := hid hK
    go_simp
    exact hK.out _ _ ⟨_, _, _, _, _, _, _, _, rfl, hid (below_next HBW.out ((Below.refl _ _).alloc (Nat.le_refl _) _)), hid (fun h => h0.out h), hid (fun h => h1.out h), hid (fun h => (h2.out h).on ((Below.refl _ _).alloc (Nat.le_refl _) _)), hid (fun h => h3.out h), hid (fun h => h4.out h), hid (fun h => (h5.out h).on ((Below.refl _ _).alloc (Nat.le_refl _) _)), hid (fun h => ⟨w1.heap.size, rfl, HBW.out.size, fun _ => Nbx.new w1 false false _ _, fun e => absurd (o8_6 e) (by rw [hf]; decide)⟩), hid (fun h => (h7.out h).on ((Below.refl _ _).alloc (Nat.le_refl _) _)), fun _ => rfl, fun h => o8_2 h, fun h => o9_7 h, fun h => o9_5 h, fun _ a e => by obtain ⟨g, e2, hlt⟩ := (h7.out a).lt; rw [e2] at e; cases e; exact absurd hlt (Nat.lt_irrefl _)⟩
  case s7 =>
    rintro f a1 w1 ⟨u11, u12, u23, u24, u25, u26, u27, u28, rfl, HBW, h0, h1, h2, h3, h4, h5, h6, h7, o8_6, o8_2, o9_7, o9_5, hne⟩ hf hd K hK
    simp only [List.setIfInBounds_toArray, List.set_cons_zero, List.set_cons_succ] at hK ⊢
    replace hK := hid hK
    go_simp
    exact hK.out _ _ ⟨_, _, _, _, _, _, _, _, rfl, hid (below_next HBW.out ((Below.refl _ _).alloc (Nat.le_refl _) _)), hid (fun h => h0.out h), hid (fun h => h1.out h), hid (fun h => (h2.out h).on ((Below.refl _ _).alloc (Nat.le_refl _) _)), hid (fun h => h3.out h), hid (fun h => h4.out h), hid (fun h => (h5.out h).on ((Below.refl _ _).alloc (Nat.le_refl _) _)), hid (fun h => (h6.out h).on ((Below.refl _ _).alloc (Nat.le_refl _) _)), hid (fun h => ⟨w1.heap.size, rfl, HBW.out.size, fun _ => Nbx.new w1 false false _ _, fun e => absurd (o9_7 e) (by rw [hf]; decide)⟩), fun h => o8_6 h, fun h => o8_2 h, fun _ => rfl, fun h => o9_5 h, fun a _ e => by obtain ⟨g, e2, hlt⟩ := (h6.out a).lt; rw [e2] at e; cases e; exact absurd hlt (Nat.lt_irrefl _)⟩
  case s8 =>
    rintro f a1 w1 ⟨u11, u12, u23, u24, u25, u26, u27, u28, rfl, HBW, h0, h1, h2, h3, h4, h5, h6, h7, o8_6, o8_2, o9_7, o9_5, hne⟩ hf hd K hK
    simp only [List.setIfInBounds_toArray, List.set_cons_zero, List.set_cons_succ] at hK ⊢
    replace hK := hid hK
    simp [Region.binds] at hd
    have ga : f 6 = true := by simp only [hd]
    have gv : f 2 = true := by simp only [hd]
    have gb : f 7 = true := by simp only [hd]
    have hne := hne (by simp only [hd]) (by simp only [hd])
    obtain ⟨g, rfl, hg, hn, _⟩ := h6.out ga
    replace hn := hn hf
    have hv9 := h2.out gv
    obtain ⟨s9a, p9a, n9a, c9a, s9b, p9b, n9b, c9b, rfl⟩ := hv9.opened
    obtain ⟨t1, d9, t2, hd9⟩ := hv9.two
    obtain ⟨⟨c1, c2⟩, ⟨c3, c4⟩, ⟨c5, c6⟩, c7, c8⟩ := hn.stores
    obtain ⟨n1, n2, n3⟩ := hn.last HBW.out hg s9a s9b p9a p9b n9a n9b c9a c9b
    have HN := hid (And.intro n1 n2)
    have HV := hid (fun v z k h => @n3 v z k h)
    have HO := hid ((h7.out gb).set (Ne.symm hne) (.bool s9a) (.slice p9a n9a c9a) (.bool s9b) (.slice p9b n9b c9b))
    clear n1 n2 n3
    go_simp
    exact hK.out _ _ ⟨_, _, _, _, _, _, _, _, rfl, hid HN.out.2, hid (fun h => h0.out h), hid (fun h => h1.out h), hid (fun h => (h2.out h).moved HV.out), hid (fun h => h3.out h), hid (fun h => h4.out h), hid (fun h => (h5.out h).moved HV.out), hid (fun h => ⟨g, rfl, hg, fun e => by simp [more] at e, fun _ => ⟨_, _, _, _, _, _, _, _, rfl, HN.out.1⟩⟩), hid (fun h => HO.out), fun _ => ga, fun _ => gv, fun h => o9_7 h, fun h => o9_5 h, fun _ _ => hne⟩
  case s9 =>
    rintro f a1 w1 ⟨u11, u12, u23, u24, u25, u26, u27, u28, rfl, HBW, h0, h1, h2, h3, h4, h5, h6, h7, o8_6, o8_2, o9_7, o9_5, hne⟩ hf hd K hK
    simp only [List.setIfInBounds_toArray, List.set_cons_zero, List.set_cons_succ] at hK ⊢
    replace hK := hid hK
    simp [Region.binds] at hd
    have ga : f 7 = true := by simp only [hd]
    have gv : f 5 = true := by simp only [hd]
    have gb : f 6 = true := by simp only [hd]
    have hne := hne (by simp only [hd]) (by simp only [hd])
    obtain ⟨g, rfl, hg, hn, _⟩ := h7.out ga
    replace hn := hn hf
    have hv9 := h5.out gv
    obtain ⟨s9a, p9a, n9a, c9a, s9b, p9b, n9b, c9b, rfl⟩ := hv9.opened
    obtain ⟨t1, d9, t2, hd9⟩ := hv9.two
    obtain ⟨⟨c1, c2⟩, ⟨c3, c4⟩, ⟨c5, c6⟩, c7, c8⟩ := hn.stores
    obtain ⟨n1, n2, n3⟩ := hn.last HBW.out hg s9a s9b p9a p9b n9a n9b c9a c9b
    have HN := hid (And.intro n1 n2)
    have HV := hid (fun v z k h => @n3 v z k h)
    have HO := hid ((h6.out gb).set hne (.bool s9a) (.slice p9a n9a c9a) (.bool s9b) (.slice p9b n9b c9b))
    clear n1 n2 n3
    go_simp
    exact hK.out _ _ ⟨_, _, _, _, _, _, _, _, rfl, hid HN.out.2, hid (fun h => h0.out h), hid (fun h => h1.out h), hid (fun h => (h2.out h).moved HV.out), hid (fun h => h3.out h), hid (fun h => h4.out h), hid (fun h => (h5.out h).moved HV.out), hid (fun h => HO.out), hid (fun h => ⟨g, rfl, hg, fun e => by simp [more] at e, fun _ => ⟨_, _, _, _, _, _, _, _, rfl, HN.out.1⟩⟩), fun h => o8_6 h, fun h => o8_2 h, fun _ => ga, fun _ => gv, fun _ _ => hne⟩
  case hend =>
    rintro f a1 w1 ⟨u11, u12, u23, u24, u25, u26, u27, u28, rfl, HBW, h0, h1, h2, h3, h4, h5, h6, h7, _, _, _, _, hne⟩ hall
    simp only [List.setIfInBounds_toArray, List.set_cons_zero, List.set_cons_succ]
    have hne := hne (hall 6 (by decide)) (hall 7 (by decide))
    have hv8 := h2.out (hall 2 (by decide))
    have hv9 := h5.out (hall 5 (by decide))
    obtain ⟨g8, rfl, hg8, _, hn8⟩ := h6.out (hall 6 (by decide))
    obtain ⟨g9, rfl, hg9, _, hn9⟩ := h7.out (hall 7 (by decide))
    obtain ⟨s8a, p8a, n8a, c8a, s8b, p8b, n8b, c8b, rfl, hm8⟩ := hn8 (hall 8 (by decide))
    obtain ⟨s9a, p9a, n9a, c9a, s9b, p9b, n9b, c9b, rfl, hm9⟩ := hn9 (hall 9 (by decide))
    have XT := hid hm8
    have XS := hid hm9
    have HV8 := hid hv8
    have HV9 := hid hv9
    replace XR := nx XR HBW.out
    replace X2 := nx X2 HBW.out
    replace X3 := nx X3 HBW.out
    replace XB := bx XB HBW.out
    replace XD := bx XD HBW.out
    replace HT2 := wl HT2 HBW.out
    replace HU2 := wl HU2 HBW.out
    replace HT3 := wl HT3 HBW.out
    replace HU3 := wl HU3 HBW.out
    replace HB := wl HB HBW.out
    replace HD := wl HD HBW.out
    replace B := bb B HBW.out
    have LT := hid hg8
    have LS := hid hg9
    have LR := hid (show w.heap.size + 1 + 1 + 1 < W46.heap.size from LQ.out)
    clear h0 h1 h2 h3 h4 h5 h6 h7 hall hg8 hg9 hm8 hm9 hn8 hn9 hv8 hv9 HBW hne
    obtain ⟨cc901a, cc901b, cc901c, cc901d⟩ := XT.out.cells
    obtain ⟨cc902a, cc902b, cc902c, cc902d⟩ := XS.out.cells
    obtain ⟨cc903a, cc903b, cc903c, cc903d⟩ := XR.out.cells
    obtain ⟨cc904a, cc904b, cc904c, cc904d⟩ := X2.out.cells
    obtain ⟨cc905a, cc905b, cc905c, cc905d⟩ := X3.out.cells
    obtain ⟨cc906a, cc906b⟩ := XB.out.both
    obtain ⟨cc907a, cc907b⟩ := XD.out.both
    go_wp2_with fail
    have HS := lessq_rtl HV8.out HV9.out (by omega) (by have := HK.out; omega)
    by_cases hA : x + x < l + r
    · rw [decide_eq_true hA] at HS
      replace HS := hid HS
      refine (HS.out).mono ?_
      rintro e w911 ⟨rfl, hb⟩
      replace XR := nx XR hb
      replace X2 := nx X2 hb
      replace X3 := nx X3 hb
      replace HT2 := wl HT2 hb
      replace HU2 := wl HU2 hb
      replace HT3 := wl HT3 hb
      replace HU3 := wl HU3 hb
      replace B := bb B hb
      clear hb 
      clear HS
      clear cc901a cc901b cc901c cc901d cc902a cc902b cc902c cc902d cc903a cc903b cc903c cc903d cc904a cc904b cc904c cc904d cc905a cc905b cc905c cc905d cc906a cc906b cc907a cc907b
      obtain ⟨cc921a, cc921b, cc921c, cc921d⟩ := XR.out.cells
      obtain ⟨cc922a, cc922b, cc922c, cc922d⟩ := X2.out.cells
      obtain ⟨cc923a, cc923b, cc923c, cc923d⟩ := X3.out.cells
      obtain ⟨⟨cc924a, cc924b⟩, ⟨cc924c, cc924d⟩, ⟨cc924e, cc924f⟩, cc924g, cc924h⟩ := XR.out.stores
      obtain ⟨r925a, r925b, r925c⟩ := XR.out.last B.out (by have := LR.out; have := LT.out; have := LS.out; omega) s2a s2b p2a p2b n2a n2b c2a c2b
      replace X2 := hid ((((X2.out.other (g2 := w.heap.size + 1 + 1 + 1) (by have := LR.out; have := LT.out; have := LS.out; omega) 0 (.bool s2a)).other (g2 := w.heap.size + 1 + 1 + 1) (by have := LR.out; have := LT.out; have := LS.out; omega) 1 (.slice p2a n2a c2a)).other (g2 := w.heap.size + 1 + 1 + 1) (by have := LR.out; have := LT.out; have := LS.out; omega) 2 (.bool s2b)).other (g2 := w.heap.size + 1 + 1 + 1) (by have := LR.out; have := LT.out; have := LS.out; omega) 3 (.slice p2b n2b c2b))
      replace X3 := hid ((((X3.out.other (g2 := w.heap.size + 1 + 1 + 1) (by have := LR.out; have := LT.out; have := LS.out; omega) 0 (.bool s2a)).other (g2 := w.heap.size + 1 + 1 + 1) (by have := LR.out; have := LT.out; have := LS.out; omega) 1 (.slice p2a n2a c2a)).other (g2 := w.heap.size + 1 + 1 + 1) (by have := LR.out; have := LT.out; have := LS.out; omega) 2 (.bool s2b)).other (g2 := w.heap.size + 1 + 1 + 1) (by have := LR.out; have := LT.out; have := LS.out; omega) 3 (.slice p2b n2b c2b))
      replace HT2 := hid (r925c HT2.out)
      replace HU2 := hid (r925c HU2.out)
      replace HT3 := hid (r925c HT3.out)
      replace HU3 := hid (r925c HU3.out)
      replace XR := hid r925a
      replace B := hid r925b
      clear r925a r925b r925c
      go_wp2_with fail
      refine bodyPost_ret (res_num rfl rfl XR.out) rfl ?_
      rw [nrq, if_pos hA]
      exact ⟨_, rfl, Rtl.mk2 HT2.out HU2.out HD2.out, B.out⟩
    · rw [decide_eq_false hA] at HS
      replace HS := hid HS
      refine (HS.out).mono ?_
      rintro e w931 ⟨rfl, hb⟩
      replace HV8 := hid (HV8.out.on hb)
      replace HV9 := hid (HV9.out.on hb)
      replace XT := nx XT hb
      replace XS := nx XS hb
      replace XR := nx XR hb
      replace X2 := nx X2 hb
      replace X3 := nx X3 hb
      replace XB := bx XB hb
      replace XD := bx XD hb
      replace HT2 := wl HT2 hb
      replace HU2 := wl HU2 hb
      replace HT3 := wl HT3 hb
      replace HU3 := wl HU3 hb
      replace HB := wl HB hb
      replace HD := wl HD hb
      replace B := bb B hb
      clear hb 
      clear HS
      clear cc901a cc901b cc901c cc901d cc902a cc902b cc902c cc902d cc903a cc903b cc903c cc903d cc904a cc904b cc904c cc904d cc905a cc905b cc905c cc905d cc906a cc906b cc907a cc907b
      obtain ⟨cc932a, cc932b, cc932c, cc932d⟩ := XT.out.cells
      obtain ⟨cc933a, cc933b, cc933c, cc933d⟩ := XS.out.cells
      obtain ⟨cc934a, cc934b, cc934c, cc934d⟩ := XR.out.cells
      obtain ⟨cc935a, cc935b, cc935c, cc935d⟩ := X2.out.cells
      obtain ⟨cc936a, cc936b, cc936c, cc936d⟩ := X3.out.cells
      obtain ⟨cc937a, cc937b⟩ := XB.out.both
      obtain ⟨cc938a, cc938b⟩ := XD.out.both
      go_wp2_with fail
      have HS := lessq_rtl HV9.out HV8.out (by omega) (by have := HK.out; omega)
      by_cases hB : l + r < x + x
      · rw [decide_eq_true hB] at HS
        replace HS := hid HS
        refine (HS.out).mono ?_
        rintro e w941 ⟨rfl, hb⟩
        replace XR := nx XR hb
        replace X2 := nx X2 hb
        replace X3 := nx X3 hb
        replace HT2 := wl HT2 hb
        replace HU2 := wl HU2 hb
        replace HT3 := wl HT3 hb
        replace HU3 := wl HU3 hb
        replace B := bb B hb
        clear hb 
        clear HS
        clear cc932a cc932b cc932c cc932d cc933a cc933b cc933c cc933d cc934a cc934b cc934c cc934d cc935a cc935b cc935c cc935d cc936a cc936b cc936c cc936d cc937a cc937b cc938a cc938b
        obtain ⟨cc951a, cc951b, cc951c, cc951d⟩ := XR.out.cells
        obtain ⟨cc952a, cc952b, cc952c, cc952d⟩ := X2.out.cells
        obtain ⟨cc953a, cc953b, cc953c, cc953d⟩ := X3.out.cells
        obtain ⟨⟨cc954a, cc954b⟩, ⟨cc954c, cc954d⟩, ⟨cc954e, cc954f⟩, cc954g, cc954h⟩ := XR.out.stores
        obtain ⟨r955a, r955b, r955c⟩ := XR.out.last B.out (by have := LR.out; have := LT.out; have := LS.out; omega) s3a s3b p3a p3b n3a n3b c3a c3b
        replace X2 := hid ((((X2.out.other (g2 := w.heap.size + 1 + 1 + 1) (by have := LR.out; have := LT.out; have := LS.out; omega) 0 (.bool s3a)).other (g2 := w.heap.size + 1 + 1 + 1) (by have := LR.out; have := LT.out; have := LS.out; omega) 1 (.slice p3a n3a c3a)).other (g2 := w.heap.size + 1 + 1 + 1) (by have := LR.out; have := LT.out; have := LS.out; omega) 2 (.bool s3b)).other (g2 := w.heap.size + 1 + 1 + 1) (by have := LR.out; have := LT.out; have := LS.out; omega) 3 (.slice p3b n3b c3b))
        replace X3 := hid ((((X3.out.other (g2 := w.heap.size + 1 + 1 + 1) (by have := LR.out; have := LT.out; have := LS.out; omega) 0 (.bool s3a)).other (g2 := w.heap.size + 1 + 1 + 1) (by have := LR.out; have := LT.out; have := LS.out; omega) 1 (.slice p3a n3a c3a)).other (g2 := w.heap.size + 1 + 1 + 1) (by have := LR.out; have := LT.out; have := LS.out; omega) 2 (.bool s3b)).other (g2 := w.heap.size + 1 + 1 + 1) (by have := LR.out; have := LT.out; have := LS.out; omega) 3 (.slice p3b n3b c3b))
        replace HT2 := hid (r955c HT2.out)
        replace HU2 := hid (r955c HU2.out)
        replace HT3 := hid (r955c HT3.out)
        replace HU3 := hid (r955c HU3.out)
        replace XR := hid r955a
        replace B := hid r955b
        clear r955a r955b r955c
        go_wp2_with fail
        refine bodyPost_ret (res_num rfl rfl XR.out) rfl ?_
        rw [nrq, if_neg hA, if_pos hB]
        exact ⟨_, rfl, Rtl.mk2 HT3.out HU3.out HD3.out, B.out⟩
      · rw [decide_eq_false hB] at HS
        replace HS := hid HS
        refine (HS.out).mono ?_
        rintro e w961 ⟨rfl, hb⟩
        replace XT := nx XT hb
        replace XS := nx XS hb
        replace XR := nx XR hb
        replace X2 := nx X2 hb
        replace X3 := nx X3 hb
        replace XB := bx XB hb
        replace XD := bx XD hb
        replace HT2 := wl HT2 hb
        replace HU2 := wl HU2 hb
        replace HT3 := wl HT3 hb
        replace HU3 := wl HU3 hb
        replace HB := wl HB hb
        replace HD := wl HD hb
        replace B := bb B hb
        clear hb 
        clear HS
        clear cc932a cc932b cc932c cc932d cc933a cc933b cc933c cc933d cc934a cc934b cc934c cc934d cc935a cc935b cc935c cc935d cc936a cc936b cc936c cc936d cc937a cc937b cc938a cc938b
        obtain ⟨cc962a, cc962b, cc962c, cc962d⟩ := XT.out.cells
        obtain ⟨cc963a, cc963b, cc963c, cc963d⟩ := XS.out.cells
        obtain ⟨cc964a, cc964b, cc964c, cc964d⟩ := XR.out.cells
        obtain ⟨cc965a, cc965b, cc965c, cc965d⟩ := X2.out.cells
        obtain ⟨cc966a, cc966b, cc966c, cc966d⟩ := X3.out.cells
        obtain ⟨cc967a, cc967b⟩ := XB.out.both
        obtain ⟨cc968a, cc968b⟩ := XD.out.both
        go_wp2_with fail
        have HS := zless_whl HD.out HB.out (by have := HK.out; omega) (by have := HK.out; omega)
        by_cases hC : r.den < l.den
        · rw [decide_eq_true (by omega)] at HS
          replace HS := hid HS
          refine (HS.out).mono ?_
          rintro e w971 ⟨rfl, hb⟩
          replace XR := nx XR hb
          replace X2 := nx X2 hb
          replace X3 := nx X3 hb
          replace HT2 := wl HT2 hb
          replace HU2 := wl HU2 hb
          replace HT3 := wl HT3 hb
          replace HU3 := wl HU3 hb
          replace B := bb B hb
          clear hb 
          clear HS
          clear cc962a cc962b cc962c cc962d cc963a cc963b cc963c cc963d cc964a cc964b cc964c cc964d cc965a cc965b cc965c cc965d cc966a cc966b cc966c cc966d cc967a cc967b cc968a cc968b
          obtain ⟨cc991a, cc991b, cc991c, cc991d⟩ := XR.out.cells
          obtain ⟨cc992a, cc992b, cc992c, cc992d⟩ := X2.out.cells
          obtain ⟨cc993a, cc993b, cc993c, cc993d⟩ := X3.out.cells
          obtain ⟨⟨cc994a, cc994b⟩, ⟨cc994c, cc994d⟩, ⟨cc994e, cc994f⟩, cc994g, cc994h⟩ := XR.out.stores
          obtain ⟨r995a, r995b, r995c⟩ := XR.out.last B.out (by have := LR.out; have := LT.out; have := LS.out; omega) s3a s3b p3a p3b n3a n3b c3a c3b
          replace X2 := hid ((((X2.out.other (g2 := w.heap.size + 1 + 1 + 1) (by have := LR.out; have := LT.out; have := LS.out; omega) 0 (.bool s3a)).other (g2 := w.heap.size + 1 + 1 + 1) (by have := LR.out; have := LT.out; have := LS.out; omega) 1 (.slice p3a n3a c3a)).other (g2 := w.heap.size + 1 + 1 + 1) (by have := LR.out; have := LT.out; have := LS.out; omega) 2 (.bool s3b)).other (g2 := w.heap.size + 1 + 1 + 1) (by have := LR.out; have := LT.out; have := LS.out; omega) 3 (.slice p3b n3b c3b))
          replace X3 := hid ((((X3.out.other (g2 := w.heap.size + 1 + 1 + 1) (by have := LR.out; have := LT.out; have := LS.out; omega) 0 (.bool s3a)).other (g2 := w.heap.size + 1 + 1 + 1) (by have := LR.out; have := LT.out; have := LS.out; omega) 1 (.slice p3a n3a c3a)).other (g2 := w.heap.size + 1 + 1 + 1) (by have := LR.out; have := LT.out; have := LS.out; omega) 2 (.bool s3b)).other (g2 := w.heap.size + 1 + 1 + 1) (by have := LR.out; have := LT.out; have := LS.out; omega) 3 (.slice p3b n3b c3b))
          replace HT2 := hid (r995c HT2.out)
          replace HU2 := hid (r995c HU2.out)
          replace HT3 := hid (r995c HT3.out)
          replace HU3 := hid (r995c HU3.out)
          replace XR := hid r995a
          replace B := hid r995b
          clear r995a r995b r995c
          go_wp2_with fail
          refine bodyPost_ret (res_num rfl rfl XR.out) rfl ?_
          rw [nrq, if_neg hA, if_neg hB, if_pos hC]
          exact ⟨_, rfl, Rtl.mk2 HT3.out HU3.out HD3.out, B.out⟩
        · rw [decide_eq_false (by omega)] at HS
          replace HS := hid HS
          refine (HS.out).mono ?_
          rintro e w981 ⟨rfl, hb⟩
          replace XR := nx XR hb
          replace X2 := nx X2 hb
          replace X3 := nx X3 hb
          replace HT2 := wl HT2 hb
          replace HU2 := wl HU2 hb
          replace HT3 := wl HT3 hb
          replace HU3 := wl HU3 hb
          replace B := bb B hb
          clear hb 
          clear HS
          clear cc962a cc962b cc962c cc962d cc963a cc963b cc963c cc963d cc964a cc964b cc964c cc964d cc965a cc965b cc965c cc965d cc966a cc966b cc966c cc966d cc967a cc967b cc968a cc968b
          obtain ⟨cc1001a, cc1001b, cc1001c, cc1001d⟩ := XR.out.cells
          obtain ⟨cc1002a, cc1002b, cc1002c, cc1002d⟩ := X2.out.cells
          obtain ⟨cc1003a, cc1003b, cc1003c, cc1003d⟩ := X3.out.cells
          obtain ⟨⟨cc1004a, cc1004b⟩, ⟨cc1004c, cc1004d⟩, ⟨cc1004e, cc1004f⟩, cc1004g, cc1004h⟩ := XR.out.stores
          obtain ⟨r1005a, r1005b, r1005c⟩ := XR.out.last B.out (by have := LR.out; have := LT.out; have := LS.out; omega) s2a s2b p2a p2b n2a n2b c2a c2b
          replace X2 := hid ((((X2.out.other (g2 := w.heap.size + 1 + 1 + 1) (by have := LR.out; have := LT.out; have := LS.out; omega) 0 (.bool s2a)).other (g2 := w.heap.size + 1 + 1 + 1) (by have := LR.out; have := LT.out; have := LS.out; omega) 1 (.slice p2a n2a c2a)).other (g2 := w.heap.size + 1 + 1 + 1) (by have := LR.out; have := LT.out; have := LS.out; omega) 2 (.bool s2b)).other (g2 := w.heap.size + 1 + 1 + 1) (by have := LR.out; have := LT.out; have := LS.out; omega) 3 (.slice p2b n2b c2b))
          replace X3 := hid ((((X3.out.other (g2 := w.heap.size + 1 + 1 + 1) (by have := LR.out; have := LT.out; have := LS.out; omega) 0 (.bool s2a)).other (g2 := w.heap.size + 1 + 1 + 1) (by have := LR.out; have := LT.out; have := LS.out; omega) 1 (.slice p2a n2a c2a)).other (g2 := w.heap.size + 1 + 1 + 1) (by have := LR.out; have := LT.out; have := LS.out; omega) 2 (.bool s2b)).other (g2 := w.heap.size + 1 + 1 + 1) (by have := LR.out; have := LT.out; have := LS.out; omega) 3 (.slice p2b n2b c2b))
          replace HT2 := hid (r1005c HT2.out)
          replace HU2 := hid (r1005c HU2.out)
          replace HT3 := hid (r1005c HT3.out)
          replace HU3 := hid (r1005c HU3.out)
          replace XR := hid r1005a
          replace B := hid r1005b
          clear r1005a r1005b r1005c
          go_wp2_with fail
          refine bodyPost_ret (res_num rfl rfl XR.out) rfl ?_
          rw [nrq, if_neg hA, if_neg hB, if_neg hC]
          exact ⟨_, rfl, Rtl.mk2 HT2.out HU2.out HD2.out, B.out⟩

end Go.Proofs.YtjeeepcnaaadmaaGreatDoor

/-
  PACKAGE rat: Whole.
-/
namespace Go.Proofs.YtjeeepcnaaadmaaGreatDoor
open Go.RowKit
open Num
set_option linter.unusedVariables false
set_option maxRecDepth 100000
set_option linter.unusedSimpArgs false

set_option maxHeartbeats 400000 in
theorem wholeq {w : World} {v : Value} {z : Int} {k : Nat} (h : Whl w v z k) :
    Calls Tryz.prog 105 #[v] w fun e w' => ∃ v, e = .returned v ∧ Rtl w' v (z : Rat) k ∧ Below w.heap.size w w' := by
  obtain ⟨s1, p1, n1, c1, rfl⟩ := h.opened
  have B := hid (Below.refl w.heap.size w)
  have HZ := hid h
  have hb1 := (Below.refl _ _).alloc (Nat.le_refl w.heap.size) (.cells #[.bool s1, .slice p1 n1 c1] 81)
  have hx2 := Box.new w s1 p1 n1 c1
  replace HZ := wl HZ hb1
  replace B := bb B hb1
  have X1 := hid hx2
  have hs3 : (w.alloc (.cells #[.bool s1, .slice p1 n1 c1] 81)).heap.size = w.heap.size + 1 := by simp
  clear hb1 hx2
  have hb4 := (Below.refl _ _).alloc (Nat.le_refl (w.alloc (.cells #[.bool s1, .slice p1 n1 c1] 81)).heap.size) (.cells #[.bool s1, .slice p1 n1 c1, .bool false, .slice none 0 0] 83)
  have hx5 := Nbx.new (w.alloc (.cells #[.bool s1, .slice p1 n1 c1] 81)) s1 false (.slice p1 n1 c1) (.slice none 0 0)
  rw [hs3] at hx5
  replace X1 := bx X1 hb4
  replace HZ := wl HZ hb4
  replace B := bb B hb4
  have XQ := hid hx5
  have hs6 : ((w.alloc (.cells #[.bool s1, .slice p1 n1 c1] 81)).alloc (.cells #[.bool s1, .slice p1 n1 c1, .bool false, .slice none 0 0] 83)).heap.size = w.heap.size + 1 + 1 := by simp [hs3]
  clear hb4 hx5
  clear hs6 h
  go_enter Tryz.func105, Tryz.ntmps105
  obtain ⟨cc7a, cc7b⟩ := X1.out.both
  obtain ⟨cc8a, cc8b, cc8c, cc8d⟩ := XQ.out.cells
  go_wp2_with fail
  refine bodyPost_ret (res_num rfl rfl XQ.out) rfl ?_
  exact ⟨_, rfl, Rtl.mk2 (by rw [Rat.num_intCast]; exact HZ.out) (cells_whl_zero _ k) (.inr ⟨rfl, Rat.den_intCast z⟩), B.out⟩

end Go.Proofs.YtjeeepcnaaadmaaGreatDoor

/-
  PACKAGE cf: readLimit.
-/
namespace Go.Proofs.YtjeeepcnaaadmaaGreatDoor
open Go.RowKit
open Num
set_option linter.unusedVariables false
set_option maxRecDepth 100000
set_option linter.unusedSimpArgs false

theorem good_whole {s : ByteArray} (h : Good s) : GoodZ s ∧ znum s = (num s : Int) := by
  have h1 : txt (num s) = s := txt_num h
  have h2 : ztxt (num s : Int) = s := by rw [ztxt, if_neg (by omega)]; simpa using h1
  refine ⟨⟨h.1, by rw [← h2]; exact isWhl_ztxt _⟩, ?_⟩
  conv => lhs; rw [← h2]
  exact znum_ztxt _

set_option maxHeartbeats 2000000 in
theorem limit_bad {s : ByteArray} {k : Int} (h : Bad s k) (hs : s.size ≤ maxLen) (w : World) :
    Calls Tryz.prog 75 #[.string s] w fun e w' => e = .returned (.tuple #[.agg #[.bool false, .slice none 0 0], errno k]) ∧ Below w.heap.size w w' := by
  have hne := errv_neq
  have hkk := errv_some h.ne
  have H1 := hid h
  have B := hid (Below.refl w.heap.size w)
  have hb1 := (Below.refl _ _).alloc (Nat.le_refl w.heap.size) (.cells #[.bool false, .slice none 0 0] 81)
  have hx2 := Box.new w false none 0 0
  replace B := bb B hb1
  have XR := hid hx2
  have hs3 : (w.alloc (.cells #[.bool false, .slice none 0 0] 81)).heap.size = w.heap.size + 1 := by simp
  clear hb1 hx2
  clear hs3 h
  go_enter Tryz.func75, Tryz.ntmps75
  obtain ⟨cc4a, cc4b⟩ := XR.out.both
  go_wp2_with fail
  generalize hW : w.alloc (.cells #[.bool false, .slice none 0 0] 81) = W5 at *
  clear hW
  refine (check_bad H1.out _ hs).mono ?_
  rintro e w' ⟨rfl, rfl⟩
  obtain ⟨cc6a, cc6b, cc6c, cc6d⟩ := XR.out.stores
  obtain ⟨r7a, r7b, r7c⟩ := XR.out.last B.out (by omega) false none 0 0
  replace XR := hid r7a
  replace B := hid r7b
  clear r7a r7b r7c
  go_wp2_with fail
  refine bodyPost_ret (res_cell_tmp rfl rfl rfl XR.out) rfl ?_
  exact ⟨rfl, B.out⟩

set_option maxHeartbeats 2000000 in
theorem limit_small {s : ByteArray} (h : Good s) (hc : num s < 1) (w : World) :
    Calls Tryz.prog 75 #[.string s] w fun e w' => e = .returned (.tuple #[.agg #[.bool false, .slice none 0 0], errno 2]) ∧ Below w.heap.size w w' := by
  have HG := hid (good_whole h)
  have H1 := hid h
  have HC := hid hc
  have B := hid (Below.refl w.heap.size w)
  have hb1 := (Below.refl _ _).alloc (Nat.le_refl w.heap.size) (.cells #[.bool false, .slice none 0 0] 81)
  have hx2 := Box.new w false none 0 0
  replace B := bb B hb1
  have XR := hid hx2
  have hs3 : (w.alloc (.cells #[.bool false, .slice none 0 0] 81)).heap.size = w.heap.size + 1 := by simp
  clear hb1 hx2
  clear hs3 h hc
  go_enter Tryz.func75, Tryz.ntmps75
  obtain ⟨cc4a, cc4b⟩ := XR.out.both
  go_wp2_with fail
  generalize hW : w.alloc (.cells #[.bool false, .slice none 0 0] 81) = W5 at *
  clear hW
  refine (check_good H1.out _).mono ?_
  rintro e w6 ⟨rfl, hb⟩
  replace XR := bx XR hb
  replace B := bb B hb
  clear cc4a cc4b
  clear hb 
  obtain ⟨cc7a, cc7b⟩ := XR.out.both
  go_wp2_with fail
  refine (zread_good HG.out.1 _).mono ?_
  rintro e w8 ⟨v, rfl, hv, hb⟩
  rw [HG.out.2] at hv
  obtain ⟨s5, p5, n5, c5, rfl⟩ := hv.opened
  replace XR := bx XR hb
  replace B := bb B hb
  clear cc7a cc7b
  have HN := hid hv
  clear hb hv
  have hb9 := (Below.refl _ _).alloc (Nat.le_refl w8.heap.size) (.cells #[.bool s5, .slice p5 n5 c5] 81)
  have hx10 := Box.new w8 s5 p5 n5 c5
  have L0 := hid XR.out.lt
  replace XR := bx XR hb9
  replace HN := wl HN hb9
  replace B := bb B hb9
  have XN := hid hx10
  have hs11 : (w8.alloc (.cells #[.bool s5, .slice p5 n5 c5] 81)).heap.size = w8.heap.size + 1 := by simp
  clear hb9 hx10
  obtain ⟨cc12a, cc12b⟩ := XR.out.both
  obtain ⟨cc13a, cc13b⟩ := XN.out.both
  go_wp2_with fail
  generalize hW : w8.alloc (.cells #[.bool s5, .slice p5 n5 c5] 81) = W14 at *
  clear hW
  have d1 : decide ((num s : Int) < 1) = true := decide_eq_true (by have := HC.out; omega)
  obtain ⟨cc15a, cc15b⟩ := XN.out.both
  replace XR := hid XR.out.dr
  replace XN := hid XN.out.dr
  replace HN := hid HN.out.drew
  replace B := hid (Below.drew B.out)
  obtain ⟨cc16a, cc16b⟩ := XN.out.both
  go_region_with (first
    | (have hm := mk17_0; clear hm; go_at_call 104; refine (zless_whl HN.out HO6.out (by decide) (by decide)).mono ?_; rintro e w20 ⟨rfl, hb⟩; rw [d1]; replace XR := bx XR hb; replace XN := bx XN hb; replace HN := wl HN hb; replace HO6 := wl HO6 hb; replace B := bb B hb; clear cc19a cc19b; clear hb ; obtain ⟨cc21a, cc21b⟩ := XN.out.both; have mk17_1 := hid True.intro)
    | (go_at_call 101; refine (of_small 1 (by decide) _).mono ?_; rintro e w18 ⟨v, rfl, hv, hb⟩; obtain ⟨s6, p6, n6, c6, rfl⟩ := hv.opened; replace XR := bx XR hb; replace XN := bx XN hb; replace HN := wl HN hb; replace B := bb B hb; clear cc12a cc12b cc13a cc13b cc15a cc15b cc16a cc16b; have HO6 := hid hv; clear hb hv; obtain ⟨cc19a, cc19b⟩ := XN.out.both; have mk17_0 := hid True.intro))
  all_goals
    obtain ⟨cc22a, cc22b⟩ := XR.out.both
    obtain ⟨cc23a, cc23b⟩ := XN.out.both
    obtain ⟨cc24a, cc24b, cc24c, cc24d⟩ := XR.out.stores
    obtain ⟨r25a, r25b, r25c⟩ := XR.out.last B.out (by have := L0.out; omega) false none 0 0
    replace XN := hid ((XN.out.other (g2 := w.heap.size) (by have := L0.out; omega) 0 (.bool false)).other (g2 := w.heap.size) (by have := L0.out; omega) 1 (.slice none 0 0))
    replace HN := hid (r25c HN.out)
    replace HO6 := hid (r25c HO6.out)
    replace XR := hid r25a
    replace B := hid r25b
    clear r25a r25b r25c
    go_wp2_with fail
    refine bodyPost_ret (res_cell_tmp rfl rfl rfl XR.out) rfl ?_
    exact ⟨rfl, B.out⟩

set_option maxHeartbeats 2000000 in
theorem limit_great {s : ByteArray} (h : Good s) (hc : 1000 < num s) (w : World) :
    Calls Tryz.prog 75 #[.string s] w fun e w' => e = .returned (.tuple #[.agg #[.bool false, .slice none 0 0], errno 2]) ∧ Below w.heap.size w w' := by
  have HG := hid (good_whole h)
  have H1 := hid h
  have HC := hid hc
  have B := hid (Below.refl w.heap.size w)
  have hb1 := (Below.refl _ _).alloc (Nat.le_refl w.heap.size) (.cells #[.bool false, .slice none 0 0] 81)
  have hx2 := Box.new w false none 0 0
  replace B := bb B hb1
  have XR := hid hx2
  have hs3 : (w.alloc (.cells #[.bool false, .slice none 0 0] 81)).heap.size = w.heap.size + 1 := by simp
  clear hb1 hx2
  clear hs3 h hc
  go_enter Tryz.func75, Tryz.ntmps75
  obtain ⟨cc4a, cc4b⟩ := XR.out.both
  go_wp2_with fail
  generalize hW : w.alloc (.cells #[.bool false, .slice none 0 0] 81) = W5 at *
  clear hW
  refine (check_good H1.out _).mono ?_
  rintro e w6 ⟨rfl, hb⟩
  replace XR := bx XR hb
  replace B := bb B hb
  clear cc4a cc4b
  clear hb 
  obtain ⟨cc7a, cc7b⟩ := XR.out.both
  go_wp2_with fail
  refine (zread_good HG.out.1 _).mono ?_
  rintro e w8 ⟨v, rfl, hv, hb⟩
  rw [HG.out.2] at hv
  obtain ⟨s5, p5, n5, c5, rfl⟩ := hv.opened
  replace XR := bx XR hb
  replace B := bb B hb
  clear cc7a cc7b
  have HN := hid hv
  clear hb hv
  have hb9 := (Below.refl _ _).alloc (Nat.le_refl w8.heap.size) (.cells #[.bool s5, .slice p5 n5 c5] 81)
  have hx10 := Box.new w8 s5 p5 n5 c5
  have L0 := hid XR.out.lt
  replace XR := bx XR hb9
  replace HN := wl HN hb9
  replace B := bb B hb9
  have XN := hid hx10
  have hs11 : (w8.alloc (.cells #[.bool s5, .slice p5 n5 c5] 81)).heap.size = w8.heap.size + 1 := by simp
  clear hb9 hx10
  obtain ⟨cc12a, cc12b⟩ := XR.out.both
  obtain ⟨cc13a, cc13b⟩ := XN.out.both
  go_wp2_with fail
  generalize hW : w8.alloc (.cells #[.bool s5, .slice p5 n5 c5] 81) = W14 at *
  clear hW
  have d1 : decide ((num s : Int) < 1) = false := decide_eq_false (by have := HC.out; omega)
  have d2 : decide ((1000 : Int) < (num s : Int)) = true := decide_eq_true (by have := HC.out; omega)
  obtain ⟨cc15a, cc15b⟩ := XN.out.both
  replace XR := hid XR.out.dr
  replace XN := hid XN.out.dr
  replace HN := hid HN.out.drew
  replace B := hid (Below.drew B.out)
  obtain ⟨cc16a, cc16b⟩ := XN.out.both
  go_region_held3 (fun w' => w'.cell? ⟨w8.heap.size, 0, none⟩ = some (.bool s5) ∧ w'.cell? ⟨w8.heap.size, 1, none⟩ = some (.slice p5 n5 c5)) (go_keep) (first
    | (have hm := mk17_2; clear hm; go_at_call 104; refine (zless_whl HO7.out HN.out (by decide) (by decide)).mono ?_; rintro e w24 ⟨rfl, hb⟩; rw [d2]; replace XR := bx XR hb; replace XN := bx XN hb; replace HN := wl HN hb; replace HO6 := wl HO6 hb; replace HO7 := wl HO7 hb; replace B := bb B hb; clear cc23a cc23b; clear hb ; obtain ⟨cc25a, cc25b⟩ := XN.out.both; have mk17_3 := hid True.intro)
    | (have hm := mk17_1; clear hm; go_at_call 101; refine (of_small 1000 (by decide) _).mono ?_; rintro e w22 ⟨v, rfl, hv, hb⟩; obtain ⟨s7, p7, n7, c7, rfl⟩ := hv.opened; replace XR := bx XR hb; replace XN := bx XN hb; replace HN := wl HN hb; replace HO6 := wl HO6 hb; replace B := bb B hb; clear cc21a cc21b; have HO7 := hid hv; clear hb hv; obtain ⟨cc23a, cc23b⟩ := XN.out.both; have mk17_2 := hid True.intro)
    | (have hm := mk17_0; clear hm; go_at_call 104; refine (zless_whl HN.out HO6.out (by decide) (by decide)).mono ?_; rintro e w20 ⟨rfl, hb⟩; rw [d1]; replace XR := bx XR hb; replace XN := bx XN hb; replace HN := wl HN hb; replace HO6 := wl HO6 hb; replace B := bb B hb; clear cc19a cc19b; clear hb ; obtain ⟨cc21a, cc21b⟩ := XN.out.both; have mk17_1 := hid True.intro)
    | (go_at_call 101; refine (of_small 1 (by decide) _).mono ?_; rintro e w18 ⟨v, rfl, hv, hb⟩; obtain ⟨s6, p6, n6, c6, rfl⟩ := hv.opened; replace XR := bx XR hb; replace XN := bx XN hb; replace HN := wl HN hb; replace B := bb B hb; clear cc12a cc12b cc13a cc13b cc15a cc15b cc16a cc16b; have HO6 := hid hv; clear hb hv; obtain ⟨cc19a, cc19b⟩ := XN.out.both; have mk17_0 := hid True.intro))
  obtain ⟨cc26a, cc26b⟩ := XR.out.both
  obtain ⟨cc27a, cc27b⟩ := XN.out.both
  obtain ⟨cc28a, cc28b, cc28c, cc28d⟩ := XR.out.stores
  obtain ⟨r29a, r29b, r29c⟩ := XR.out.last B.out (by have := L0.out; omega) false none 0 0
  replace XN := hid ((XN.out.other (g2 := w.heap.size) (by have := L0.out; omega) 0 (.bool false)).other (g2 := w.heap.size) (by have := L0.out; omega) 1 (.slice none 0 0))
  replace HN := hid (r29c HN.out)
  replace HO6 := hid (r29c HO6.out)
  replace HO7 := hid (r29c HO7.out)
  replace XR := hid r29a
  replace B := hid r29b
  clear r29a r29b r29c
  go_wp2_with fail
  refine bodyPost_ret (res_cell_tmp rfl rfl rfl XR.out) rfl ?_
  exact ⟨rfl, B.out⟩

set_option maxHeartbeats 2000000 in
theorem limit_ok {s : ByteArray} (h : Good s) (hc : 1 ≤ num s ∧ num s ≤ 1000) (w : World) :
    Calls Tryz.prog 75 #[.string s] w fun e w' => ∃ v, e = .returned (.tuple #[v, .nilIface]) ∧ Whl w' v (num s : Int) 100 ∧ Below w.heap.size w w' := by
  have HG := hid (good_whole h)
  have H1 := hid h
  have HC := hid hc
  have B := hid (Below.refl w.heap.size w)
  have hb1 := (Below.refl _ _).alloc (Nat.le_refl w.heap.size) (.cells #[.bool false, .slice none 0 0] 81)
  have hx2 := Box.new w false none 0 0
  replace B := bb B hb1
  have XR := hid hx2
  have hs3 : (w.alloc (.cells #[.bool false, .slice none 0 0] 81)).heap.size = w.heap.size + 1 := by simp
  clear hb1 hx2
  clear hs3 h hc
  go_enter Tryz.func75, Tryz.ntmps75
  obtain ⟨cc4a, cc4b⟩ := XR.out.both
  go_wp2_with fail
  generalize hW : w.alloc (.cells #[.bool false, .slice none 0 0] 81) = W5 at *
  clear hW
  refine (check_good H1.out _).mono ?_
  rintro e w6 ⟨rfl, hb⟩
  replace XR := bx XR hb
  replace B := bb B hb
  clear cc4a cc4b
  clear hb 
  obtain ⟨cc7a, cc7b⟩ := XR.out.both
  go_wp2_with fail
  refine (zread_good HG.out.1 _).mono ?_
  rintro e w8 ⟨v, rfl, hv, hb⟩
  rw [HG.out.2] at hv
  obtain ⟨s5, p5, n5, c5, rfl⟩ := hv.opened
  replace XR := bx XR hb
  replace B := bb B hb
  clear cc7a cc7b
  have HN := hid hv
  clear hb hv
  have hb9 := (Below.refl _ _).alloc (Nat.le_refl w8.heap.size) (.cells #[.bool s5, .slice p5 n5 c5] 81)
  have hx10 := Box.new w8 s5 p5 n5 c5
  have L0 := hid XR.out.lt
  replace XR := bx XR hb9
  replace HN := wl HN hb9
  replace B := bb B hb9
  have XN := hid hx10
  have hs11 : (w8.alloc (.cells #[.bool s5, .slice p5 n5 c5] 81)).heap.size = w8.heap.size + 1 := by simp
  clear hb9 hx10
  obtain ⟨cc12a, cc12b⟩ := XR.out.both
  obtain ⟨cc13a, cc13b⟩ := XN.out.both
  go_wp2_with fail
  generalize hW : w8.alloc (.cells #[.bool s5, .slice p5 n5 c5] 81) = W14 at *
  clear hW
  have d1 : decide ((num s : Int) < 1) = false := decide_eq_false (by have := HC.out; omega)
  have d2 : decide ((1000 : Int) < (num s : Int)) = false := decide_eq_false (by have := HC.out; omega)
  obtain ⟨cc15a, cc15b⟩ := XN.out.both
  replace XR := hid XR.out.dr
  replace XN := hid XN.out.dr
  replace HN := hid HN.out.drew
  replace B := hid (Below.drew B.out)
  obtain ⟨cc16a, cc16b⟩ := XN.out.both
  go_region_held3 (fun w' => w'.cell? ⟨w8.heap.size, 0, none⟩ = some (.bool s5) ∧ w'.cell? ⟨w8.heap.size, 1, none⟩ = some (.slice p5 n5 c5)) (go_keep) (first
    | (have hm := mk17_2; clear hm; go_at_call 104; refine (zless_whl HO7.out HN.out (by decide) (by decide)).mono ?_; rintro e w24 ⟨rfl, hb⟩; rw [d2]; replace XR := bx XR hb; replace XN := bx XN hb; replace HN := wl HN hb; replace HO6 := wl HO6 hb; replace HO7 := wl HO7 hb; replace B := bb B hb; clear cc23a cc23b; clear hb ; obtain ⟨cc25a, cc25b⟩ := XN.out.both; have mk17_3 := hid True.intro)
    | (have hm := mk17_1; clear hm; go_at_call 101; refine (of_small 1000 (by decide) _).mono ?_; rintro e w22 ⟨v, rfl, hv, hb⟩; obtain ⟨s7, p7, n7, c7, rfl⟩ := hv.opened; replace XR := bx XR hb; replace XN := bx XN hb; replace HN := wl HN hb; replace HO6 := wl HO6 hb; replace B := bb B hb; clear cc21a cc21b; have HO7 := hid hv; clear hb hv; obtain ⟨cc23a, cc23b⟩ := XN.out.both; have mk17_2 := hid True.intro)
    | (have hm := mk17_0; clear hm; go_at_call 104; refine (zless_whl HN.out HO6.out (by decide) (by decide)).mono ?_; rintro e w20 ⟨rfl, hb⟩; rw [d1]; replace XR := bx XR hb; replace XN := bx XN hb; replace HN := wl HN hb; replace HO6 := wl HO6 hb; replace B := bb B hb; clear cc19a cc19b; clear hb ; obtain ⟨cc21a, cc21b⟩ := XN.out.both; have mk17_1 := hid True.intro)
    | (go_at_call 101; refine (of_small 1 (by decide) _).mono ?_; rintro e w18 ⟨v, rfl, hv, hb⟩; obtain ⟨s6, p6, n6, c6, rfl⟩ := hv.opened; replace XR := bx XR hb; replace XN := bx XN hb; replace HN := wl HN hb; replace B := bb B hb; clear cc12a cc12b cc13a cc13b cc15a cc15b cc16a cc16b; have HO6 := hid hv; clear hb hv; obtain ⟨cc19a, cc19b⟩ := XN.out.both; have mk17_0 := hid True.intro))
  obtain ⟨cc26a, cc26b⟩ := XR.out.both
  obtain ⟨cc27a, cc27b⟩ := XN.out.both
  obtain ⟨cc28a, cc28b, cc28c, cc28d⟩ := XR.out.stores
  obtain ⟨r29a, r29b, r29c⟩ := XR.out.last B.out (by have := L0.out; omega) s5 p5 n5 c5
  replace XN := hid ((XN.out.other (g2 := w.heap.size) (by have := L0.out; omega) 0 (.bool s5)).other (g2 := w.heap.size) (by have := L0.out; omega) 1 (.slice p5 n5 c5))
  replace HN := hid (r29c HN.out)
  replace HO6 := hid (r29c HO6.out)
  replace HO7 := hid (r29c HO7.out)
  replace XR := hid r29a
  replace B := hid r29b
  clear r29a r29b r29c
  go_wp2_with fail
  refine bodyPost_ret (res_cell_tmp rfl rfl rfl XR.out) rfl ?_
  exact ⟨_, rfl, HN.out, B.out⟩

end Go.Proofs.YtjeeepcnaaadmaaGreatDoor

/-
  golden.
-/
namespace Go.Proofs.YtjeeepcnaaadmaaGreatDoor
open Go.RowKit
open Num
set_option linter.unusedVariables false
set_option maxRecDepth 100000
set_option linter.unusedSimpArgs false

theorem golden_list : (cfq (qnum ⟨#[56, 47, 53]⟩)).map ztxt = [⟨#[49]⟩, ⟨#[49]⟩, ⟨#[49]⟩, ⟨#[50]⟩] := by
  have e : qnum ⟨#[56, 47, 53]⟩ = 8 / 5 := by decide +kernel
  have n : ((8 : Rat) / 5).num = 8 := by decide +kernel
  have d : ((8 : Rat) / 5).den = 5 := by decide +kernel
  have l : cfq (8 / 5) = [1, 1, 1, 2] := by
    unfold cfq
    rw [n, d, cfl_pos _ (by decide), show ((8 : Int) % (5 : Nat)).toNat = 3 by decide, cfl_pos _ (by decide), show (((5 : Nat) : Int) % (3 : Nat)).toNat = 2 by decide, cfl_pos _ (by decide), show (((3 : Nat) : Int) % (2 : Nat)).toNat = 1 by decide, cfl_pos _ (by decide), show (((2 : Nat) : Int) % (1 : Nat)).toNat = 0 by decide, cfl_zero]
    decide
  rw [e, l]
  decide +kernel
set_option maxHeartbeats 1000000 in
theorem golden_true (w : World) :
    Calls Tryz.prog 29 #[] w fun e w' => e = .returned (.bool true) ∧ Below w.heap.size w w' := by
  have HP := hid (of_good (s := ⟨#[56, 47, 53]⟩) ⟨by decide, by decide +kernel⟩ w)
  rw [golden_list] at HP
  have B := hid (Below.refl w.heap.size w)
  go_enter Tryz.func29, Tryz.ntmps29
  go_wp2_with fail
  refine (HP.out).mono ?_
  rintro e w1 ⟨v, rfl, ho, hb⟩
  have HT := hid ho.txs
  replace B := bb B hb
  clear hb ho HP
  have hb2 := (Below.refl w1.heap.size w1).alloc (Nat.le_refl _) (.cells #[.string ⟨#[49]⟩, .string ⟨#[49]⟩, .string ⟨#[49]⟩, .string ⟨#[50]⟩] 9)
  have HU := hid ((OwnT.new w1 w1.heap.size (Nat.le_refl _) [⟨#[49]⟩, ⟨#[49]⟩, ⟨#[49]⟩, ⟨#[50]⟩] (by decide)).txs)
  have HS := hid (same_texts (HT.out.on hb2) HU.out)
  replace B := bb B hb2
  clear hb2 HT HU
  go_wp2_with fail
  refine (HS.out).mono ?_
  rintro e w2 ⟨rfl, hb⟩
  replace B := bb B hb
  clear hb 
  go_wp2_with fail
  go_ret
  exact ⟨rfl, B.out⟩

end Go.Proofs.YtjeeepcnaaadmaaGreatDoor
