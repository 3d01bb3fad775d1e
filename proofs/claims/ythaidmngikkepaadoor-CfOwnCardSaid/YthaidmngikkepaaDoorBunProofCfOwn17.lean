import Derived.Test.YthaidmngikkepaaDoorBunProofCfOwn16
import Derived.Test.YthaidmngikkepaaDoorBunProofCfOwn15
import Derived.Test.YthaidmngikkepaaDoorBunProofCfOwn1
import Derived.Test.YthaidmngikkepaaDoorBunProofCfOwn10
/-
  PACKAGE cf: collapse.
-/
namespace Go.Proofs.YthaidmngikkepaaDoor
open Go.RowKit Go.Shelf
open Num
set_option linter.unusedVariables false
set_option maxRecDepth 100000
set_option linter.unusedSimpArgs false
attribute [local go_sem] Oper.semAt_some

/-- A turn of what is no cells changes no number. -/
theorem Lim.turned {w w' : World} {v : Value} {xs : List Nat} {row : Option Nat} (h : Lim w v xs) (hg : w.grownBy w' row) (hr : ∀ r, row = some r → ∃ o : Obj, w.heap[r]? = some o ∧ o.isCells = false) : Lim w' v xs := by
  obtain ⟨h1, p, c, h2, h3, h4, h5⟩ := h
  refine ⟨h1, p, c, h2, h3, h4, ?_⟩
  rcases h5 with h5 | ⟨b, off, h6, h7, h8⟩
  · exact .inl h5
  · refine .inr ⟨b, off, h6, Nat.lt_of_lt_of_le h7 hg.size, fun i hi => ?_⟩
    have h9 := h8 i hi
    by_cases hb : row = some b
    · exfalso
      obtain ⟨o, ho, hc⟩ := hr b hb
      simp only [World.cell?, ho] at h9
      cases o <;> simp_all [Obj.isCells]
    · rw [← h9]
      exact World.cell?_of_block (hg.block b h7 (fun e => hb e.symm))
theorem Whl.turned {w w' : World} {v : Value} {z : Int} {k : Nat} {row : Option Nat} (h : Whl w v z k) (hg : w.grownBy w' row) (hr : ∀ r, row = some r → ∃ o : Obj, w.heap[r]? = some o ∧ o.isCells = false) : Whl w' v z k := by
  obtain ⟨s, sv, xs, h1, h2, h3⟩ := h
  exact ⟨s, sv, xs, h1, h2.turned hg hr, h3⟩
theorem Box.turned {w w' : World} {g : Nat} {s : Bool} {sv : Value} {row : Option Nat} (h : Box w g s sv) (hg : w.grownBy w' row) (hr : ∀ r, row = some r → ∃ o : Obj, w.heap[r]? = some o ∧ o.isCells = false) : Box w' g s sv := by
  refine ⟨(hg.block g h.lt (fun e => ?_)).trans h.1, h.2⟩
  obtain ⟨o, ho, hc⟩ := hr g e.symm
  rw [h.1] at ho
  cases ho
  cases hc
theorem Nbx.turned {w w' : World} {g : Nat} {s s' : Bool} {sv sv' : Value} {row : Option Nat} (h : Nbx w g s sv s' sv') (hg : w.grownBy w' row) (hr : ∀ r, row = some r → ∃ o : Obj, w.heap[r]? = some o ∧ o.isCells = false) : Nbx w' g s sv s' sv' := by
  refine (hg.block g h.lt (fun e => ?_)).trans h
  obtain ⟨o, ho, hc⟩ := hr g e.symm
  rw [show w.heap[g]? = _ from h] at ho
  cases ho
  cases hc

/-- The places that have come, folded. -/
def cac (zf : Nat → Int) (pre : List Nat) : Int × Int := pre.foldl (fun p x => (zf x * p.1 + p.2, p.1)) (1, 0)
theorem cac_snoc (zf : Nat → Int) (pre : List Nat) (x : Nat) : cac zf (pre ++ [x]) = (zf x * (cac zf pre).1 + (cac zf pre).2, (cac zf pre).1) := by simp [cac]

theorem KB.on {n₀ Bs : Nat} {W A A' : World} (h : KB n₀ Bs W A) (hb : Below A.heap.size A A') (h1 : n₀ ≤ A.heap.size) (h2 : Bs < A.heap.size) : KB n₀ Bs W A' := ⟨h.1.trans (hb.mono h1), (hb.block Bs h2).trans h.2⟩
theorem KB.set {n₀ Bs g : Nat} {W A : World} (h : KB n₀ Bs W A) (h1 : n₀ ≤ g) (h2 : Bs ≠ g) (i : Nat) (u : Value) : KB n₀ Bs W (A.setCell ⟨g, i, none⟩ u) := ⟨h.1.setCell (p := ⟨g, i, none⟩) h1 _, (Below.heap_setCell _ _ _ _ (by exact h2)).trans h.2⟩
theorem KeepsOthers.of_below {W W' : World} (h : Below W.heap.size W W') : KeepsOthers W W' := ⟨h.size, fun k o hk _ => (h.block k (Array.getElem?_eq_some_iff.1 hk).1).trans hk⟩

/-- What holds between two rounds. -/
def CI (w : World) (G : Nat) (vs : List Zr) (zf : Nat → Int) (pre : List Nat) (W : World) : Prop :=
  (∃ s1 p1 n1 c1 s2 p2 n2 c2, Box W G s1 (.slice p1 n1 c1) ∧ Box W (G + 1) s2 (.slice p2 n2 c2) ∧ Whl W (.agg #[.bool s1, .slice p1 n1 c1]) (cac zf pre).1 (101 * pre.length + 1) ∧ Whl W (.agg #[.bool s2, .slice p2 n2 c2]) (cac zf pre).2 (101 * pre.length + 1)) ∧
  (∀ i, Whl W (zag (zat vs i)) (zf i) 100) ∧ Nbx W w.heap.size false (.slice none 0 0) false (.slice none 0 0) ∧ Below w.heap.size w W ∧ G + 1 + 1 < W.heap.size
theorem CI.own {w : World} {G : Nat} {vs : List Zr} {zf : Nat → Int} {K : Nat} (hK : w.heap.size ≤ K) : OwnFrom K (CI w G vs zf) := by
  rintro s W W' row ⟨⟨s1, p1, n1, c1, s2, p2, n2, c2, h1, h2, h3, h4⟩, h5, h6, h7, h8⟩ hg hr
  have hr' := fun r e => (hr r e).2
  exact ⟨⟨s1, p1, n1, c1, s2, p2, n2, c2, h1.turned hg hr', h2.turned hg hr', h3.turned hg hr', h4.turned hg hr'⟩, fun i => (h5 i).turned hg hr', h6.turned hg hr', h7.grown hg h7.size (fun g e => Nat.le_trans hK (hr g e).1), Nat.lt_of_lt_of_le h8 hg.size⟩
theorem CI.size {w : World} {G : Nat} {vs : List Zr} {zf : Nat → Int} {pre : List Nat} {W : World} (h : CI w G vs zf pre W) : G + 1 + 1 < W.heap.size := h.2.2.2.2
theorem CI.on {w : World} {G : Nat} {vs : List Zr} {zf : Nat → Int} {pre : List Nat} {W W' : World} (h : CI w G vs zf pre W) (hb : Below W.heap.size W W') : CI w G vs zf pre W' := by
  obtain ⟨⟨s1, p1, n1, c1, s2, p2, n2, c2, h1, h2, h3, h4⟩, h5, h6, h7, h8⟩ := h
  exact ⟨⟨s1, p1, n1, c1, s2, p2, n2, c2, h1.below hb h1.lt, h2.below hb h2.lt, h3.on hb, h4.on hb⟩, fun i => (h5 i).on hb, h6.below hb h6.lt, h7.trans (hb.mono h7.size), Nat.lt_of_lt_of_le h8 hb.size⟩
theorem CI.alloc {w : World} {G : Nat} {vs : List Zr} {zf : Nat → Int} {pre : List Nat} {W : World} (h : CI w G vs zf pre W) (o : Obj) : CI w G vs zf pre (W.alloc o) := h.on ((Below.refl _ _).alloc (Nat.le_refl _) o)
theorem CI.store {w : World} {G : Nat} {vs : List Zr} {zf : Nat → Int} {pre : List Nat} {W : World} (h : CI w G vs zf pre W) {g : Nat} {s : Bool} {sv : Value} (hX : Box W g s sv) (i : Nat) (u : Value) (hg : G + 1 < g) (hw : w.heap.size < g) : CI w G vs zf pre (W.setCell ⟨g, i, none⟩ u) := by
  obtain ⟨⟨s1, p1, n1, c1, s2, p2, n2, c2, h1, h2, h3, h4⟩, h5, h6, h7, h8⟩ := h
  exact ⟨⟨s1, p1, n1, c1, s2, p2, n2, c2, h1.other (by omega) _ _, h2.other (by omega) _ _, h3.box hX _ _, h4.box hX _ _⟩, fun i => (h5 i).box hX _ _, h6.other (by omega) _ _, h7.setCell (p := ⟨g, i, none⟩) (Nat.le_of_lt hw) _, by simpa [World.setCell] using h8⟩

set_option maxHeartbeats 8000000 in
theorem collapse_rtl {w : World} {b n : Nat} {vs : List Zr} {zf : Nat → Int} (hrow : Zrow w b vs) (hvs : vs.length = n) (hw : ∀ i, Whl w (zag (zat vs i)) (zf i) 100) (hn1 : 1 ≤ n) (hn : n ≤ 30) (hb0 : (cac zf (dwn n n)).2 ≠ 0) :
    Calls Tryd.prog 13 #[.slice (some ⟨b, 0, none⟩) n n] w fun e w' => ∃ v, e = .returned v ∧ Rtl w' v (Rat.divInt (cac zf (dwn n n)).1 (cac zf (dwn n n)).2) 4000 ∧ Below w.heap.size w w' := by
  refine (callsIn_wide (n := 10)).1 ?_
  have HROW := hid hrow
  have HW := hid hw
  have B := hid (Below.refl w.heap.size w)
  have hb1 := (Below.refl _ _).alloc (Nat.le_refl w.heap.size) (.cells #[.bool false, .slice none 0 0, .bool false, .slice none 0 0] 39)
  have hx2 := Nbx.new w false false (.slice none 0 0) (.slice none 0 0)
  replace B := bb B hb1
  have XQ := hid hx2
  have hs3 : (w.alloc (.cells #[.bool false, .slice none 0 0, .bool false, .slice none 0 0] 39)).heap.size = w.heap.size + 1 := by simp
  clear hb1 hx2
  clear hrow hw
  refine callsIn_of_wp_marks Tryd.func13 rfl trivial ?_ rfl
  simp only [Tryd.ntmps13, List.size_toArray, List.length_cons, List.length_nil, Nat.reduceAdd, Nat.reduceSub, Array.replicate_succ, Array.replicate_zero, List.push_toArray, List.append_toArray, List.nil_append, List.cons_append]
  gi_wp2
  generalize hW : w.alloc (.cells #[.bool false, .slice none 0 0, .bool false, .slice none 0 0] 39) = W4 at *
  clear hW
  refine ⟨trivial, callsIn_wide.2 ((of_small 1 (by decide) _).mono ?_)⟩
  rintro e w5 ⟨v, rfl, hv, hb⟩
  obtain ⟨s1, p1, n1, c1, rfl⟩ := hv.opened
  replace XQ := nx XQ hb
  replace B := bb B hb
  have HT := hid hv
  clear hb hv
  gi_wp2
  refine ⟨trivial, callsIn_wide.2 ((of_small 0 (by decide) _).mono ?_)⟩
  rintro e w6 ⟨v, rfl, hv, hb⟩
  obtain ⟨s2, p2, n2, c2, rfl⟩ := hv.opened
  replace XQ := nx XQ hb
  replace HT := wl HT hb
  replace B := bb B hb
  have HU := hid hv
  clear hb hv
  have LQ := hid (show w.heap.size < w6.heap.size from XQ.out.lt)
  have hb7 := (Below.refl _ _).alloc (Nat.le_refl w6.heap.size) (.cells #[.bool s1, .slice p1 n1 c1] 37)
  have hx8 := Box.new w6 s1 p1 n1 c1
  have L1 := hid XQ.out.lt
  replace XQ := nx XQ hb7
  replace HT := wl HT hb7
  replace HU := wl HU hb7
  replace B := bb B hb7
  have XT := hid hx8
  have hs9 : (w6.alloc (.cells #[.bool s1, .slice p1 n1 c1] 37)).heap.size = w6.heap.size + 1 := by simp
  clear hb7 hx8
  have hb10 := (Below.refl _ _).alloc (Nat.le_refl (w6.alloc (.cells #[.bool s1, .slice p1 n1 c1] 37)).heap.size) (.cells #[.bool s2, .slice p2 n2 c2] 37)
  have hx11 := Box.new (w6.alloc (.cells #[.bool s1, .slice p1 n1 c1] 37)) s2 p2 n2 c2
  rw [hs9] at hx11
  replace XQ := nx XQ hb10
  replace XT := bx XT hb10
  replace HT := wl HT hb10
  replace HU := wl HU hb10
  replace B := bb B hb10
  have XB := hid hx11
  have hs12 : ((w6.alloc (.cells #[.bool s1, .slice p1 n1 c1] 37)).alloc (.cells #[.bool s2, .slice p2 n2 c2] 37)).heap.size = w6.heap.size + 1 + 1 := by simp [hs9]
  clear hb10 hx11
  gi_wp2
  generalize hW8 : (w6.alloc (.cells #[.bool s1, .slice p1 n1 c1] 37)).alloc (.cells #[.bool s2, .slice p2 n2 c2] 37) = W8 at *
  clear hW8
  generalize hG : w6.heap.size = G at *
  clear hG
  have hS8 : W8.heap.size = G + 1 + 1 := hs12
  refine ⟨trivial, (bkwd_in Fence.wide _ trivial rfl _ _ _ _).mono ?_⟩
  rintro e w' ⟨rfl, rfl⟩
  have hbS := (Below.refl _ _).alloc (Nat.le_refl W8.heap.size) (.cells #[.slice (some ⟨b, 0, none⟩) n n] 43)
  have cS : (W8.alloc (.cells #[.slice (some ⟨b, 0, none⟩) n n] 43)).cell? ⟨G + 1 + 1, 0, none⟩ = some (.slice (some ⟨b, 0, none⟩) n n) := by rw [← hS8]; simp
  replace XQ := nx XQ hbS
  replace XT := bx XT hbS
  replace XB := bx XB hbS
  replace HT := wl HT hbS
  replace HU := wl HU hbS
  replace B := bb B hbS
  have hS9 : (W8.alloc (.cells #[.slice (some ⟨b, 0, none⟩) n n] 43)).heap.size = G + 1 + 1 + 1 := by simp [hS8]
  rw [hS8]
  clear hbS
  generalize hW9 : W8.alloc (.cells #[.slice (some ⟨b, 0, none⟩) n n] 43) = W0 at *
  clear hW9
  gi_wp2
  have hLb : b < w.heap.size := HROW.out.lt
  have hSB := HROW.out.below B.out hLb
  have hI0 : CI w G vs zf [] W0 := ⟨⟨_, _, _, _, _, _, _, _, XT.out, XB.out, HT.out, HU.out⟩, fun i => (HW.out i).below B.out (Nat.le_refl _), XQ.out, B.out, by omega⟩
  have hsz := B.out.size
  clear HT HU XT XB XQ
  refine wpIn_rangeFunc_ownH (F := Fence.wide) rfl (by decide) (gf := 39) (lb := #[.pointer (some ⟨G + 1 + 1, 0, none⟩)]) rfl trivial (enters_of Tryd.func39 (by kernel_rfl) rfl)
    (bkwd_stops Fence.wide (10 - 1) trivial rfl (by decide) (G + 1 + 1) w.heap.size b n vs hvs (by omega) W0 hLb (by omega) hsz cS hSB) (fun h h' => h.trans h') (fun W l o o' h1 h2 h3 h4 => ⟨belowK_b hsz W l o o' h1 h2 h3 h4, World.putObj_heap_other (fun e => by omega)⟩) (Below.refl _ _) (fun _ => rfl)
    (CI w G vs zf) (fun _ _ _ => False) (CI.own (by omega)) (fun _ _ _ _ _ hs _ _ => hs) hI0
    (fun x a' W => ∃ Bx, G + 1 < Bx ∧ Box W Bx (zat vs x).1 (.slice (zat vs x).2.1 (zat vs x).2.2.1 (zat vs x).2.2.2) ∧ a' = { tmps := #[Value.slice (some ⟨b, 0, none⟩) n n, undef, Value.pointer (some ⟨w.heap.size, 0, none⟩), Value.pointer (some ⟨G, 0, none⟩), Value.pointer (some ⟨G + 1, 0, none⟩), undef, Value.pointer (some ⟨Bx, 0, none⟩), undef, undef, Value.agg #[Value.bool s1, Value.slice p1 n1 c1], Value.agg #[Value.bool s2, Value.slice p2 n2 c2], Value.slice (some ⟨b, 0, none⟩) n n, Value.func (Fn.func 39) #[] #[Value.pointer (some ⟨G + 1 + 1, 0, none⟩)], Value.int IntKind.i64 (x : Int), (.agg #[.bool (zat vs x).1, .slice (zat vs x).2.1 (zat vs x).2.2.1 (zat vs x).2.2.2]), undef, undef, undef, undef, undef, undef, undef, undef, undef, undef, undef, undef, undef], defers := [] })
    (fun x a' _ X Y row hs hg hr => by obtain ⟨Bx, h1, h2, h3⟩ := hs; exact ⟨Bx, h1, h2.turned hg (fun r e => (hr r e).2), h3⟩)
    ?assign ?body ?done ?stop
  case assign =>
    intro l pre x W K hi hK
    have hs1 := hi.size
    have hLQ := LQ.out
    have hX := Box.new W (zat vs x).1 (zat vs x).2.1 (zat vs x).2.2.1 (zat vs x).2.2.2
    simp only [zag] at hK ⊢
    gi_wp2
    exact hK _ _ ((KeepsOthers.alloc _ _).from _) ⟨(Below.refl _ W).alloc (by omega) _, Below.heap_alloc _ _ _ (by omega)⟩ (hi.alloc _) ⟨W.heap.size, by omega, hX, rfl⟩
  case body =>
    rintro l pre x a' W hl _ hi ⟨Bx, hBx, hX, rfl⟩ hlt
    have hs1 := hi.size
    obtain ⟨⟨s5, p5, n5, c5, s6, p6, n6, c6, hT, hU, hA, hB⟩, hZ, hQ, hBw, _⟩ := hi
    have hV := hZ x
    have hXlt := hX.lt
    have hne : ∃ s7 p7 n7 c7, zat vs x = (s7, p7, n7, c7) := ⟨_, _, _, _, rfl⟩
    obtain ⟨s7, p7, n7, c7, hz⟩ := hne
    rw [hz] at hX hV ⊢
    simp only [zag] at hX hV
    simp only [] at hX ⊢
    have XT := hid hT
    have XU := hid hU
    have XX := hid hX
    have XQ := hid hQ
    have HA := hid hA
    have HB := hid hB
    have HV := hid hV
    have HZ := hid hZ
    have B := hid hBw
    have LX := hid hBx
    have HS1 := hid hs1
    have HKB := hid (show KB w.heap.size (G + 1 + 1) W W.drew from ⟨Below.drew (Below.refl _ _), rfl⟩)
    have HKO := hid (KeepsOthers.drew W)
    have HL := hid (show pre.length < 30 by omega)
    have HC := hid (cac_snoc zf pre x)
    have hmx : Tryd.prog.follows .mixedOrders = true := by kernel_rfl
    clear hT hU hX hQ hA hB hV hZ hBw hBx hs1 hXlt hz hl hI0 hSB cS
    replace XT := hid XT.out.dr
    replace XU := hid XU.out.dr
    replace XX := hid XX.out.dr
    replace XQ := hid XQ.out.dr
    replace HA := hid HA.out.drew
    replace HB := hid HB.out.drew
    replace HV := hid HV.out.drew
    replace B := hid (Below.drew B.out)
    replace HZ := hid (fun i => (HZ.out i).drew)
    replace HS1 := hid (show G + 1 + 1 < W.drew.heap.size from HS1.out)
    obtain ⟨cc501a, cc501b⟩ := XT.out.both
    obtain ⟨cc502a, cc502b⟩ := XU.out.both
    obtain ⟨cc503a, cc503b⟩ := XX.out.both
    gi_wp2
    gi_region_with_o (first
      | (have hm := mk_0; clear hm; refine ⟨trivial, ?_⟩; gi_at_call 26; refine (CallsIn.inRound l (callsIn_wide.2 (add_whl HM.out HB.out (by have := HL.out; omega) (by have := HL.out; omega)))).mono ?_; rintro e w508 ⟨v, rfl, hv, hb⟩; replace HZ := hid (fun i => (HZ.out i).on hb); replace HKB := hid (HKB.out.on hb (by have := B.out.size; omega) HS1.out); replace HKO := hid (HKO.out.trans (KeepsOthers.of_below hb)); replace HS1 := hid (Nat.lt_of_lt_of_le HS1.out hb.size); obtain ⟨s9, p9, n9, c9, rfl⟩ := hv.opened; replace XT := bx XT hb; replace XU := bx XU hb; replace XX := bx XX hb; replace XQ := nx XQ hb; replace HA := wl HA hb; replace HB := wl HB hb; replace HV := wl HV hb; replace HM := wl HM hb; replace B := bb B hb; clear cc505a cc505b cc506a cc506b cc507a cc507b; have HS := hid hv; clear hb hv; obtain ⟨cc509a, cc509b⟩ := XT.out.both; obtain ⟨cc510a, cc510b⟩ := XU.out.both; obtain ⟨cc511a, cc511b⟩ := XX.out.both; replace HZ := hid (fun i => ((HZ.out i).box XT.out 0 (.bool s9)).box (XT.out.set0 s9) 1 (.slice p9 n9 c9)); replace HKB := hid ((HKB.out.set (g := G) (by have := LQ.out; have := LX.out; omega) (by omega) 0 (.bool s9)).set (g := G) (by have := LQ.out; have := LX.out; omega) (by omega) 1 (.slice p9 n9 c9)); replace HKO := hid ((HKO.out.trans (KeepsOthers.setCell _ ⟨G, 0, none⟩ (.bool s9))).trans (KeepsOthers.setCell _ ⟨G, 1, none⟩ (.slice p9 n9 c9))); obtain ⟨cc512a, cc512b, cc512c, cc512d⟩ := XT.out.stores; obtain ⟨r513a, r513b, r513c⟩ := XT.out.last B.out (by have := LQ.out; have := LX.out; omega) s9 p9 n9 c9; replace XU := hid ((XU.out.other (g2 := G) (by have := LQ.out; have := LX.out; omega) 0 (.bool s9)).other (g2 := G) (by have := LQ.out; have := LX.out; omega) 1 (.slice p9 n9 c9)); replace XX := hid ((XX.out.other (g2 := G) (by have := LQ.out; have := LX.out; omega) 0 (.bool s9)).other (g2 := G) (by have := LQ.out; have := LX.out; omega) 1 (.slice p9 n9 c9)); replace XQ := hid ((XQ.out.other (g2 := G) (by have := LQ.out; have := LX.out; omega) 0 (.bool s9)).other (g2 := G) (by have := LQ.out; have := LX.out; omega) 1 (.slice p9 n9 c9)); replace HA := hid (r513c HA.out); replace HB := hid (r513c HB.out); replace HV := hid (r513c HV.out); replace HM := hid (r513c HM.out); replace HS := hid (r513c HS.out); replace XT := hid r513a; replace B := hid r513b; clear r513a r513b r513c; replace HZ := hid (fun i => ((HZ.out i).box XU.out 0 (.bool s5)).box (XU.out.set0 s5) 1 (.slice p5 n5 c5)); replace HKB := hid ((HKB.out.set (g := G + 1) (by have := LQ.out; have := LX.out; omega) (by omega) 0 (.bool s5)).set (g := G + 1) (by have := LQ.out; have := LX.out; omega) (by omega) 1 (.slice p5 n5 c5)); replace HKO := hid ((HKO.out.trans (KeepsOthers.setCell _ ⟨G + 1, 0, none⟩ (.bool s5))).trans (KeepsOthers.setCell _ ⟨G + 1, 1, none⟩ (.slice p5 n5 c5))); obtain ⟨cc514a, cc514b, cc514c, cc514d⟩ := XU.out.stores; obtain ⟨r515a, r515b, r515c⟩ := XU.out.last B.out (by have := LQ.out; have := LX.out; omega) s5 p5 n5 c5; replace XT := hid ((XT.out.other (g2 := G + 1) (by have := LQ.out; have := LX.out; omega) 0 (.bool s5)).other (g2 := G + 1) (by have := LQ.out; have := LX.out; omega) 1 (.slice p5 n5 c5)); replace XX := hid ((XX.out.other (g2 := G + 1) (by have := LQ.out; have := LX.out; omega) 0 (.bool s5)).other (g2 := G + 1) (by have := LQ.out; have := LX.out; omega) 1 (.slice p5 n5 c5)); replace XQ := hid ((XQ.out.other (g2 := G + 1) (by have := LQ.out; have := LX.out; omega) 0 (.bool s5)).other (g2 := G + 1) (by have := LQ.out; have := LX.out; omega) 1 (.slice p5 n5 c5)); replace HA := hid (r515c HA.out); replace HB := hid (r515c HB.out); replace HV := hid (r515c HV.out); replace HM := hid (r515c HM.out); replace HS := hid (r515c HS.out); replace XU := hid r515a; replace B := hid r515b; clear r515a r515b r515c; replace HS1 := hid (show G + 1 + 1 < ((((w508.setCell ⟨G, 0, none⟩ (.bool s9)).setCell ⟨G, 1, none⟩ (.slice p9 n9 c9)).setCell ⟨G + 1, 0, none⟩ (.bool s5)).setCell ⟨G + 1, 1, none⟩ (.slice p5 n5 c5)).heap.size by simpa [World.setCell] using HS1.out))
      | (refine ⟨trivial, ?_⟩; gi_at_call 25; refine (CallsIn.inRound l (callsIn_wide.2 (mul_whl HV.out HA.out (by decide) (by have := HL.out; omega)))).mono ?_; rintro e w504 ⟨v, rfl, hv, hb⟩; replace HZ := hid (fun i => (HZ.out i).on hb); replace HKB := hid (HKB.out.on hb (by have := B.out.size; omega) HS1.out); replace HKO := hid (HKO.out.trans (KeepsOthers.of_below hb)); replace HS1 := hid (Nat.lt_of_lt_of_le HS1.out hb.size); obtain ⟨s8, p8, n8, c8, rfl⟩ := hv.opened; replace XT := bx XT hb; replace XU := bx XU hb; replace XX := bx XX hb; replace XQ := nx XQ hb; replace HA := wl HA hb; replace HB := wl HB hb; replace HV := wl HV hb; replace B := bb B hb; clear cc501a cc501b cc502a cc502b cc503a cc503b; have HM := hid hv; clear hb hv; obtain ⟨cc505a, cc505b⟩ := XT.out.both; obtain ⟨cc506a, cc506b⟩ := XU.out.both; obtain ⟨cc507a, cc507b⟩ := XX.out.both; have mk_0 := hid True.intro))
    all_goals gi_wp2
    all_goals exact ⟨HKO.out.from _, HKB.out, ⟨⟨_, _, _, _, _, _, _, _, XT.out, XU.out, by rw [HC.out]; exact HS.out.mono (by rw [List.length_append]; simp; omega), by rw [HC.out]; exact HA.out.mono (by rw [List.length_append]; simp; omega)⟩, HZ.out, XQ.out, B.out, HS1.out⟩⟩
  case done =>
    rintro D ys W hD rfl ⟨⟨s5, p5, n5, c5, s6, p6, n6, c6, hT, hU, hA, hB⟩, hZ, hQ, hBw, hs1⟩ hK
    have XT := hid hT
    have XU := hid hU
    have XQ := hid hQ
    have HA := hid hA
    have HB := hid hB
    have B := hid hBw
    have HKD := hid hK
    have HB0 := hid hb0
    have HLD := hid (show dwn n n = dwn n n ∧ (dwn n n).length = n from ⟨rfl, dwn_len n n⟩)
    have HN := hid hn
    have LD := hid (show w.heap.size < D by have := LQ.out; omega)
    clear hT hU hZ hQ hA hB hBw hK hs1 hI0 hSB cS
    obtain ⟨cc701a, cc701b⟩ := XT.out.both
    obtain ⟨cc702a, cc702b⟩ := XU.out.both
    obtain ⟨cc703a, cc703b, cc703c, cc703d⟩ := XQ.out.cells
    gi_wp2
    refine ⟨trivial, callsIn_wide.2 ((quot_some (k := 4000) (HA.out.mono (by have := HLD.out.2; have := HN.out; omega)) (HB.out.mono (by have := HLD.out.2; have := HN.out; omega)) HB0.out (by decide)).mono ?_)⟩
    rintro e w704 ⟨v, rfl, hv, hb⟩
    replace HKD := hid ((hb.block D (Array.getElem?_eq_some_iff.1 HKD.out).1).trans HKD.out)
    obtain ⟨s9a, p9a, n9a, c9a, s9b, p9b, n9b, c9b, rfl⟩ := hv.opened
    obtain ⟨ht9, d9, hu9, hd9⟩ := hv.two
    have HD9 := hid hd9
    replace XT := bx XT hb
    replace XU := bx XU hb
    replace XQ := nx XQ hb
    replace HA := wl HA hb
    replace HB := wl HB hb
    replace B := bb B hb
    clear cc701a cc701b cc702a cc702b cc703a cc703b cc703c cc703d
    have HT9 := hid ht9
    have HU9 := hid hu9
    clear hb hv ht9 hu9 hd9
    have LN := hid (show w.heap.size < w704.heap.size from XQ.out.lt)
    have hb705 := (Below.refl _ _).alloc (Nat.le_refl w704.heap.size) (.cells #[.bool s9a, .slice p9a n9a c9a, .bool s9b, .slice p9b n9b c9b] 39)
    have hx706 := Nbx.new w704 s9a s9b (.slice p9a n9a c9a) (.slice p9b n9b c9b)
    have L2 := hid XQ.out.lt
    replace XT := bx XT hb705
    replace XU := bx XU hb705
    replace XQ := nx XQ hb705
    replace HA := wl HA hb705
    replace HB := wl HB hb705
    replace HT9 := wl HT9 hb705
    replace HU9 := wl HU9 hb705
    replace B := bb B hb705
    have XN := hid hx706
    have hs707 : (w704.alloc (.cells #[.bool s9a, .slice p9a n9a c9a, .bool s9b, .slice p9b n9b c9b] 39)).heap.size = w704.heap.size + 1 := by simp
    clear hb705 hx706
    replace HKD := hid ((Below.heap_alloc _ (.cells #[.bool s9a, .slice p9a n9a c9a, .bool s9b, .slice p9b n9b c9b] 39) D (Array.getElem?_eq_some_iff.1 HKD.out).1).trans HKD.out)
    obtain ⟨cc708a, cc708b⟩ := XT.out.both
    obtain ⟨cc709a, cc709b⟩ := XU.out.both
    obtain ⟨cc710a, cc710b, cc710c, cc710d⟩ := XQ.out.cells
    obtain ⟨cc711a, cc711b, cc711c, cc711d⟩ := XN.out.cells
    obtain ⟨⟨cc712a, cc712b⟩, ⟨cc712c, cc712d⟩, ⟨cc712e, cc712f⟩, cc712g, cc712h⟩ := XQ.out.stores
    obtain ⟨r713a, r713b, r713c⟩ := XQ.out.last B.out (by have := LQ.out; have := LN.out; have := L2.out; omega) s9a s9b p9a p9b n9a n9b c9a c9b
    replace XT := hid ((((XT.out.other (g2 := w.heap.size) (by have := LQ.out; have := LN.out; have := L2.out; omega) 0 (.bool s9a)).other (g2 := w.heap.size) (by have := LQ.out; have := LN.out; have := L2.out; omega) 1 (.slice p9a n9a c9a)).other (g2 := w.heap.size) (by have := LQ.out; have := LN.out; have := L2.out; omega) 2 (.bool s9b)).other (g2 := w.heap.size) (by have := LQ.out; have := LN.out; have := L2.out; omega) 3 (.slice p9b n9b c9b))
    replace XU := hid ((((XU.out.other (g2 := w.heap.size) (by have := LQ.out; have := LN.out; have := L2.out; omega) 0 (.bool s9a)).other (g2 := w.heap.size) (by have := LQ.out; have := LN.out; have := L2.out; omega) 1 (.slice p9a n9a c9a)).other (g2 := w.heap.size) (by have := LQ.out; have := LN.out; have := L2.out; omega) 2 (.bool s9b)).other (g2 := w.heap.size) (by have := LQ.out; have := LN.out; have := L2.out; omega) 3 (.slice p9b n9b c9b))
    replace XN := hid ((((XN.out.other (g2 := w.heap.size) (by have := LQ.out; have := LN.out; have := L2.out; omega) 0 (.bool s9a)).other (g2 := w.heap.size) (by have := LQ.out; have := LN.out; have := L2.out; omega) 1 (.slice p9a n9a c9a)).other (g2 := w.heap.size) (by have := LQ.out; have := LN.out; have := L2.out; omega) 2 (.bool s9b)).other (g2 := w.heap.size) (by have := LQ.out; have := LN.out; have := L2.out; omega) 3 (.slice p9b n9b c9b))
    replace HA := hid (r713c HA.out)
    replace HB := hid (r713c HB.out)
    replace HT9 := hid (r713c HT9.out)
    replace HU9 := hid (r713c HU9.out)
    replace XQ := hid r713a
    replace B := hid r713b
    clear r713a r713b r713c
    have hKD : (((((w704.alloc (.cells #[.bool s9a, .slice p9a n9a c9a, .bool s9b, .slice p9b n9b c9b] 39)).setCell ⟨w.heap.size, 0, none⟩ (.bool s9a)).setCell ⟨w.heap.size, 1, none⟩ (.slice p9a n9a c9a)).setCell ⟨w.heap.size, 2, none⟩ (.bool s9b)).setCell ⟨w.heap.size, 3, none⟩ (.slice p9b n9b c9b)).heap[D]? = some (.deferred (some [])) := by
      rw [Below.heap_setCell _ _ _ _ (by have := LD.out; simp; omega), Below.heap_setCell _ _ _ _ (by have := LD.out; simp; omega), Below.heap_setCell _ _ _ _ (by have := LD.out; simp; omega), Below.heap_setCell _ _ _ _ (by have := LD.out; simp; omega)]; exact HKD.out
    gi_wp2
    have hgp := grownBy_putObj' (((((w704.alloc (.cells #[.bool s9a, .slice p9a n9a c9a, .bool s9b, .slice p9b n9b c9b] 39)).setCell ⟨w.heap.size, 0, none⟩ (.bool s9a)).setCell ⟨w.heap.size, 1, none⟩ (.slice p9a n9a c9a)).setCell ⟨w.heap.size, 2, none⟩ (.bool s9b)).setCell ⟨w.heap.size, 3, none⟩ (.slice p9b n9b c9b)) D (.deferred none)
    have hgr : ∀ r, some D = some r → ∃ o : Obj, (((((w704.alloc (.cells #[.bool s9a, .slice p9a n9a c9a, .bool s9b, .slice p9b n9b c9b] 39)).setCell ⟨w.heap.size, 0, none⟩ (.bool s9a)).setCell ⟨w.heap.size, 1, none⟩ (.slice p9a n9a c9a)).setCell ⟨w.heap.size, 2, none⟩ (.bool s9b)).setCell ⟨w.heap.size, 3, none⟩ (.slice p9b n9b c9b)).heap[r]? = some o ∧ o.isCells = false := fun r e => by cases e; exact ⟨_, hKD, rfl⟩
    refine ⟨by simp, .inl ⟨_, _, rfl, run_takeDeferred hKD, ?_⟩⟩
    refine ⟨_, res_num rfl rfl (XQ.out.turned hgp hgr), ?_⟩
    exact ⟨_, rfl, Rtl.mk2 (HT9.out.turned hgp hgr) (HU9.out.turned hgp hgr) HD9.out, B.out.grown hgp B.out.size (fun g e => by cases e; exact Nat.le_of_lt LD.out)⟩
  case stop =>
    rintro D c pre W _ _ h _
    exact h.elim

end Go.Proofs.YthaidmngikkepaaDoor

/-
  PACKAGE cf: Back.
-/
namespace Go.Proofs.YthaidmngikkepaaDoor
open Go.RowKit
open Num
set_option linter.unusedVariables false
set_option maxRecDepth 100000
set_option linter.unusedSimpArgs false

/-- The fraction of numbers. -/
def cfback (l : List Int) : Rat := Rat.divInt (cfb l).1 (cfb l).2
theorem dwn_map {α : Type} (f : Nat → α) : ∀ (n : Nat), (dwn n n).map f = ((List.range n).map f).reverse := by
  intro n
  rw [dwn, ← List.map_reverse, List.map_map]
  apply List.ext_getElem
  · simp
  · intro i h1 h2
    simp at h1
    simp
theorem cac_map (zf : Nat → Int) (n : Nat) : cac zf (dwn n n) = cfb ((List.range n).map zf) := by
  unfold cac cfb
  rw [List.foldr_eq_foldl_reverse, ← dwn_map, List.foldl_map]
theorem cfb_pos : ∀ (l : List Int), (∀ z ∈ l, 1 ≤ z) → 1 ≤ (cfb l).1 ∧ 0 ≤ (cfb l).2 := by
  intro l
  induction l with
  | nil => intro _; simp [cfb]
  | cons z l ih =>
    intro h
    obtain ⟨h1, h2⟩ := ih (fun x hx => h x (by simp [hx]))
    have hz := h z (by simp)
    rw [cfb_cons]
    have := Int.mul_le_mul_of_nonneg_right hz (show (0 : Int) ≤ (cfb l).1 by omega)
    omega
theorem cfb_two {z : Int} {l : List Int} (h : ∀ x ∈ l, 1 ≤ x) : 1 ≤ (cfb (z :: l)).2 := by
  rw [cfb_cons]; exact (cfb_pos l h).1
/-- What a list of texts reads as. -/
def zlist (ss : List ByteArray) : List Int := ss.map znum
theorem zlist_range (ss : List ByteArray) : (List.range ss.length).map (fun i => if i < ss.length then znum (tx ss i) else 0) = zlist ss := by
  apply List.ext_getElem
  · simp [zlist]
  · intro i h1 h2
    simp [zlist] at h2
    simp [zlist, h2, tx]
/-- Lists that have a fraction. -/
def GoodL (ss : List ByteArray) : Prop := AllZ ss ∧ 1 ≤ ss.length ∧ ss.length ≤ 30 ∧ ∀ i, 1 ≤ i → i < ss.length → 1 ≤ znum (tx ss i)
/-- What is wrong with a list. -/
def BadL (ss : List ByteArray) (k : Int) : Prop :=
  (∃ i, i < ss.length ∧ (∀ j, j < i → GoodZ (tx ss j)) ∧ BadZ (tx ss i) k) ∨ (AllZ ss ∧ ss.length = 0 ∧ k = 3) ∨ (AllZ ss ∧ 30 < ss.length ∧ k = 4) ∨
  (AllZ ss ∧ 1 ≤ ss.length ∧ ss.length ≤ 30 ∧ (∃ i, 1 ≤ i ∧ i < ss.length ∧ znum (tx ss i) ≤ 0) ∧ k = 2)
theorem BadL.ne {ss : List ByteArray} {k : Int} (h : BadL ss k) : k ≠ 0 := by
  rcases h with ⟨i, _, _, h⟩ | ⟨_, _, rfl⟩ | ⟨_, _, rfl⟩ | ⟨_, _, _, _, rfl⟩
  · exact h.ne
  all_goals decide
theorem BadL.not {ss : List ByteArray} {k : Int} (h : BadL ss k) : ¬ GoodL ss := by
  rintro ⟨g1, g2, g3, g4⟩
  rcases h with ⟨i, hi, _, h⟩ | ⟨_, h, _⟩ | ⟨_, h, _⟩ | ⟨_, _, _, ⟨i, h1, h2, h3⟩, _⟩
  · have := g1 i hi
    obtain ⟨a1, a2⟩ := this
    rcases h with ⟨h, _⟩ | ⟨_, h, _⟩
    · omega
    · rw [h] at a2; cases a2
  · omega
  · omega
  · have := g4 i h1 h2; omega
theorem GoodL.den {ss : List ByteArray} (h : GoodL ss) : 1 ≤ (cfb (zlist ss)).2 := by
  obtain ⟨h1, h2, h3, h4⟩ := h
  match ss, h2, h4 with
  | s :: ss, _, h4 =>
    refine cfb_two fun x hx => ?_
    obtain ⟨s', hs', rfl⟩ := List.mem_map.1 hx
    obtain ⟨i, hi, rfl⟩ := List.mem_iff_getElem.1 hs'
    have := h4 (i + 1) (by omega) (by simpa using hi)
    rw [tx_lt (by simpa using hi)] at this
    simpa using this
theorem cells_whl_zero (w : World) (k : Nat) : Whl w (.agg #[.bool false, .slice none 0 0]) 0 k := ⟨false, _, [], rfl, Lim.nil w, .inl rfl, Nat.zero_le _, by simp, rfl⟩
theorem zat_ge {vs : List Zr} {i : Nat} (h : vs.length ≤ i) : zat vs i = (false, none, 0, 0) := by simp [zat, h]

theorem BadZ.uniq {s : ByteArray} {k l : Int} (h : BadZ s k) (h' : BadZ s l) : k = l := by
  rcases h with ⟨h1, rfl⟩ | ⟨h1, h2, rfl⟩ <;> rcases h' with ⟨k1, rfl⟩ | ⟨k1, k2, rfl⟩ <;> first | rfl | omega
theorem GoodZ.notBad {s : ByteArray} {k : Int} (h : GoodZ s) (h' : BadZ s k) : False := by
  obtain ⟨a1, a2⟩ := h
  rcases h' with ⟨h, _⟩ | ⟨_, h, _⟩
  · omega
  · rw [h] at a2; cases a2
theorem BadL.uniq {ss : List ByteArray} {k l : Int} (h : BadL ss k) (h' : BadL ss l) : k = l := by
  have first : ∀ i j (k l : Int), i < ss.length → (∀ j, j < i → GoodZ (tx ss j)) → BadZ (tx ss i) k → j < ss.length → (∀ i, i < j → GoodZ (tx ss i)) → BadZ (tx ss j) l → k = l := by
    intro i j k l h1 h2 h3 g1 g2 g3
    rcases Nat.lt_trichotomy i j with h | h | h
    · exact absurd h3 (g2 i h).notBad
    · subst h; exact h3.uniq g3
    · exact absurd g3 (h2 j h).notBad
  rcases h with ⟨i, h1, h2, h3⟩ | ⟨h1, h2, rfl⟩ | ⟨h1, h2, rfl⟩ | ⟨h1, h2, h3, h4, rfl⟩ <;> rcases h' with ⟨j, g1, g2, g3⟩ | ⟨g1, g2, rfl⟩ | ⟨g1, g2, rfl⟩ | ⟨g1, g2, g3, g4, rfl⟩
  · exact first i j k l h1 h2 h3 g1 g2 g3
  any_goals rfl
  any_goals omega
  all_goals first | exact absurd h3 (g1 i h1).notBad | exact absurd g3 (h1 j g1).notBad
theorem readq_errno {w w' : World} {ss : List ByteArray} {k : Int} {e : Ending} (hk : BadL ss k) (h : (ReadQ w ss e w')) : e = .returned (.tuple #[.slice none 0 0, errno k]) := by
  obtain ⟨h, _⟩ := h
  rcases h with ⟨l, i, h1, h2, h3, rfl⟩ | ⟨h1, h2, rfl⟩ | ⟨h1, h2, rfl⟩ | ⟨h1, h2, h3, h4, rfl⟩ | ⟨h1, h2, h3, h4, _⟩
  · rw [hk.uniq (.inl ⟨i, h1, h2, h3⟩)]
  · rw [hk.uniq (.inr (.inl ⟨h1, h2, rfl⟩))]
  · rw [hk.uniq (.inr (.inr (.inl ⟨h1, h2, rfl⟩)))]
  · rw [hk.uniq (.inr (.inr (.inr ⟨h1, h2, h3, h4, rfl⟩)))]
  · exact absurd ⟨h1, h2, h3, h4⟩ hk.not

set_option maxHeartbeats 1000000 in
theorem back_good {w : World} {v : Value} {ss : List ByteArray} (h : Txs w v ss) (hs : ∀ i, i < ss.length → (tx ss i).size ≤ maxLen) (hg : GoodL ss) :
    Calls Tryd.prog 7 #[v] w fun e w' => e = .returned (.tuple #[.string (qtxt (cfback (zlist ss))), .nilIface]) ∧ Below w.heap.size w w' := by
  have HP := hid (readq h hs)
  have HG := hid hg
  have B := hid (Below.refl w.heap.size w)
  clear  h hs hg
  go_enter Tryd.func7, Tryd.ntmps7
  go_wp2_with fail
  refine HP.out.mono ?_
  rintro e w1 ⟨hx, hb⟩
  rcases hx with ⟨k, i, h1, h2, h3, rfl⟩ | ⟨h1, h2, rfl⟩ | ⟨h1, h2, rfl⟩ | ⟨h1, h2, h3, h4, rfl⟩ | ⟨h1, h2, h3, h4, b, vs, rfl, h6, h7, h8, h9⟩
  · exact absurd HG.out (BadL.not (.inl ⟨i, h1, h2, h3⟩))
  · exact absurd HG.out (BadL.not (.inr (.inl ⟨h1, h2, rfl⟩)))
  · exact absurd HG.out (BadL.not (.inr (.inr (.inl ⟨h1, h2, rfl⟩))))
  · exact absurd HG.out (BadL.not (.inr (.inr (.inr ⟨h1, h2, h3, h4, rfl⟩))))
  have hz : ∀ i, Whl w1 (zag (zat vs i)) ((fun i => if i < ss.length then znum (tx ss i) else 0) i) 100 := by
    intro i
    by_cases hi : i < ss.length
    · simpa [hi] using h9 i hi
    · rw [zat_ge (by omega)]; simpa [hi, zag] using cells_whl_zero w1 100
  have hden : (cac (fun i => if i < ss.length then znum (tx ss i) else 0) (dwn ss.length ss.length)).2 ≠ 0 := by
    rw [cac_map, zlist_range]; have := HG.out.den; omega
  have HC := collapse_rtl h7 h8 hz h2 h3 hden
  rw [cac_map, zlist_range] at HC
  replace HC := hid HC
  replace B := bb B hb
  clear hz hden h1 h2 h3 h4 h6 h7 h8 h9 hb HP
  go_wp2_with fail
  refine (HC.out).mono ?_
  rintro e w1 ⟨v, rfl, hv, hb⟩
  obtain ⟨s3a, p3a, n3a, c3a, s3b, p3b, n3b, c3b, rfl⟩ := hv.opened
  obtain ⟨ht3, d3, hu3, hd3⟩ := hv.two
  have HD3 := hid hd3
  replace B := bb B hb
  have HT3 := hid ht3
  have HU3 := hid hu3
  clear hb hv ht3 hu3 hd3 HC
  go_wp2_with fail
  refine (qstring (Rtl.mk2 HT3.out HU3.out HD3.out) (by decide)).mono ?_
  rintro e w2 ⟨rfl, hb⟩
  replace B := bb B hb
  clear hb 
  go_wp2_with fail
  go_ret2
  exact ⟨rfl, B.out⟩

set_option maxHeartbeats 1000000 in
theorem back_bad {w : World} {v : Value} {ss : List ByteArray} (h : Txs w v ss) (hs : ∀ i, i < ss.length → (tx ss i).size ≤ maxLen) {k : Int} (hk : BadL ss k) :
    Calls Tryd.prog 7 #[v] w fun e w' => e = .returned (.tuple #[.string ⟨#[]⟩, errno k]) ∧ Below w.heap.size w w' := by
  have HP := hid (readq h hs)
  have HB := hid hk
  have hne := errv_neq
  have hkk := errv_some hk.ne
  have B := hid (Below.refl w.heap.size w)
  clear  h hs hk
  go_enter Tryd.func7, Tryd.ntmps7
  go_wp2_with fail
  refine HP.out.mono ?_
  rintro e w1 hq
  have hx2 := readq_errno HB.out hq
  have hb := hq.2
  clear hq
  subst hx2
  replace B := bb B hb
  clear hb HP
  go_wp2_with fail
  go_ret2
  exact ⟨rfl, B.out⟩

theorem goodL_or_bad (ss : List ByteArray) : GoodL ss ∨ ∃ k, BadL ss k := by
  by_cases hz : AllZ ss
  · by_cases h0 : ss.length = 0
    · exact .inr ⟨3, .inr (.inl ⟨hz, h0, rfl⟩)⟩
    by_cases h30 : 30 < ss.length
    · exact .inr ⟨4, .inr (.inr (.inl ⟨hz, h30, rfl⟩))⟩
    by_cases hp : ∀ i, 1 ≤ i → i < ss.length → 1 ≤ znum (tx ss i)
    · exact .inl ⟨hz, by omega, by omega, hp⟩
    · refine .inr ⟨2, .inr (.inr (.inr ⟨hz, by omega, by omega, ?_, rfl⟩))⟩
      apply Classical.byContradiction
      intro hn
      exact hp fun i h1 h2 => by
        apply Classical.byContradiction
        intro h3
        exact hn ⟨i, h1, h2, by omega⟩
  · right
    have first : ∀ n, n ≤ ss.length → (∀ i, i < n → GoodZ (tx ss i)) ∨ ∃ i k, i < ss.length ∧ (∀ j, j < i → GoodZ (tx ss j)) ∧ BadZ (tx ss i) k := by
      intro n
      induction n with
      | zero => intro _; exact .inl fun i hi => by omega
      | succ n ih =>
        intro hn
        rcases ih (by omega) with h | h
        · rcases goodZ_or_bad (tx ss n) with hg | ⟨k, hk⟩
          · exact .inl fun i hi => if h' : i < n then h i h' else (show n = i by omega) ▸ hg
          · exact .inr ⟨n, k, by omega, h, hk⟩
        · exact .inr h
    rcases first ss.length (Nat.le_refl _) with h | ⟨i, k, h1, h2, h3⟩
    · exact absurd h hz
    · exact ⟨k, .inl ⟨i, h1, h2, h3⟩⟩
/-- What cf.Back tells. -/
def BackTells (ss : List ByteArray) (s : ByteArray) (k : Int) : Prop := (k = 0 ∧ GoodL ss ∧ s = qtxt (cfback (zlist ss))) ∨ (k ≠ 0 ∧ BadL ss k ∧ s = ⟨#[]⟩)
theorem back_any {w : World} {v : Value} {ss : List ByteArray} (h : Txs w v ss) (hs : ∀ i, i < ss.length → (tx ss i).size ≤ maxLen) :
    Calls Tryd.prog 7 #[v] w fun e w' => ∃ s k, e = .returned (.tuple #[.string s, errv k]) ∧ BackTells ss s k ∧ Below w.heap.size w w' := by
  rcases goodL_or_bad ss with hg | ⟨k, hk⟩
  · refine (back_good h hs hg).mono ?_
    rintro e w' ⟨rfl, hb⟩
    exact ⟨_, 0, rfl, .inl ⟨rfl, hg, rfl⟩, hb⟩
  · refine (back_bad h hs hk).mono ?_
    rintro e w' ⟨rfl, hb⟩
    exact ⟨_, k, by rw [errv_some hk.ne], .inr ⟨hk.ne, hk, rfl⟩, hb⟩

end Go.Proofs.YthaidmngikkepaaDoor

/-
  CONTINUED FRACTIONS AS TEXTS.
-/
namespace Go.Proofs.YthaidmngikkepaaDoor
open Go.RowKit
open Num
set_option linter.unusedVariables false
set_option maxRecDepth 100000
set_option linter.unusedSimpArgs false

/-- The texts of a fraction's numbers. -/
def cft (q : Rat) : List ByteArray := (cfq q).map ztxt
theorem cfq_cons (q : Rat) : cfq q = q.floor :: cfl q.den (q.num % q.den).toNat := by
  unfold cfq
  rw [cfl_pos _ (by have := q.den_pos; omega), Rat.floor_def]
theorem cft_len (q : Rat) : (cft q).length = (cfq q).length := by simp [cft]
theorem tx_cft (q : Rat) {i : Nat} (h : i < (cft q).length) : tx (cft q) i = ztxt ((cfq q)[i]'(by rw [cft_len] at h; exact h)) := by
  rw [tx_lt h]; simp [cft]
theorem rest_den (q : Rat) : (q.num % q.den).toNat < q.den := by
  exact (rest_lt q.num (by have := q.den_pos; omega)).1
theorem cfq_tail (q : Rat) {i : Nat} (h : i + 1 < (cfq q).length) : 1 ≤ (cfq q)[i + 1] ∧ (cfq q)[i + 1] ≤ q.den ∧ (i + 2 = (cfq q).length → (cfq q)[i + 1] ≠ 1) := by
  have e := cfq_cons q
  obtain ⟨h1, h2⟩ := cfl_less _ (q.num % q.den).toNat q.den (Nat.le_refl _) (rest_den q)
  simp only [e, List.length_cons, List.getElem_cons_succ] at h ⊢
  have hm := h1 _ (List.getElem_mem (l := cfl q.den (q.num % q.den).toNat) (n := i) (by omega))
  refine ⟨hm.1, hm.2, fun hl => h2 _ ?_⟩
  rw [List.getLast?_eq_getElem?, ← List.getElem?_eq_getElem]
  congr 1
  omega
theorem cft_one_iff (q : Rat) : (cft q).length = 1 ↔ q.den = 1 := by
  rw [cft_len, cfq_cons]
  simp only [List.length_cons]
  constructor
  · intro h
    have h0 : cfl q.den (q.num % q.den).toNat = [] := List.length_eq_zero_iff.1 (by omega)
    by_cases hr : (q.num % q.den).toNat = 0
    · have hd : (q.den : Int) ∣ q.num := by
        have := rest_lt q.num (b := q.den) (by have := q.den_pos; omega)
        exact Int.dvd_of_emod_eq_zero (by omega)
      have hc := q.reduced
      have h1 : q.den ∣ Nat.gcd q.num.natAbs q.den := Nat.dvd_gcd (by have := Int.natAbs_dvd_natAbs.2 hd; simpa using this) (Nat.dvd_refl _)
      rw [hc] at h1
      exact Nat.dvd_one.1 h1
    · rw [cfl_pos _ hr] at h0; cases h0
  · intro h
    rw [h]
    have : (q.num % (1 : Nat)).toNat = 0 := by omega
    rw [this, cfl_zero]; rfl
theorem den_size {a : ByteArray} (h : GoodQ a) (hd : (qnum a).den ≠ 1) : (ztxt (qnum a).den).size ≤ 100 := by
  have e := qtxt_two hd
  have h1 := h.1
  rw [← qtxt_good h] at h1
  have h2 : (qtxt (qnum a)).data.toList.length = (qtxt (qnum a)).size := by simp
  rw [e] at h2
  simp only [List.length_append, List.length_cons] at h2
  have h3 : (ztxt (qnum a).den).data.toList.length = (ztxt (qnum a).den).size := by simp
  omega
theorem cft_good {a : ByteArray} (h : GoodQ a) {i : Nat} (hi : i < (cft (qnum a)).length) : GoodZ (tx (cft (qnum a)) i) := by
  rw [tx_cft _ hi]
  have hi' := hi
  rw [cft_len] at hi'
  match i, hi' with
  | 0, hi' =>
    have e : (cfq (qnum a))[0] = (qnum a).floor := by simp [cfq_cons]
    rw [e]
    exact (floor_good h).2
  | i + 1, hi' =>
    obtain ⟨h1, h2, _⟩ := cfq_tail (qnum a) hi'
    have hd : (qnum a).den ≠ 1 := by
      intro hd
      have := (cft_one_iff _).2 hd
      rw [cft_len] at this
      omega
    exact ⟨Nat.le_trans (size_ztxt_mono (by omega) (by omega)) (den_size h hd), isWhl_ztxt _⟩
theorem cft_goodL {a : ByteArray} (h : GoodQ a) (hl : (cft (qnum a)).length ≤ 30) : GoodL (cft (qnum a)) := by
  refine ⟨fun i hi => cft_good h hi, ?_, hl, fun i h1 hi => ?_⟩
  · rw [cft_len, cfq_cons]; simp
  · rw [tx_cft _ hi, znum_ztxt]
    rw [cft_len] at hi
    obtain ⟨j, rfl⟩ : ∃ j, i = j + 1 := ⟨i - 1, by omega⟩
    exact (cfq_tail _ hi).1
theorem zlist_cft (q : Rat) : zlist (cft q) = cfq q := by
  unfold zlist cft
  rw [List.map_map]
  conv => rhs; rw [← List.map_id (cfq q)]
  apply List.map_congr_left
  intro z _
  exact znum_ztxt z
theorem cfback_cfq (q : Rat) : cfback (cfq q) = q := by
  obtain ⟨h1, h2⟩ := cfb_cfl q.den q.den q.num (Nat.le_refl _) (.inl q.den_pos)
  have hg : Int.gcd q.num q.den = 1 := q.reduced
  rw [hg] at h1 h2
  simp only [Int.natCast_one, Int.mul_one] at h1 h2
  show Rat.divInt (cfb (cfl q.num q.den)).1 (cfb (cfl q.num q.den)).2 = q
  rw [h1, h2, Rat.num_divInt_den]
/-- Of what is above 1, turned upside down. -/
theorem cfq_turned {q : Rat} (h : 1 < q) : cfq (1 / q) = 0 :: cfq q := by
  have hn : (q.den : Int) < q.num := by
    have := (Rat.lt_iff 1 q).1 h
    simpa using this
  have hd := q.den_pos
  have hg : Int.gcd (q.den : Int) q.num = 1 := by rw [Int.gcd_comm]; exact q.reduced
  have e : (1 : Rat) / q = Rat.divInt q.den q.num := by
    have := div_parts 1 q
    simpa using this
  obtain ⟨e1, e2⟩ := divInt_cop (show 0 < q.num by omega) hg
  have e3 : (1 / q).den = q.num.toNat := by rw [e]; omega
  show cfl (1 / q).num (1 / q).den = _
  rw [e3, e, e1]
  rw [cfl_pos _ (by omega)]
  have h4 : (q.num.toNat : Int) = q.num := by omega
  rw [h4, Int.ediv_eq_zero_of_lt (by omega) hn, Int.emod_eq_of_lt (by omega) hn]
  rfl
theorem cft_turned {q : Rat} (h : 1 < q) : cft (1 / q) = ⟨#[48]⟩ :: cft q := by
  unfold cft
  rw [cfq_turned h, List.map_cons, ztxt_zero]
theorem den_one_iff {a : ByteArray} (h : GoodQ a) : (qnum a).den = 1 ↔ GoodZ a := by
  constructor
  · intro hd
    have e := qtxt_good h
    rw [qtxt_one hd] at e
    exact ⟨h.1, by rw [← e]; exact isWhl_ztxt _⟩
  · intro hz
    rw [(qnum_whole hz).2]; rfl

end Go.Proofs.YthaidmngikkepaaDoor
