import Derived.Test.YtmabolifokhlnaaGreatDoorBunProofPolyTells24
import Derived.Test.YtmabolifokhlnaaGreatDoorBunProofPolyTells20
import Derived.Test.YtmabolifokhlnaaGreatDoorBunProofPolyTells19
import Derived.Test.YtmabolifokhlnaaGreatDoorBunProofPolyTells9
import Derived.Test.YtmabolifokhlnaaGreatDoorBunProofPolyTells13
import Derived.Test.YtmabolifokhlnaaGreatDoorBunProofPolyTells12
/-
  PACKAGE poly: Polynomial.Div.
-/
namespace Go.Proofs.YtmabolifokhlnaaGreatDoor
open Go.RowKit Go.Shelf
open Num
set_option linter.unusedVariables false
set_option maxRecDepth 100000
set_option linter.unusedSimpArgs false
attribute [local go_sem] Oper.semAt_some

theorem gby_far {w w' : World} {b g : Nat} (h : w.grownBy w' (some b)) (hl : g < w.heap.size) (hne : g ≠ b) : w'.heap[g]? = w.heap[g]? := h.block g hl (fun e => hne (by cases e; rfl))
theorem KeepsOthers.of_grown {W W' : World} {b : Nat} (h : W.grownBy W' (some b)) {cur : Array Value} {T : TypeId} {f : Nat × Nat} (hb : W.heap[b]? = some (.cells cur T f)) : KeepsOthers W W' :=
  ⟨h.size, fun k o hk ho => (h.block k (Array.getElem?_eq_some_iff.1 hk).1 (fun e => by
    cases e
    rw [hb] at hk
    cases hk
    cases ho)).trans hk⟩
theorem NRw.turned {w w' : World} {b n : Nat} {rs : Nat → Nr} {row : Option Nat} (h : NRw w b n rs) (hg : w.grownBy w' row) (hr : ∀ r, row = some r → ∃ o : Obj, w.heap[r]? = some o ∧ o.isCells = false) : NRw w' b n rs := by
  refine h.kept (hg.block b h.lt fun e => ?_)
  obtain ⟨cur, h, _⟩ := h
  obtain ⟨o, ho, hc⟩ := hr b e.symm
  rw [h] at ho
  cases ho
  cases hc
/-- What is left so far: in a row of its own, or there is nothing. -/
def RestOk (K U : Nat) (W : World) (a1 : Option Addr) (np : Nat) (R : Nat → Rat) : Prop := np = 0 ∨ ∃ b0 rs, a1 = some ⟨b0, 0, none⟩ ∧ K ≤ b0 ∧ b0 < U ∧ NRw W b0 np rs ∧ ∀ j, j < np → NF W (nag (rs j)) (R j)
theorem RestOk.on {K U : Nat} {W W' : World} {a1 : Option Addr} {np : Nat} {R : Nat → Rat} (h : RestOk K U W a1 np R) (hb : Below W.heap.size W W') : RestOk K U W' a1 np R := by
  rcases h with h | ⟨b0, rs, h1, h2, h3, h4, h5⟩
  · exact .inl h
  · exact .inr ⟨b0, rs, h1, h2, h3, h4.on hb, fun j hj => (h5 j hj).on hb⟩
theorem RestOk.turned {K U : Nat} {W W' : World} {a1 : Option Addr} {np : Nat} {R : Nat → Rat} {row : Option Nat} (h : RestOk K U W a1 np R) (hg : W.grownBy W' row) (hr : ∀ r, row = some r → ∃ o : Obj, W.heap[r]? = some o ∧ o.isCells = false) : RestOk K U W' a1 np R := by
  rcases h with h | ⟨b0, rs, h1, h2, h3, h4, h5⟩
  · exact .inl h
  · exact .inr ⟨b0, rs, h1, h2, h3, h4.turned hg hr, fun j hj => (h5 j hj).turned hg hr⟩
theorem RestOk.pn {K U : Nat} {W : World} {a1 : Option Addr} {np c1 : Nat} {R : Nat → Rat} (h : RestOk K U W a1 np R) (hc : np ≤ c1) (hm : c1 ≤ maxLen) : PN W (.slice a1 np c1) (lof np R) := by
  rcases h with rfl | ⟨b0, rs, rfl, h2, h3, h4, h5⟩
  · exact PN.nil W hm
  · exact h4.pn (by simp [lof]) hc hm (fun i hi => (h5 i hi).cast (by rw [co_lof, if_pos hi]))
theorem OwnN.rest {W : World} {K np : Nat} {v : Value} {l : List Rat} (h : OwnN W K v l) (hl : l.length = np) : ∃ a1 c1, v = .slice a1 np c1 ∧ np ≤ c1 ∧ c1 ≤ maxLen ∧ RestOk K W.heap.size W a1 np (co l) := by
  rcases h with ⟨rfl, a, c, rfl, hc⟩ | ⟨b, c, rs, rfl, hK, h1, h2, h3, h4⟩
  · subst hl; exact ⟨a, c, rfl, Nat.zero_le _, hc, .inl rfl⟩
  · rw [hl] at h1 h2 h4 ⊢
    exact ⟨_, c, rfl, h2, h3, .inr ⟨b, rs, rfl, hK, h1.lt, h1, h4⟩⟩
/-- What a round keeps. -/
def KD (n₀ Bs bq N : Nat) (A B : World) : Prop := Below n₀ A B ∧ B.heap[Bs]? = A.heap[Bs]? ∧ ((∃ rs, NRw A bq N rs) → ∃ rs, NRw B bq N rs)
theorem KD.refl (n₀ Bs bq N : Nat) (A : World) : KD n₀ Bs bq N A A := ⟨Below.refl _ _, rfl, id⟩
theorem KD.trans {n₀ Bs bq N : Nat} {A B C : World} (h : KD n₀ Bs bq N A B) (h' : KD n₀ Bs bq N B C) : KD n₀ Bs bq N A C := ⟨h.1.trans h'.1, h'.2.1.trans h.2.1, fun x => h'.2.2 (h.2.2 x)⟩
/-- What holds between two rounds. -/
def DI (w : World) (p q : List Rat) (d np N : Nat) (aq : Option Addr) (cq : Nat) (a1 : Option Addr) (c1 g7 g8 bq S : Nat) (pre : List {x : Nat × Nr // x.1 < N}) (W : World) : Prop :=
  Sbx W w.heap.size aq (d + 1) cq ∧ Sbx W g7 a1 np c1 ∧ Sbx W g8 (some ⟨bq, 0, none⟩) N N ∧ RestOk (w.heap.size + 1) g7 W a1 np (dvf p q d (pre.map (·.1.1))).1 ∧
  (∃ rs, NRw W bq N rs ∧ ∀ j, j < N → NF W (nag (rs j)) ((dvf p q d (pre.map (·.1.1))).2 j)) ∧ Below w.heap.size w W ∧ S < W.heap.size
theorem DI.own {w : World} {p q : List Rat} {d np N : Nat} {aq : Option Addr} {cq : Nat} {a1 : Option Addr} {c1 g7 g8 bq S K : Nat} (hK : w.heap.size ≤ K) : OwnFrom K (DI w p q d np N aq cq a1 c1 g7 g8 bq S) := by
  rintro s W W' row ⟨h1, h2, h3, h4, ⟨rs, h5, h6⟩, h7, h8⟩ hg hr
  have hr' := fun r e => (hr r e).2
  exact ⟨h1.turned hg hr', h2.turned hg hr', h3.turned hg hr', h4.turned hg hr', ⟨rs, h5.turned hg hr', fun j hj => (h6 j hj).turned hg hr'⟩, h7.grown hg h7.size (fun g e => Nat.le_trans hK (hr g e).1), Nat.lt_of_lt_of_le h8 hg.size⟩
theorem res_ttt {fn : Func} {t t' t'' : Tmp} {tmps : Array Value} {w : World} {u u' u'' : Value} (hf : fn.results = #[.tmp t, .tmp t', .tmp t'']) (hu : tmps.getD t undef = u) (hu' : tmps.getD t' undef = u') (hu'' : tmps.getD t'' undef = u'') : (results fn tmps).run Tryz.prog w = .ok (.tuple #[u, u', u'']) w := by
  simp only [Array.getD_eq_getD_getElem?] at hu hu' hu''
  simp [results, hf, Sem.run_bind, hu, hu', hu'']

set_option maxHeartbeats 8000000 in
theorem pdiv_p {w : World} {v u : Value} {lp lq : List Rat} {m n : Nat} (h : PN w v lp) (h' : PN w u lq) (hs : Sml lp m) (hs' : Sml lq n) (hne : trimQ lq ≠ []) (hm : (m + 2 * n + 1) * 2 ^ (lp.length + 1) ≤ 68719476736) (hl : lp.length ≤ 1000) (hl' : lq.length ≤ 1000000) :
    Calls Tryz.prog 51 #[v, u] w fun e w' => ∃ v' u' k r, e = .returned (.tuple #[v', u', .nilIface]) ∧ PN w' v' k ∧ PN w' u' r ∧ Trm k ∧ Trm r ∧ r.length < (trimQ lq).length ∧ k.length ≤ lp.length ∧ (∀ x, pv lp x = pv k x * pv lq x + pv r x) ∧ Sml k ((m + 2 * n + 1) * 2 ^ lp.length + n) ∧ Sml r ((m + 2 * n + 1) * 2 ^ lp.length) ∧ Below w.heap.size w w' := by
  refine (callsIn_wide (n := 10)).1 ?_
  obtain ⟨a, c, rfl, hn, hc⟩ := h.opened
  obtain ⟨aq, cq, rfl, hnq, hcq⟩ := h'.opened
  have HPQ := hid h'.trim
  have SQ := hid hs'.trim
  have HT0 := hid (show Trm (trimQ lq) from trm_trim lq)
  obtain ⟨d, hd⟩ : ∃ d, (trimQ lq).length = d + 1 := ⟨(trimQ lq).length - 1, by have := List.length_pos_iff.2 hne; omega⟩
  obtain ⟨np, hNP⟩ : ∃ np, lp.length = np := ⟨_, rfl⟩
  obtain ⟨nq, hNQ⟩ : ∃ nq, lq.length = nq := ⟨_, rfl⟩
  have HD := hid hd
  have HNP := hid hNP
  have HPV := hid (pv_trim lq)
  have H0 := hid (show co (trimQ lq) d ≠ 0 by have := trm_last HT0.out hne; rwa [hd] at this)
  have HP := hid h
  have HU := hid h'
  rw [hNP] at hn hm hl HP ⊢
  rw [hNQ] at hnq hl' HU ⊢
  rw [hd] at HPQ
  have SL := hid hs
  have HM := hid hm
  have hdq : d + 1 ≤ nq := by have := trim_len lq; omega
  obtain ⟨N, hN⟩ : ∃ N, N = np - d := ⟨_, rfl⟩
  have HN := hid hN
  have HC := hid hc
  have HNC := hid hn
  have HTR : ∀ w' : World, PN w' (.slice aq nq cq) lq → Calls Tryz.prog 55 #[.slice aq nq cq] w' fun e w'' => e = .returned (.slice aq (d + 1) cq) ∧ Below w'.heap.size w' w'' := fun w' h => by have := trim_pn h; rwa [HD.out] at this
  have HTR := hid HTR
  have B := hid (Below.refl w.heap.size w)
  obtain ⟨hb1, hx2, hs3⟩ := Sbx.made w aq nq cq
  replace HP := pno HP hb1
  replace HU := pno HU hb1
  replace B := bb B hb1
  have X3 := hid hx2
  clear hb1 hx2
  have LW := hid X3.out.lt
  clear h h' hs hs' hm hd hNP hNQ hne hN hs3
  unfold maxLen at hc hcq
  refine callsIn_of_wp_marks Tryz.func51 rfl trivial ?_ rfl
  simp only [Tryz.ntmps51, List.size_toArray, List.length_cons, List.length_nil, Nat.reduceAdd, Nat.reduceSub, Array.replicate_succ, Array.replicate_zero, List.push_toArray, List.append_toArray, List.nil_append, List.cons_append]
  refine wpIn_wide.2 ?_
  have cc4 := X3.out.cells
  go_wp2_with fail
  generalize hW : w.alloc (.cells #[.slice aq nq cq] 61) = W5 at *
  clear hW
  refine (HTR.out _ HU.out).mono ?_
  rintro e w6 ⟨rfl, hb⟩
  replace X3 := sx X3 hb
  replace HP := pno HP hb
  replace HU := pno HU hb
  replace B := bb B hb
  clear cc4
  clear hb 
  have LW0 := hid (Nat.le_refl w.heap.size)
  have cc7 := X3.out.stores
  obtain ⟨r8a, r8b, r8c⟩ := X3.out.last B.out (by have := LW0.out; omega) aq (d + 1) cq
  replace HP := hid (HP.out.sbx X3.out aq (d + 1) cq)
  replace HU := hid (HU.out.sbx X3.out aq (d + 1) cq)
  replace X3 := hid r8a
  replace B := hid r8b
  clear r8a r8b r8c
  have cc9 := X3.out.cells
  have hz0 : ¬ ((d : Int) + 1 = 0) := by omega
  go_wp2_with fail
  generalize hW : w6.setCell ⟨w.heap.size, 0, none⟩ (.slice aq (d + 1) cq) = W10 at *
  clear hW
  have LK := hid (show w.heap.size + 1 ≤ W10.heap.size from X3.out.lt)
  refine (nclone HP.out (by rw [HNP.out]; omega)).mono ?_
  rintro e w11 ⟨v1, rfl, ho, hb⟩
  obtain ⟨a1, c1, rfl, hc1, hc1m, hrest⟩ := ho.rest HNP.out
  replace X3 := sx X3 hb
  replace HP := pno HP hb
  replace HU := pno HU hb
  replace B := bb B hb
  clear cc7 cc9
  clear hb ho
  have HC1 := hid hc1m
  unfold maxLen at hc1m
  have HR : Hid (RestOk (w.heap.size + 1) w11.heap.size w11 a1 np (co lp)) := hid (by rcases hrest with h | ⟨b0, rs, h1, h2, h3⟩; exact .inl h; exact .inr ⟨b0, rs, h1, Nat.le_trans LK.out h2, h3⟩)
  clear hrest
  obtain ⟨g7, hg7⟩ : ∃ g7, g7 = w11.heap.size := ⟨_, rfl⟩
  rw [← hg7] at HR
  have L7 := hid (show w.heap.size < g7 by have := X3.out.lt; omega)
  obtain ⟨hb12, hx13, hs14⟩ := Sbx.made w11 a1 np c1
  have L1 := hid X3.out.lt
  replace X3 := sx X3 hb12
  replace HP := pno HP hb12
  replace HU := pno HU hb12
  replace B := bb B hb12
  replace HR := hid (HR.out.on hb12)
  have X7 := hid hx13
  clear hb12 hx13
  rw [← hg7] at X7
  have LS7 := hid (show (w11.alloc (.cells #[.slice a1 np c1] 61)).heap.size = g7 + 1 by rw [hg7]; exact hs14)
  have cc15 := X3.out.cells
  have cc16 := X7.out.cells
  have hx1 : IntKind.i64.wrap ((np : Int) - ((d : Int) + 1)) = (np : Int) - ((d : Int) + 1) := IntWalk.i64_in _ (by omega)
  have hx2 : IntKind.i64.wrap ((np : Int) - ((d : Int) + 1) + 1) = (np : Int) - ((d : Int) + 1) + 1 := IntWalk.i64_in _ (by omega)
  have hx3 : max ((np : Int) - ((d : Int) + 1) + 1) 0 = (N : Int) := by have := HN.out; omega
  have hNnp : N ≤ np := by have := HN.out; omega
  go_wp2_with (refine wpList_make_ns _ rfl _ _ _ rfl Tryz.underlying61 N rfl rfl (by omega) ?_)
  intro w0 hrow hbm hsm
  clear hx1 hx2 hx3 hz0 cc15 cc16
  replace hbm : Below (w11.alloc (.cells #[.slice a1 np c1] 61)).heap.size (w11.alloc (.cells #[.slice a1 np c1] 61)) w0 := by first | exact hbm | (rw [LS7.out, hg7]; exact hbm)
  rw [← hg7] at hrow hsm ⊢
  replace X3 := sx X3 hbm
  replace X7 := sx X7 hbm
  replace HP := pno HP hbm
  replace HU := pno HU hbm
  replace B := bb B hbm
  replace HR := hid (HR.out.on hbm)
  clear hg7 hbm
  obtain ⟨bq, hbq⟩ : ∃ bq, bq = g7 + 1 := ⟨_, rfl⟩
  rw [← hbq] at hrow ⊢
  have L8 := hid (show g7 < bq by omega)
  have QR := hid hrow
  have HQ0 : Hid (∀ t, t < N → NF w0 (nag Nz) ((fun _ => 0 : Nat → Rat) t)) := hid (fun t ht => NF.zero w0)
  obtain ⟨g8, hg8⟩ : ∃ g8, g8 = w0.heap.size := ⟨_, rfl⟩
  have L9 := hid (show bq < g8 by omega)
  clear hrow hbq hsm
  obtain ⟨hb17, hx18, hs19⟩ := Sbx.made w0 (some ⟨bq, 0, none⟩) N N
  have L2 := hid X7.out.lt
  replace X3 := sx X3 hb17
  replace X7 := sx X7 hb17
  replace QR := rwo QR hb17
  replace HQ0 := hid (fun q_ hq_ => (HQ0.out q_ hq_).on hb17)
  replace HP := pno HP hb17
  replace HU := pno HU hb17
  replace B := bb B hb17
  replace HR := hid (HR.out.on hb17)
  have X8 := hid hx18
  clear hb17 hx18
  rw [← hg8] at X8 hs19
  have hS8 := hs19
  have cc20 := X3.out.cells
  have cc21 := X7.out.cells
  have cc22 := X8.out.cells
  go_wp2_with fail
  rw [← hg8]
  clear hg8 cc20 cc21 cc22
  generalize hW8 : w0.alloc (.cells #[.slice (some ⟨bq, 0, none⟩) N N] 61) = W8 at *
  clear hW8
  refine (callsIn_wide.1 (pbk_in Fence.wide 10 trivial rfl _ _ _ _)).mono ?_
  rintro e w' ⟨rfl, rfl⟩
  have hbS := (Below.refl _ _).alloc (Nat.le_refl W8.heap.size) (.cells #[.slice (some ⟨bq, 0, none⟩) N N] 61)
  have cS : (W8.alloc (.cells #[.slice (some ⟨bq, 0, none⟩) N N] 61)).cell? ⟨g8 + 1, 0, none⟩ = some (.slice (some ⟨bq, 0, none⟩) N N) := by rw [← hS8]; simp
  replace X3 := sx X3 hbS
  replace X7 := sx X7 hbS
  replace X8 := sx X8 hbS
  replace QR := rwo QR hbS
  replace HQ0 := hid (fun q_ hq_ => (HQ0.out q_ hq_).on hbS)
  replace HP := pno HP hbS
  replace HU := pno HU hbS
  replace B := bb B hbS
  replace HR := hid (HR.out.on hbS)
  have hS9 : (W8.alloc (.cells #[.slice (some ⟨bq, 0, none⟩) N N] 61)).heap.size = g8 + 1 + 1 := by simp [hS8]
  rw [hS8]
  clear hbS
  generalize hW9 : W8.alloc (.cells #[.slice (some ⟨bq, 0, none⟩) N N] 61) = W0 at *
  clear hW9
  go_wp2_with fail
  refine (wpIn_wide (n := 10)).1 ?_
  have hsz := B.out.size
  have hI0 : DI w lp (trimQ lq) d np N aq cq a1 c1 g7 g8 bq (g8 + 1) [] W0 := ⟨X3.out, X7.out, X8.out, HR.out, ⟨_, QR.out, HQ0.out⟩, B.out, by omega⟩
  have hgrow : ∀ {W W' : World}, Below W.heap.size W W' → KD w.heap.size (g8 + 1) bq N W0 W → KD w.heap.size (g8 + 1) bq N W0 W := fun _ h => h
  have l7 := L7.out
  have l8 := L8.out
  have l9 := L9.out
  have hget : ∀ W', KD w.heap.size (g8 + 1) bq N W0 W' → ∀ i, i < N → ∃ x : {x : Nat × Nr // x.1 < N}, x.1.1 = i ∧ ∃ b, some (⟨bq, 0, none⟩ : Addr) = some ⟨b, 0, none⟩ ∧ At4 W' b (i * 4) x.1.2 := fun W' h i hi => by
    obtain ⟨rs, hr⟩ := h.2.2 ⟨_, QR.out⟩
    exact ⟨⟨(i, rs i), hi⟩, rfl, bq, rfl, hr.at hi⟩
  have hqr := QR.out.lt
  have hKB : ∀ W, Below W0.heap.size W0 W → KD w.heap.size (g8 + 1) bq N W0 W := fun W hW => ⟨hW.mono hsz, hW.block _ (by omega), fun ⟨rs, h⟩ => ⟨rs, h.on hW⟩⟩
  clear X3 X7 X8 HR QR HQ0 HP HU hgrow
  refine wpIn_rangeFunc_ownH (F := Fence.wide) rfl (by decide) (gf := 84) (lb := #[.pointer (some ⟨g8 + 1, 0, none⟩)]) rfl trivial (enters_of Tryz.func84 (by kernel_rfl) rfl)
    (pbk_stops Fence.wide (10 - 1) trivial rfl (by decide) (fun x : {x : Nat × Nr // x.1 < N} => x.1.1) (fun x => x.1.2) (g8 + 1) N N (some ⟨bq, 0, none⟩) (by omega) (KD w.heap.size (g8 + 1) bq N) (KD.refl _ _ _ _) (fun h h' => h.trans h') W0 hKB (fun W' h => (World.cell?_of_block h.2.1).trans cS) hget)
    (fun h h' => h.trans h') (fun W l o o' h1 h2 h3 h4 => ⟨belowK_b hsz W l o o' h1 h2 h3 h4, World.putObj_heap_other (fun e => by omega), fun ⟨rs, h⟩ => ⟨rs, h.kept (World.putObj_heap_other (fun e => by omega))⟩⟩) (Below.refl _ _) (fun _ => rfl)
    (DI w lp (trimQ lq) d np N aq cq a1 c1 g7 g8 bq (g8 + 1)) (fun _ _ _ => False) (DI.own hsz) (fun _ _ _ _ _ hs _ _ => hs) hI0
    (fun x a' W => a' = { tmps := #[Value.slice a np c, Value.slice aq nq cq, undef, Value.pointer (some ⟨w.heap.size, 0, none⟩), Value.slice none 0 0, Value.slice none 0 0, Value.nilIface, Value.pointer (some ⟨g7, 0, none⟩), Value.pointer (some ⟨g8, 0, none⟩), Value.int IntKind.i64 (x.1.1 : Int), Value.slice aq nq cq, Value.slice aq (d + 1) cq, Value.slice aq (d + 1) cq, Value.int IntKind.i64 ((d : Int) + 1), Value.bool false, undef, Value.slice a np c, Value.slice a1 np c1, Value.slice a np c, Value.int IntKind.i64 (np : Int), Value.slice aq (d + 1) cq, Value.int IntKind.i64 ((d : Int) + 1), Value.int IntKind.i64 ((np : Int) - ((d : Int) + 1)), Value.int IntKind.i64 ((np : Int) - ((d : Int) + 1) + 1), Value.int IntKind.i64 (N : Int), Value.slice (some ⟨bq, 0, none⟩) N N, Value.slice (some ⟨bq, 0, none⟩) N N, Value.func (Fn.func 84) #[] #[Value.pointer (some ⟨g8 + 1, 0, none⟩)], Value.int IntKind.i64 (x.1.1 : Int), (.agg #[.bool x.1.2.1.1, .slice x.1.2.1.2.1 x.1.2.1.2.2.1 x.1.2.1.2.2.2, .bool x.1.2.2.1, .slice x.1.2.2.2.1 x.1.2.2.2.2.1 x.1.2.2.2.2.2]), undef, undef, undef, undef, undef, undef, undef, undef, undef, undef, undef, undef, undef, undef, undef, undef], defers := [] })
    (fun x a' _ X Y row hs hg hr => hs)
    ?assign ?body ?done ?stop
  case assign =>
    intro l pre x W K hi hK
    simp only [nag] at hK ⊢
    gi_wp2
    exact hK _ _ ((KeepsOthers.refl _).from _) (KD.refl _ _ _ _ _) hi rfl
  case body =>
    rintro l pre ⟨⟨i, r⟩, hiN⟩ a' W hl_ _ hi rfl hlt
    simp only [] at hiN
    obtain ⟨hx3, hx7, hx8, hrest, ⟨rq, hrq, hqw⟩, hBw, hs1⟩ := hi
    have hnp0 : np ≠ 0 := by omega
    obtain ⟨b0, rs, rfl, hk0, hu0, hr0, hw0⟩ := hrest.resolve_left hnp0
    have X3 := hid hx3
    have X7 := hid hx7
    have X8 := hid hx8
    have ROW := hid hr0
    have HW := hid hw0
    have QR := hid hrq
    have QW := hid hqw
    have B := hid hBw
    have HS1 := hid hs1
    have HND : N + d = np := by have := HN.out; omega
    have LK0 := hid hk0
    have LU0 := hid hu0
    have HPL := hid (show (pre.map (fun x : {x : Nat × Nr // x.1 < N} => x.1.1)).length = pre.length from List.length_map _)
    have SR := hid (show ∀ j, Sm ((dvf lp (trimQ lq) d (pre.map (·.1.1))).1 j) ((m + 2 * n + 1) * 2 ^ pre.length - (2 * n + 1)) by
      intro j
      have := Sml.dvf (d := d) SL.out SQ.out (pre.map (·.1.1)) (co lp, fun _ => 0) 0 (fun j => (SL.out.2 j).mono (by omega)) j
      rw [HPL.out, Nat.zero_add] at this
      exact this)
    have HB1 := hid (show ((m + 2 * n + 1) * 2 ^ pre.length - (2 * n + 1)) + ((m + 2 * n + 1) * 2 ^ pre.length - (2 * n + 1)) + n + n + 2 ≤ 68719476736 by
      have h1 : 2 ^ pre.length ≤ 2 ^ np := Nat.pow_le_pow_right (by omega) (by omega)
      have h2 := Nat.mul_le_mul_left (m + 2 * n + 1) h1
      have h3 := HM.out
      rw [Nat.pow_succ, ← Nat.mul_assoc] at h3
      have h4 : 1 ≤ 2 ^ pre.length := Nat.one_le_two_pow
      have h5 := Nat.mul_le_mul_left (m + 2 * n + 1) h4
      omega)
    have HE := hid (dvf_snoc lp (trimQ lq) d (pre.map (·.1.1)) i)
    have hidn : i + (d + 1) ≤ np := by omega
    clear hx3 hx7 hx8 hrest hrq hqw hBw hs1 hk0 hu0 hr0 hw0 hI0 cS hget hKB hlt hqr
    generalize dvf lp (trimQ lq) d (pre.map (·.1.1)) = st at *
    generalize (m + 2 * n + 1) * 2 ^ pre.length - (2 * n + 1) = M at *
    obtain ⟨R, Q⟩ := st
    simp only [] at HW QW SR HE
    obtain ⟨ff, hff⟩ : ∃ ff, R (i + d) / co (trimQ lq) d = ff := ⟨_, rfl⟩
    have HFF := hid hff
    clear hff
    gi_wp2
    refine region_ops_in (by kernel_rfl) (by kernel_rfl) (by kernel_rfl) (fun a f a' w' => ∃ u30 u31 u32 u33 u34 u35 u36 u37 u38 u39 u40 u41 : Value, a' = { tmps := ((((((((((((a.tmps.setIfInBounds 30 u30).setIfInBounds 31 u31).setIfInBounds 32 u32).setIfInBounds 33 u33).setIfInBounds 34 u34).setIfInBounds 35 u35).setIfInBounds 36 u36).setIfInBounds 37 u37).setIfInBounds 38 u38).setIfInBounds 39 u39).setIfInBounds 40 u40).setIfInBounds 41 u41), defers := a.defers } ∧ Hid (W.grownBy w' (some b0) ∨ f 12 = true) ∧ Hid (f 0 = true → u30 = .slice (some ⟨bq, 0, none⟩) N N) ∧ Hid (f 1 = true → u31 = .int .i64 (i : Int)) ∧ Hid (f 2 = true → u32 = .slice (some ⟨b0, 0, none⟩) np c1) ∧ Hid (f 3 = true → u33 = .int .i64 (i : Int)) ∧ Hid (f 4 = true → u34 = .int .i64 (i : Int)) ∧ Hid (f 5 = true → u35 = .slice aq (d + 1) cq) ∧ Hid (f 6 = true → u36 = .int .i64 ((d : Int) + 1)) ∧ Hid (f 7 = true → u37 = .int .i64 ((i : Int) + ((d : Int) + 1))) ∧ Hid (f 8 = true → u38 = .slice (some ⟨b0, i * 4, none⟩) (d + 1) (c1 - i)) ∧ Hid (f 9 = true → u39 = .slice aq (d + 1) cq) ∧ Hid (f 10 = true → (NF w' u40 ff ∧ ∃ rs, NRw w' b0 np rs ∧ ∀ j, j < np → NF w' (nag (rs j)) (offq R (trimQ lq) i ff (d + 1) j))) ∧ Hid (f 11 = true → u41 = .pointer (some ⟨bq, i * 4, none⟩)) ∧ Hid (f 12 = true → (Sbx w' w.heap.size aq (d + 1) cq ∧ Sbx w' g7 (some ⟨b0, 0, none⟩) np c1 ∧ Sbx w' g8 (some ⟨bq, 0, none⟩) N N ∧ RestOk (w.heap.size + 1) g7 w' (some ⟨b0, 0, none⟩) np (offq R (trimQ lq) i ff (d + 1)) ∧ (∃ rs, NRw w' bq N rs ∧ ∀ j, j < N → NF w' (nag (rs j)) (if j = i then ff else Q j)) ∧ Below w.heap.size w w' ∧ g8 + 1 < w'.heap.size ∧ KD w.heap.size (g8 + 1) bq N W w' ∧ KeepsOthers W w')) ∧ (f 12 = true → f 0 = true) ∧ (f 12 = true → f 1 = true) ∧ (f 12 = true → f 2 = true) ∧ (f 12 = true → f 3 = true) ∧ (f 12 = true → f 4 = true) ∧ (f 12 = true → f 5 = true) ∧ (f 12 = true → f 6 = true) ∧ (f 12 = true → f 7 = true) ∧ (f 12 = true → f 8 = true) ∧ (f 12 = true → f 9 = true) ∧ (f 12 = true → f 10 = true) ∧ (f 12 = true → f 11 = true) ∧ (f 10 = false → Hid (Below W.heap.size W w'))) ?h0 ⟨?s0, ?s1, ?s2, ?s3, ?s4, ?s5, ?s6, ?s7, ?s8, ?s9, ?s10, ?s11, ?s12, trivial⟩ ?hend
    case h0 =>
      simp only [List.setIfInBounds_toArray, List.set_cons_zero, List.set_cons_succ]
      exact ⟨_, _, _, _, _, _, _, _, _, _, _, _, rfl, hid (.inl ((gby_on (hid (gby_refl W (some b0))) (Below.drew (Below.refl _ _))).out)), hid (fun h => by cases h), hid (fun h => by cases h), hid (fun h => by cases h), hid (fun h => by cases h), hid (fun h => by cases h), hid (fun h => by cases h), hid (fun h => by cases h), hid (fun h => by cases h), hid (fun h => by cases h), hid (fun h => by cases h), hid (fun h => by cases h), hid (fun h => by cases h), hid (fun h => by cases h), fun h => h, fun h => h, fun h => h, fun h => h, fun h => h, fun h => h, fun h => h, fun h => h, fun h => h, fun h => h, fun h => h, fun h => h, fun _ => hid (Below.drew (Below.refl _ _))⟩
    case s0 =>
      rintro f a1 w1 ⟨u30, u31, u32, u33, u34, u35, u36, u37, u38, u39, u40, u41, rfl, HBW, h0, h1, h2, h3, h4, h5, h6, h7, h8, h9, h10, h11, h12, o12_0, o12_1, o12_2, o12_3, o12_4, o12_5, o12_6, o12_7, o12_8, o12_9, o12_10, o12_11, hb0⟩ hf hd K hK
      replace HBW := hid (HBW.out.resolve_right (fun e => absurd (o12_0 e) (by rw [hf]; decide)))
      simp only [List.setIfInBounds_toArray, List.set_cons_zero, List.set_cons_succ] at hK ⊢
      replace hK := hid hK
      have y1 := (X8.out.kept (gby_far HBW.out X8.out.lt (by have := LK0.out; have := LU0.out; omega))).cells
      go_simp
      exact hK.out _ _ ⟨_, _, _, _, _, _, _, _, _, _, _, _, rfl, hid (.inl (HBW).out), hid (fun h => rfl), hid (fun h => h1.out h), hid (fun h => h2.out h), hid (fun h => h3.out h), hid (fun h => h4.out h), hid (fun h => h5.out h), hid (fun h => h6.out h), hid (fun h => h7.out h), hid (fun h => h8.out h), hid (fun h => h9.out h), hid (fun h => h10.out h), hid (fun h => h11.out h), hid (fun h => absurd (o12_0 h) (by rw [hf]; decide)), fun _ => rfl, fun h => o12_1 h, fun h => o12_2 h, fun h => o12_3 h, fun h => o12_4 h, fun h => o12_5 h, fun h => o12_6 h, fun h => o12_7 h, fun h => o12_8 h, fun h => o12_9 h, fun h => o12_10 h, fun h => o12_11 h, fun h => hb0 h⟩
    case s1 =>
      rintro f a1 w1 ⟨u30, u31, u32, u33, u34, u35, u36, u37, u38, u39, u40, u41, rfl, HBW, h0, h1, h2, h3, h4, h5, h6, h7, h8, h9, h10, h11, h12, o12_0, o12_1, o12_2, o12_3, o12_4, o12_5, o12_6, o12_7, o12_8, o12_9, o12_10, o12_11, hb0⟩ hf hd K hK
      replace HBW := hid (HBW.out.resolve_right (fun e => absurd (o12_1 e) (by rw [hf]; decide)))
      simp only [List.setIfInBounds_toArray, List.set_cons_zero, List.set_cons_succ] at hK ⊢
      replace hK := hid hK
      go_simp
      exact hK.out _ _ ⟨_, _, _, _, _, _, _, _, _, _, _, _, rfl, hid (.inl (HBW).out), hid (fun h => h0.out h), hid (fun h => rfl), hid (fun h => h2.out h), hid (fun h => h3.out h), hid (fun h => h4.out h), hid (fun h => h5.out h), hid (fun h => h6.out h), hid (fun h => h7.out h), hid (fun h => h8.out h), hid (fun h => h9.out h), hid (fun h => h10.out h), hid (fun h => h11.out h), hid (fun h => absurd (o12_1 h) (by rw [hf]; decide)), fun h => o12_0 h, fun _ => rfl, fun h => o12_2 h, fun h => o12_3 h, fun h => o12_4 h, fun h => o12_5 h, fun h => o12_6 h, fun h => o12_7 h, fun h => o12_8 h, fun h => o12_9 h, fun h => o12_10 h, fun h => o12_11 h, fun h => hb0 h⟩
    case s2 =>
      rintro f a1 w1 ⟨u30, u31, u32, u33, u34, u35, u36, u37, u38, u39, u40, u41, rfl, HBW, h0, h1, h2, h3, h4, h5, h6, h7, h8, h9, h10, h11, h12, o12_0, o12_1, o12_2, o12_3, o12_4, o12_5, o12_6, o12_7, o12_8, o12_9, o12_10, o12_11, hb0⟩ hf hd K hK
      replace HBW := hid (HBW.out.resolve_right (fun e => absurd (o12_2 e) (by rw [hf]; decide)))
      simp only [List.setIfInBounds_toArray, List.set_cons_zero, List.set_cons_succ] at hK ⊢
      replace hK := hid hK
      have y1 := (X7.out.kept (gby_far HBW.out X7.out.lt (by have := LK0.out; have := LU0.out; omega))).cells
      go_simp
      exact hK.out _ _ ⟨_, _, _, _, _, _, _, _, _, _, _, _, rfl, hid (.inl (HBW).out), hid (fun h => h0.out h), hid (fun h => h1.out h), hid (fun h => rfl), hid (fun h => h3.out h), hid (fun h => h4.out h), hid (fun h => h5.out h), hid (fun h => h6.out h), hid (fun h => h7.out h), hid (fun h => h8.out h), hid (fun h => h9.out h), hid (fun h => h10.out h), hid (fun h => h11.out h), hid (fun h => absurd (o12_2 h) (by rw [hf]; decide)), fun h => o12_0 h, fun h => o12_1 h, fun _ => rfl, fun h => o12_3 h, fun h => o12_4 h, fun h => o12_5 h, fun h => o12_6 h, fun h => o12_7 h, fun h => o12_8 h, fun h => o12_9 h, fun h => o12_10 h, fun h => o12_11 h, fun h => hb0 h⟩
    case s3 =>
      rintro f a1 w1 ⟨u30, u31, u32, u33, u34, u35, u36, u37, u38, u39, u40, u41, rfl, HBW, h0, h1, h2, h3, h4, h5, h6, h7, h8, h9, h10, h11, h12, o12_0, o12_1, o12_2, o12_3, o12_4, o12_5, o12_6, o12_7, o12_8, o12_9, o12_10, o12_11, hb0⟩ hf hd K hK
      replace HBW := hid (HBW.out.resolve_right (fun e => absurd (o12_3 e) (by rw [hf]; decide)))
      simp only [List.setIfInBounds_toArray, List.set_cons_zero, List.set_cons_succ] at hK ⊢
      replace hK := hid hK
      go_simp
      exact hK.out _ _ ⟨_, _, _, _, _, _, _, _, _, _, _, _, rfl, hid (.inl (HBW).out), hid (fun h => h0.out h), hid (fun h => h1.out h), hid (fun h => h2.out h), hid (fun h => rfl), hid (fun h => h4.out h), hid (fun h => h5.out h), hid (fun h => h6.out h), hid (fun h => h7.out h), hid (fun h => h8.out h), hid (fun h => h9.out h), hid (fun h => h10.out h), hid (fun h => h11.out h), hid (fun h => absurd (o12_3 h) (by rw [hf]; decide)), fun h => o12_0 h, fun h => o12_1 h, fun h => o12_2 h, fun _ => rfl, fun h => o12_4 h, fun h => o12_5 h, fun h => o12_6 h, fun h => o12_7 h, fun h => o12_8 h, fun h => o12_9 h, fun h => o12_10 h, fun h => o12_11 h, fun h => hb0 h⟩
    case s4 =>
      rintro f a1 w1 ⟨u30, u31, u32, u33, u34, u35, u36, u37, u38, u39, u40, u41, rfl, HBW, h0, h1, h2, h3, h4, h5, h6, h7, h8, h9, h10, h11, h12, o12_0, o12_1, o12_2, o12_3, o12_4, o12_5, o12_6, o12_7, o12_8, o12_9, o12_10, o12_11, hb0⟩ hf hd K hK
      replace HBW := hid (HBW.out.resolve_right (fun e => absurd (o12_4 e) (by rw [hf]; decide)))
      simp only [List.setIfInBounds_toArray, List.set_cons_zero, List.set_cons_succ] at hK ⊢
      replace hK := hid hK
      go_simp
      exact hK.out _ _ ⟨_, _, _, _, _, _, _, _, _, _, _, _, rfl, hid (.inl (HBW).out), hid (fun h => h0.out h), hid (fun h => h1.out h), hid (fun h => h2.out h), hid (fun h => h3.out h), hid (fun h => rfl), hid (fun h => h5.out h), hid (fun h => h6.out h), hid (fun h => h7.out h), hid (fun h => h8.out h), hid (fun h => h9.out h), hid (fun h => h10.out h), hid (fun h => h11.out h), hid (fun h => absurd (o12_4 h) (by rw [hf]; decide)), fun h => o12_0 h, fun h => o12_1 h, fun h => o12_2 h, fun h => o12_3 h, fun _ => rfl, fun h => o12_5 h, fun h => o12_6 h, fun h => o12_7 h, fun h => o12_8 h, fun h => o12_9 h, fun h => o12_10 h, fun h => o12_11 h, fun h => hb0 h⟩
    case s5 =>
      rintro f a1 w1 ⟨u30, u31, u32, u33, u34, u35, u36, u37, u38, u39, u40, u41, rfl, HBW, h0, h1, h2, h3, h4, h5, h6, h7, h8, h9, h10, h11, h12, o12_0, o12_1, o12_2, o12_3, o12_4, o12_5, o12_6, o12_7, o12_8, o12_9, o12_10, o12_11, hb0⟩ hf hd K hK
      replace HBW := hid (HBW.out.resolve_right (fun e => absurd (o12_5 e) (by rw [hf]; decide)))
      simp only [List.setIfInBounds_toArray, List.set_cons_zero, List.set_cons_succ] at hK ⊢
      replace hK := hid hK
      have y1 := (X3.out.kept (gby_far HBW.out X3.out.lt (by have := LK0.out; have := LU0.out; omega))).cells
      go_simp
      exact hK.out _ _ ⟨_, _, _, _, _, _, _, _, _, _, _, _, rfl, hid (.inl (HBW).out), hid (fun h => h0.out h), hid (fun h => h1.out h), hid (fun h => h2.out h), hid (fun h => h3.out h), hid (fun h => h4.out h), hid (fun h => rfl), hid (fun h => h6.out h), hid (fun h => h7.out h), hid (fun h => h8.out h), hid (fun h => h9.out h), hid (fun h => h10.out h), hid (fun h => h11.out h), hid (fun h => absurd (o12_5 h) (by rw [hf]; decide)), fun h => o12_0 h, fun h => o12_1 h, fun h => o12_2 h, fun h => o12_3 h, fun h => o12_4 h, fun _ => rfl, fun h => o12_6 h, fun h => o12_7 h, fun h => o12_8 h, fun h => o12_9 h, fun h => o12_10 h, fun h => o12_11 h, fun h => hb0 h⟩
    case s6 =>
      rintro f a1 w1 ⟨u30, u31, u32, u33, u34, u35, u36, u37, u38, u39, u40, u41, rfl, HBW, h0, h1, h2, h3, h4, h5, h6, h7, h8, h9, h10, h11, h12, o12_0, o12_1, o12_2, o12_3, o12_4, o12_5, o12_6, o12_7, o12_8, o12_9, o12_10, o12_11, hb0⟩ hf hd K hK
      replace HBW := hid (HBW.out.resolve_right (fun e => absurd (o12_6 e) (by rw [hf]; decide)))
      simp only [List.setIfInBounds_toArray, List.set_cons_zero, List.set_cons_succ] at hK ⊢
      replace hK := hid hK
      simp [Region.binds] at hd
      obtain rfl := h5.out (by simp only [hd])
      go_simp
      exact hK.out _ _ ⟨_, _, _, _, _, _, _, _, _, _, _, _, rfl, hid (.inl (HBW).out), hid (fun h => h0.out h), hid (fun h => h1.out h), hid (fun h => h2.out h), hid (fun h => h3.out h), hid (fun h => h4.out h), hid (fun h => rfl), hid (fun h => rfl), hid (fun h => h7.out h), hid (fun h => h8.out h), hid (fun h => h9.out h), hid (fun h => h10.out h), hid (fun h => h11.out h), hid (fun h => absurd (o12_6 h) (by rw [hf]; decide)), fun h => o12_0 h, fun h => o12_1 h, fun h => o12_2 h, fun h => o12_3 h, fun h => o12_4 h, fun h => o12_5 h, fun _ => rfl, fun h => o12_7 h, fun h => o12_8 h, fun h => o12_9 h, fun h => o12_10 h, fun h => o12_11 h, fun h => hb0 h⟩
    case s7 =>
      rintro f a1 w1 ⟨u30, u31, u32, u33, u34, u35, u36, u37, u38, u39, u40, u41, rfl, HBW, h0, h1, h2, h3, h4, h5, h6, h7, h8, h9, h10, h11, h12, o12_0, o12_1, o12_2, o12_3, o12_4, o12_5, o12_6, o12_7, o12_8, o12_9, o12_10, o12_11, hb0⟩ hf hd K hK
      replace HBW := hid (HBW.out.resolve_right (fun e => absurd (o12_7 e) (by rw [hf]; decide)))
      simp only [List.setIfInBounds_toArray, List.set_cons_zero, List.set_cons_succ] at hK ⊢
      replace hK := hid hK
      simp [Region.binds] at hd
      obtain rfl := h4.out (by simp only [hd])
      obtain rfl := h6.out (by simp only [hd])
      have hx1 : IntKind.i64.wrap ((i : Int) + ((d : Int) + 1)) = (i : Int) + ((d : Int) + 1) := IntWalk.i64_in _ (by omega)
      go_simp
      exact hK.out _ _ ⟨_, _, _, _, _, _, _, _, _, _, _, _, rfl, hid (.inl (HBW).out), hid (fun h => h0.out h), hid (fun h => h1.out h), hid (fun h => h2.out h), hid (fun h => h3.out h), hid (fun h => rfl), hid (fun h => h5.out h), hid (fun h => rfl), hid (fun h => rfl), hid (fun h => h8.out h), hid (fun h => h9.out h), hid (fun h => h10.out h), hid (fun h => h11.out h), hid (fun h => absurd (o12_7 h) (by rw [hf]; decide)), fun h => o12_0 h, fun h => o12_1 h, fun h => o12_2 h, fun h => o12_3 h, fun h => o12_4 h, fun h => o12_5 h, fun h => o12_6 h, fun _ => rfl, fun h => o12_8 h, fun h => o12_9 h, fun h => o12_10 h, fun h => o12_11 h, fun h => hb0 h⟩
    case s8 =>
      rintro f a1 w1 ⟨u30, u31, u32, u33, u34, u35, u36, u37, u38, u39, u40, u41, rfl, HBW, h0, h1, h2, h3, h4, h5, h6, h7, h8, h9, h10, h11, h12, o12_0, o12_1, o12_2, o12_3, o12_4, o12_5, o12_6, o12_7, o12_8, o12_9, o12_10, o12_11, hb0⟩ hf hd K hK
      replace HBW := hid (HBW.out.resolve_right (fun e => absurd (o12_8 e) (by rw [hf]; decide)))
      simp only [List.setIfInBounds_toArray, List.set_cons_zero, List.set_cons_succ] at hK ⊢
      replace hK := hid hK
      simp [Region.binds] at hd
      obtain rfl := h2.out (by simp only [hd])
      obtain rfl := h3.out (by simp only [hd])
      obtain rfl := h7.out (by simp only [hd])
      have hx2 : (i : Int) + ((d : Int) + 1) ≤ (c1 : Int) := by omega
      have hx3 : ((i : Int) + ((d : Int) + 1)).toNat = i + (d + 1) := by omega
      have hx4 : (i : Int) ≤ (i : Int) + ((d : Int) + 1) := by omega
      have hx5 : i + (d + 1) - i = d + 1 := by omega
      have hx6 : ¬ (c1 = i) := by omega
      have hx7 : (0 : Int) ≤ (i : Int) + ((d : Int) + 1) := by omega
      go_simp
      exact hK.out _ _ ⟨_, _, _, _, _, _, _, _, _, _, _, _, rfl, hid (.inl (HBW).out), hid (fun h => h0.out h), hid (fun h => h1.out h), hid (fun h => rfl), hid (fun h => rfl), hid (fun h => h4.out h), hid (fun h => h5.out h), hid (fun h => h6.out h), hid (fun h => rfl), hid (fun h => rfl), hid (fun h => h9.out h), hid (fun h => h10.out h), hid (fun h => h11.out h), hid (fun h => absurd (o12_8 h) (by rw [hf]; decide)), fun h => o12_0 h, fun h => o12_1 h, fun h => o12_2 h, fun h => o12_3 h, fun h => o12_4 h, fun h => o12_5 h, fun h => o12_6 h, fun h => o12_7 h, fun _ => rfl, fun h => o12_9 h, fun h => o12_10 h, fun h => o12_11 h, fun h => hb0 h⟩
    case s9 =>
      rintro f a1 w1 ⟨u30, u31, u32, u33, u34, u35, u36, u37, u38, u39, u40, u41, rfl, HBW, h0, h1, h2, h3, h4, h5, h6, h7, h8, h9, h10, h11, h12, o12_0, o12_1, o12_2, o12_3, o12_4, o12_5, o12_6, o12_7, o12_8, o12_9, o12_10, o12_11, hb0⟩ hf hd K hK
      replace HBW := hid (HBW.out.resolve_right (fun e => absurd (o12_9 e) (by rw [hf]; decide)))
      simp only [List.setIfInBounds_toArray, List.set_cons_zero, List.set_cons_succ] at hK ⊢
      replace hK := hid hK
      have y1 := (X3.out.kept (gby_far HBW.out X3.out.lt (by have := LK0.out; have := LU0.out; omega))).cells
      go_simp
      exact hK.out _ _ ⟨_, _, _, _, _, _, _, _, _, _, _, _, rfl, hid (.inl (HBW).out), hid (fun h => h0.out h), hid (fun h => h1.out h), hid (fun h => h2.out h), hid (fun h => h3.out h), hid (fun h => h4.out h), hid (fun h => h5.out h), hid (fun h => h6.out h), hid (fun h => h7.out h), hid (fun h => h8.out h), hid (fun h => rfl), hid (fun h => h10.out h), hid (fun h => h11.out h), hid (fun h => absurd (o12_9 h) (by rw [hf]; decide)), fun h => o12_0 h, fun h => o12_1 h, fun h => o12_2 h, fun h => o12_3 h, fun h => o12_4 h, fun h => o12_5 h, fun h => o12_6 h, fun h => o12_7 h, fun h => o12_8 h, fun _ => rfl, fun h => o12_10 h, fun h => o12_11 h, fun h => hb0 h⟩
    case s10 =>
      rintro f a1 w1 ⟨u30, u31, u32, u33, u34, u35, u36, u37, u38, u39, u40, u41, rfl, HBW, h0, h1, h2, h3, h4, h5, h6, h7, h8, h9, h10, h11, h12, o12_0, o12_1, o12_2, o12_3, o12_4, o12_5, o12_6, o12_7, o12_8, o12_9, o12_10, o12_11, hb0⟩ hf hd K hK
      replace HBW := hid (HBW.out.resolve_right (fun e => absurd (o12_10 e) (by rw [hf]; decide)))
      simp only [List.setIfInBounds_toArray, List.set_cons_zero, List.set_cons_succ] at hK ⊢
      replace hK := hid hK
      simp [Region.binds] at hd
      obtain rfl := h8.out (by simp only [hd])
      obtain rfl := h9.out (by simp only [hd])
      have hb := (hb0 hf).out
      have hwb := B.out.trans (hb.mono B.out.size)
      go_simp
      refine (takeoff_p (i := i) HPQ.out hwb (by have := LK0.out; omega) (ROW.out.on hb) (fun j hj => (HW.out j hj).on hb) hidn HD.out H0.out SR.out SQ.out HB1.out (by omega) (show d + 1 ≤ c1 - i by omega) (by have := HC1.out; omega) HFF.out).mono ?_
      rintro e w2 ⟨v, rs', rfl, hv, hr2, hw2, hg⟩
      go_wp2_with fail
      exact hK.out _ _ ⟨_, _, _, _, _, _, _, _, _, _, _, _, rfl, hid (.inl (hid (gby_tr HBW.out hg)).out), hid (fun h => h0.out h), hid (fun h => h1.out h), hid (fun h => h2.out h), hid (fun h => h3.out h), hid (fun h => h4.out h), hid (fun h => h5.out h), hid (fun h => h6.out h), hid (fun h => h7.out h), hid (fun h => rfl), hid (fun h => rfl), hid (fun h => ⟨hv, rs', hr2, hw2⟩), hid (fun h => h11.out h), hid (fun h => absurd (o12_10 h) (by rw [hf]; decide)), fun h => o12_0 h, fun h => o12_1 h, fun h => o12_2 h, fun h => o12_3 h, fun h => o12_4 h, fun h => o12_5 h, fun h => o12_6 h, fun h => o12_7 h, fun h => o12_8 h, fun h => o12_9 h, fun _ => rfl, fun h => o12_11 h, fun h => by simp [more] at h⟩
    case s11 =>
      rintro f a1 w1 ⟨u30, u31, u32, u33, u34, u35, u36, u37, u38, u39, u40, u41, rfl, HBW, h0, h1, h2, h3, h4, h5, h6, h7, h8, h9, h10, h11, h12, o12_0, o12_1, o12_2, o12_3, o12_4, o12_5, o12_6, o12_7, o12_8, o12_9, o12_10, o12_11, hb0⟩ hf hd K hK
      replace HBW := hid (HBW.out.resolve_right (fun e => absurd (o12_11 e) (by rw [hf]; decide)))
      simp only [List.setIfInBounds_toArray, List.set_cons_zero, List.set_cons_succ] at hK ⊢
      replace hK := hid hK
      simp [Region.binds] at hd
      obtain rfl := h0.out (by simp only [hd])
      obtain rfl := h1.out (by simp only [hd])
      have hx1 : (0 : Int) ≤ (i : Int) := by omega
      have hx2 : (i : Int) < (N : Int) := by omega
      go_simp
      exact hK.out _ _ ⟨_, _, _, _, _, _, _, _, _, _, _, _, rfl, hid (.inl (HBW).out), hid (fun h => rfl), hid (fun h => rfl), hid (fun h => h2.out h), hid (fun h => h3.out h), hid (fun h => h4.out h), hid (fun h => h5.out h), hid (fun h => h6.out h), hid (fun h => h7.out h), hid (fun h => h8.out h), hid (fun h => h9.out h), hid (fun h => h10.out h), hid (fun h => rfl), hid (fun h => absurd (o12_11 h) (by rw [hf]; decide)), fun h => o12_0 h, fun h => o12_1 h, fun h => o12_2 h, fun h => o12_3 h, fun h => o12_4 h, fun h => o12_5 h, fun h => o12_6 h, fun h => o12_7 h, fun h => o12_8 h, fun h => o12_9 h, fun h => o12_10 h, fun _ => rfl, fun h => hb0 h⟩
    case s12 =>
      rintro f a1 w1 ⟨u30, u31, u32, u33, u34, u35, u36, u37, u38, u39, u40, u41, rfl, HBW, h0, h1, h2, h3, h4, h5, h6, h7, h8, h9, h10, h11, h12, o12_0, o12_1, o12_2, o12_3, o12_4, o12_5, o12_6, o12_7, o12_8, o12_9, o12_10, o12_11, hb0⟩ hf hd K hK
      replace HBW := hid (HBW.out.resolve_right (fun e => by rw [hf] at e; cases e))
      simp only [List.setIfInBounds_toArray, List.set_cons_zero, List.set_cons_succ] at hK ⊢
      replace hK := hid hK
      simp [Region.binds] at hd
      have gg0 : f 0 = true := by simp only [hd]
      have gg1 : f 1 = true := by simp only [hd]
      have gg2 : f 2 = true := by simp only [hd]
      have gg3 : f 3 = true := by simp only [hd]
      have gg4 : f 4 = true := by simp only [hd]
      have gg5 : f 5 = true := by simp only [hd]
      have gg6 : f 6 = true := by simp only [hd]
      have gg7 : f 7 = true := by simp only [hd]
      have gg8 : f 8 = true := by simp only [hd]
      have gg9 : f 9 = true := by simp only [hd]
      have gg10 : f 10 = true := by simp only [hd]
      have gg11 : f 11 = true := by simp only [hd]
      obtain rfl := h11.out (by simp only [hd])
      obtain ⟨hv, rs', hr2, hw2⟩ := h10.out gg10
      obtain ⟨s4a, p4a, n4a, c4a, s4b, p4b, n4b, c4b, rfl⟩ := hv.opened
      have l0 := LK0.out
      have l0' := LU0.out
      have hq1 := QR.out.kept (gby_far HBW.out QR.out.lt (by omega))
      have hqw1 : ∀ j, j < N → NF w1 (nag (rq j)) (Q j) := fun j hj => (QW.out j hj).grown ROW.out.noint HBW.out
      obtain ⟨⟨y1, y2⟩, ⟨y3, y4⟩, ⟨y5, y6⟩, y7, y8⟩ := hq1.stores hiN
      have hx3 := X3.out.kept (gby_far HBW.out X3.out.lt (by omega))
      have hx7 := X7.out.kept (gby_far HBW.out X7.out.lt (by omega))
      have hx8 := X8.out.kept (gby_far HBW.out X8.out.lt (by omega))
      have hB1 : Below w.heap.size w w1 := B.out.grown HBW.out B.out.size (fun g e => by cases e; omega)
      have hs1 := Nat.lt_of_lt_of_le HS1.out HBW.out.size
      obtain ⟨cur, hcur, _⟩ := ROW.out
      have hS1 := gby_far HBW.out HS1.out (show g8 + 1 ≠ b0 by omega)
      have hKB1 : Below w.heap.size W w1 := (Below.refl w.heap.size W).grown HBW.out B.out.size (fun g e => by cases e; omega)
      have HFIN : Hid (Sbx ((((w1.setCell ⟨bq, i * 4, none⟩ (.bool s4a)).setCell ⟨bq, i * 4 + 1, none⟩ (.slice p4a n4a c4a)).setCell ⟨bq, i * 4 + 2, none⟩ (.bool s4b)).setCell ⟨bq, i * 4 + 3, none⟩ (.slice p4b n4b c4b)) w.heap.size aq (d + 1) cq ∧ Sbx ((((w1.setCell ⟨bq, i * 4, none⟩ (.bool s4a)).setCell ⟨bq, i * 4 + 1, none⟩ (.slice p4a n4a c4a)).setCell ⟨bq, i * 4 + 2, none⟩ (.bool s4b)).setCell ⟨bq, i * 4 + 3, none⟩ (.slice p4b n4b c4b)) g7 (some ⟨b0, 0, none⟩) np c1 ∧ Sbx ((((w1.setCell ⟨bq, i * 4, none⟩ (.bool s4a)).setCell ⟨bq, i * 4 + 1, none⟩ (.slice p4a n4a c4a)).setCell ⟨bq, i * 4 + 2, none⟩ (.bool s4b)).setCell ⟨bq, i * 4 + 3, none⟩ (.slice p4b n4b c4b)) g8 (some ⟨bq, 0, none⟩) N N ∧ RestOk (w.heap.size + 1) g7 ((((w1.setCell ⟨bq, i * 4, none⟩ (.bool s4a)).setCell ⟨bq, i * 4 + 1, none⟩ (.slice p4a n4a c4a)).setCell ⟨bq, i * 4 + 2, none⟩ (.bool s4b)).setCell ⟨bq, i * 4 + 3, none⟩ (.slice p4b n4b c4b)) (some ⟨b0, 0, none⟩) np (offq R (trimQ lq) i ff (d + 1)) ∧ (∃ rs, NRw ((((w1.setCell ⟨bq, i * 4, none⟩ (.bool s4a)).setCell ⟨bq, i * 4 + 1, none⟩ (.slice p4a n4a c4a)).setCell ⟨bq, i * 4 + 2, none⟩ (.bool s4b)).setCell ⟨bq, i * 4 + 3, none⟩ (.slice p4b n4b c4b)) bq N rs ∧ ∀ j, j < N → NF ((((w1.setCell ⟨bq, i * 4, none⟩ (.bool s4a)).setCell ⟨bq, i * 4 + 1, none⟩ (.slice p4a n4a c4a)).setCell ⟨bq, i * 4 + 2, none⟩ (.bool s4b)).setCell ⟨bq, i * 4 + 3, none⟩ (.slice p4b n4b c4b)) (nag (rs j)) (if j = i then ff else Q j)) ∧ Below w.heap.size w ((((w1.setCell ⟨bq, i * 4, none⟩ (.bool s4a)).setCell ⟨bq, i * 4 + 1, none⟩ (.slice p4a n4a c4a)).setCell ⟨bq, i * 4 + 2, none⟩ (.bool s4b)).setCell ⟨bq, i * 4 + 3, none⟩ (.slice p4b n4b c4b)) ∧ g8 + 1 < ((((w1.setCell ⟨bq, i * 4, none⟩ (.bool s4a)).setCell ⟨bq, i * 4 + 1, none⟩ (.slice p4a n4a c4a)).setCell ⟨bq, i * 4 + 2, none⟩ (.bool s4b)).setCell ⟨bq, i * 4 + 3, none⟩ (.slice p4b n4b c4b)).heap.size ∧ KD w.heap.size (g8 + 1) bq N W ((((w1.setCell ⟨bq, i * 4, none⟩ (.bool s4a)).setCell ⟨bq, i * 4 + 1, none⟩ (.slice p4a n4a c4a)).setCell ⟨bq, i * 4 + 2, none⟩ (.bool s4b)).setCell ⟨bq, i * 4 + 3, none⟩ (.slice p4b n4b c4b)) ∧ KeepsOthers W ((((w1.setCell ⟨bq, i * 4, none⟩ (.bool s4a)).setCell ⟨bq, i * 4 + 1, none⟩ (.slice p4a n4a c4a)).setCell ⟨bq, i * 4 + 2, none⟩ (.bool s4b)).setCell ⟨bq, i * 4 + 3, none⟩ (.slice p4b n4b c4b))) := hid ⟨hx3.kept (hq1.far i (by omega) s4a p4a n4a c4a s4b p4b n4b c4b), hx7.kept (hq1.far i (by omega) s4a p4a n4a c4a s4b p4b n4b c4b), hx8.kept (hq1.far i (by omega) s4a p4a n4a c4a s4b p4b n4b c4b), .inr ⟨b0, rs', rfl, l0, l0', hr2.kept (hq1.far i (by omega) s4a p4a n4a c4a s4b p4b n4b c4b), fun j hj => (hw2 j hj).put hq1 i s4a p4a n4a c4a s4b p4b n4b c4b⟩, ⟨_, hq1.put hiN s4a p4a n4a c4a s4b p4b n4b c4b, fun j hj => by
        by_cases hji : j = i
        · subst hji; rw [upd_self, if_pos rfl]; exact hv.put hq1 j s4a p4a n4a c4a s4b p4b n4b c4b
        · rw [upd_ne _ _ hji, if_neg hji]; exact (hqw1 j hj).put hq1 i s4a p4a n4a c4a s4b p4b n4b c4b⟩, hq1.below hB1 i (by omega) s4a p4a n4a c4a s4b p4b n4b c4b, by simpa [World.setCell] using hs1, ⟨hq1.below hKB1 i (by omega) s4a p4a n4a c4a s4b p4b n4b c4b, (hq1.far i (by omega) s4a p4a n4a c4a s4b p4b n4b c4b).trans hS1, fun _ => ⟨_, hq1.put hiN s4a p4a n4a c4a s4b p4b n4b c4b⟩⟩, ((((KeepsOthers.of_grown HBW.out hcur).trans (KeepsOthers.setCell _ ⟨bq, i * 4, none⟩ _)).trans (KeepsOthers.setCell _ ⟨bq, i * 4 + 1, none⟩ _)).trans (KeepsOthers.setCell _ ⟨bq, i * 4 + 2, none⟩ _)).trans (KeepsOthers.setCell _ ⟨bq, i * 4 + 3, none⟩ _)⟩
      have H10 : Hid (NF ((((w1.setCell ⟨bq, i * 4, none⟩ (.bool s4a)).setCell ⟨bq, i * 4 + 1, none⟩ (.slice p4a n4a c4a)).setCell ⟨bq, i * 4 + 2, none⟩ (.bool s4b)).setCell ⟨bq, i * 4 + 3, none⟩ (.slice p4b n4b c4b)) (.agg #[.bool s4a, .slice p4a n4a c4a, .bool s4b, .slice p4b n4b c4b]) ff ∧ ∃ rs, NRw ((((w1.setCell ⟨bq, i * 4, none⟩ (.bool s4a)).setCell ⟨bq, i * 4 + 1, none⟩ (.slice p4a n4a c4a)).setCell ⟨bq, i * 4 + 2, none⟩ (.bool s4b)).setCell ⟨bq, i * 4 + 3, none⟩ (.slice p4b n4b c4b)) b0 np rs ∧ ∀ j, j < np → NF ((((w1.setCell ⟨bq, i * 4, none⟩ (.bool s4a)).setCell ⟨bq, i * 4 + 1, none⟩ (.slice p4a n4a c4a)).setCell ⟨bq, i * 4 + 2, none⟩ (.bool s4b)).setCell ⟨bq, i * 4 + 3, none⟩ (.slice p4b n4b c4b)) (nag (rs j)) (offq R (trimQ lq) i ff (d + 1) j)) := hid ⟨hv.put hq1 i s4a p4a n4a c4a s4b p4b n4b c4b, rs', hr2.kept (hq1.far i (by omega) s4a p4a n4a c4a s4b p4b n4b c4b), fun j hj => (hw2 j hj).put hq1 i s4a p4a n4a c4a s4b p4b n4b c4b⟩
      clear hB1 hs1 hx3 hx7 hx8 hcur hS1 hKB1 hqw1 hq1 hv hr2 hw2
      go_simp
      exact hK.out _ _ ⟨_, _, _, _, _, _, _, _, _, _, _, _, rfl, hid (.inr rfl), hid (fun h => h0.out h), hid (fun h => h1.out h), hid (fun h => h2.out h), hid (fun h => h3.out h), hid (fun h => h4.out h), hid (fun h => h5.out h), hid (fun h => h6.out h), hid (fun h => h7.out h), hid (fun h => h8.out h), hid (fun h => h9.out h), hid (fun h => H10.out), hid (fun h => rfl), hid (fun h => HFIN.out), fun _ => gg0, fun _ => gg1, fun _ => gg2, fun _ => gg3, fun _ => gg4, fun _ => gg5, fun _ => gg6, fun _ => gg7, fun _ => gg8, fun _ => gg9, fun _ => gg10, fun _ => gg11, fun h => absurd (show f 10 = false from h) (by rw [gg10]; decide)⟩
    case hend =>
      rintro f a1 w1 ⟨u30, u31, u32, u33, u34, u35, u36, u37, u38, u39, u40, u41, rfl, _, h0, h1, h2, h3, h4, h5, h6, h7, h8, h9, h10, h11, h12, _⟩ hall
      simp only [List.setIfInBounds_toArray, List.set_cons_zero, List.set_cons_succ]
      obtain ⟨g1, g2, g3, g4, g5, g6, g7_, g8_, g9⟩ := h12.out (hall 12 (by decide))
      gi_wp2
      refine ⟨g9.from _, g8_, ⟨g1, g2, g3, ?_, ?_, g6, g7_⟩⟩
      · rw [List.map_append]; show RestOk _ _ _ _ _ (dvf lp (trimQ lq) d (_ ++ [i])).1; rw [HE.out]; show RestOk _ _ _ _ _ (offq R (trimQ lq) i (R (i + d) / co (trimQ lq) d) (d + 1)); rw [HFF.out]; exact g4
      · rw [List.map_append]; show ∃ rs, NRw w1 bq N rs ∧ ∀ j, j < N → NF w1 (nag (rs j)) ((dvf lp (trimQ lq) d (_ ++ [i])).2 j); rw [HE.out]; show ∃ rs, NRw w1 bq N rs ∧ ∀ j, j < N → NF w1 (nag (rs j)) (if j = i then R (i + d) / co (trimQ lq) d else Q j); rw [HFF.out]; exact g5
  case done =>
    rintro D ys W hD hys ⟨hx3, hx7, hx8, hrest, ⟨rq, hrq, hqw⟩, hBw, hs1⟩ hK
    have X7 := hid hx7
    have X8 := hid hx8
    have B := hid hBw
    rw [hys] at hrest hqw
    have HPR2 := hid (hrest.pn hc1 HC1.out)
    have HPQ2 : Hid (PN W (.slice (some ⟨bq, 0, none⟩) N N) (lof N (dvf lp (trimQ lq) d (dwn N N)).2)) := hid (hrq.pn (by simp [lof]) (Nat.le_refl _) (by unfold maxLen; omega) (fun i hi => (hqw i hi).cast (by rw [co_lof, if_pos hi])))
    have HKD := hid hK
    have LD := hid (show g8 + 1 < D by omega)
    clear hx3 hx7 hx8 hrest hrq hqw hBw hs1 hK hI0 cS hget hKB hqr hys
    have cc901 := X7.out.cells
    have cc902 := X8.out.cells
    go_wp2_with fail
    have cc903 := X7.out.cells
    have cc904 := X8.out.cells
    replace X7 := hid X7.out.dr
    replace X8 := hid X8.out.dr
    replace HPQ2 := hid (HPQ2.out.on (Below.drew (Below.refl _ _)))
    replace HPR2 := hid (HPR2.out.on (Below.drew (Below.refl _ _)))
    replace B := hid (Below.drew B.out)
    have cc905 := X7.out.cells
    have cc906 := X8.out.cells
    go_region_held3 (fun w' => w'.cell? ⟨g7, 0, none⟩ = some (.slice a1 np c1) ∧ w'.cell? ⟨g8, 0, none⟩ = some (.slice (some ⟨bq, 0, none⟩) N N)) (go_keep) (first
      | (have hm := mk907_0; clear hm; go_at_call 55; refine (trim_p HPR2.out).mono ?_; rintro e w911 ⟨v2, rfl, hp2, hb⟩; have HK2 := hid hp2; replace X7 := sx X7 hb; replace X8 := sx X8 hb; replace HPQ2 := pno HPQ2 hb; replace HPR2 := pno HPR2 hb; replace HK1 := pno HK1 hb; replace B := bb B hb; replace HKD := hid ((hb.block D (Array.getElem?_eq_some_iff.1 HKD.out).1).trans HKD.out); clear cc909 cc910; clear hb hp2; have cc912 := X7.out.cells; have cc913 := X8.out.cells; have mk907_1 := hid True.intro)
      | (go_at_call 55; refine (trim_p HPQ2.out).mono ?_; rintro e w908 ⟨v1, rfl, hp1, hb⟩; have HK1 := hid hp1; replace X7 := sx X7 hb; replace X8 := sx X8 hb; replace HPQ2 := pno HPQ2 hb; replace HPR2 := pno HPR2 hb; replace B := bb B hb; replace HKD := hid ((hb.block D (Array.getElem?_eq_some_iff.1 HKD.out).1).trans HKD.out); clear cc901 cc902 cc903 cc904 cc905 cc906; clear hb hp1; have cc909 := X7.out.cells; have cc910 := X8.out.cells; have mk907_0 := hid True.intro))
    go_wp2_with fail
    have hKD := HKD.out
    have hgp := grownBy_putObj' w911 D (.deferred none)
    have hgr : ∀ r, some D = some r → ∃ o : Obj, w911.heap[r]? = some o ∧ o.isCells = false := fun r e => by cases e; exact ⟨_, hKD, rfl⟩
    refine ⟨by simp, .inl ⟨_, _, rfl, run_takeDeferred hKD, ?_⟩⟩
    refine ⟨_, res_ttt rfl rfl rfl rfl, ?_⟩
    obtain ⟨e1, e2⟩ := dvf_all (N := N) HNP.out HD.out H0.out (by have := HN.out; omega)
    have hp2 : 2 ^ N ≤ 2 ^ np := Nat.pow_le_pow_right (by omega) hNnp
    have hp3 := Nat.mul_le_mul_left (m + 2 * n + 1) hp2
    have hp4 : 1 ≤ 2 ^ N := Nat.one_le_two_pow
    have hp5 := Nat.mul_le_mul_left (m + 2 * n + 1) hp4
    have s1 : ∀ j, Sm ((dvf lp (trimQ lq) d (dwn N N)).1 j) ((m + 2 * n + 1) * 2 ^ np) := fun j => by
      have := Sml.dvf (d := d) SL.out SQ.out (dwn N N) (co lp, fun _ => 0) 0 (fun j => (SL.out.2 j).mono (by omega)) j
      rw [dwn_len, Nat.zero_add] at this
      exact this.mono (by omega)
    have s2 : ∀ j, Sm ((dvf lp (trimQ lq) d (dwn N N)).2 j) ((m + 2 * n + 1) * 2 ^ np + n) := fun j => by
      have := Sml.dvq (d := d) SL.out SQ.out (dwn N N) (co lp, fun _ => 0) 0 (fun j => (SL.out.2 j).mono (by omega)) (fun j => Sm.zero (by omega)) j
      rw [dwn_len, Nat.zero_add] at this
      exact this.mono (by omega)
    refine ⟨_, _, _, _, rfl, HK1.out.turned hgp hgr, HK2.out.turned hgp hgr, trm_trim _, trm_trim _, ?_, ?_, fun x => ?_, ?_, ?_, B.out.grown hgp B.out.size (fun g e => by cases e; have := LD.out; omega)⟩
    · exact e2
    · refine Nat.le_trans (trim_len _) ?_
      simp [lof]; omega
    · have := e1 x
      rw [HPV.out] at this
      exact this
    · exact Sml.trim ⟨by omega, fun j => by rw [co_lof]; split; exact s2 j; exact Sm.zero (by omega)⟩
    · exact Sml.trim ⟨by omega, fun j => by rw [co_lof]; split; exact s1 j; exact Sm.zero (by omega)⟩
  case stop =>
    rintro D c pre W _ _ h _
    exact h.elim

end Go.Proofs.YtmabolifokhlnaaGreatDoor

/-
  PACKAGE poly: Polynomial.Div by nothing.
-/
namespace Go.Proofs.YtmabolifokhlnaaGreatDoor
open Go.RowKit Go.Shelf
open Num
set_option linter.unusedVariables false
set_option maxRecDepth 100000
set_option linter.unusedSimpArgs false
attribute [local go_sem] Oper.semAt_some

set_option maxHeartbeats 2000000 in
theorem pdiv_zero {w : World} {v u : Value} {lp lq : List Rat} (h : PN w v lp) (h' : PN w u lq) (h0 : trimQ lq = []) :
    Calls Tryz.prog 51 #[v, u] w fun e w' => e = .returned (.tuple #[.slice none 0 0, .slice none 0 0, errno 5]) ∧ Below w.heap.size w w' := by
  refine (callsIn_wide (n := 10)).1 ?_
  obtain ⟨a, c, rfl, hn, hc⟩ := h.opened
  obtain ⟨aq, cq, rfl, hnq, hcq⟩ := h'.opened
  obtain ⟨nq, hNQ⟩ : ∃ nq, lq.length = nq := ⟨_, rfl⟩
  have HP := hid h
  have HU := hid h'
  rw [hNQ] at hnq HU ⊢
  have HTR : ∀ w' : World, PN w' (.slice aq nq cq) lq → Calls Tryz.prog 55 #[.slice aq nq cq] w' fun e w'' => e = .returned (.slice aq 0 cq) ∧ Below w'.heap.size w' w'' := fun w' h => by have := trim_pn h; rwa [h0, List.length_nil] at this
  have HTR := hid HTR
  have B := hid (Below.refl w.heap.size w)
  obtain ⟨hb1, hx2, hs3⟩ := Sbx.made w aq nq cq
  replace HU := pno HU hb1
  replace B := bb B hb1
  have X3 := hid hx2
  clear hb1 hx2
  clear h h' h0 hNQ hs3
  unfold maxLen at hc hcq
  refine callsIn_of_wp_marks Tryz.func51 rfl trivial ?_ rfl
  simp only [Tryz.ntmps51, List.size_toArray, List.length_cons, List.length_nil, Nat.reduceAdd, Nat.reduceSub, Array.replicate_succ, Array.replicate_zero, List.push_toArray, List.append_toArray, List.nil_append, List.cons_append]
  refine wpIn_wide.2 ?_
  have cc4 := X3.out.cells
  go_wp2_with fail
  generalize hW : w.alloc (.cells #[.slice aq nq cq] 61) = W5 at *
  clear hW
  refine (HTR.out _ HU.out).mono ?_
  rintro e w6 ⟨rfl, hb⟩
  replace X3 := sx X3 hb
  replace HU := pno HU hb
  replace B := bb B hb
  clear cc4
  clear hb 
  have LW0 := hid (Nat.le_refl w.heap.size)
  have cc7 := X3.out.stores
  obtain ⟨r8a, r8b, r8c⟩ := X3.out.last B.out (by have := LW0.out; omega) aq 0 cq
  replace HU := hid (HU.out.sbx X3.out aq 0 cq)
  replace X3 := hid r8a
  replace B := hid r8b
  clear r8a r8b r8c
  have cc9 := X3.out.cells
  go_wp2_with fail
  refine ⟨_, res_ttt rfl rfl rfl rfl, ?_⟩
  exact ⟨rfl, B.out⟩

end Go.Proofs.YtmabolifokhlnaaGreatDoor

/-
  PACKAGE poly: Div.
-/
namespace Go.Proofs.YtmabolifokhlnaaGreatDoor
open Go.RowKit
open Num
set_option linter.unusedVariables false
set_option maxRecDepth 100000
set_option linter.unusedSimpArgs false

theorem GoodP.trim {p : List ByteArray} (h : GoodP p) : trimQ (rdp p) = rdp p := h.2.2
set_option maxHeartbeats 2000000 in
theorem pdivs_two {w : World} {v u : Value} {p q : List ByteArray} (h : TxsW w v p) (h' : TxsW w u q) (hs : Szs p) (hs' : Szs q) :
    Calls Tryz.prog 24 #[v, u] w fun e w' => ∃ r1 r2 ks rs k, e = .returned (.tuple #[r1, r2, errv k]) ∧ OwnS w' w.heap.size r1 ks ∧ OwnS w' w.heap.size r2 rs ∧ PDivs p q ks rs k ∧ (∀ g, r1.ownBlock = some g → r2.ownBlock ≠ some g) ∧ Below w.heap.size w w' := by
  have H1 := hid (pboth_any h h' hs hs')
  have hne := errv_neq
  have hgd := errv_guard
  clear h h' hs hs'
  go_enter Tryz.func24, Tryz.ntmps24
  go_wp2_with fail
  refine H1.out.mono ?_
  rintro e w1 ⟨x, y, k, rfl, hr, hb⟩
  have B := hid hb
  rcases hr with ⟨rfl, hg, hg2, hp, hp2⟩ | ⟨hk, hw, rfl, rfl⟩
  · have HG := hid hg
    have HG2 := hid hg2
    have HP := hid hp
    have HP2 := hid hp2
    clear hb hg hg2 hp hp2
    by_cases h0 : rdp q = []
    · have HZ := hid (pdiv_zero HP.out HP2.out (by rw [h0]; rfl))
      have H0 := hid h0
      have h5 := errv_some (show (5 : Int) ≠ 0 by decide)
      clear h0
      go_wp2_with fail
      refine HZ.out.mono ?_
      rintro e w2 ⟨rfl, hb2⟩
      replace B := bb B hb2
      clear hb2
      go_wp2_with fail
      go_ret3
      exact ⟨_, _, [], [], 5, by rw [h5]; rfl, OwnS.nil _ _, OwnS.nil _ _, .inr (.inl ⟨rfl, HG.out, HG2.out, H0.out, rfl, rfl⟩), fun g hg => by simp [Value.ownBlock] at hg, B.out⟩
    · have hb9 : (25 + 2 * 25 + 1) * 2 ^ ((rdp p).length + 1) ≤ 68719476736 := by
        have h1 : 2 ^ ((rdp p).length + 1) ≤ 2 ^ 10 := Nat.pow_le_pow_right (by omega) (by have := HG.out.1; rw [rdp_len]; omega)
        omega
      have hb8 : (25 + 2 * 25 + 1) * 2 ^ (rdp p).length ≤ 100000 := by
        have h1 : 2 ^ (rdp p).length ≤ 2 ^ 9 := Nat.pow_le_pow_right (by omega) (by have := HG.out.1; rw [rdp_len]; omega)
        omega
      have HZ := hid (pdiv_p HP.out HP2.out HG.out.sml HG2.out.sml (by rw [HG2.out.trim]; exact h0) hb9 (by have := HG.out.1; rw [rdp_len]; omega) (by have := HG2.out.1; rw [rdp_len]; omega))
      have H0 := hid h0
      have HB8 := hid hb8
      clear h0 hb9 hb8
      go_wp2_with fail
      refine HZ.out.mono ?_
      rintro e w2 ⟨a, b, yq, rq, rfl, hq, hr, ht1, ht2, hlt, hle, hx, hs1, hs2, hb2⟩
      rw [HG2.out.trim] at hlt
      replace B := bb B hb2
      have HQ := hid hq
      have HR := hid hr
      have T1 := hid ht1
      have T2 := hid ht2
      have HL := hid hlt
      have HE := hid hle
      have HX := hid hx
      have S1 := hid (hs1.mono (show _ ≤ 200000 by have := HB8.out; omega))
      have S2 := hid (hs2.mono (show _ ≤ 200000 by have := HB8.out; omega))
      clear hb2 hq hr ht1 ht2 hlt hle hx hs1 hs2 HZ
      go_wp2_with fail
      refine (texts_s HQ.out T1.out S1.out (by decide) (by have h1 := HE.out; have := HG.out.1; rw [rdp_len] at h1; omega)).mono ?_
      rintro e w3 ⟨s, rfl, ho, hb3⟩
      have HO := hid (show OwnS w3 w.heap.size s _ from ⟨ho.1.mono B.out.size, ho.2⟩)
      replace B := bb B hb3
      replace HR := pno HR hb3
      clear hb3 ho
      go_wp2_with fail
      refine (texts_s HR.out T2.out S2.out (by decide) (by have h1 := HL.out; have := HG2.out.1; rw [rdp_len] at h1; omega)).mono ?_
      rintro e w4 ⟨s2, rfl, ho2, hb4⟩
      have HAP : Hid (∀ g, s.ownBlock = some g → s2.ownBlock ≠ some g) := hid (fun g h1 h2 => by have := (World.ownsRow.lt HO.out.1 g h1).2; have := (World.ownsRow.lt ho2.1 g h2).1; omega)
      have HO2 := hid (show OwnS w4 w.heap.size s2 _ from ⟨ho2.1.mono B.out.size, ho2.2⟩)
      replace HO := hid (show OwnS w4 w.heap.size s _ from ⟨HO.out.1.on hb4, HO.out.2⟩)
      replace B := bb B hb4
      clear hb4 ho2
      go_wp2_with fail
      go_ret3
      exact ⟨_, _, _, _, 0, rfl, HO.out, HO2.out, .inl ⟨rfl, HG.out, HG2.out, H0.out, yq, rq, T1.out, T2.out, HL.out, HE.out, HX.out, rfl, rfl⟩, HAP.out, B.out⟩
  · have HK := hid hk
    have HW := hid hw
    have f1 : (k != 0) = true := by simpa using hk
    clear hb hw
    go_wp2_with fail
    go_ret3
    exact ⟨_, _, [], [], k, rfl, OwnS.nil _ _, OwnS.nil _ _, .inr (.inr ⟨HK.out, HW.out, rfl, rfl⟩), fun g hg => by simp [Value.ownBlock] at hg, B.out⟩
theorem pdivs_any {w : World} {v u : Value} {p q : List ByteArray} (h : TxsW w v p) (h' : TxsW w u q) (hs : Szs p) (hs' : Szs q) :
    Calls Tryz.prog 24 #[v, u] w fun e w' => ∃ r1 r2 ks rs k, e = .returned (.tuple #[r1, r2, errv k]) ∧ OwnS w' w.heap.size r1 ks ∧ OwnS w' w.heap.size r2 rs ∧ PDivs p q ks rs k ∧ Below w.heap.size w w' := by
  refine (pdivs_two h h' hs hs').mono ?_
  rintro e w' ⟨r1, r2, ks, rs, k, h1, h2, h3, h4, _, h5⟩
  exact ⟨r1, r2, ks, rs, k, h1, h2, h3, h4, h5⟩

end Go.Proofs.YtmabolifokhlnaaGreatDoor
