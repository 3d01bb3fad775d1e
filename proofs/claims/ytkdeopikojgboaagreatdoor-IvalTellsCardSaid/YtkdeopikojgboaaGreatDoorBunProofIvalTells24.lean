import Derived.Test.YtkdeopikojgboaaGreatDoorBunProofIvalTells23
/-
  IvalTells: good.
-/
namespace Go.Proofs.YtkdeopikojgboaaGreatDoor
open Go.RowKit
open Num4
open Num (dg isNat dval)
set_option linter.unusedVariables false
set_option maxRecDepth 100000
set_option linter.unusedSimpArgs false

set_option maxHeartbeats 32000000 in
theorem itells_good (al ah bl bh x : ByteArray) (hal : al.size ≤ maxLen) (hah : ah.size ≤ maxLen) (hbl : bl.size ≤ maxLen) (hbh : bh.size ≤ maxLen) (hx : x.size ≤ maxLen) (w : World) (ha : GoodI al ah) (hb0 : GoodI bl bh) (hd : Door w) :
    Calls Tryz.prog 3 #[.agg #[.string al, .string ah], .agg #[.string bl, .string bh], .string x] w fun e w' => e = .returned (.bool true) ∧ Below w.heap.size w w' := by
  obtain ⟨f, t, hxt⟩ := x_any al ah x
  have HX := hid hxt
  have GA := hid ha
  have GB := hid hb0
  have h3 : (qnum bl ≤ 0 ∧ 0 ≤ qnum bh) ∨ 0 < qnum bl ∨ (¬ 0 < qnum bl ∧ qnum bh < 0) := by grind
  have H3 := hid h3
  have HDR := hid hd
  have hne := errv_neq
  have heq := errv_eql
  have hws := want_same
  have B := hid (Below.refl w.heap.size w)
  have hb1 := (Below.refl _ _).alloc (Nat.le_refl w.heap.size) (.cells #[.string al, .string ah] 23)
  have hx2 := Vbx.new w al ah
  replace B := bb B hb1
  have X3 := hid hx2
  have hs3 : (w.alloc (.cells #[.string al, .string ah] 23)).heap.size = w.heap.size + 1 := by simp
  clear hb1 hx2
  have hb4 := (Below.refl _ _).alloc (Nat.le_refl (w.alloc (.cells #[.string al, .string ah] 23)).heap.size) (.cells #[.string bl, .string bh] 23)
  have hx5 := Vbx.new (w.alloc (.cells #[.string al, .string ah] 23)) bl bh
  rw [hs3] at hx5
  replace X3 := vx X3 hb4
  replace B := bb B hb4
  have X4 := hid hx5
  have hs6 : ((w.alloc (.cells #[.string al, .string ah] 23)).alloc (.cells #[.string bl, .string bh] 23)).heap.size = w.heap.size + 1 + 1 := by simp [hs3]
  clear hb4 hx5
  clear hs6 hd hxt ha hb0 h3
  go_enter Tryz.func3, Tryz.ntmps3
  obtain ⟨cc7a, cc7b⟩ := X3.out.both
  obtain ⟨cc8a, cc8b⟩ := X4.out.both
  go_wp2_with fail
  generalize hW : (w.alloc (.cells #[.string al, .string ah] 23)).alloc (.cells #[.string bl, .string bh] 23) = W9 at *
  clear hW
  have LG := hid (show w.heap.size < W9.heap.size from X3.out.lt)
  refine (spanned_true W9).mono ?_
  rintro e w10 ⟨rfl, hb⟩
  replace X3 := vx X3 hb
  replace X4 := vx X4 hb
  replace B := bb B hb
  clear cc7a cc7b cc8a cc8b
  clear hb 
  obtain ⟨cc11a, cc11b⟩ := X3.out.both
  obtain ⟨cc12a, cc12b⟩ := X4.out.both
  go_wp2_with fail
  refine (rival_good GA.out hal hah w10).mono ?_
  rintro e w13 ⟨v, u, rfl, hv, hu, hb⟩
  obtain ⟨spa, ppa, npa, cpa, ppb, npb, cpb, rfl⟩ := hv.opened
  obtain ⟨htp, hup⟩ := hv.two
  obtain ⟨sqa, pqa, nqa, cqa, pqb, nqb, cqb, rfl⟩ := hu.opened
  obtain ⟨htq, huq⟩ := hu.two
  replace X3 := vx X3 hb
  replace X4 := vx X4 hb
  replace B := bb B hb
  clear cc11a cc11b cc12a cc12b
  have HNp := hid htp
  have HDp := hid hup
  have HNq := hid htq
  have HDq := hid huq
  clear hb hv htp hup hu htq huq
  have hb14 := (Below.refl _ _).alloc (Nat.le_refl w13.heap.size) (.cells #[.bool spa, .slice ppa npa cpa, .slice ppb npb cpb] 30)
  have hx15 := Qbx.new w13 spa ppa npa cpa ppb npb cpb
  have L1 := hid X4.out.lt
  replace X3 := vx X3 hb14
  replace X4 := vx X4 hb14
  replace HNp := wr HNp hb14
  replace HDp := wr HDp hb14
  replace HNq := wr HNq hb14
  replace HDq := wr HDq hb14
  replace B := bb B hb14
  have X8 := hid hx15
  have hs16 : (w13.alloc (.cells #[.bool spa, .slice ppa npa cpa, .slice ppb npb cpb] 30)).heap.size = w13.heap.size + 1 := by simp
  clear hb14 hx15
  have hb17 := (Below.refl _ _).alloc (Nat.le_refl (w13.alloc (.cells #[.bool spa, .slice ppa npa cpa, .slice ppb npb cpb] 30)).heap.size) (.cells #[.bool sqa, .slice pqa nqa cqa, .slice pqb nqb cqb] 30)
  have hx18 := Qbx.new (w13.alloc (.cells #[.bool spa, .slice ppa npa cpa, .slice ppb npb cpb] 30)) sqa pqa nqa cqa pqb nqb cqb
  rw [hs16] at hx18
  replace X3 := vx X3 hb17
  replace X4 := vx X4 hb17
  replace X8 := qx X8 hb17
  replace HNp := wr HNp hb17
  replace HDp := wr HDp hb17
  replace HNq := wr HNq hb17
  replace HDq := wr HDq hb17
  replace B := bb B hb17
  have X9 := hid hx18
  have hs19 : ((w13.alloc (.cells #[.bool spa, .slice ppa npa cpa, .slice ppb npb cpb] 30)).alloc (.cells #[.bool sqa, .slice pqa nqa cqa, .slice pqb nqb cqb] 30)).heap.size = w13.heap.size + 1 + 1 := by simp [hs16]
  clear hb17 hx18
  obtain ⟨cc20a, cc20b⟩ := X3.out.both
  obtain ⟨cc21a, cc21b⟩ := X4.out.both
  obtain ⟨cc22a, cc22b, cc22c⟩ := X8.out.cells
  obtain ⟨cc23a, cc23b, cc23c⟩ := X9.out.cells
  go_wp2_with fail
  generalize hW : (w13.alloc (.cells #[.bool spa, .slice ppa npa cpa, .slice ppb npb cpb] 30)).alloc (.cells #[.bool sqa, .slice pqa nqa cqa, .slice pqb nqb cqb] 30) = W24 at *
  clear hW
  refine (icheck_good GA.out W24).mono ?_
  rintro e w25 ⟨rfl, hb⟩
  replace X3 := vx X3 hb
  replace X4 := vx X4 hb
  replace X8 := qx X8 hb
  replace X9 := qx X9 hb
  replace HNp := wr HNp hb
  replace HDp := wr HDp hb
  replace HNq := wr HNq hb
  replace HDq := wr HDq hb
  replace B := bb B hb
  clear cc20a cc20b cc21a cc21b cc22a cc22b cc22c cc23a cc23b cc23c
  clear hb 
  obtain ⟨cc26a, cc26b⟩ := X3.out.both
  obtain ⟨cc27a, cc27b⟩ := X4.out.both
  obtain ⟨cc28a, cc28b, cc28c⟩ := X8.out.cells
  obtain ⟨cc29a, cc29b, cc29c⟩ := X9.out.cells
  go_wp2_with fail
  refine (same_nil w25 (HDR.out.below B.out)).mono ?_
  rintro e w30 ⟨rfl, hb⟩
  replace X3 := vx X3 hb
  replace X4 := vx X4 hb
  replace X8 := qx X8 hb
  replace X9 := qx X9 hb
  replace HNp := wr HNp hb
  replace HDp := wr HDp hb
  replace HNq := wr HNq hb
  replace HDq := wr HDq hb
  replace B := bb B hb
  clear cc26a cc26b cc27a cc27b cc28a cc28b cc28c cc29a cc29b cc29c
  clear hb 
  obtain ⟨cc31a, cc31b⟩ := X3.out.both
  obtain ⟨cc32a, cc32b⟩ := X4.out.both
  obtain ⟨cc33a, cc33b, cc33c⟩ := X8.out.cells
  obtain ⟨cc34a, cc34b, cc34c⟩ := X9.out.cells
  go_wp2_with fail
  refine (ratof_x HX.out hx w30).mono ?_
  rintro e w35 ⟨sxa, pxa, nxa, cxa, pxb, nxb, cxb, rfl, hq, hb⟩
  have HQX := hid hq
  replace X3 := vx X3 hb
  replace X4 := vx X4 hb
  replace X8 := qx X8 hb
  replace X9 := qx X9 hb
  replace HNp := wr HNp hb
  replace HDp := wr HDp hb
  replace HNq := wr HNq hb
  replace HDq := wr HDq hb
  replace B := bb B hb
  clear cc31a cc31b cc32a cc32b cc33a cc33b cc33c cc34a cc34b cc34c
  clear hb hq
  have hb36 := (Below.refl _ _).alloc (Nat.le_refl w35.heap.size) (.cells #[.bool sxa, .slice pxa nxa cxa, .slice pxb nxb cxb] 30)
  have hx37 := Qbx.new w35 sxa pxa nxa cxa pxb nxb cxb
  have L2 := hid X9.out.lt
  replace X3 := vx X3 hb36
  replace X4 := vx X4 hb36
  replace X8 := qx X8 hb36
  replace X9 := qx X9 hb36
  replace HNp := wr HNp hb36
  replace HDp := wr HDp hb36
  replace HNq := wr HNq hb36
  replace HDq := wr HDq hb36
  replace B := bb B hb36
  replace HQX := hid (fun e => (HQX.out e).on hb36)
  have X12 := hid hx37
  have hs38 : (w35.alloc (.cells #[.bool sxa, .slice pxa nxa cxa, .slice pxb nxb cxb] 30)).heap.size = w35.heap.size + 1 := by simp
  clear hb36 hx37
  obtain ⟨cc39a, cc39b⟩ := X3.out.both
  obtain ⟨cc40a, cc40b⟩ := X4.out.both
  obtain ⟨cc41a, cc41b, cc41c⟩ := X8.out.cells
  obtain ⟨cc42a, cc42b, cc42c⟩ := X9.out.cells
  obtain ⟨cc43a, cc43b, cc43c⟩ := X12.out.cells
  go_wp2_with fail
  generalize hW : w35.alloc (.cells #[.bool sxa, .slice pxa nxa cxa, .slice pxb nxb cxb] 30) = W44 at *
  clear hW
  refine (two_zero f W44).mono ?_
  rintro e w' ⟨rfl, rfl⟩
  obtain ⟨cc46a, cc46b⟩ := X3.out.both
  obtain ⟨cc47a, cc47b⟩ := X4.out.both
  obtain ⟨cc48a, cc48b, cc48c⟩ := X8.out.cells
  obtain ⟨cc49a, cc49b, cc49c⟩ := X9.out.cells
  obtain ⟨cc50a, cc50b, cc50c⟩ := X12.out.cells
  go_wp2_with fail
  refine (has_x HX.out GA.out hx W44).mono ?_
  rintro e w51 ⟨rfl, hb⟩
  replace X3 := vx X3 hb
  replace X4 := vx X4 hb
  replace X8 := qx X8 hb
  replace X9 := qx X9 hb
  replace X12 := qx X12 hb
  replace HNp := wr HNp hb
  replace HDp := wr HDp hb
  replace HNq := wr HNq hb
  replace HDq := wr HDq hb
  replace B := bb B hb
  replace HQX := hid (fun e => (HQX.out e).on hb)
  clear cc39a cc39b cc40a cc40b cc41a cc41b cc41c cc42a cc42b cc42c cc43a cc43b cc43c cc46a cc46b cc47a cc47b cc48a cc48b cc48c cc49a cc49b cc49c cc50a cc50b cc50c
  clear hb 
  obtain ⟨cc52a, cc52b⟩ := X3.out.both
  obtain ⟨cc53a, cc53b⟩ := X4.out.both
  obtain ⟨cc54a, cc54b, cc54c⟩ := X8.out.cells
  obtain ⟨cc55a, cc55b, cc55c⟩ := X9.out.cells
  obtain ⟨cc56a, cc56b, cc56c⟩ := X12.out.cells
  go_wp2_with fail
  refine (same_any f w51 (HDR.out.below B.out)).mono ?_
  rintro e w57 ⟨rfl, hb⟩
  replace X3 := vx X3 hb
  replace X4 := vx X4 hb
  replace X8 := qx X8 hb
  replace X9 := qx X9 hb
  replace X12 := qx X12 hb
  replace HNp := wr HNp hb
  replace HDp := wr HDp hb
  replace HNq := wr HNq hb
  replace HDq := wr HDq hb
  replace B := bb B hb
  replace HQX := hid (fun e => (HQX.out e).on hb)
  clear cc52a cc52b cc53a cc53b cc54a cc54b cc54c cc55a cc55b cc55c cc56a cc56b cc56c
  clear hb 
  obtain ⟨cc58a, cc58b⟩ := X3.out.both
  obtain ⟨cc59a, cc59b⟩ := X4.out.both
  obtain ⟨cc60a, cc60b, cc60c⟩ := X8.out.cells
  obtain ⟨cc61a, cc61b, cc61c⟩ := X9.out.cells
  obtain ⟨cc62a, cc62b, cc62c⟩ := X12.out.cells
  go_upto_region 8 with fail
  go_cut [17] (fun s17 wx => s17 = .bool t ∧ Hid (Vbx wx w.heap.size al ah) ∧ Hid (Vbx wx (w.heap.size + 1) bl bh) ∧ Hid (Qbx wx w13.heap.size spa (.slice ppa npa cpa) (.slice ppb npb cpb)) ∧ Hid (Qbx wx (w13.heap.size + 1) sqa (.slice pqa nqa cqa) (.slice pqb nqb cqb)) ∧ Hid (WhlR wx (.agg #[.bool spa, .slice ppa npa cpa]) (qnum al).num 100) ∧ Hid (WhlR wx (.agg #[.bool false, .slice ppb npb cpb]) ((qnum al).den : Int) 100) ∧ Hid (WhlR wx (.agg #[.bool sqa, .slice pqa nqa cqa]) (qnum ah).num 100) ∧ Hid (WhlR wx (.agg #[.bool false, .slice pqb nqb cqb]) ((qnum ah).den : Int) 100) ∧ Hid (Below w.heap.size w wx))
  case first =>
    rcases HX.out with ⟨rfl, hg, ht⟩ | ⟨hf, hg, ht⟩ <;> (have HTT := hid ht; clear ht HX)
    · have hqx := HQX.out rfl
      obtain ⟨htx, hux⟩ := hqx.two
      have HNx := hid htx
      have HDx := hid hux
      clear hqx htx hux HQX
      go_wp2_with fail
      refine (rcmp (QR.mk2 HNp.out HDp.out) (QR.mk2 HNx.out HDx.out) (by decide)).mono ?_
      rintro e w63 ⟨rfl, hb⟩
      replace X3 := vx X3 hb
      replace X4 := vx X4 hb
      replace X8 := qx X8 hb
      replace X9 := qx X9 hb
      replace X12 := qx X12 hb
      replace HNp := wr HNp hb
      replace HDp := wr HDp hb
      replace HNq := wr HNq hb
      replace HDq := wr HDq hb
      replace HNx := wr HNx hb
      replace HDx := wr HDx hb
      replace B := bb B hb
      clear cc58a cc58b cc59a cc59b cc60a cc60b cc60c cc61a cc61b cc61c cc62a cc62b cc62c
      clear hb 
      obtain ⟨cc64a, cc64b⟩ := X3.out.both
      obtain ⟨cc65a, cc65b⟩ := X4.out.both
      obtain ⟨cc66a, cc66b, cc66c⟩ := X8.out.cells
      obtain ⟨cc67a, cc67b, cc67c⟩ := X9.out.cells
      obtain ⟨cc68a, cc68b, cc68c⟩ := X12.out.cells
      obtain ⟨z1, hs1⟩ : ∃ z, (qnum al - qnum x).num.sign = z := ⟨_, rfl⟩
      have hg1 := rsg_gt (qnum al) (qnum x)
      rw [hs1] at hg1
      rw [hs1]
      have HS1 := hid hg1
      clear hs1 hg1
      by_cases h1 : qnum x < qnum al
      · have hz : ¬ z1 ≤ 0 := by have := HS1.out.2 h1; omega
        go_wp2_with fail
        go_meet
        exact ⟨congrArg Value.bool (by rw [HTT.out]; exact (decide_eq_false (p := qnum al ≤ qnum x ∧ qnum x ≤ qnum ah) (fun e => Rat.not_lt.2 e.1 h1)).symm), X3, X4, X8, X9, HNp, HDp, HNq, HDq, B⟩
      · have hz : z1 ≤ 0 := Int.not_lt.1 (fun e => h1 (HS1.out.1 e))
        go_wp2_with fail
        refine (rcmp (QR.mk2 HNx.out HDx.out) (QR.mk2 HNq.out HDq.out) (by decide)).mono ?_
        rintro e w69 ⟨rfl, hb⟩
        replace X3 := vx X3 hb
        replace X4 := vx X4 hb
        replace X8 := qx X8 hb
        replace X9 := qx X9 hb
        replace X12 := qx X12 hb
        replace HNp := wr HNp hb
        replace HDp := wr HDp hb
        replace HNq := wr HNq hb
        replace HDq := wr HDq hb
        replace HNx := wr HNx hb
        replace HDx := wr HDx hb
        replace B := bb B hb
        clear cc64a cc64b cc65a cc65b cc66a cc66b cc66c cc67a cc67b cc67c cc68a cc68b cc68c
        clear hb 
        obtain ⟨cc70a, cc70b⟩ := X3.out.both
        obtain ⟨cc71a, cc71b⟩ := X4.out.both
        obtain ⟨cc72a, cc72b, cc72c⟩ := X8.out.cells
        obtain ⟨cc73a, cc73b, cc73c⟩ := X9.out.cells
        obtain ⟨cc74a, cc74b, cc74c⟩ := X12.out.cells
        obtain ⟨z2, hs2⟩ : ∃ z, (qnum x - qnum ah).num.sign = z := ⟨_, rfl⟩
        have hg2 := rsg_gt (qnum x) (qnum ah)
        rw [hs2] at hg2
        rw [hs2]
        have HS2 := hid hg2
        clear hs2 hg2
        by_cases h2 : qnum ah < qnum x
        · have hy : ¬ z2 ≤ 0 := by have := HS2.out.2 h2; omega
          go_wp2_with fail
          go_meet
          exact ⟨congrArg Value.bool (by rw [HTT.out]; first | exact (decide_eq_false (p := qnum al ≤ qnum x ∧ qnum x ≤ qnum ah) (fun e => Rat.not_lt.2 e.2 h2)).symm | exact (decide_eq_false (Int.not_le.2 (HS2.out.2 h2))).trans (decide_eq_false (p := qnum al ≤ qnum x ∧ qnum x ≤ qnum ah) (fun e => Rat.not_lt.2 e.2 h2)).symm), X3, X4, X8, X9, HNp, HDp, HNq, HDq, B⟩
        · have hy : z2 ≤ 0 := Int.not_lt.1 (fun e => h2 (HS2.out.1 e))
          go_wp2_with fail
          go_meet
          exact ⟨congrArg Value.bool (by rw [HTT.out]; exact (decide_eq_true ⟨Rat.not_lt.1 h1, Rat.not_lt.1 h2⟩).symm), X3, X4, X8, X9, HNp, HDp, HNq, HDq, B⟩
    · have hf0 : (f == 0) = false := by simpa using hf
      go_wp2_with fail
      go_meet
      exact ⟨congrArg Value.bool HTT.out.symm, X3, X4, X8, X9, HNp, HDp, HNq, HDq, B⟩
  case rest =>
    clear X3 X4 X8 X9 X12 HNp HDp HNq HDq HQX B cc58a cc58b cc59a cc59b cc60a cc60b cc60c cc61a cc61b cc61c cc62a cc62b cc62c
    obtain ⟨rfl, X3, X4, X8, X9, HNp, HDp, HNq, HDq, B⟩ := hcut
    obtain ⟨cc401a, cc401b⟩ := X3.out.both
    obtain ⟨cc402a, cc402b⟩ := X4.out.both
    obtain ⟨cc403a, cc403b, cc403c⟩ := X8.out.cells
    obtain ⟨cc404a, cc404b, cc404c⟩ := X9.out.cells
    go_wp2_with fail
    refine (rival_good GB.out hbl hbh wc).mono ?_
    rintro e w405 ⟨v, u, rfl, hv, hu, hb⟩
    obtain ⟨sra, pra, nra, cra, prb, nrb, crb, rfl⟩ := hv.opened
    obtain ⟨htr, hur⟩ := hv.two
    obtain ⟨ssa, psa, nsa, csa, psb, nsb, csb, rfl⟩ := hu.opened
    obtain ⟨hts, hus⟩ := hu.two
    replace X3 := vx X3 hb
    replace X4 := vx X4 hb
    replace X8 := qx X8 hb
    replace X9 := qx X9 hb
    replace HNp := wr HNp hb
    replace HDp := wr HDp hb
    replace HNq := wr HNq hb
    replace HDq := wr HDq hb
    replace B := bb B hb
    clear cc401a cc401b cc402a cc402b cc403a cc403b cc403c cc404a cc404b cc404c
    have HNr := hid htr
    have HDr := hid hur
    have HNs := hid hts
    have HDs := hid hus
    clear hb hv htr hur hu hts hus
    have hb406 := (Below.refl _ _).alloc (Nat.le_refl w405.heap.size) (.cells #[.bool sra, .slice pra nra cra, .slice prb nrb crb] 30)
    have hx407 := Qbx.new w405 sra pra nra cra prb nrb crb
    have L3 := hid X9.out.lt
    replace X3 := vx X3 hb406
    replace X4 := vx X4 hb406
    replace X8 := qx X8 hb406
    replace X9 := qx X9 hb406
    replace HNp := wr HNp hb406
    replace HDp := wr HDp hb406
    replace HNq := wr HNq hb406
    replace HDq := wr HDq hb406
    replace HNr := wr HNr hb406
    replace HDr := wr HDr hb406
    replace HNs := wr HNs hb406
    replace HDs := wr HDs hb406
    replace B := bb B hb406
    have X18 := hid hx407
    have hs408 : (w405.alloc (.cells #[.bool sra, .slice pra nra cra, .slice prb nrb crb] 30)).heap.size = w405.heap.size + 1 := by simp
    clear hb406 hx407
    have hb409 := (Below.refl _ _).alloc (Nat.le_refl (w405.alloc (.cells #[.bool sra, .slice pra nra cra, .slice prb nrb crb] 30)).heap.size) (.cells #[.bool ssa, .slice psa nsa csa, .slice psb nsb csb] 30)
    have hx410 := Qbx.new (w405.alloc (.cells #[.bool sra, .slice pra nra cra, .slice prb nrb crb] 30)) ssa psa nsa csa psb nsb csb
    rw [hs408] at hx410
    replace X3 := vx X3 hb409
    replace X4 := vx X4 hb409
    replace X8 := qx X8 hb409
    replace X9 := qx X9 hb409
    replace X18 := qx X18 hb409
    replace HNp := wr HNp hb409
    replace HDp := wr HDp hb409
    replace HNq := wr HNq hb409
    replace HDq := wr HDq hb409
    replace HNr := wr HNr hb409
    replace HDr := wr HDr hb409
    replace HNs := wr HNs hb409
    replace HDs := wr HDs hb409
    replace B := bb B hb409
    have X19 := hid hx410
    have hs411 : ((w405.alloc (.cells #[.bool sra, .slice pra nra cra, .slice prb nrb crb] 30)).alloc (.cells #[.bool ssa, .slice psa nsa csa, .slice psb nsb csb] 30)).heap.size = w405.heap.size + 1 + 1 := by simp [hs408]
    clear hb409 hx410
    obtain ⟨cc412a, cc412b⟩ := X3.out.both
    obtain ⟨cc413a, cc413b⟩ := X4.out.both
    obtain ⟨cc414a, cc414b, cc414c⟩ := X8.out.cells
    obtain ⟨cc415a, cc415b, cc415c⟩ := X9.out.cells
    obtain ⟨cc416a, cc416b, cc416c⟩ := X18.out.cells
    obtain ⟨cc417a, cc417b, cc417c⟩ := X19.out.cells
    go_wp2_with fail
    generalize hW : (w405.alloc (.cells #[.bool sra, .slice pra nra cra, .slice prb nrb crb] 30)).alloc (.cells #[.bool ssa, .slice psa nsa csa, .slice psb nsb csb] 30) = W418 at *
    clear hW
    refine (two_zero 0 W418).mono ?_
    rintro e w' ⟨rfl, rfl⟩
    have hb420 := (Below.refl _ _).alloc (Nat.le_refl W418.heap.size) (.cells #[.string ⟨#[]⟩, .string ⟨#[]⟩, .string ⟨#[]⟩, .string ⟨#[]⟩, .string ⟨#[]⟩, .string ⟨#[]⟩, .string ⟨#[]⟩, .string ⟨#[]⟩] 44)
    have hx421 := Wbx.new W418 ⟨#[]⟩ ⟨#[]⟩ ⟨#[]⟩ ⟨#[]⟩ ⟨#[]⟩ ⟨#[]⟩ ⟨#[]⟩ ⟨#[]⟩
    rw [hs411] at hx421
    replace X3 := vx X3 hb420
    replace X4 := vx X4 hb420
    replace X8 := qx X8 hb420
    replace X9 := qx X9 hb420
    replace X18 := qx X18 hb420
    replace X19 := qx X19 hb420
    replace HNp := wr HNp hb420
    replace HDp := wr HDp hb420
    replace HNq := wr HNq hb420
    replace HDq := wr HDq hb420
    replace HNr := wr HNr hb420
    replace HDr := wr HDr hb420
    replace HNs := wr HNs hb420
    replace HDs := wr HDs hb420
    replace B := bb B hb420
    have X22 := hid hx421
    have hs422 : (W418.alloc (.cells #[.string ⟨#[]⟩, .string ⟨#[]⟩, .string ⟨#[]⟩, .string ⟨#[]⟩, .string ⟨#[]⟩, .string ⟨#[]⟩, .string ⟨#[]⟩, .string ⟨#[]⟩] 44)).heap.size = w405.heap.size + 1 + 1 + 1 := by simp [hs411]
    clear hb420 hx421
    obtain ⟨cc423a, cc423b⟩ := X3.out.both
    obtain ⟨cc424a, cc424b⟩ := X4.out.both
    obtain ⟨cc425a, cc425b, cc425c⟩ := X8.out.cells
    obtain ⟨cc426a, cc426b, cc426c⟩ := X9.out.cells
    obtain ⟨cc427a, cc427b, cc427c⟩ := X18.out.cells
    obtain ⟨cc428a, cc428b, cc428c⟩ := X19.out.cells
    obtain ⟨cc429a, cc429b, cc429c, cc429d, cc429e, cc429f, cc429g, cc429h⟩ := X22.out.cells
    go_wp2_with fail
    generalize hW : W418.alloc (.cells #[.string ⟨#[]⟩, .string ⟨#[]⟩, .string ⟨#[]⟩, .string ⟨#[]⟩, .string ⟨#[]⟩, .string ⟨#[]⟩, .string ⟨#[]⟩, .string ⟨#[]⟩] 44) = W430 at *
    clear hW
    obtain ⟨cc431a, cc431b, cc431c⟩ := X8.out.cells
    obtain ⟨cc432a, cc432b, cc432c⟩ := X9.out.cells
    obtain ⟨cc433a, cc433b, cc433c⟩ := X18.out.cells
    obtain ⟨cc434a, cc434b, cc434c⟩ := X19.out.cells
    replace X3 := hid X3.out.dr
    replace X4 := hid X4.out.dr
    replace X8 := hid X8.out.dr
    replace X9 := hid X9.out.dr
    replace X18 := hid X18.out.dr
    replace X19 := hid X19.out.dr
    replace X22 := hid X22.out.dr
    replace HNp := hid HNp.out.drew
    replace HDp := hid HDp.out.drew
    replace HNq := hid HNq.out.drew
    replace HDq := hid HDq.out.drew
    replace HNr := hid HNr.out.drew
    replace HDr := hid HDr.out.drew
    replace HNs := hid HNs.out.drew
    replace HDs := hid HDs.out.drew
    replace B := hid (Below.drew B.out)
    obtain ⟨cc435a, cc435b, cc435c⟩ := X8.out.cells
    obtain ⟨cc436a, cc436b, cc436c⟩ := X9.out.cells
    obtain ⟨cc437a, cc437b, cc437c⟩ := X18.out.cells
    obtain ⟨cc438a, cc438b, cc438c⟩ := X19.out.cells
    go_region_held3 (fun w' => w'.cell? ⟨w13.heap.size, 0, none⟩ = some (.bool spa) ∧ w'.cell? ⟨w13.heap.size, 1, none⟩ = some (.slice ppa npa cpa) ∧ w'.cell? ⟨w13.heap.size, 2, none⟩ = some (.slice ppb npb cpb) ∧ w'.cell? ⟨w13.heap.size + 1, 0, none⟩ = some (.bool sqa) ∧ w'.cell? ⟨w13.heap.size + 1, 1, none⟩ = some (.slice pqa nqa cqa) ∧ w'.cell? ⟨w13.heap.size + 1, 2, none⟩ = some (.slice pqb nqb cqb) ∧ w'.cell? ⟨w405.heap.size, 0, none⟩ = some (.bool sra) ∧ w'.cell? ⟨w405.heap.size, 1, none⟩ = some (.slice pra nra cra) ∧ w'.cell? ⟨w405.heap.size, 2, none⟩ = some (.slice prb nrb crb) ∧ w'.cell? ⟨w405.heap.size + 1, 0, none⟩ = some (.bool ssa) ∧ w'.cell? ⟨w405.heap.size + 1, 1, none⟩ = some (.slice psa nsa csa) ∧ w'.cell? ⟨w405.heap.size + 1, 2, none⟩ = some (.slice psb nsb csb)) (go_keep) (first
      | (have hm := mk439_2; clear hm; go_at_call 12; refine (rqtext (QR.mk2 HN2.out HD2.out) (by decide)).mono ?_; rintro e w455 ⟨rfl, hb⟩; replace X3 := vx X3 hb; replace X4 := vx X4 hb; replace X8 := qx X8 hb; replace X9 := qx X9 hb; replace X18 := qx X18 hb; replace X19 := qx X19 hb; replace X22 := ux X22 hb; replace HNp := wr HNp hb; replace HDp := wr HDp hb; replace HNq := wr HNq hb; replace HDq := wr HDq hb; replace HNr := wr HNr hb; replace HDr := wr HDr hb; replace HNs := wr HNs hb; replace HDs := wr HDs hb; replace HN1 := wr HN1 hb; replace HD1 := wr HD1 hb; replace HN2 := wr HN2 hb; replace HD2 := wr HD2 hb; replace B := bb B hb; clear cc451a cc451b cc451c cc452a cc452b cc452c cc453a cc453b cc453c cc454a cc454b cc454c; clear hb ; obtain ⟨cc456a, cc456b, cc456c⟩ := X8.out.cells; obtain ⟨cc457a, cc457b, cc457c⟩ := X9.out.cells; obtain ⟨cc458a, cc458b, cc458c⟩ := X18.out.cells; obtain ⟨cc459a, cc459b, cc459c⟩ := X19.out.cells; obtain ⟨cc460a, cc460b, cc460c, cc460d⟩ := X22.out.stores0; obtain ⟨r461a, r461b, r461c⟩ := X22.out.put0 B.out (by have := LG.out; have := L1.out; have := L2.out; have := L3.out; omega) (qtxt ((qnum al) + (qnum bl))) (qtxt ((qnum ah) + (qnum bh))); replace X3 := hid ((X3.out.other (g2 := w405.heap.size + 1 + 1) (by have := LG.out; have := L1.out; have := L2.out; have := L3.out; omega) 0 (.string (qtxt ((qnum al) + (qnum bl))))).other (g2 := w405.heap.size + 1 + 1) (by have := LG.out; have := L1.out; have := L2.out; have := L3.out; omega) 1 (.string (qtxt ((qnum ah) + (qnum bh))))); replace X4 := hid ((X4.out.other (g2 := w405.heap.size + 1 + 1) (by have := LG.out; have := L1.out; have := L2.out; have := L3.out; omega) 0 (.string (qtxt ((qnum al) + (qnum bl))))).other (g2 := w405.heap.size + 1 + 1) (by have := LG.out; have := L1.out; have := L2.out; have := L3.out; omega) 1 (.string (qtxt ((qnum ah) + (qnum bh))))); replace X8 := hid ((X8.out.other (g2 := w405.heap.size + 1 + 1) (by have := LG.out; have := L1.out; have := L2.out; have := L3.out; omega) 0 (.string (qtxt ((qnum al) + (qnum bl))))).other (g2 := w405.heap.size + 1 + 1) (by have := LG.out; have := L1.out; have := L2.out; have := L3.out; omega) 1 (.string (qtxt ((qnum ah) + (qnum bh))))); replace X9 := hid ((X9.out.other (g2 := w405.heap.size + 1 + 1) (by have := LG.out; have := L1.out; have := L2.out; have := L3.out; omega) 0 (.string (qtxt ((qnum al) + (qnum bl))))).other (g2 := w405.heap.size + 1 + 1) (by have := LG.out; have := L1.out; have := L2.out; have := L3.out; omega) 1 (.string (qtxt ((qnum ah) + (qnum bh))))); replace X18 := hid ((X18.out.other (g2 := w405.heap.size + 1 + 1) (by have := LG.out; have := L1.out; have := L2.out; have := L3.out; omega) 0 (.string (qtxt ((qnum al) + (qnum bl))))).other (g2 := w405.heap.size + 1 + 1) (by have := LG.out; have := L1.out; have := L2.out; have := L3.out; omega) 1 (.string (qtxt ((qnum ah) + (qnum bh))))); replace X19 := hid ((X19.out.other (g2 := w405.heap.size + 1 + 1) (by have := LG.out; have := L1.out; have := L2.out; have := L3.out; omega) 0 (.string (qtxt ((qnum al) + (qnum bl))))).other (g2 := w405.heap.size + 1 + 1) (by have := LG.out; have := L1.out; have := L2.out; have := L3.out; omega) 1 (.string (qtxt ((qnum ah) + (qnum bh))))); replace HNp := hid (r461c HNp.out); replace HDp := hid (r461c HDp.out); replace HNq := hid (r461c HNq.out); replace HDq := hid (r461c HDq.out); replace HNr := hid (r461c HNr.out); replace HDr := hid (r461c HDr.out); replace HNs := hid (r461c HNs.out); replace HDs := hid (r461c HDs.out); replace HN1 := hid (r461c HN1.out); replace HD1 := hid (r461c HD1.out); replace HN2 := hid (r461c HN2.out); replace HD2 := hid (r461c HD2.out); replace X22 := hid r461a; replace B := hid r461b; clear r461a r461b r461c; obtain ⟨cc462a, cc462b, cc462c⟩ := X8.out.cells; obtain ⟨cc463a, cc463b, cc463c⟩ := X9.out.cells; obtain ⟨cc464a, cc464b, cc464c⟩ := X18.out.cells; obtain ⟨cc465a, cc465b, cc465c⟩ := X19.out.cells; have mk439_3 := hid True.intro)
      | (have hm := mk439_1; clear hm; go_at_call 13; refine (radd (QR.mk2 HNq.out HDq.out) (QR.mk2 HNs.out HDs.out) (by decide)).mono ?_; rintro e w450 ⟨v, rfl, hv, hb⟩; obtain ⟨s2a, p2a, n2a, c2a, p2b, n2b, c2b, rfl⟩ := hv.opened; obtain ⟨ht2, hu2⟩ := hv.two; replace X3 := vx X3 hb; replace X4 := vx X4 hb; replace X8 := qx X8 hb; replace X9 := qx X9 hb; replace X18 := qx X18 hb; replace X19 := qx X19 hb; replace X22 := ux X22 hb; replace HNp := wr HNp hb; replace HDp := wr HDp hb; replace HNq := wr HNq hb; replace HDq := wr HDq hb; replace HNr := wr HNr hb; replace HDr := wr HDr hb; replace HNs := wr HNs hb; replace HDs := wr HDs hb; replace HN1 := wr HN1 hb; replace HD1 := wr HD1 hb; replace B := bb B hb; clear cc446a cc446b cc446c cc447a cc447b cc447c cc448a cc448b cc448c cc449a cc449b cc449c; have HN2 := hid ht2; have HD2 := hid hu2; clear hb hv ht2 hu2; obtain ⟨cc451a, cc451b, cc451c⟩ := X8.out.cells; obtain ⟨cc452a, cc452b, cc452c⟩ := X9.out.cells; obtain ⟨cc453a, cc453b, cc453c⟩ := X18.out.cells; obtain ⟨cc454a, cc454b, cc454c⟩ := X19.out.cells; have mk439_2 := hid True.intro)
      | (have hm := mk439_0; clear hm; go_at_call 12; refine (rqtext (QR.mk2 HN1.out HD1.out) (by decide)).mono ?_; rintro e w445 ⟨rfl, hb⟩; replace X3 := vx X3 hb; replace X4 := vx X4 hb; replace X8 := qx X8 hb; replace X9 := qx X9 hb; replace X18 := qx X18 hb; replace X19 := qx X19 hb; replace X22 := ux X22 hb; replace HNp := wr HNp hb; replace HDp := wr HDp hb; replace HNq := wr HNq hb; replace HDq := wr HDq hb; replace HNr := wr HNr hb; replace HDr := wr HDr hb; replace HNs := wr HNs hb; replace HDs := wr HDs hb; replace HN1 := wr HN1 hb; replace HD1 := wr HD1 hb; replace B := bb B hb; clear cc441a cc441b cc441c cc442a cc442b cc442c cc443a cc443b cc443c cc444a cc444b cc444c; clear hb ; obtain ⟨cc446a, cc446b, cc446c⟩ := X8.out.cells; obtain ⟨cc447a, cc447b, cc447c⟩ := X9.out.cells; obtain ⟨cc448a, cc448b, cc448c⟩ := X18.out.cells; obtain ⟨cc449a, cc449b, cc449c⟩ := X19.out.cells; have mk439_1 := hid True.intro)
      | (go_at_call 13; refine (radd (QR.mk2 HNp.out HDp.out) (QR.mk2 HNr.out HDr.out) (by decide)).mono ?_; rintro e w440 ⟨v, rfl, hv, hb⟩; obtain ⟨s1a, p1a, n1a, c1a, p1b, n1b, c1b, rfl⟩ := hv.opened; obtain ⟨ht1, hu1⟩ := hv.two; replace X3 := vx X3 hb; replace X4 := vx X4 hb; replace X8 := qx X8 hb; replace X9 := qx X9 hb; replace X18 := qx X18 hb; replace X19 := qx X19 hb; replace X22 := ux X22 hb; replace HNp := wr HNp hb; replace HDp := wr HDp hb; replace HNq := wr HNq hb; replace HDq := wr HDq hb; replace HNr := wr HNr hb; replace HDr := wr HDr hb; replace HNs := wr HNs hb; replace HDs := wr HDs hb; replace B := bb B hb; clear cc412a cc412b cc413a cc413b cc414a cc414b cc414c cc415a cc415b cc415c cc416a cc416b cc416c cc417a cc417b cc417c cc423a cc423b cc424a cc424b cc425a cc425b cc425c cc426a cc426b cc426c cc427a cc427b cc427c cc428a cc428b cc428c cc429a cc429b cc429c cc429d cc429e cc429f cc429g cc429h cc431a cc431b cc431c cc432a cc432b cc432c cc433a cc433b cc433c cc434a cc434b cc434c cc435a cc435b cc435c cc436a cc436b cc436c cc437a cc437b cc437c cc438a cc438b cc438c; have HN1 := hid ht1; have HD1 := hid hu1; clear hb hv ht1 hu1; obtain ⟨cc441a, cc441b, cc441c⟩ := X8.out.cells; obtain ⟨cc442a, cc442b, cc442c⟩ := X9.out.cells; obtain ⟨cc443a, cc443b, cc443c⟩ := X18.out.cells; obtain ⟨cc444a, cc444b, cc444c⟩ := X19.out.cells; have mk439_0 := hid True.intro))
    go_wp2_with fail
    generalize hW : (w455.setCell ⟨w405.heap.size + 1 + 1, 0, none⟩ (.string (qtxt ((qnum al) + (qnum bl))))).setCell ⟨w405.heap.size + 1 + 1, 1, none⟩ (.string (qtxt ((qnum ah) + (qnum bh)))) = W466 at *
    clear hW
    obtain ⟨cc467a, cc467b, cc467c⟩ := X8.out.cells
    obtain ⟨cc468a, cc468b, cc468c⟩ := X9.out.cells
    obtain ⟨cc469a, cc469b, cc469c⟩ := X18.out.cells
    obtain ⟨cc470a, cc470b, cc470c⟩ := X19.out.cells
    replace X3 := hid X3.out.dr
    replace X4 := hid X4.out.dr
    replace X8 := hid X8.out.dr
    replace X9 := hid X9.out.dr
    replace X18 := hid X18.out.dr
    replace X19 := hid X19.out.dr
    replace X22 := hid X22.out.dr
    replace HNp := hid HNp.out.drew
    replace HDp := hid HDp.out.drew
    replace HNq := hid HNq.out.drew
    replace HDq := hid HDq.out.drew
    replace HNr := hid HNr.out.drew
    replace HDr := hid HDr.out.drew
    replace HNs := hid HNs.out.drew
    replace HDs := hid HDs.out.drew
    replace B := hid (Below.drew B.out)
    obtain ⟨cc471a, cc471b, cc471c⟩ := X8.out.cells
    obtain ⟨cc472a, cc472b, cc472c⟩ := X9.out.cells
    obtain ⟨cc473a, cc473b, cc473c⟩ := X18.out.cells
    obtain ⟨cc474a, cc474b, cc474c⟩ := X19.out.cells
    go_region_held3 (fun w' => w'.cell? ⟨w13.heap.size, 0, none⟩ = some (.bool spa) ∧ w'.cell? ⟨w13.heap.size, 1, none⟩ = some (.slice ppa npa cpa) ∧ w'.cell? ⟨w13.heap.size, 2, none⟩ = some (.slice ppb npb cpb) ∧ w'.cell? ⟨w13.heap.size + 1, 0, none⟩ = some (.bool sqa) ∧ w'.cell? ⟨w13.heap.size + 1, 1, none⟩ = some (.slice pqa nqa cqa) ∧ w'.cell? ⟨w13.heap.size + 1, 2, none⟩ = some (.slice pqb nqb cqb) ∧ w'.cell? ⟨w405.heap.size, 0, none⟩ = some (.bool sra) ∧ w'.cell? ⟨w405.heap.size, 1, none⟩ = some (.slice pra nra cra) ∧ w'.cell? ⟨w405.heap.size, 2, none⟩ = some (.slice prb nrb crb) ∧ w'.cell? ⟨w405.heap.size + 1, 0, none⟩ = some (.bool ssa) ∧ w'.cell? ⟨w405.heap.size + 1, 1, none⟩ = some (.slice psa nsa csa) ∧ w'.cell? ⟨w405.heap.size + 1, 2, none⟩ = some (.slice psb nsb csb)) (go_keep) (first
      | (have hm := mk475_3; clear hm; have hb496 := (Below.refl _ _).alloc (Nat.le_refl w491.heap.size) (.cells #[.bool s1a, .slice p1a n1a c1a, .slice p1b n1b c1b, .bool s2a, .slice p2a n2a c2a, .slice p2b n2b c2b, .bool s3a, .slice p3a n3a c3a, .slice p3b n3b c3b, .bool s4a, .slice p4a n4a c4a, .slice p4b n4b c4b] 30); have hx497 := qrow_new4 (w := w491) (QR.mk2 HN1.out HD1.out) (QR.mk2 HN2.out HD2.out) (QR.mk2 HN3.out HD3.out) (QR.mk2 HN4.out HD4.out); replace X3 := vx X3 hb496; replace X4 := vx X4 hb496; replace X8 := qx X8 hb496; replace X9 := qx X9 hb496; replace X18 := qx X18 hb496; replace X19 := qx X19 hb496; replace X22 := ux X22 hb496; replace HNp := wr HNp hb496; replace HDp := wr HDp hb496; replace HNq := wr HNq hb496; replace HDq := wr HDq hb496; replace HNr := wr HNr hb496; replace HDr := wr HDr hb496; replace HNs := wr HNs hb496; replace HDs := wr HDs hb496; replace HN1 := wr HN1 hb496; replace HD1 := wr HD1 hb496; replace HN2 := wr HN2 hb496; replace HD2 := wr HD2 hb496; replace HN3 := wr HN3 hb496; replace HD3 := wr HD3 hb496; replace HN4 := wr HN4 hb496; replace HD4 := wr HD4 hb496; replace B := bb B hb496; have HR := hid hx497; clear hb496 hx497; go_at_call 14; refine (rends4 HR.out (by decide)).mono ?_; rintro e w498 ⟨rfl, hb⟩; replace X3 := vx X3 hb; replace X4 := vx X4 hb; replace X8 := qx X8 hb; replace X9 := qx X9 hb; replace X18 := qx X18 hb; replace X19 := qx X19 hb; replace X22 := ux X22 hb; replace HNp := wr HNp hb; replace HDp := wr HDp hb; replace HNq := wr HNq hb; replace HDq := wr HDq hb; replace HNr := wr HNr hb; replace HDr := wr HDr hb; replace HNs := wr HNs hb; replace HDs := wr HDs hb; replace HN1 := wr HN1 hb; replace HD1 := wr HD1 hb; replace HN2 := wr HN2 hb; replace HD2 := wr HD2 hb; replace HN3 := wr HN3 hb; replace HD3 := wr HD3 hb; replace HN4 := wr HN4 hb; replace HD4 := wr HD4 hb; replace B := bb B hb; clear cc492a cc492b cc492c cc493a cc493b cc493c cc494a cc494b cc494c cc495a cc495b cc495c; clear hb HR; obtain ⟨cc499a, cc499b, cc499c⟩ := X8.out.cells; obtain ⟨cc500a, cc500b, cc500c⟩ := X9.out.cells; obtain ⟨cc501a, cc501b, cc501c⟩ := X18.out.cells; obtain ⟨cc502a, cc502b, cc502c⟩ := X19.out.cells; obtain ⟨cc503a, cc503b, cc503c, cc503d⟩ := X22.out.stores1; obtain ⟨r504a, r504b, r504c⟩ := X22.out.put1 B.out (by have := LG.out; have := L1.out; have := L2.out; have := L3.out; omega) (qtxt (lo4 ((qnum al) * (qnum bl)) ((qnum al) * (qnum bh)) ((qnum ah) * (qnum bl)) ((qnum ah) * (qnum bh)))) (qtxt (hi4 ((qnum al) * (qnum bl)) ((qnum al) * (qnum bh)) ((qnum ah) * (qnum bl)) ((qnum ah) * (qnum bh)))); replace X3 := hid ((X3.out.other (g2 := w405.heap.size + 1 + 1) (by have := LG.out; have := L1.out; have := L2.out; have := L3.out; omega) 2 (.string (qtxt (lo4 ((qnum al) * (qnum bl)) ((qnum al) * (qnum bh)) ((qnum ah) * (qnum bl)) ((qnum ah) * (qnum bh)))))).other (g2 := w405.heap.size + 1 + 1) (by have := LG.out; have := L1.out; have := L2.out; have := L3.out; omega) 3 (.string (qtxt (hi4 ((qnum al) * (qnum bl)) ((qnum al) * (qnum bh)) ((qnum ah) * (qnum bl)) ((qnum ah) * (qnum bh)))))); replace X4 := hid ((X4.out.other (g2 := w405.heap.size + 1 + 1) (by have := LG.out; have := L1.out; have := L2.out; have := L3.out; omega) 2 (.string (qtxt (lo4 ((qnum al) * (qnum bl)) ((qnum al) * (qnum bh)) ((qnum ah) * (qnum bl)) ((qnum ah) * (qnum bh)))))).other (g2 := w405.heap.size + 1 + 1) (by have := LG.out; have := L1.out; have := L2.out; have := L3.out; omega) 3 (.string (qtxt (hi4 ((qnum al) * (qnum bl)) ((qnum al) * (qnum bh)) ((qnum ah) * (qnum bl)) ((qnum ah) * (qnum bh)))))); replace X8 := hid ((X8.out.other (g2 := w405.heap.size + 1 + 1) (by have := LG.out; have := L1.out; have := L2.out; have := L3.out; omega) 2 (.string (qtxt (lo4 ((qnum al) * (qnum bl)) ((qnum al) * (qnum bh)) ((qnum ah) * (qnum bl)) ((qnum ah) * (qnum bh)))))).other (g2 := w405.heap.size + 1 + 1) (by have := LG.out; have := L1.out; have := L2.out; have := L3.out; omega) 3 (.string (qtxt (hi4 ((qnum al) * (qnum bl)) ((qnum al) * (qnum bh)) ((qnum ah) * (qnum bl)) ((qnum ah) * (qnum bh)))))); replace X9 := hid ((X9.out.other (g2 := w405.heap.size + 1 + 1) (by have := LG.out; have := L1.out; have := L2.out; have := L3.out; omega) 2 (.string (qtxt (lo4 ((qnum al) * (qnum bl)) ((qnum al) * (qnum bh)) ((qnum ah) * (qnum bl)) ((qnum ah) * (qnum bh)))))).other (g2 := w405.heap.size + 1 + 1) (by have := LG.out; have := L1.out; have := L2.out; have := L3.out; omega) 3 (.string (qtxt (hi4 ((qnum al) * (qnum bl)) ((qnum al) * (qnum bh)) ((qnum ah) * (qnum bl)) ((qnum ah) * (qnum bh)))))); replace X18 := hid ((X18.out.other (g2 := w405.heap.size + 1 + 1) (by have := LG.out; have := L1.out; have := L2.out; have := L3.out; omega) 2 (.string (qtxt (lo4 ((qnum al) * (qnum bl)) ((qnum al) * (qnum bh)) ((qnum ah) * (qnum bl)) ((qnum ah) * (qnum bh)))))).other (g2 := w405.heap.size + 1 + 1) (by have := LG.out; have := L1.out; have := L2.out; have := L3.out; omega) 3 (.string (qtxt (hi4 ((qnum al) * (qnum bl)) ((qnum al) * (qnum bh)) ((qnum ah) * (qnum bl)) ((qnum ah) * (qnum bh)))))); replace X19 := hid ((X19.out.other (g2 := w405.heap.size + 1 + 1) (by have := LG.out; have := L1.out; have := L2.out; have := L3.out; omega) 2 (.string (qtxt (lo4 ((qnum al) * (qnum bl)) ((qnum al) * (qnum bh)) ((qnum ah) * (qnum bl)) ((qnum ah) * (qnum bh)))))).other (g2 := w405.heap.size + 1 + 1) (by have := LG.out; have := L1.out; have := L2.out; have := L3.out; omega) 3 (.string (qtxt (hi4 ((qnum al) * (qnum bl)) ((qnum al) * (qnum bh)) ((qnum ah) * (qnum bl)) ((qnum ah) * (qnum bh)))))); replace HNp := hid (r504c HNp.out); replace HDp := hid (r504c HDp.out); replace HNq := hid (r504c HNq.out); replace HDq := hid (r504c HDq.out); replace HNr := hid (r504c HNr.out); replace HDr := hid (r504c HDr.out); replace HNs := hid (r504c HNs.out); replace HDs := hid (r504c HDs.out); replace HN1 := hid (r504c HN1.out); replace HD1 := hid (r504c HD1.out); replace HN2 := hid (r504c HN2.out); replace HD2 := hid (r504c HD2.out); replace HN3 := hid (r504c HN3.out); replace HD3 := hid (r504c HD3.out); replace HN4 := hid (r504c HN4.out); replace HD4 := hid (r504c HD4.out); replace X22 := hid r504a; replace B := hid r504b; clear r504a r504b r504c; obtain ⟨cc505a, cc505b, cc505c⟩ := X8.out.cells; obtain ⟨cc506a, cc506b, cc506c⟩ := X9.out.cells; obtain ⟨cc507a, cc507b, cc507c⟩ := X18.out.cells; obtain ⟨cc508a, cc508b, cc508c⟩ := X19.out.cells; have mk475_4 := hid True.intro)
      | (have hm := mk475_2; clear hm; go_at_call 15; refine (rmul (QR.mk2 HNq.out HDq.out) (QR.mk2 HNs.out HDs.out) (by decide)).mono ?_; rintro e w491 ⟨v, rfl, hv, hb⟩; obtain ⟨s4a, p4a, n4a, c4a, p4b, n4b, c4b, rfl⟩ := hv.opened; obtain ⟨ht4, hu4⟩ := hv.two; replace X3 := vx X3 hb; replace X4 := vx X4 hb; replace X8 := qx X8 hb; replace X9 := qx X9 hb; replace X18 := qx X18 hb; replace X19 := qx X19 hb; replace X22 := ux X22 hb; replace HNp := wr HNp hb; replace HDp := wr HDp hb; replace HNq := wr HNq hb; replace HDq := wr HDq hb; replace HNr := wr HNr hb; replace HDr := wr HDr hb; replace HNs := wr HNs hb; replace HDs := wr HDs hb; replace HN1 := wr HN1 hb; replace HD1 := wr HD1 hb; replace HN2 := wr HN2 hb; replace HD2 := wr HD2 hb; replace HN3 := wr HN3 hb; replace HD3 := wr HD3 hb; replace B := bb B hb; clear cc487a cc487b cc487c cc488a cc488b cc488c cc489a cc489b cc489c cc490a cc490b cc490c; have HN4 := hid ht4; have HD4 := hid hu4; clear hb hv ht4 hu4; obtain ⟨cc492a, cc492b, cc492c⟩ := X8.out.cells; obtain ⟨cc493a, cc493b, cc493c⟩ := X9.out.cells; obtain ⟨cc494a, cc494b, cc494c⟩ := X18.out.cells; obtain ⟨cc495a, cc495b, cc495c⟩ := X19.out.cells; have mk475_3 := hid True.intro)
      | (have hm := mk475_1; clear hm; go_at_call 15; refine (rmul (QR.mk2 HNq.out HDq.out) (QR.mk2 HNr.out HDr.out) (by decide)).mono ?_; rintro e w486 ⟨v, rfl, hv, hb⟩; obtain ⟨s3a, p3a, n3a, c3a, p3b, n3b, c3b, rfl⟩ := hv.opened; obtain ⟨ht3, hu3⟩ := hv.two; replace X3 := vx X3 hb; replace X4 := vx X4 hb; replace X8 := qx X8 hb; replace X9 := qx X9 hb; replace X18 := qx X18 hb; replace X19 := qx X19 hb; replace X22 := ux X22 hb; replace HNp := wr HNp hb; replace HDp := wr HDp hb; replace HNq := wr HNq hb; replace HDq := wr HDq hb; replace HNr := wr HNr hb; replace HDr := wr HDr hb; replace HNs := wr HNs hb; replace HDs := wr HDs hb; replace HN1 := wr HN1 hb; replace HD1 := wr HD1 hb; replace HN2 := wr HN2 hb; replace HD2 := wr HD2 hb; replace B := bb B hb; clear cc482a cc482b cc482c cc483a cc483b cc483c cc484a cc484b cc484c cc485a cc485b cc485c; have HN3 := hid ht3; have HD3 := hid hu3; clear hb hv ht3 hu3; obtain ⟨cc487a, cc487b, cc487c⟩ := X8.out.cells; obtain ⟨cc488a, cc488b, cc488c⟩ := X9.out.cells; obtain ⟨cc489a, cc489b, cc489c⟩ := X18.out.cells; obtain ⟨cc490a, cc490b, cc490c⟩ := X19.out.cells; have mk475_2 := hid True.intro)
      | (have hm := mk475_0; clear hm; go_at_call 15; refine (rmul (QR.mk2 HNp.out HDp.out) (QR.mk2 HNs.out HDs.out) (by decide)).mono ?_; rintro e w481 ⟨v, rfl, hv, hb⟩; obtain ⟨s2a, p2a, n2a, c2a, p2b, n2b, c2b, rfl⟩ := hv.opened; obtain ⟨ht2, hu2⟩ := hv.two; replace X3 := vx X3 hb; replace X4 := vx X4 hb; replace X8 := qx X8 hb; replace X9 := qx X9 hb; replace X18 := qx X18 hb; replace X19 := qx X19 hb; replace X22 := ux X22 hb; replace HNp := wr HNp hb; replace HDp := wr HDp hb; replace HNq := wr HNq hb; replace HDq := wr HDq hb; replace HNr := wr HNr hb; replace HDr := wr HDr hb; replace HNs := wr HNs hb; replace HDs := wr HDs hb; replace HN1 := wr HN1 hb; replace HD1 := wr HD1 hb; replace B := bb B hb; clear cc477a cc477b cc477c cc478a cc478b cc478c cc479a cc479b cc479c cc480a cc480b cc480c; have HN2 := hid ht2; have HD2 := hid hu2; clear hb hv ht2 hu2; obtain ⟨cc482a, cc482b, cc482c⟩ := X8.out.cells; obtain ⟨cc483a, cc483b, cc483c⟩ := X9.out.cells; obtain ⟨cc484a, cc484b, cc484c⟩ := X18.out.cells; obtain ⟨cc485a, cc485b, cc485c⟩ := X19.out.cells; have mk475_1 := hid True.intro)
      | (go_at_call 15; refine (rmul (QR.mk2 HNp.out HDp.out) (QR.mk2 HNr.out HDr.out) (by decide)).mono ?_; rintro e w476 ⟨v, rfl, hv, hb⟩; obtain ⟨s1a, p1a, n1a, c1a, p1b, n1b, c1b, rfl⟩ := hv.opened; obtain ⟨ht1, hu1⟩ := hv.two; replace X3 := vx X3 hb; replace X4 := vx X4 hb; replace X8 := qx X8 hb; replace X9 := qx X9 hb; replace X18 := qx X18 hb; replace X19 := qx X19 hb; replace X22 := ux X22 hb; replace HNp := wr HNp hb; replace HDp := wr HDp hb; replace HNq := wr HNq hb; replace HDq := wr HDq hb; replace HNr := wr HNr hb; replace HDr := wr HDr hb; replace HNs := wr HNs hb; replace HDs := wr HDs hb; replace B := bb B hb; clear cc456a cc456b cc456c cc457a cc457b cc457c cc458a cc458b cc458c cc459a cc459b cc459c cc460a cc460b cc460c cc460d cc462a cc462b cc462c cc463a cc463b cc463c cc464a cc464b cc464c cc465a cc465b cc465c cc467a cc467b cc467c cc468a cc468b cc468c cc469a cc469b cc469c cc470a cc470b cc470c cc471a cc471b cc471c cc472a cc472b cc472c cc473a cc473b cc473c cc474a cc474b cc474c; have HN1 := hid ht1; have HD1 := hid hu1; clear hb hv ht1 hu1; obtain ⟨cc477a, cc477b, cc477c⟩ := X8.out.cells; obtain ⟨cc478a, cc478b, cc478c⟩ := X9.out.cells; obtain ⟨cc479a, cc479b, cc479c⟩ := X18.out.cells; obtain ⟨cc480a, cc480b, cc480c⟩ := X19.out.cells; have mk475_0 := hid True.intro))
    generalize hW : (w498.setCell ⟨w405.heap.size + 1 + 1, 2, none⟩ (.string (qtxt (lo4 ((qnum al) * (qnum bl)) ((qnum al) * (qnum bh)) ((qnum ah) * (qnum bl)) ((qnum ah) * (qnum bh)))))).setCell ⟨w405.heap.size + 1 + 1, 3, none⟩ (.string (qtxt (hi4 ((qnum al) * (qnum bl)) ((qnum al) * (qnum bh)) ((qnum ah) * (qnum bl)) ((qnum ah) * (qnum bh))))) = W509 at *
    clear hW
    clear cc499a cc499b cc499c cc500a cc500b cc500c cc501a cc501b cc501c cc502a cc502b cc502c cc503a cc503b cc503c cc503d cc505a cc505b cc505c cc506a cc506b cc506c cc507a cc507b cc507c cc508a cc508b cc508c
    obtain ⟨cc510a, cc510b, cc510c⟩ := X8.out.cells
    obtain ⟨cc511a, cc511b, cc511c⟩ := X9.out.cells
    obtain ⟨cc512a, cc512b, cc512c⟩ := X18.out.cells
    obtain ⟨cc513a, cc513b, cc513c⟩ := X19.out.cells
    have hb514 := (Below.refl _ _).alloc (Nat.le_refl W509.heap.size) (.cells #[.bool spa, .slice ppa npa cpa, .slice ppb npb cpb, .bool sqa, .slice pqa nqa cqa, .slice pqb nqb cqb, .bool sra, .slice pra nra cra, .slice prb nrb crb, .bool ssa, .slice psa nsa csa, .slice psb nsb csb] 30)
    have hx515 := qrow_new4 (w := W509) (QR.mk2 HNp.out HDp.out) (QR.mk2 HNq.out HDq.out) (QR.mk2 HNr.out HDr.out) (QR.mk2 HNs.out HDs.out)
    replace X3 := vx X3 hb514
    replace X4 := vx X4 hb514
    replace X8 := qx X8 hb514
    replace X9 := qx X9 hb514
    replace X18 := qx X18 hb514
    replace X19 := qx X19 hb514
    replace X22 := ux X22 hb514
    replace HNp := wr HNp hb514
    replace HDp := wr HDp hb514
    replace HNq := wr HNq hb514
    replace HDq := wr HDq hb514
    replace HNr := wr HNr hb514
    replace HDr := wr HDr hb514
    replace HNs := wr HNs hb514
    replace HDs := wr HDs hb514
    replace B := bb B hb514
    have HR := hid hx515
    clear hb514 hx515
    go_wp2_with fail
    refine (rends4 HR.out (by decide)).mono ?_
    rintro e w516 ⟨rfl, hb⟩
    replace X3 := vx X3 hb
    replace X4 := vx X4 hb
    replace X8 := qx X8 hb
    replace X9 := qx X9 hb
    replace X18 := qx X18 hb
    replace X19 := qx X19 hb
    replace X22 := ux X22 hb
    replace HNp := wr HNp hb
    replace HDp := wr HDp hb
    replace HNq := wr HNq hb
    replace HDq := wr HDq hb
    replace HNr := wr HNr hb
    replace HDr := wr HDr hb
    replace HNs := wr HNs hb
    replace HDs := wr HDs hb
    replace B := bb B hb
    clear cc510a cc510b cc510c cc511a cc511b cc511c cc512a cc512b cc512c cc513a cc513b cc513c
    clear hb HR
    obtain ⟨cc517a, cc517b, cc517c⟩ := X8.out.cells
    obtain ⟨cc518a, cc518b, cc518c⟩ := X9.out.cells
    obtain ⟨cc519a, cc519b, cc519c⟩ := X18.out.cells
    obtain ⟨cc520a, cc520b, cc520c⟩ := X19.out.cells
    obtain ⟨cc521a, cc521b, cc521c, cc521d⟩ := X22.out.stores2
    obtain ⟨r522a, r522b, r522c⟩ := X22.out.put2 B.out (by have := LG.out; have := L1.out; have := L2.out; have := L3.out; omega) (qtxt (lo4 (qnum al) (qnum ah) (qnum bl) (qnum bh))) (qtxt (hi4 (qnum al) (qnum ah) (qnum bl) (qnum bh)))
    replace X3 := hid ((X3.out.other (g2 := w405.heap.size + 1 + 1) (by have := LG.out; have := L1.out; have := L2.out; have := L3.out; omega) 4 (.string (qtxt (lo4 (qnum al) (qnum ah) (qnum bl) (qnum bh))))).other (g2 := w405.heap.size + 1 + 1) (by have := LG.out; have := L1.out; have := L2.out; have := L3.out; omega) 5 (.string (qtxt (hi4 (qnum al) (qnum ah) (qnum bl) (qnum bh)))))
    replace X4 := hid ((X4.out.other (g2 := w405.heap.size + 1 + 1) (by have := LG.out; have := L1.out; have := L2.out; have := L3.out; omega) 4 (.string (qtxt (lo4 (qnum al) (qnum ah) (qnum bl) (qnum bh))))).other (g2 := w405.heap.size + 1 + 1) (by have := LG.out; have := L1.out; have := L2.out; have := L3.out; omega) 5 (.string (qtxt (hi4 (qnum al) (qnum ah) (qnum bl) (qnum bh)))))
    replace X8 := hid ((X8.out.other (g2 := w405.heap.size + 1 + 1) (by have := LG.out; have := L1.out; have := L2.out; have := L3.out; omega) 4 (.string (qtxt (lo4 (qnum al) (qnum ah) (qnum bl) (qnum bh))))).other (g2 := w405.heap.size + 1 + 1) (by have := LG.out; have := L1.out; have := L2.out; have := L3.out; omega) 5 (.string (qtxt (hi4 (qnum al) (qnum ah) (qnum bl) (qnum bh)))))
    replace X9 := hid ((X9.out.other (g2 := w405.heap.size + 1 + 1) (by have := LG.out; have := L1.out; have := L2.out; have := L3.out; omega) 4 (.string (qtxt (lo4 (qnum al) (qnum ah) (qnum bl) (qnum bh))))).other (g2 := w405.heap.size + 1 + 1) (by have := LG.out; have := L1.out; have := L2.out; have := L3.out; omega) 5 (.string (qtxt (hi4 (qnum al) (qnum ah) (qnum bl) (qnum bh)))))
    replace X18 := hid ((X18.out.other (g2 := w405.heap.size + 1 + 1) (by have := LG.out; have := L1.out; have := L2.out; have := L3.out; omega) 4 (.string (qtxt (lo4 (qnum al) (qnum ah) (qnum bl) (qnum bh))))).other (g2 := w405.heap.size + 1 + 1) (by have := LG.out; have := L1.out; have := L2.out; have := L3.out; omega) 5 (.string (qtxt (hi4 (qnum al) (qnum ah) (qnum bl) (qnum bh)))))
    replace X19 := hid ((X19.out.other (g2 := w405.heap.size + 1 + 1) (by have := LG.out; have := L1.out; have := L2.out; have := L3.out; omega) 4 (.string (qtxt (lo4 (qnum al) (qnum ah) (qnum bl) (qnum bh))))).other (g2 := w405.heap.size + 1 + 1) (by have := LG.out; have := L1.out; have := L2.out; have := L3.out; omega) 5 (.string (qtxt (hi4 (qnum al) (qnum ah) (qnum bl) (qnum bh)))))
    replace HNp := hid (r522c HNp.out)
    replace HDp := hid (r522c HDp.out)
    replace HNq := hid (r522c HNq.out)
    replace HDq := hid (r522c HDq.out)
    replace HNr := hid (r522c HNr.out)
    replace HDr := hid (r522c HDr.out)
    replace HNs := hid (r522c HNs.out)
    replace HDs := hid (r522c HDs.out)
    replace X22 := hid r522a
    replace B := hid r522b
    clear r522a r522b r522c
    obtain ⟨cc523a, cc523b, cc523c⟩ := X8.out.cells
    obtain ⟨cc524a, cc524b, cc524c⟩ := X9.out.cells
    obtain ⟨cc525a, cc525b, cc525c⟩ := X18.out.cells
    obtain ⟨cc526a, cc526b, cc526c⟩ := X19.out.cells
    go_wp2_with fail
    generalize hW : (w516.setCell ⟨w405.heap.size + 1 + 1, 4, none⟩ (.string (qtxt (lo4 (qnum al) (qnum ah) (qnum bl) (qnum bh))))).setCell ⟨w405.heap.size + 1 + 1, 5, none⟩ (.string (qtxt (hi4 (qnum al) (qnum ah) (qnum bl) (qnum bh)))) = W527 at *
    clear hW
    refine (rsgn (QR.mk2 HNr.out HDr.out) (by decide)).mono ?_
    rintro e w528 ⟨rfl, hb⟩
    replace X3 := vx X3 hb
    replace X4 := vx X4 hb
    replace X8 := qx X8 hb
    replace X9 := qx X9 hb
    replace X18 := qx X18 hb
    replace X19 := qx X19 hb
    replace X22 := ux X22 hb
    replace HNp := wr HNp hb
    replace HDp := wr HDp hb
    replace HNq := wr HNq hb
    replace HDq := wr HDq hb
    replace HNr := wr HNr hb
    replace HDr := wr HDr hb
    replace HNs := wr HNs hb
    replace HDs := wr HDs hb
    replace B := bb B hb
    clear cc517a cc517b cc517c cc518a cc518b cc518c cc519a cc519b cc519c cc520a cc520b cc520c cc521a cc521b cc521c cc521d cc523a cc523b cc523c cc524a cc524b cc524c cc525a cc525b cc525c cc526a cc526b cc526c
    clear hb 
    rcases H3.out with h0 | h0 | ⟨h1, h0⟩
    · have hz1 : (qnum bl).num.sign ≤ 0 := (sgn_le _).2 h0.1
      have hz2 : 0 ≤ (qnum bh).num.sign := (sgn_ge _).2 h0.2
      have H0 := hid h0
      clear h0
      generalize (qnum bl).num.sign = z1 at *
      obtain ⟨cc529a, cc529b⟩ := X3.out.both
      obtain ⟨cc530a, cc530b⟩ := X4.out.both
      obtain ⟨cc531a, cc531b, cc531c⟩ := X8.out.cells
      obtain ⟨cc532a, cc532b, cc532c⟩ := X9.out.cells
      obtain ⟨cc533a, cc533b, cc533c⟩ := X18.out.cells
      obtain ⟨cc534a, cc534b, cc534c⟩ := X19.out.cells
      obtain ⟨cc535a, cc535b, cc535c, cc535d, cc535e, cc535f, cc535g, cc535h⟩ := X22.out.cells
      go_wp2_with fail
      refine (rsgn (QR.mk2 HNs.out HDs.out) (by decide)).mono ?_
      rintro e w536 ⟨rfl, hb⟩
      replace X3 := vx X3 hb
      replace X4 := vx X4 hb
      replace X8 := qx X8 hb
      replace X9 := qx X9 hb
      replace X18 := qx X18 hb
      replace X19 := qx X19 hb
      replace X22 := ux X22 hb
      replace HNp := wr HNp hb
      replace HDp := wr HDp hb
      replace HNq := wr HNq hb
      replace HDq := wr HDq hb
      replace HNr := wr HNr hb
      replace HDr := wr HDr hb
      replace HNs := wr HNs hb
      replace HDs := wr HDs hb
      replace B := bb B hb
      clear cc529a cc529b cc530a cc530b cc531a cc531b cc531c cc532a cc532b cc532c cc533a cc533b cc533c cc534a cc534b cc534c cc535a cc535b cc535c cc535d cc535e cc535f cc535g cc535h
      clear hb 
      generalize (qnum bh).num.sign = z2 at *
      obtain ⟨cc537a, cc537b⟩ := X3.out.both
      obtain ⟨cc538a, cc538b⟩ := X4.out.both
      obtain ⟨cc539a, cc539b, cc539c⟩ := X8.out.cells
      obtain ⟨cc540a, cc540b, cc540c⟩ := X9.out.cells
      obtain ⟨cc541a, cc541b, cc541c⟩ := X18.out.cells
      obtain ⟨cc542a, cc542b, cc542c⟩ := X19.out.cells
      obtain ⟨cc543a, cc543b, cc543c, cc543d, cc543e, cc543f, cc543g, cc543h⟩ := X22.out.cells
      go_wp2_with fail
      refine (iadd_good2 GA.out GB.out w536).mono ?_
      rintro e w544 ⟨rfl, hb⟩
      replace X3 := vx X3 hb
      replace X4 := vx X4 hb
      replace X22 := ux X22 hb
      replace B := bb B hb
      clear cc537a cc537b cc538a cc538b cc539a cc539b cc539c cc540a cc540b cc540c cc541a cc541b cc541c cc542a cc542b cc542c cc543a cc543b cc543c cc543d cc543e cc543f cc543g cc543h
      clear hb 
      have hb545 := (Below.refl _ _).alloc (Nat.le_refl w544.heap.size) (.cells #[.string (qtxt ((qnum al) + (qnum bl))), .string (qtxt ((qnum ah) + (qnum bh)))] 23)
      have hx546 := Vbx.new w544 (qtxt ((qnum al) + (qnum bl))) (qtxt ((qnum ah) + (qnum bh)))
      have L4 := hid X22.out.lt
      replace X3 := vx X3 hb545
      replace X4 := vx X4 hb545
      replace X22 := ux X22 hb545
      replace B := bb B hb545
      have Xc := hid hx546
      have hs547 : (w544.alloc (.cells #[.string (qtxt ((qnum al) + (qnum bl))), .string (qtxt ((qnum ah) + (qnum bh)))] 23)).heap.size = w544.heap.size + 1 := by simp
      clear hb545 hx546
      obtain ⟨cc548a, cc548b⟩ := X3.out.both
      obtain ⟨cc549a, cc549b⟩ := X4.out.both
      obtain ⟨cc550a, cc550b, cc550c, cc550d, cc550e, cc550f, cc550g, cc550h⟩ := X22.out.cells
      obtain ⟨cc551a, cc551b⟩ := Xc.out.both
      go_wp2_with fail
      generalize hW : w544.alloc (.cells #[.string (qtxt ((qnum al) + (qnum bl))), .string (qtxt ((qnum ah) + (qnum bh)))] 23) = W552 at *
      clear hW
      refine (same_nil W552 (HDR.out.below B.out)).mono ?_
      rintro e w553 ⟨rfl, hb⟩
      replace X3 := vx X3 hb
      replace X4 := vx X4 hb
      replace X22 := ux X22 hb
      replace Xc := vx Xc hb
      replace B := bb B hb
      clear cc548a cc548b cc549a cc549b cc550a cc550b cc550c cc550d cc550e cc550f cc550g cc550h cc551a cc551b
      clear hb 
      obtain ⟨cc554a, cc554b⟩ := X3.out.both
      obtain ⟨cc555a, cc555b⟩ := X4.out.both
      obtain ⟨cc556a, cc556b, cc556c, cc556d, cc556e, cc556f, cc556g, cc556h⟩ := X22.out.cells
      obtain ⟨cc557a, cc557b⟩ := Xc.out.both
      go_wp2_with fail
      refine (imul_good GA.out GB.out w553).mono ?_
      rintro e w558 ⟨rfl, hb⟩
      replace X3 := vx X3 hb
      replace X4 := vx X4 hb
      replace X22 := ux X22 hb
      replace Xc := vx Xc hb
      replace B := bb B hb
      clear cc554a cc554b cc555a cc555b cc556a cc556b cc556c cc556d cc556e cc556f cc556g cc556h cc557a cc557b
      clear hb 
      have hb559 := (Below.refl _ _).alloc (Nat.le_refl w558.heap.size) (.cells #[.string (qtxt (lo4 ((qnum al) * (qnum bl)) ((qnum al) * (qnum bh)) ((qnum ah) * (qnum bl)) ((qnum ah) * (qnum bh)))), .string (qtxt (hi4 ((qnum al) * (qnum bl)) ((qnum al) * (qnum bh)) ((qnum ah) * (qnum bl)) ((qnum ah) * (qnum bh))))] 23)
      have hx560 := Vbx.new w558 (qtxt (lo4 ((qnum al) * (qnum bl)) ((qnum al) * (qnum bh)) ((qnum ah) * (qnum bl)) ((qnum ah) * (qnum bh)))) (qtxt (hi4 ((qnum al) * (qnum bl)) ((qnum al) * (qnum bh)) ((qnum ah) * (qnum bl)) ((qnum ah) * (qnum bh))))
      have L5 := hid Xc.out.lt
      replace X3 := vx X3 hb559
      replace X4 := vx X4 hb559
      replace X22 := ux X22 hb559
      replace Xc := vx Xc hb559
      replace B := bb B hb559
      have Xd := hid hx560
      have hs561 : (w558.alloc (.cells #[.string (qtxt (lo4 ((qnum al) * (qnum bl)) ((qnum al) * (qnum bh)) ((qnum ah) * (qnum bl)) ((qnum ah) * (qnum bh)))), .string (qtxt (hi4 ((qnum al) * (qnum bl)) ((qnum al) * (qnum bh)) ((qnum ah) * (qnum bl)) ((qnum ah) * (qnum bh))))] 23)).heap.size = w558.heap.size + 1 := by simp
      clear hb559 hx560
      obtain ⟨cc562a, cc562b⟩ := X3.out.both
      obtain ⟨cc563a, cc563b⟩ := X4.out.both
      obtain ⟨cc564a, cc564b, cc564c, cc564d, cc564e, cc564f, cc564g, cc564h⟩ := X22.out.cells
      obtain ⟨cc565a, cc565b⟩ := Xc.out.both
      obtain ⟨cc566a, cc566b⟩ := Xd.out.both
      go_wp2_with fail
      generalize hW : w558.alloc (.cells #[.string (qtxt (lo4 ((qnum al) * (qnum bl)) ((qnum al) * (qnum bh)) ((qnum ah) * (qnum bl)) ((qnum ah) * (qnum bh)))), .string (qtxt (hi4 ((qnum al) * (qnum bl)) ((qnum al) * (qnum bh)) ((qnum ah) * (qnum bl)) ((qnum ah) * (qnum bh))))] 23) = W567 at *
      clear hW
      refine (same_nil W567 (HDR.out.below B.out)).mono ?_
      rintro e w568 ⟨rfl, hb⟩
      replace X3 := vx X3 hb
      replace X4 := vx X4 hb
      replace X22 := ux X22 hb
      replace Xc := vx Xc hb
      replace Xd := vx Xd hb
      replace B := bb B hb
      clear cc562a cc562b cc563a cc563b cc564a cc564b cc564c cc564d cc564e cc564f cc564g cc564h cc565a cc565b cc566a cc566b
      clear hb 
      obtain ⟨cc569a, cc569b⟩ := X3.out.both
      obtain ⟨cc570a, cc570b⟩ := X4.out.both
      obtain ⟨cc571a, cc571b, cc571c, cc571d, cc571e, cc571f, cc571g, cc571h⟩ := X22.out.cells
      obtain ⟨cc572a, cc572b⟩ := Xc.out.both
      obtain ⟨cc573a, cc573b⟩ := Xd.out.both
      go_wp2_with fail
      refine (ihull_good GA.out GB.out w568).mono ?_
      rintro e w574 ⟨rfl, hb⟩
      replace X3 := vx X3 hb
      replace X4 := vx X4 hb
      replace X22 := ux X22 hb
      replace Xc := vx Xc hb
      replace Xd := vx Xd hb
      replace B := bb B hb
      clear cc569a cc569b cc570a cc570b cc571a cc571b cc571c cc571d cc571e cc571f cc571g cc571h cc572a cc572b cc573a cc573b
      clear hb 
      have hb575 := (Below.refl _ _).alloc (Nat.le_refl w574.heap.size) (.cells #[.string (qtxt (lo4 (qnum al) (qnum ah) (qnum bl) (qnum bh))), .string (qtxt (hi4 (qnum al) (qnum ah) (qnum bl) (qnum bh)))] 23)
      have hx576 := Vbx.new w574 (qtxt (lo4 (qnum al) (qnum ah) (qnum bl) (qnum bh))) (qtxt (hi4 (qnum al) (qnum ah) (qnum bl) (qnum bh)))
      have L6 := hid Xd.out.lt
      replace X3 := vx X3 hb575
      replace X4 := vx X4 hb575
      replace X22 := ux X22 hb575
      replace Xc := vx Xc hb575
      replace Xd := vx Xd hb575
      replace B := bb B hb575
      have Xk := hid hx576
      have hs577 : (w574.alloc (.cells #[.string (qtxt (lo4 (qnum al) (qnum ah) (qnum bl) (qnum bh))), .string (qtxt (hi4 (qnum al) (qnum ah) (qnum bl) (qnum bh)))] 23)).heap.size = w574.heap.size + 1 := by simp
      clear hb575 hx576
      obtain ⟨cc578a, cc578b⟩ := X3.out.both
      obtain ⟨cc579a, cc579b⟩ := X4.out.both
      obtain ⟨cc580a, cc580b, cc580c, cc580d, cc580e, cc580f, cc580g, cc580h⟩ := X22.out.cells
      obtain ⟨cc581a, cc581b⟩ := Xc.out.both
      obtain ⟨cc582a, cc582b⟩ := Xd.out.both
      obtain ⟨cc583a, cc583b⟩ := Xk.out.both
      go_wp2_with fail
      generalize hW : w574.alloc (.cells #[.string (qtxt (lo4 (qnum al) (qnum ah) (qnum bl) (qnum bh))), .string (qtxt (hi4 (qnum al) (qnum ah) (qnum bl) (qnum bh)))] 23) = W584 at *
      clear hW
      refine (same_nil W584 (HDR.out.below B.out)).mono ?_
      rintro e w585 ⟨rfl, hb⟩
      replace X3 := vx X3 hb
      replace X4 := vx X4 hb
      replace X22 := ux X22 hb
      replace Xc := vx Xc hb
      replace Xd := vx Xd hb
      replace Xk := vx Xk hb
      replace B := bb B hb
      clear cc578a cc578b cc579a cc579b cc580a cc580b cc580c cc580d cc580e cc580f cc580g cc580h cc581a cc581b cc582a cc582b cc583a cc583b
      clear hb 
      obtain ⟨cc586a, cc586b⟩ := X3.out.both
      obtain ⟨cc587a, cc587b⟩ := X4.out.both
      obtain ⟨cc588a, cc588b, cc588c, cc588d, cc588e, cc588f, cc588g, cc588h⟩ := X22.out.cells
      obtain ⟨cc589a, cc589b⟩ := Xc.out.both
      obtain ⟨cc590a, cc590b⟩ := Xd.out.both
      obtain ⟨cc591a, cc591b⟩ := Xk.out.both
      go_wp2_with fail
      refine (idiv_zero GA.out GB.out H0.out w585).mono ?_
      rintro e w592 ⟨rfl, hb⟩
      replace X3 := vx X3 hb
      replace X4 := vx X4 hb
      replace X22 := ux X22 hb
      replace Xc := vx Xc hb
      replace Xd := vx Xd hb
      replace Xk := vx Xk hb
      replace B := bb B hb
      clear cc586a cc586b cc587a cc587b cc588a cc588b cc588c cc588d cc588e cc588f cc588g cc588h cc589a cc589b cc590a cc590b cc591a cc591b
      clear hb 
      have hb593 := (Below.refl _ _).alloc (Nat.le_refl w592.heap.size) (.cells #[.string ⟨#[]⟩, .string ⟨#[]⟩] 23)
      have hx594 := Vbx.new w592 ⟨#[]⟩ ⟨#[]⟩
      have L7 := hid Xk.out.lt
      replace X3 := vx X3 hb593
      replace X4 := vx X4 hb593
      replace X22 := ux X22 hb593
      replace Xc := vx Xc hb593
      replace Xd := vx Xd hb593
      replace Xk := vx Xk hb593
      replace B := bb B hb593
      have Xm := hid hx594
      have hs595 : (w592.alloc (.cells #[.string ⟨#[]⟩, .string ⟨#[]⟩] 23)).heap.size = w592.heap.size + 1 := by simp
      clear hb593 hx594
      obtain ⟨cc596a, cc596b⟩ := X3.out.both
      obtain ⟨cc597a, cc597b⟩ := X4.out.both
      obtain ⟨cc598a, cc598b, cc598c, cc598d, cc598e, cc598f, cc598g, cc598h⟩ := X22.out.cells
      obtain ⟨cc599a, cc599b⟩ := Xc.out.both
      obtain ⟨cc600a, cc600b⟩ := Xd.out.both
      obtain ⟨cc601a, cc601b⟩ := Xk.out.both
      obtain ⟨cc602a, cc602b⟩ := Xm.out.both
      go_wp2_with fail
      generalize hW : w592.alloc (.cells #[.string ⟨#[]⟩, .string ⟨#[]⟩] 23) = W603 at *
      clear hW
      refine (same_no 5 (by decide) W603 (HDR.out.below B.out)).mono ?_
      rintro e w604 ⟨rfl, hb⟩
      replace X22 := ux X22 hb
      replace Xc := vx Xc hb
      replace Xd := vx Xd hb
      replace Xk := vx Xk hb
      replace Xm := vx Xm hb
      replace B := bb B hb
      clear cc596a cc596b cc597a cc597b cc598a cc598b cc598c cc598d cc598e cc598f cc598g cc598h cc599a cc599b cc600a cc600b cc601a cc601b cc602a cc602b
      clear hb 
      obtain ⟨cc605a, cc605b, cc605c, cc605d, cc605e, cc605f, cc605g, cc605h⟩ := X22.out.cells
      obtain ⟨cc606a, cc606b⟩ := Xc.out.both
      obtain ⟨cc607a, cc607b⟩ := Xd.out.both
      obtain ⟨cc608a, cc608b⟩ := Xk.out.both
      obtain ⟨cc609a, cc609b⟩ := Xm.out.both
      have hb610 := (Below.refl _ _).alloc (Nat.le_refl w604.heap.size) (.cells #[.string (qtxt ((qnum al) + (qnum bl))), .string (qtxt ((qnum ah) + (qnum bh))), .string (qtxt (lo4 ((qnum al) * (qnum bl)) ((qnum al) * (qnum bh)) ((qnum ah) * (qnum bl)) ((qnum ah) * (qnum bh)))), .string (qtxt (hi4 ((qnum al) * (qnum bl)) ((qnum al) * (qnum bh)) ((qnum ah) * (qnum bl)) ((qnum ah) * (qnum bh)))), .string (qtxt (lo4 (qnum al) (qnum ah) (qnum bl) (qnum bh))), .string (qtxt (hi4 (qnum al) (qnum ah) (qnum bl) (qnum bh))), .string ⟨#[]⟩, .string ⟨#[]⟩] 44)
      have hx611 := Wbx.new w604 (qtxt ((qnum al) + (qnum bl))) (qtxt ((qnum ah) + (qnum bh))) (qtxt (lo4 ((qnum al) * (qnum bl)) ((qnum al) * (qnum bh)) ((qnum ah) * (qnum bl)) ((qnum ah) * (qnum bh)))) (qtxt (hi4 ((qnum al) * (qnum bl)) ((qnum al) * (qnum bh)) ((qnum ah) * (qnum bl)) ((qnum ah) * (qnum bh)))) (qtxt (lo4 (qnum al) (qnum ah) (qnum bl) (qnum bh))) (qtxt (hi4 (qnum al) (qnum ah) (qnum bl) (qnum bh))) ⟨#[]⟩ ⟨#[]⟩
      have L8 := hid Xm.out.lt
      replace X22 := ux X22 hb610
      replace Xc := vx Xc hb610
      replace Xd := vx Xd hb610
      replace Xk := vx Xk hb610
      replace Xm := vx Xm hb610
      replace B := bb B hb610
      have X31 := hid hx611
      have hs612 : (w604.alloc (.cells #[.string (qtxt ((qnum al) + (qnum bl))), .string (qtxt ((qnum ah) + (qnum bh))), .string (qtxt (lo4 ((qnum al) * (qnum bl)) ((qnum al) * (qnum bh)) ((qnum ah) * (qnum bl)) ((qnum ah) * (qnum bh)))), .string (qtxt (hi4 ((qnum al) * (qnum bl)) ((qnum al) * (qnum bh)) ((qnum ah) * (qnum bl)) ((qnum ah) * (qnum bh)))), .string (qtxt (lo4 (qnum al) (qnum ah) (qnum bl) (qnum bh))), .string (qtxt (hi4 (qnum al) (qnum ah) (qnum bl) (qnum bh))), .string ⟨#[]⟩, .string ⟨#[]⟩] 44)).heap.size = w604.heap.size + 1 := by simp
      clear hb610 hx611
      obtain ⟨cc613a, cc613b, cc613c, cc613d, cc613e, cc613f, cc613g, cc613h⟩ := X22.out.cells
      obtain ⟨cc614a, cc614b⟩ := Xc.out.both
      obtain ⟨cc615a, cc615b⟩ := Xd.out.both
      obtain ⟨cc616a, cc616b⟩ := Xk.out.both
      obtain ⟨cc617a, cc617b⟩ := Xm.out.both
      obtain ⟨cc618a, cc618b, cc618c, cc618d, cc618e, cc618f, cc618g, cc618h⟩ := X31.out.cells
      go_wp2_with fail
      go_ret
      exact ⟨rfl, B.out⟩
    · have hz1 : ¬ (qnum bl).num.sign ≤ 0 := fun e => absurd ((sgn_le _).1 e) (Rat.not_le.2 h0)
      have H0 := hid (good_pos GB.out h0)
      have HR0 := hid H0.out.2.1
      have HS0 := hid H0.out.2.2
      replace H0 := hid H0.out.1
      clear h0
      generalize (qnum bl).num.sign = z1 at *
      obtain ⟨cc529a, cc529b⟩ := X3.out.both
      obtain ⟨cc530a, cc530b⟩ := X4.out.both
      obtain ⟨cc531a, cc531b, cc531c⟩ := X8.out.cells
      obtain ⟨cc532a, cc532b, cc532c⟩ := X9.out.cells
      obtain ⟨cc533a, cc533b, cc533c⟩ := X18.out.cells
      obtain ⟨cc534a, cc534b, cc534c⟩ := X19.out.cells
      obtain ⟨cc535a, cc535b, cc535c, cc535d, cc535e, cc535f, cc535g, cc535h⟩ := X22.out.cells
      go_wp2_with fail
      obtain ⟨cc536a, cc536b, cc536c⟩ := X8.out.cells
      obtain ⟨cc537a, cc537b, cc537c⟩ := X9.out.cells
      obtain ⟨cc538a, cc538b, cc538c⟩ := X18.out.cells
      obtain ⟨cc539a, cc539b, cc539c⟩ := X19.out.cells
      replace X3 := hid X3.out.dr
      replace X4 := hid X4.out.dr
      replace X8 := hid X8.out.dr
      replace X9 := hid X9.out.dr
      replace X18 := hid X18.out.dr
      replace X19 := hid X19.out.dr
      replace X22 := hid X22.out.dr
      replace HNp := hid HNp.out.drew
      replace HDp := hid HDp.out.drew
      replace HNq := hid HNq.out.drew
      replace HDq := hid HDq.out.drew
      replace HNr := hid HNr.out.drew
      replace HDr := hid HDr.out.drew
      replace HNs := hid HNs.out.drew
      replace HDs := hid HDs.out.drew
      replace B := hid (Below.drew B.out)
      obtain ⟨cc540a, cc540b, cc540c⟩ := X8.out.cells
      obtain ⟨cc541a, cc541b, cc541c⟩ := X9.out.cells
      obtain ⟨cc542a, cc542b, cc542c⟩ := X18.out.cells
      obtain ⟨cc543a, cc543b, cc543c⟩ := X19.out.cells
      go_region_held3 (fun w' => w'.cell? ⟨w13.heap.size, 0, none⟩ = some (.bool spa) ∧ w'.cell? ⟨w13.heap.size, 1, none⟩ = some (.slice ppa npa cpa) ∧ w'.cell? ⟨w13.heap.size, 2, none⟩ = some (.slice ppb npb cpb) ∧ w'.cell? ⟨w13.heap.size + 1, 0, none⟩ = some (.bool sqa) ∧ w'.cell? ⟨w13.heap.size + 1, 1, none⟩ = some (.slice pqa nqa cqa) ∧ w'.cell? ⟨w13.heap.size + 1, 2, none⟩ = some (.slice pqb nqb cqb) ∧ w'.cell? ⟨w405.heap.size, 0, none⟩ = some (.bool sra) ∧ w'.cell? ⟨w405.heap.size, 1, none⟩ = some (.slice pra nra cra) ∧ w'.cell? ⟨w405.heap.size, 2, none⟩ = some (.slice prb nrb crb) ∧ w'.cell? ⟨w405.heap.size + 1, 0, none⟩ = some (.bool ssa) ∧ w'.cell? ⟨w405.heap.size + 1, 1, none⟩ = some (.slice psa nsa csa) ∧ w'.cell? ⟨w405.heap.size + 1, 2, none⟩ = some (.slice psb nsb csb)) (go_keep) (first
        | (have hm := mk544_3; clear hm; have hb565 := (Below.refl _ _).alloc (Nat.le_refl w560.heap.size) (.cells #[.bool s1a, .slice p1a n1a c1a, .slice p1b n1b c1b, .bool s2a, .slice p2a n2a c2a, .slice p2b n2b c2b, .bool s3a, .slice p3a n3a c3a, .slice p3b n3b c3b, .bool s4a, .slice p4a n4a c4a, .slice p4b n4b c4b] 30); have hx566 := qrow_new4 (w := w560) (QR.mk2 HN1.out HD1.out) (QR.mk2 HN2.out HD2.out) (QR.mk2 HN3.out HD3.out) (QR.mk2 HN4.out HD4.out); replace X3 := vx X3 hb565; replace X4 := vx X4 hb565; replace X8 := qx X8 hb565; replace X9 := qx X9 hb565; replace X18 := qx X18 hb565; replace X19 := qx X19 hb565; replace X22 := ux X22 hb565; replace HNp := wr HNp hb565; replace HDp := wr HDp hb565; replace HNq := wr HNq hb565; replace HDq := wr HDq hb565; replace HNr := wr HNr hb565; replace HDr := wr HDr hb565; replace HNs := wr HNs hb565; replace HDs := wr HDs hb565; replace HN1 := wr HN1 hb565; replace HD1 := wr HD1 hb565; replace HN2 := wr HN2 hb565; replace HD2 := wr HD2 hb565; replace HN3 := wr HN3 hb565; replace HD3 := wr HD3 hb565; replace HN4 := wr HN4 hb565; replace HD4 := wr HD4 hb565; replace B := bb B hb565; have HR := hid hx566; clear hb565 hx566; go_at_call 14; refine (rends4 HR.out (by decide)).mono ?_; rintro e w567 ⟨rfl, hb⟩; replace X3 := vx X3 hb; replace X4 := vx X4 hb; replace X8 := qx X8 hb; replace X9 := qx X9 hb; replace X18 := qx X18 hb; replace X19 := qx X19 hb; replace X22 := ux X22 hb; replace HNp := wr HNp hb; replace HDp := wr HDp hb; replace HNq := wr HNq hb; replace HDq := wr HDq hb; replace HNr := wr HNr hb; replace HDr := wr HDr hb; replace HNs := wr HNs hb; replace HDs := wr HDs hb; replace HN1 := wr HN1 hb; replace HD1 := wr HD1 hb; replace HN2 := wr HN2 hb; replace HD2 := wr HD2 hb; replace HN3 := wr HN3 hb; replace HD3 := wr HD3 hb; replace HN4 := wr HN4 hb; replace HD4 := wr HD4 hb; replace B := bb B hb; clear cc561a cc561b cc561c cc562a cc562b cc562c cc563a cc563b cc563c cc564a cc564b cc564c; clear hb HR; obtain ⟨cc568a, cc568b, cc568c⟩ := X8.out.cells; obtain ⟨cc569a, cc569b, cc569c⟩ := X9.out.cells; obtain ⟨cc570a, cc570b, cc570c⟩ := X18.out.cells; obtain ⟨cc571a, cc571b, cc571c⟩ := X19.out.cells; obtain ⟨cc572a, cc572b, cc572c, cc572d⟩ := X22.out.stores3; obtain ⟨r573a, r573b, r573c⟩ := X22.out.put3 B.out (by have := LG.out; have := L1.out; have := L2.out; have := L3.out; omega) (qtxt (lo4 ((qnum al) / (qnum bl)) ((qnum al) / (qnum bh)) ((qnum ah) / (qnum bl)) ((qnum ah) / (qnum bh)))) (qtxt (hi4 ((qnum al) / (qnum bl)) ((qnum al) / (qnum bh)) ((qnum ah) / (qnum bl)) ((qnum ah) / (qnum bh)))); replace X3 := hid ((X3.out.other (g2 := w405.heap.size + 1 + 1) (by have := LG.out; have := L1.out; have := L2.out; have := L3.out; omega) 6 (.string (qtxt (lo4 ((qnum al) / (qnum bl)) ((qnum al) / (qnum bh)) ((qnum ah) / (qnum bl)) ((qnum ah) / (qnum bh)))))).other (g2 := w405.heap.size + 1 + 1) (by have := LG.out; have := L1.out; have := L2.out; have := L3.out; omega) 7 (.string (qtxt (hi4 ((qnum al) / (qnum bl)) ((qnum al) / (qnum bh)) ((qnum ah) / (qnum bl)) ((qnum ah) / (qnum bh)))))); replace X4 := hid ((X4.out.other (g2 := w405.heap.size + 1 + 1) (by have := LG.out; have := L1.out; have := L2.out; have := L3.out; omega) 6 (.string (qtxt (lo4 ((qnum al) / (qnum bl)) ((qnum al) / (qnum bh)) ((qnum ah) / (qnum bl)) ((qnum ah) / (qnum bh)))))).other (g2 := w405.heap.size + 1 + 1) (by have := LG.out; have := L1.out; have := L2.out; have := L3.out; omega) 7 (.string (qtxt (hi4 ((qnum al) / (qnum bl)) ((qnum al) / (qnum bh)) ((qnum ah) / (qnum bl)) ((qnum ah) / (qnum bh)))))); replace X8 := hid ((X8.out.other (g2 := w405.heap.size + 1 + 1) (by have := LG.out; have := L1.out; have := L2.out; have := L3.out; omega) 6 (.string (qtxt (lo4 ((qnum al) / (qnum bl)) ((qnum al) / (qnum bh)) ((qnum ah) / (qnum bl)) ((qnum ah) / (qnum bh)))))).other (g2 := w405.heap.size + 1 + 1) (by have := LG.out; have := L1.out; have := L2.out; have := L3.out; omega) 7 (.string (qtxt (hi4 ((qnum al) / (qnum bl)) ((qnum al) / (qnum bh)) ((qnum ah) / (qnum bl)) ((qnum ah) / (qnum bh)))))); replace X9 := hid ((X9.out.other (g2 := w405.heap.size + 1 + 1) (by have := LG.out; have := L1.out; have := L2.out; have := L3.out; omega) 6 (.string (qtxt (lo4 ((qnum al) / (qnum bl)) ((qnum al) / (qnum bh)) ((qnum ah) / (qnum bl)) ((qnum ah) / (qnum bh)))))).other (g2 := w405.heap.size + 1 + 1) (by have := LG.out; have := L1.out; have := L2.out; have := L3.out; omega) 7 (.string (qtxt (hi4 ((qnum al) / (qnum bl)) ((qnum al) / (qnum bh)) ((qnum ah) / (qnum bl)) ((qnum ah) / (qnum bh)))))); replace X18 := hid ((X18.out.other (g2 := w405.heap.size + 1 + 1) (by have := LG.out; have := L1.out; have := L2.out; have := L3.out; omega) 6 (.string (qtxt (lo4 ((qnum al) / (qnum bl)) ((qnum al) / (qnum bh)) ((qnum ah) / (qnum bl)) ((qnum ah) / (qnum bh)))))).other (g2 := w405.heap.size + 1 + 1) (by have := LG.out; have := L1.out; have := L2.out; have := L3.out; omega) 7 (.string (qtxt (hi4 ((qnum al) / (qnum bl)) ((qnum al) / (qnum bh)) ((qnum ah) / (qnum bl)) ((qnum ah) / (qnum bh)))))); replace X19 := hid ((X19.out.other (g2 := w405.heap.size + 1 + 1) (by have := LG.out; have := L1.out; have := L2.out; have := L3.out; omega) 6 (.string (qtxt (lo4 ((qnum al) / (qnum bl)) ((qnum al) / (qnum bh)) ((qnum ah) / (qnum bl)) ((qnum ah) / (qnum bh)))))).other (g2 := w405.heap.size + 1 + 1) (by have := LG.out; have := L1.out; have := L2.out; have := L3.out; omega) 7 (.string (qtxt (hi4 ((qnum al) / (qnum bl)) ((qnum al) / (qnum bh)) ((qnum ah) / (qnum bl)) ((qnum ah) / (qnum bh)))))); replace HNp := hid (r573c HNp.out); replace HDp := hid (r573c HDp.out); replace HNq := hid (r573c HNq.out); replace HDq := hid (r573c HDq.out); replace HNr := hid (r573c HNr.out); replace HDr := hid (r573c HDr.out); replace HNs := hid (r573c HNs.out); replace HDs := hid (r573c HDs.out); replace HN1 := hid (r573c HN1.out); replace HD1 := hid (r573c HD1.out); replace HN2 := hid (r573c HN2.out); replace HD2 := hid (r573c HD2.out); replace HN3 := hid (r573c HN3.out); replace HD3 := hid (r573c HD3.out); replace HN4 := hid (r573c HN4.out); replace HD4 := hid (r573c HD4.out); replace X22 := hid r573a; replace B := hid r573b; clear r573a r573b r573c; obtain ⟨cc574a, cc574b, cc574c⟩ := X8.out.cells; obtain ⟨cc575a, cc575b, cc575c⟩ := X9.out.cells; obtain ⟨cc576a, cc576b, cc576c⟩ := X18.out.cells; obtain ⟨cc577a, cc577b, cc577c⟩ := X19.out.cells; have mk544_4 := hid True.intro)
        | (have hm := mk544_2; clear hm; go_at_call 17; refine (rdivq (QR.mk2 HNq.out HDq.out) (QR.mk2 HNs.out HDs.out) HS0.out (by decide)).mono ?_; rintro e w560 ⟨v, rfl, hv, hb⟩; obtain ⟨s4a, p4a, n4a, c4a, p4b, n4b, c4b, rfl⟩ := hv.opened; obtain ⟨ht4, hu4⟩ := hv.two; replace X3 := vx X3 hb; replace X4 := vx X4 hb; replace X8 := qx X8 hb; replace X9 := qx X9 hb; replace X18 := qx X18 hb; replace X19 := qx X19 hb; replace X22 := ux X22 hb; replace HNp := wr HNp hb; replace HDp := wr HDp hb; replace HNq := wr HNq hb; replace HDq := wr HDq hb; replace HNr := wr HNr hb; replace HDr := wr HDr hb; replace HNs := wr HNs hb; replace HDs := wr HDs hb; replace HN1 := wr HN1 hb; replace HD1 := wr HD1 hb; replace HN2 := wr HN2 hb; replace HD2 := wr HD2 hb; replace HN3 := wr HN3 hb; replace HD3 := wr HD3 hb; replace B := bb B hb; clear cc556a cc556b cc556c cc557a cc557b cc557c cc558a cc558b cc558c cc559a cc559b cc559c; have HN4 := hid ht4; have HD4 := hid hu4; clear hb hv ht4 hu4; obtain ⟨cc561a, cc561b, cc561c⟩ := X8.out.cells; obtain ⟨cc562a, cc562b, cc562c⟩ := X9.out.cells; obtain ⟨cc563a, cc563b, cc563c⟩ := X18.out.cells; obtain ⟨cc564a, cc564b, cc564c⟩ := X19.out.cells; have mk544_3 := hid True.intro)
        | (have hm := mk544_1; clear hm; go_at_call 17; refine (rdivq (QR.mk2 HNq.out HDq.out) (QR.mk2 HNr.out HDr.out) HR0.out (by decide)).mono ?_; rintro e w555 ⟨v, rfl, hv, hb⟩; obtain ⟨s3a, p3a, n3a, c3a, p3b, n3b, c3b, rfl⟩ := hv.opened; obtain ⟨ht3, hu3⟩ := hv.two; replace X3 := vx X3 hb; replace X4 := vx X4 hb; replace X8 := qx X8 hb; replace X9 := qx X9 hb; replace X18 := qx X18 hb; replace X19 := qx X19 hb; replace X22 := ux X22 hb; replace HNp := wr HNp hb; replace HDp := wr HDp hb; replace HNq := wr HNq hb; replace HDq := wr HDq hb; replace HNr := wr HNr hb; replace HDr := wr HDr hb; replace HNs := wr HNs hb; replace HDs := wr HDs hb; replace HN1 := wr HN1 hb; replace HD1 := wr HD1 hb; replace HN2 := wr HN2 hb; replace HD2 := wr HD2 hb; replace B := bb B hb; clear cc551a cc551b cc551c cc552a cc552b cc552c cc553a cc553b cc553c cc554a cc554b cc554c; have HN3 := hid ht3; have HD3 := hid hu3; clear hb hv ht3 hu3; obtain ⟨cc556a, cc556b, cc556c⟩ := X8.out.cells; obtain ⟨cc557a, cc557b, cc557c⟩ := X9.out.cells; obtain ⟨cc558a, cc558b, cc558c⟩ := X18.out.cells; obtain ⟨cc559a, cc559b, cc559c⟩ := X19.out.cells; have mk544_2 := hid True.intro)
        | (have hm := mk544_0; clear hm; go_at_call 17; refine (rdivq (QR.mk2 HNp.out HDp.out) (QR.mk2 HNs.out HDs.out) HS0.out (by decide)).mono ?_; rintro e w550 ⟨v, rfl, hv, hb⟩; obtain ⟨s2a, p2a, n2a, c2a, p2b, n2b, c2b, rfl⟩ := hv.opened; obtain ⟨ht2, hu2⟩ := hv.two; replace X3 := vx X3 hb; replace X4 := vx X4 hb; replace X8 := qx X8 hb; replace X9 := qx X9 hb; replace X18 := qx X18 hb; replace X19 := qx X19 hb; replace X22 := ux X22 hb; replace HNp := wr HNp hb; replace HDp := wr HDp hb; replace HNq := wr HNq hb; replace HDq := wr HDq hb; replace HNr := wr HNr hb; replace HDr := wr HDr hb; replace HNs := wr HNs hb; replace HDs := wr HDs hb; replace HN1 := wr HN1 hb; replace HD1 := wr HD1 hb; replace B := bb B hb; clear cc546a cc546b cc546c cc547a cc547b cc547c cc548a cc548b cc548c cc549a cc549b cc549c; have HN2 := hid ht2; have HD2 := hid hu2; clear hb hv ht2 hu2; obtain ⟨cc551a, cc551b, cc551c⟩ := X8.out.cells; obtain ⟨cc552a, cc552b, cc552c⟩ := X9.out.cells; obtain ⟨cc553a, cc553b, cc553c⟩ := X18.out.cells; obtain ⟨cc554a, cc554b, cc554c⟩ := X19.out.cells; have mk544_1 := hid True.intro)
        | (go_at_call 17; refine (rdivq (QR.mk2 HNp.out HDp.out) (QR.mk2 HNr.out HDr.out) HR0.out (by decide)).mono ?_; rintro e w545 ⟨v, rfl, hv, hb⟩; obtain ⟨s1a, p1a, n1a, c1a, p1b, n1b, c1b, rfl⟩ := hv.opened; obtain ⟨ht1, hu1⟩ := hv.two; replace X3 := vx X3 hb; replace X4 := vx X4 hb; replace X8 := qx X8 hb; replace X9 := qx X9 hb; replace X18 := qx X18 hb; replace X19 := qx X19 hb; replace X22 := ux X22 hb; replace HNp := wr HNp hb; replace HDp := wr HDp hb; replace HNq := wr HNq hb; replace HDq := wr HDq hb; replace HNr := wr HNr hb; replace HDr := wr HDr hb; replace HNs := wr HNs hb; replace HDs := wr HDs hb; replace B := bb B hb; clear cc529a cc529b cc530a cc530b cc531a cc531b cc531c cc532a cc532b cc532c cc533a cc533b cc533c cc534a cc534b cc534c cc535a cc535b cc535c cc535d cc535e cc535f cc535g cc535h cc536a cc536b cc536c cc537a cc537b cc537c cc538a cc538b cc538c cc539a cc539b cc539c cc540a cc540b cc540c cc541a cc541b cc541c cc542a cc542b cc542c cc543a cc543b cc543c; have HN1 := hid ht1; have HD1 := hid hu1; clear hb hv ht1 hu1; obtain ⟨cc546a, cc546b, cc546c⟩ := X8.out.cells; obtain ⟨cc547a, cc547b, cc547c⟩ := X9.out.cells; obtain ⟨cc548a, cc548b, cc548c⟩ := X18.out.cells; obtain ⟨cc549a, cc549b, cc549c⟩ := X19.out.cells; have mk544_0 := hid True.intro))
      obtain ⟨cc578a, cc578b⟩ := X3.out.both
      obtain ⟨cc579a, cc579b⟩ := X4.out.both
      obtain ⟨cc580a, cc580b, cc580c, cc580d, cc580e, cc580f, cc580g, cc580h⟩ := X22.out.cells
      go_wp2_with fail
      generalize hW : (w567.setCell ⟨w405.heap.size + 1 + 1, 6, none⟩ (.string (qtxt (lo4 ((qnum al) / (qnum bl)) ((qnum al) / (qnum bh)) ((qnum ah) / (qnum bl)) ((qnum ah) / (qnum bh)))))).setCell ⟨w405.heap.size + 1 + 1, 7, none⟩ (.string (qtxt (hi4 ((qnum al) / (qnum bl)) ((qnum al) / (qnum bh)) ((qnum ah) / (qnum bl)) ((qnum ah) / (qnum bh))))) = W581 at *
      clear hW
      refine (iadd_good2 GA.out GB.out W581).mono ?_
      rintro e w582 ⟨rfl, hb⟩
      replace X3 := vx X3 hb
      replace X4 := vx X4 hb
      replace X22 := ux X22 hb
      replace B := bb B hb
      clear cc568a cc568b cc568c cc569a cc569b cc569c cc570a cc570b cc570c cc571a cc571b cc571c cc572a cc572b cc572c cc572d cc574a cc574b cc574c cc575a cc575b cc575c cc576a cc576b cc576c cc577a cc577b cc577c cc578a cc578b cc579a cc579b cc580a cc580b cc580c cc580d cc580e cc580f cc580g cc580h
      clear hb 
      have hb583 := (Below.refl _ _).alloc (Nat.le_refl w582.heap.size) (.cells #[.string (qtxt ((qnum al) + (qnum bl))), .string (qtxt ((qnum ah) + (qnum bh)))] 23)
      have hx584 := Vbx.new w582 (qtxt ((qnum al) + (qnum bl))) (qtxt ((qnum ah) + (qnum bh)))
      have L4 := hid X22.out.lt
      replace X3 := vx X3 hb583
      replace X4 := vx X4 hb583
      replace X22 := ux X22 hb583
      replace B := bb B hb583
      have Xc := hid hx584
      have hs585 : (w582.alloc (.cells #[.string (qtxt ((qnum al) + (qnum bl))), .string (qtxt ((qnum ah) + (qnum bh)))] 23)).heap.size = w582.heap.size + 1 := by simp
      clear hb583 hx584
      obtain ⟨cc586a, cc586b⟩ := X3.out.both
      obtain ⟨cc587a, cc587b⟩ := X4.out.both
      obtain ⟨cc588a, cc588b, cc588c, cc588d, cc588e, cc588f, cc588g, cc588h⟩ := X22.out.cells
      obtain ⟨cc589a, cc589b⟩ := Xc.out.both
      go_wp2_with fail
      generalize hW : w582.alloc (.cells #[.string (qtxt ((qnum al) + (qnum bl))), .string (qtxt ((qnum ah) + (qnum bh)))] 23) = W590 at *
      clear hW
      refine (same_nil W590 (HDR.out.below B.out)).mono ?_
      rintro e w591 ⟨rfl, hb⟩
      replace X3 := vx X3 hb
      replace X4 := vx X4 hb
      replace X22 := ux X22 hb
      replace Xc := vx Xc hb
      replace B := bb B hb
      clear cc586a cc586b cc587a cc587b cc588a cc588b cc588c cc588d cc588e cc588f cc588g cc588h cc589a cc589b
      clear hb 
      obtain ⟨cc592a, cc592b⟩ := X3.out.both
      obtain ⟨cc593a, cc593b⟩ := X4.out.both
      obtain ⟨cc594a, cc594b, cc594c, cc594d, cc594e, cc594f, cc594g, cc594h⟩ := X22.out.cells
      obtain ⟨cc595a, cc595b⟩ := Xc.out.both
      go_wp2_with fail
      refine (imul_good GA.out GB.out w591).mono ?_
      rintro e w596 ⟨rfl, hb⟩
      replace X3 := vx X3 hb
      replace X4 := vx X4 hb
      replace X22 := ux X22 hb
      replace Xc := vx Xc hb
      replace B := bb B hb
      clear cc592a cc592b cc593a cc593b cc594a cc594b cc594c cc594d cc594e cc594f cc594g cc594h cc595a cc595b
      clear hb 
      have hb597 := (Below.refl _ _).alloc (Nat.le_refl w596.heap.size) (.cells #[.string (qtxt (lo4 ((qnum al) * (qnum bl)) ((qnum al) * (qnum bh)) ((qnum ah) * (qnum bl)) ((qnum ah) * (qnum bh)))), .string (qtxt (hi4 ((qnum al) * (qnum bl)) ((qnum al) * (qnum bh)) ((qnum ah) * (qnum bl)) ((qnum ah) * (qnum bh))))] 23)
      have hx598 := Vbx.new w596 (qtxt (lo4 ((qnum al) * (qnum bl)) ((qnum al) * (qnum bh)) ((qnum ah) * (qnum bl)) ((qnum ah) * (qnum bh)))) (qtxt (hi4 ((qnum al) * (qnum bl)) ((qnum al) * (qnum bh)) ((qnum ah) * (qnum bl)) ((qnum ah) * (qnum bh))))
      have L5 := hid Xc.out.lt
      replace X3 := vx X3 hb597
      replace X4 := vx X4 hb597
      replace X22 := ux X22 hb597
      replace Xc := vx Xc hb597
      replace B := bb B hb597
      have Xd := hid hx598
      have hs599 : (w596.alloc (.cells #[.string (qtxt (lo4 ((qnum al) * (qnum bl)) ((qnum al) * (qnum bh)) ((qnum ah) * (qnum bl)) ((qnum ah) * (qnum bh)))), .string (qtxt (hi4 ((qnum al) * (qnum bl)) ((qnum al) * (qnum bh)) ((qnum ah) * (qnum bl)) ((qnum ah) * (qnum bh))))] 23)).heap.size = w596.heap.size + 1 := by simp
      clear hb597 hx598
      obtain ⟨cc600a, cc600b⟩ := X3.out.both
      obtain ⟨cc601a, cc601b⟩ := X4.out.both
      obtain ⟨cc602a, cc602b, cc602c, cc602d, cc602e, cc602f, cc602g, cc602h⟩ := X22.out.cells
      obtain ⟨cc603a, cc603b⟩ := Xc.out.both
      obtain ⟨cc604a, cc604b⟩ := Xd.out.both
      go_wp2_with fail
      generalize hW : w596.alloc (.cells #[.string (qtxt (lo4 ((qnum al) * (qnum bl)) ((qnum al) * (qnum bh)) ((qnum ah) * (qnum bl)) ((qnum ah) * (qnum bh)))), .string (qtxt (hi4 ((qnum al) * (qnum bl)) ((qnum al) * (qnum bh)) ((qnum ah) * (qnum bl)) ((qnum ah) * (qnum bh))))] 23) = W605 at *
      clear hW
      refine (same_nil W605 (HDR.out.below B.out)).mono ?_
      rintro e w606 ⟨rfl, hb⟩
      replace X3 := vx X3 hb
      replace X4 := vx X4 hb
      replace X22 := ux X22 hb
      replace Xc := vx Xc hb
      replace Xd := vx Xd hb
      replace B := bb B hb
      clear cc600a cc600b cc601a cc601b cc602a cc602b cc602c cc602d cc602e cc602f cc602g cc602h cc603a cc603b cc604a cc604b
      clear hb 
      obtain ⟨cc607a, cc607b⟩ := X3.out.both
      obtain ⟨cc608a, cc608b⟩ := X4.out.both
      obtain ⟨cc609a, cc609b, cc609c, cc609d, cc609e, cc609f, cc609g, cc609h⟩ := X22.out.cells
      obtain ⟨cc610a, cc610b⟩ := Xc.out.both
      obtain ⟨cc611a, cc611b⟩ := Xd.out.both
      go_wp2_with fail
      refine (ihull_good GA.out GB.out w606).mono ?_
      rintro e w612 ⟨rfl, hb⟩
      replace X3 := vx X3 hb
      replace X4 := vx X4 hb
      replace X22 := ux X22 hb
      replace Xc := vx Xc hb
      replace Xd := vx Xd hb
      replace B := bb B hb
      clear cc607a cc607b cc608a cc608b cc609a cc609b cc609c cc609d cc609e cc609f cc609g cc609h cc610a cc610b cc611a cc611b
      clear hb 
      have hb613 := (Below.refl _ _).alloc (Nat.le_refl w612.heap.size) (.cells #[.string (qtxt (lo4 (qnum al) (qnum ah) (qnum bl) (qnum bh))), .string (qtxt (hi4 (qnum al) (qnum ah) (qnum bl) (qnum bh)))] 23)
      have hx614 := Vbx.new w612 (qtxt (lo4 (qnum al) (qnum ah) (qnum bl) (qnum bh))) (qtxt (hi4 (qnum al) (qnum ah) (qnum bl) (qnum bh)))
      have L6 := hid Xd.out.lt
      replace X3 := vx X3 hb613
      replace X4 := vx X4 hb613
      replace X22 := ux X22 hb613
      replace Xc := vx Xc hb613
      replace Xd := vx Xd hb613
      replace B := bb B hb613
      have Xk := hid hx614
      have hs615 : (w612.alloc (.cells #[.string (qtxt (lo4 (qnum al) (qnum ah) (qnum bl) (qnum bh))), .string (qtxt (hi4 (qnum al) (qnum ah) (qnum bl) (qnum bh)))] 23)).heap.size = w612.heap.size + 1 := by simp
      clear hb613 hx614
      obtain ⟨cc616a, cc616b⟩ := X3.out.both
      obtain ⟨cc617a, cc617b⟩ := X4.out.both
      obtain ⟨cc618a, cc618b, cc618c, cc618d, cc618e, cc618f, cc618g, cc618h⟩ := X22.out.cells
      obtain ⟨cc619a, cc619b⟩ := Xc.out.both
      obtain ⟨cc620a, cc620b⟩ := Xd.out.both
      obtain ⟨cc621a, cc621b⟩ := Xk.out.both
      go_wp2_with fail
      generalize hW : w612.alloc (.cells #[.string (qtxt (lo4 (qnum al) (qnum ah) (qnum bl) (qnum bh))), .string (qtxt (hi4 (qnum al) (qnum ah) (qnum bl) (qnum bh)))] 23) = W622 at *
      clear hW
      refine (same_nil W622 (HDR.out.below B.out)).mono ?_
      rintro e w623 ⟨rfl, hb⟩
      replace X3 := vx X3 hb
      replace X4 := vx X4 hb
      replace X22 := ux X22 hb
      replace Xc := vx Xc hb
      replace Xd := vx Xd hb
      replace Xk := vx Xk hb
      replace B := bb B hb
      clear cc616a cc616b cc617a cc617b cc618a cc618b cc618c cc618d cc618e cc618f cc618g cc618h cc619a cc619b cc620a cc620b cc621a cc621b
      clear hb 
      obtain ⟨cc624a, cc624b⟩ := X3.out.both
      obtain ⟨cc625a, cc625b⟩ := X4.out.both
      obtain ⟨cc626a, cc626b, cc626c, cc626d, cc626e, cc626f, cc626g, cc626h⟩ := X22.out.cells
      obtain ⟨cc627a, cc627b⟩ := Xc.out.both
      obtain ⟨cc628a, cc628b⟩ := Xd.out.both
      obtain ⟨cc629a, cc629b⟩ := Xk.out.both
      go_wp2_with fail
      refine (idiv_good GA.out GB.out H0.out w623).mono ?_
      rintro e w630 ⟨rfl, hb⟩
      replace X3 := vx X3 hb
      replace X4 := vx X4 hb
      replace X22 := ux X22 hb
      replace Xc := vx Xc hb
      replace Xd := vx Xd hb
      replace Xk := vx Xk hb
      replace B := bb B hb
      clear cc624a cc624b cc625a cc625b cc626a cc626b cc626c cc626d cc626e cc626f cc626g cc626h cc627a cc627b cc628a cc628b cc629a cc629b
      clear hb 
      have hb631 := (Below.refl _ _).alloc (Nat.le_refl w630.heap.size) (.cells #[.string (qtxt (lo4 ((qnum al) / (qnum bl)) ((qnum al) / (qnum bh)) ((qnum ah) / (qnum bl)) ((qnum ah) / (qnum bh)))), .string (qtxt (hi4 ((qnum al) / (qnum bl)) ((qnum al) / (qnum bh)) ((qnum ah) / (qnum bl)) ((qnum ah) / (qnum bh))))] 23)
      have hx632 := Vbx.new w630 (qtxt (lo4 ((qnum al) / (qnum bl)) ((qnum al) / (qnum bh)) ((qnum ah) / (qnum bl)) ((qnum ah) / (qnum bh)))) (qtxt (hi4 ((qnum al) / (qnum bl)) ((qnum al) / (qnum bh)) ((qnum ah) / (qnum bl)) ((qnum ah) / (qnum bh))))
      have L7 := hid Xk.out.lt
      replace X3 := vx X3 hb631
      replace X4 := vx X4 hb631
      replace X22 := ux X22 hb631
      replace Xc := vx Xc hb631
      replace Xd := vx Xd hb631
      replace Xk := vx Xk hb631
      replace B := bb B hb631
      have Xm := hid hx632
      have hs633 : (w630.alloc (.cells #[.string (qtxt (lo4 ((qnum al) / (qnum bl)) ((qnum al) / (qnum bh)) ((qnum ah) / (qnum bl)) ((qnum ah) / (qnum bh)))), .string (qtxt (hi4 ((qnum al) / (qnum bl)) ((qnum al) / (qnum bh)) ((qnum ah) / (qnum bl)) ((qnum ah) / (qnum bh))))] 23)).heap.size = w630.heap.size + 1 := by simp
      clear hb631 hx632
      obtain ⟨cc634a, cc634b⟩ := X3.out.both
      obtain ⟨cc635a, cc635b⟩ := X4.out.both
      obtain ⟨cc636a, cc636b, cc636c, cc636d, cc636e, cc636f, cc636g, cc636h⟩ := X22.out.cells
      obtain ⟨cc637a, cc637b⟩ := Xc.out.both
      obtain ⟨cc638a, cc638b⟩ := Xd.out.both
      obtain ⟨cc639a, cc639b⟩ := Xk.out.both
      obtain ⟨cc640a, cc640b⟩ := Xm.out.both
      go_wp2_with fail
      generalize hW : w630.alloc (.cells #[.string (qtxt (lo4 ((qnum al) / (qnum bl)) ((qnum al) / (qnum bh)) ((qnum ah) / (qnum bl)) ((qnum ah) / (qnum bh)))), .string (qtxt (hi4 ((qnum al) / (qnum bl)) ((qnum al) / (qnum bh)) ((qnum ah) / (qnum bl)) ((qnum ah) / (qnum bh))))] 23) = W641 at *
      clear hW
      refine (same_nil W641 (HDR.out.below B.out)).mono ?_
      rintro e w642 ⟨rfl, hb⟩
      replace X22 := ux X22 hb
      replace Xc := vx Xc hb
      replace Xd := vx Xd hb
      replace Xk := vx Xk hb
      replace Xm := vx Xm hb
      replace B := bb B hb
      clear cc634a cc634b cc635a cc635b cc636a cc636b cc636c cc636d cc636e cc636f cc636g cc636h cc637a cc637b cc638a cc638b cc639a cc639b cc640a cc640b
      clear hb 
      obtain ⟨cc643a, cc643b, cc643c, cc643d, cc643e, cc643f, cc643g, cc643h⟩ := X22.out.cells
      obtain ⟨cc644a, cc644b⟩ := Xc.out.both
      obtain ⟨cc645a, cc645b⟩ := Xd.out.both
      obtain ⟨cc646a, cc646b⟩ := Xk.out.both
      obtain ⟨cc647a, cc647b⟩ := Xm.out.both
      have hb648 := (Below.refl _ _).alloc (Nat.le_refl w642.heap.size) (.cells #[.string (qtxt ((qnum al) + (qnum bl))), .string (qtxt ((qnum ah) + (qnum bh))), .string (qtxt (lo4 ((qnum al) * (qnum bl)) ((qnum al) * (qnum bh)) ((qnum ah) * (qnum bl)) ((qnum ah) * (qnum bh)))), .string (qtxt (hi4 ((qnum al) * (qnum bl)) ((qnum al) * (qnum bh)) ((qnum ah) * (qnum bl)) ((qnum ah) * (qnum bh)))), .string (qtxt (lo4 (qnum al) (qnum ah) (qnum bl) (qnum bh))), .string (qtxt (hi4 (qnum al) (qnum ah) (qnum bl) (qnum bh))), .string (qtxt (lo4 ((qnum al) / (qnum bl)) ((qnum al) / (qnum bh)) ((qnum ah) / (qnum bl)) ((qnum ah) / (qnum bh)))), .string (qtxt (hi4 ((qnum al) / (qnum bl)) ((qnum al) / (qnum bh)) ((qnum ah) / (qnum bl)) ((qnum ah) / (qnum bh))))] 44)
      have hx649 := Wbx.new w642 (qtxt ((qnum al) + (qnum bl))) (qtxt ((qnum ah) + (qnum bh))) (qtxt (lo4 ((qnum al) * (qnum bl)) ((qnum al) * (qnum bh)) ((qnum ah) * (qnum bl)) ((qnum ah) * (qnum bh)))) (qtxt (hi4 ((qnum al) * (qnum bl)) ((qnum al) * (qnum bh)) ((qnum ah) * (qnum bl)) ((qnum ah) * (qnum bh)))) (qtxt (lo4 (qnum al) (qnum ah) (qnum bl) (qnum bh))) (qtxt (hi4 (qnum al) (qnum ah) (qnum bl) (qnum bh))) (qtxt (lo4 ((qnum al) / (qnum bl)) ((qnum al) / (qnum bh)) ((qnum ah) / (qnum bl)) ((qnum ah) / (qnum bh)))) (qtxt (hi4 ((qnum al) / (qnum bl)) ((qnum al) / (qnum bh)) ((qnum ah) / (qnum bl)) ((qnum ah) / (qnum bh))))
      have L8 := hid Xm.out.lt
      replace X22 := ux X22 hb648
      replace Xc := vx Xc hb648
      replace Xd := vx Xd hb648
      replace Xk := vx Xk hb648
      replace Xm := vx Xm hb648
      replace B := bb B hb648
      have X31 := hid hx649
      have hs650 : (w642.alloc (.cells #[.string (qtxt ((qnum al) + (qnum bl))), .string (qtxt ((qnum ah) + (qnum bh))), .string (qtxt (lo4 ((qnum al) * (qnum bl)) ((qnum al) * (qnum bh)) ((qnum ah) * (qnum bl)) ((qnum ah) * (qnum bh)))), .string (qtxt (hi4 ((qnum al) * (qnum bl)) ((qnum al) * (qnum bh)) ((qnum ah) * (qnum bl)) ((qnum ah) * (qnum bh)))), .string (qtxt (lo4 (qnum al) (qnum ah) (qnum bl) (qnum bh))), .string (qtxt (hi4 (qnum al) (qnum ah) (qnum bl) (qnum bh))), .string (qtxt (lo4 ((qnum al) / (qnum bl)) ((qnum al) / (qnum bh)) ((qnum ah) / (qnum bl)) ((qnum ah) / (qnum bh)))), .string (qtxt (hi4 ((qnum al) / (qnum bl)) ((qnum al) / (qnum bh)) ((qnum ah) / (qnum bl)) ((qnum ah) / (qnum bh))))] 44)).heap.size = w642.heap.size + 1 := by simp
      clear hb648 hx649
      obtain ⟨cc651a, cc651b, cc651c, cc651d, cc651e, cc651f, cc651g, cc651h⟩ := X22.out.cells
      obtain ⟨cc652a, cc652b⟩ := Xc.out.both
      obtain ⟨cc653a, cc653b⟩ := Xd.out.both
      obtain ⟨cc654a, cc654b⟩ := Xk.out.both
      obtain ⟨cc655a, cc655b⟩ := Xm.out.both
      obtain ⟨cc656a, cc656b, cc656c, cc656d, cc656e, cc656f, cc656g, cc656h⟩ := X31.out.cells
      go_wp2_with fail
      go_ret
      exact ⟨rfl, B.out⟩
    · have hz1 : (qnum bl).num.sign ≤ 0 := (sgn_le _).2 (Rat.not_lt.1 h1)
      have hz2 : ¬ 0 ≤ (qnum bh).num.sign := fun e => absurd ((sgn_ge _).1 e) (Rat.not_le.2 h0)
      have H0 := hid (good_neg0 GB.out h0)
      have HR0 := hid H0.out.2.1
      have HS0 := hid H0.out.2.2
      replace H0 := hid H0.out.1
      clear h0 h1
      generalize (qnum bl).num.sign = z1 at *
      obtain ⟨cc529a, cc529b⟩ := X3.out.both
      obtain ⟨cc530a, cc530b⟩ := X4.out.both
      obtain ⟨cc531a, cc531b, cc531c⟩ := X8.out.cells
      obtain ⟨cc532a, cc532b, cc532c⟩ := X9.out.cells
      obtain ⟨cc533a, cc533b, cc533c⟩ := X18.out.cells
      obtain ⟨cc534a, cc534b, cc534c⟩ := X19.out.cells
      obtain ⟨cc535a, cc535b, cc535c, cc535d, cc535e, cc535f, cc535g, cc535h⟩ := X22.out.cells
      go_wp2_with fail
      refine (rsgn (QR.mk2 HNs.out HDs.out) (by decide)).mono ?_
      rintro e w536 ⟨rfl, hb⟩
      replace X3 := vx X3 hb
      replace X4 := vx X4 hb
      replace X8 := qx X8 hb
      replace X9 := qx X9 hb
      replace X18 := qx X18 hb
      replace X19 := qx X19 hb
      replace X22 := ux X22 hb
      replace HNp := wr HNp hb
      replace HDp := wr HDp hb
      replace HNq := wr HNq hb
      replace HDq := wr HDq hb
      replace HNr := wr HNr hb
      replace HDr := wr HDr hb
      replace HNs := wr HNs hb
      replace HDs := wr HDs hb
      replace B := bb B hb
      clear cc529a cc529b cc530a cc530b cc531a cc531b cc531c cc532a cc532b cc532c cc533a cc533b cc533c cc534a cc534b cc534c cc535a cc535b cc535c cc535d cc535e cc535f cc535g cc535h
      clear hb 
      generalize (qnum bh).num.sign = z2 at *
      obtain ⟨cc537a, cc537b⟩ := X3.out.both
      obtain ⟨cc538a, cc538b⟩ := X4.out.both
      obtain ⟨cc539a, cc539b, cc539c⟩ := X8.out.cells
      obtain ⟨cc540a, cc540b, cc540c⟩ := X9.out.cells
      obtain ⟨cc541a, cc541b, cc541c⟩ := X18.out.cells
      obtain ⟨cc542a, cc542b, cc542c⟩ := X19.out.cells
      obtain ⟨cc543a, cc543b, cc543c, cc543d, cc543e, cc543f, cc543g, cc543h⟩ := X22.out.cells
      go_wp2_with fail
      obtain ⟨cc544a, cc544b, cc544c⟩ := X8.out.cells
      obtain ⟨cc545a, cc545b, cc545c⟩ := X9.out.cells
      obtain ⟨cc546a, cc546b, cc546c⟩ := X18.out.cells
      obtain ⟨cc547a, cc547b, cc547c⟩ := X19.out.cells
      replace X3 := hid X3.out.dr
      replace X4 := hid X4.out.dr
      replace X8 := hid X8.out.dr
      replace X9 := hid X9.out.dr
      replace X18 := hid X18.out.dr
      replace X19 := hid X19.out.dr
      replace X22 := hid X22.out.dr
      replace HNp := hid HNp.out.drew
      replace HDp := hid HDp.out.drew
      replace HNq := hid HNq.out.drew
      replace HDq := hid HDq.out.drew
      replace HNr := hid HNr.out.drew
      replace HDr := hid HDr.out.drew
      replace HNs := hid HNs.out.drew
      replace HDs := hid HDs.out.drew
      replace B := hid (Below.drew B.out)
      obtain ⟨cc548a, cc548b, cc548c⟩ := X8.out.cells
      obtain ⟨cc549a, cc549b, cc549c⟩ := X9.out.cells
      obtain ⟨cc550a, cc550b, cc550c⟩ := X18.out.cells
      obtain ⟨cc551a, cc551b, cc551c⟩ := X19.out.cells
      go_region_held3 (fun w' => w'.cell? ⟨w13.heap.size, 0, none⟩ = some (.bool spa) ∧ w'.cell? ⟨w13.heap.size, 1, none⟩ = some (.slice ppa npa cpa) ∧ w'.cell? ⟨w13.heap.size, 2, none⟩ = some (.slice ppb npb cpb) ∧ w'.cell? ⟨w13.heap.size + 1, 0, none⟩ = some (.bool sqa) ∧ w'.cell? ⟨w13.heap.size + 1, 1, none⟩ = some (.slice pqa nqa cqa) ∧ w'.cell? ⟨w13.heap.size + 1, 2, none⟩ = some (.slice pqb nqb cqb) ∧ w'.cell? ⟨w405.heap.size, 0, none⟩ = some (.bool sra) ∧ w'.cell? ⟨w405.heap.size, 1, none⟩ = some (.slice pra nra cra) ∧ w'.cell? ⟨w405.heap.size, 2, none⟩ = some (.slice prb nrb crb) ∧ w'.cell? ⟨w405.heap.size + 1, 0, none⟩ = some (.bool ssa) ∧ w'.cell? ⟨w405.heap.size + 1, 1, none⟩ = some (.slice psa nsa csa) ∧ w'.cell? ⟨w405.heap.size + 1, 2, none⟩ = some (.slice psb nsb csb)) (go_keep) (first
        | (have hm := mk552_3; clear hm; have hb573 := (Below.refl _ _).alloc (Nat.le_refl w568.heap.size) (.cells #[.bool s1a, .slice p1a n1a c1a, .slice p1b n1b c1b, .bool s2a, .slice p2a n2a c2a, .slice p2b n2b c2b, .bool s3a, .slice p3a n3a c3a, .slice p3b n3b c3b, .bool s4a, .slice p4a n4a c4a, .slice p4b n4b c4b] 30); have hx574 := qrow_new4 (w := w568) (QR.mk2 HN1.out HD1.out) (QR.mk2 HN2.out HD2.out) (QR.mk2 HN3.out HD3.out) (QR.mk2 HN4.out HD4.out); replace X3 := vx X3 hb573; replace X4 := vx X4 hb573; replace X8 := qx X8 hb573; replace X9 := qx X9 hb573; replace X18 := qx X18 hb573; replace X19 := qx X19 hb573; replace X22 := ux X22 hb573; replace HNp := wr HNp hb573; replace HDp := wr HDp hb573; replace HNq := wr HNq hb573; replace HDq := wr HDq hb573; replace HNr := wr HNr hb573; replace HDr := wr HDr hb573; replace HNs := wr HNs hb573; replace HDs := wr HDs hb573; replace HN1 := wr HN1 hb573; replace HD1 := wr HD1 hb573; replace HN2 := wr HN2 hb573; replace HD2 := wr HD2 hb573; replace HN3 := wr HN3 hb573; replace HD3 := wr HD3 hb573; replace HN4 := wr HN4 hb573; replace HD4 := wr HD4 hb573; replace B := bb B hb573; have HR := hid hx574; clear hb573 hx574; go_at_call 14; refine (rends4 HR.out (by decide)).mono ?_; rintro e w575 ⟨rfl, hb⟩; replace X3 := vx X3 hb; replace X4 := vx X4 hb; replace X8 := qx X8 hb; replace X9 := qx X9 hb; replace X18 := qx X18 hb; replace X19 := qx X19 hb; replace X22 := ux X22 hb; replace HNp := wr HNp hb; replace HDp := wr HDp hb; replace HNq := wr HNq hb; replace HDq := wr HDq hb; replace HNr := wr HNr hb; replace HDr := wr HDr hb; replace HNs := wr HNs hb; replace HDs := wr HDs hb; replace HN1 := wr HN1 hb; replace HD1 := wr HD1 hb; replace HN2 := wr HN2 hb; replace HD2 := wr HD2 hb; replace HN3 := wr HN3 hb; replace HD3 := wr HD3 hb; replace HN4 := wr HN4 hb; replace HD4 := wr HD4 hb; replace B := bb B hb; clear cc569a cc569b cc569c cc570a cc570b cc570c cc571a cc571b cc571c cc572a cc572b cc572c; clear hb HR; obtain ⟨cc576a, cc576b, cc576c⟩ := X8.out.cells; obtain ⟨cc577a, cc577b, cc577c⟩ := X9.out.cells; obtain ⟨cc578a, cc578b, cc578c⟩ := X18.out.cells; obtain ⟨cc579a, cc579b, cc579c⟩ := X19.out.cells; obtain ⟨cc580a, cc580b, cc580c, cc580d⟩ := X22.out.stores3; obtain ⟨r581a, r581b, r581c⟩ := X22.out.put3 B.out (by have := LG.out; have := L1.out; have := L2.out; have := L3.out; omega) (qtxt (lo4 ((qnum al) / (qnum bl)) ((qnum al) / (qnum bh)) ((qnum ah) / (qnum bl)) ((qnum ah) / (qnum bh)))) (qtxt (hi4 ((qnum al) / (qnum bl)) ((qnum al) / (qnum bh)) ((qnum ah) / (qnum bl)) ((qnum ah) / (qnum bh)))); replace X3 := hid ((X3.out.other (g2 := w405.heap.size + 1 + 1) (by have := LG.out; have := L1.out; have := L2.out; have := L3.out; omega) 6 (.string (qtxt (lo4 ((qnum al) / (qnum bl)) ((qnum al) / (qnum bh)) ((qnum ah) / (qnum bl)) ((qnum ah) / (qnum bh)))))).other (g2 := w405.heap.size + 1 + 1) (by have := LG.out; have := L1.out; have := L2.out; have := L3.out; omega) 7 (.string (qtxt (hi4 ((qnum al) / (qnum bl)) ((qnum al) / (qnum bh)) ((qnum ah) / (qnum bl)) ((qnum ah) / (qnum bh)))))); replace X4 := hid ((X4.out.other (g2 := w405.heap.size + 1 + 1) (by have := LG.out; have := L1.out; have := L2.out; have := L3.out; omega) 6 (.string (qtxt (lo4 ((qnum al) / (qnum bl)) ((qnum al) / (qnum bh)) ((qnum ah) / (qnum bl)) ((qnum ah) / (qnum bh)))))).other (g2 := w405.heap.size + 1 + 1) (by have := LG.out; have := L1.out; have := L2.out; have := L3.out; omega) 7 (.string (qtxt (hi4 ((qnum al) / (qnum bl)) ((qnum al) / (qnum bh)) ((qnum ah) / (qnum bl)) ((qnum ah) / (qnum bh)))))); replace X8 := hid ((X8.out.other (g2 := w405.heap.size + 1 + 1) (by have := LG.out; have := L1.out; have := L2.out; have := L3.out; omega) 6 (.string (qtxt (lo4 ((qnum al) / (qnum bl)) ((qnum al) / (qnum bh)) ((qnum ah) / (qnum bl)) ((qnum ah) / (qnum bh)))))).other (g2 := w405.heap.size + 1 + 1) (by have := LG.out; have := L1.out; have := L2.out; have := L3.out; omega) 7 (.string (qtxt (hi4 ((qnum al) / (qnum bl)) ((qnum al) / (qnum bh)) ((qnum ah) / (qnum bl)) ((qnum ah) / (qnum bh)))))); replace X9 := hid ((X9.out.other (g2 := w405.heap.size + 1 + 1) (by have := LG.out; have := L1.out; have := L2.out; have := L3.out; omega) 6 (.string (qtxt (lo4 ((qnum al) / (qnum bl)) ((qnum al) / (qnum bh)) ((qnum ah) / (qnum bl)) ((qnum ah) / (qnum bh)))))).other (g2 := w405.heap.size + 1 + 1) (by have := LG.out; have := L1.out; have := L2.out; have := L3.out; omega) 7 (.string (qtxt (hi4 ((qnum al) / (qnum bl)) ((qnum al) / (qnum bh)) ((qnum ah) / (qnum bl)) ((qnum ah) / (qnum bh)))))); replace X18 := hid ((X18.out.other (g2 := w405.heap.size + 1 + 1) (by have := LG.out; have := L1.out; have := L2.out; have := L3.out; omega) 6 (.string (qtxt (lo4 ((qnum al) / (qnum bl)) ((qnum al) / (qnum bh)) ((qnum ah) / (qnum bl)) ((qnum ah) / (qnum bh)))))).other (g2 := w405.heap.size + 1 + 1) (by have := LG.out; have := L1.out; have := L2.out; have := L3.out; omega) 7 (.string (qtxt (hi4 ((qnum al) / (qnum bl)) ((qnum al) / (qnum bh)) ((qnum ah) / (qnum bl)) ((qnum ah) / (qnum bh)))))); replace X19 := hid ((X19.out.other (g2 := w405.heap.size + 1 + 1) (by have := LG.out; have := L1.out; have := L2.out; have := L3.out; omega) 6 (.string (qtxt (lo4 ((qnum al) / (qnum bl)) ((qnum al) / (qnum bh)) ((qnum ah) / (qnum bl)) ((qnum ah) / (qnum bh)))))).other (g2 := w405.heap.size + 1 + 1) (by have := LG.out; have := L1.out; have := L2.out; have := L3.out; omega) 7 (.string (qtxt (hi4 ((qnum al) / (qnum bl)) ((qnum al) / (qnum bh)) ((qnum ah) / (qnum bl)) ((qnum ah) / (qnum bh)))))); replace HNp := hid (r581c HNp.out); replace HDp := hid (r581c HDp.out); replace HNq := hid (r581c HNq.out); replace HDq := hid (r581c HDq.out); replace HNr := hid (r581c HNr.out); replace HDr := hid (r581c HDr.out); replace HNs := hid (r581c HNs.out); replace HDs := hid (r581c HDs.out); replace HN1 := hid (r581c HN1.out); replace HD1 := hid (r581c HD1.out); replace HN2 := hid (r581c HN2.out); replace HD2 := hid (r581c HD2.out); replace HN3 := hid (r581c HN3.out); replace HD3 := hid (r581c HD3.out); replace HN4 := hid (r581c HN4.out); replace HD4 := hid (r581c HD4.out); replace X22 := hid r581a; replace B := hid r581b; clear r581a r581b r581c; obtain ⟨cc582a, cc582b, cc582c⟩ := X8.out.cells; obtain ⟨cc583a, cc583b, cc583c⟩ := X9.out.cells; obtain ⟨cc584a, cc584b, cc584c⟩ := X18.out.cells; obtain ⟨cc585a, cc585b, cc585c⟩ := X19.out.cells; have mk552_4 := hid True.intro)
        | (have hm := mk552_2; clear hm; go_at_call 17; refine (rdivq (QR.mk2 HNq.out HDq.out) (QR.mk2 HNs.out HDs.out) HS0.out (by decide)).mono ?_; rintro e w568 ⟨v, rfl, hv, hb⟩; obtain ⟨s4a, p4a, n4a, c4a, p4b, n4b, c4b, rfl⟩ := hv.opened; obtain ⟨ht4, hu4⟩ := hv.two; replace X3 := vx X3 hb; replace X4 := vx X4 hb; replace X8 := qx X8 hb; replace X9 := qx X9 hb; replace X18 := qx X18 hb; replace X19 := qx X19 hb; replace X22 := ux X22 hb; replace HNp := wr HNp hb; replace HDp := wr HDp hb; replace HNq := wr HNq hb; replace HDq := wr HDq hb; replace HNr := wr HNr hb; replace HDr := wr HDr hb; replace HNs := wr HNs hb; replace HDs := wr HDs hb; replace HN1 := wr HN1 hb; replace HD1 := wr HD1 hb; replace HN2 := wr HN2 hb; replace HD2 := wr HD2 hb; replace HN3 := wr HN3 hb; replace HD3 := wr HD3 hb; replace B := bb B hb; clear cc564a cc564b cc564c cc565a cc565b cc565c cc566a cc566b cc566c cc567a cc567b cc567c; have HN4 := hid ht4; have HD4 := hid hu4; clear hb hv ht4 hu4; obtain ⟨cc569a, cc569b, cc569c⟩ := X8.out.cells; obtain ⟨cc570a, cc570b, cc570c⟩ := X9.out.cells; obtain ⟨cc571a, cc571b, cc571c⟩ := X18.out.cells; obtain ⟨cc572a, cc572b, cc572c⟩ := X19.out.cells; have mk552_3 := hid True.intro)
        | (have hm := mk552_1; clear hm; go_at_call 17; refine (rdivq (QR.mk2 HNq.out HDq.out) (QR.mk2 HNr.out HDr.out) HR0.out (by decide)).mono ?_; rintro e w563 ⟨v, rfl, hv, hb⟩; obtain ⟨s3a, p3a, n3a, c3a, p3b, n3b, c3b, rfl⟩ := hv.opened; obtain ⟨ht3, hu3⟩ := hv.two; replace X3 := vx X3 hb; replace X4 := vx X4 hb; replace X8 := qx X8 hb; replace X9 := qx X9 hb; replace X18 := qx X18 hb; replace X19 := qx X19 hb; replace X22 := ux X22 hb; replace HNp := wr HNp hb; replace HDp := wr HDp hb; replace HNq := wr HNq hb; replace HDq := wr HDq hb; replace HNr := wr HNr hb; replace HDr := wr HDr hb; replace HNs := wr HNs hb; replace HDs := wr HDs hb; replace HN1 := wr HN1 hb; replace HD1 := wr HD1 hb; replace HN2 := wr HN2 hb; replace HD2 := wr HD2 hb; replace B := bb B hb; clear cc559a cc559b cc559c cc560a cc560b cc560c cc561a cc561b cc561c cc562a cc562b cc562c; have HN3 := hid ht3; have HD3 := hid hu3; clear hb hv ht3 hu3; obtain ⟨cc564a, cc564b, cc564c⟩ := X8.out.cells; obtain ⟨cc565a, cc565b, cc565c⟩ := X9.out.cells; obtain ⟨cc566a, cc566b, cc566c⟩ := X18.out.cells; obtain ⟨cc567a, cc567b, cc567c⟩ := X19.out.cells; have mk552_2 := hid True.intro)
        | (have hm := mk552_0; clear hm; go_at_call 17; refine (rdivq (QR.mk2 HNp.out HDp.out) (QR.mk2 HNs.out HDs.out) HS0.out (by decide)).mono ?_; rintro e w558 ⟨v, rfl, hv, hb⟩; obtain ⟨s2a, p2a, n2a, c2a, p2b, n2b, c2b, rfl⟩ := hv.opened; obtain ⟨ht2, hu2⟩ := hv.two; replace X3 := vx X3 hb; replace X4 := vx X4 hb; replace X8 := qx X8 hb; replace X9 := qx X9 hb; replace X18 := qx X18 hb; replace X19 := qx X19 hb; replace X22 := ux X22 hb; replace HNp := wr HNp hb; replace HDp := wr HDp hb; replace HNq := wr HNq hb; replace HDq := wr HDq hb; replace HNr := wr HNr hb; replace HDr := wr HDr hb; replace HNs := wr HNs hb; replace HDs := wr HDs hb; replace HN1 := wr HN1 hb; replace HD1 := wr HD1 hb; replace B := bb B hb; clear cc554a cc554b cc554c cc555a cc555b cc555c cc556a cc556b cc556c cc557a cc557b cc557c; have HN2 := hid ht2; have HD2 := hid hu2; clear hb hv ht2 hu2; obtain ⟨cc559a, cc559b, cc559c⟩ := X8.out.cells; obtain ⟨cc560a, cc560b, cc560c⟩ := X9.out.cells; obtain ⟨cc561a, cc561b, cc561c⟩ := X18.out.cells; obtain ⟨cc562a, cc562b, cc562c⟩ := X19.out.cells; have mk552_1 := hid True.intro)
        | (go_at_call 17; refine (rdivq (QR.mk2 HNp.out HDp.out) (QR.mk2 HNr.out HDr.out) HR0.out (by decide)).mono ?_; rintro e w553 ⟨v, rfl, hv, hb⟩; obtain ⟨s1a, p1a, n1a, c1a, p1b, n1b, c1b, rfl⟩ := hv.opened; obtain ⟨ht1, hu1⟩ := hv.two; replace X3 := vx X3 hb; replace X4 := vx X4 hb; replace X8 := qx X8 hb; replace X9 := qx X9 hb; replace X18 := qx X18 hb; replace X19 := qx X19 hb; replace X22 := ux X22 hb; replace HNp := wr HNp hb; replace HDp := wr HDp hb; replace HNq := wr HNq hb; replace HDq := wr HDq hb; replace HNr := wr HNr hb; replace HDr := wr HDr hb; replace HNs := wr HNs hb; replace HDs := wr HDs hb; replace B := bb B hb; clear cc537a cc537b cc538a cc538b cc539a cc539b cc539c cc540a cc540b cc540c cc541a cc541b cc541c cc542a cc542b cc542c cc543a cc543b cc543c cc543d cc543e cc543f cc543g cc543h cc544a cc544b cc544c cc545a cc545b cc545c cc546a cc546b cc546c cc547a cc547b cc547c cc548a cc548b cc548c cc549a cc549b cc549c cc550a cc550b cc550c cc551a cc551b cc551c; have HN1 := hid ht1; have HD1 := hid hu1; clear hb hv ht1 hu1; obtain ⟨cc554a, cc554b, cc554c⟩ := X8.out.cells; obtain ⟨cc555a, cc555b, cc555c⟩ := X9.out.cells; obtain ⟨cc556a, cc556b, cc556c⟩ := X18.out.cells; obtain ⟨cc557a, cc557b, cc557c⟩ := X19.out.cells; have mk552_0 := hid True.intro))
      obtain ⟨cc586a, cc586b⟩ := X3.out.both
      obtain ⟨cc587a, cc587b⟩ := X4.out.both
      obtain ⟨cc588a, cc588b, cc588c, cc588d, cc588e, cc588f, cc588g, cc588h⟩ := X22.out.cells
      go_wp2_with fail
      generalize hW : (w575.setCell ⟨w405.heap.size + 1 + 1, 6, none⟩ (.string (qtxt (lo4 ((qnum al) / (qnum bl)) ((qnum al) / (qnum bh)) ((qnum ah) / (qnum bl)) ((qnum ah) / (qnum bh)))))).setCell ⟨w405.heap.size + 1 + 1, 7, none⟩ (.string (qtxt (hi4 ((qnum al) / (qnum bl)) ((qnum al) / (qnum bh)) ((qnum ah) / (qnum bl)) ((qnum ah) / (qnum bh))))) = W589 at *
      clear hW
      refine (iadd_good2 GA.out GB.out W589).mono ?_
      rintro e w590 ⟨rfl, hb⟩
      replace X3 := vx X3 hb
      replace X4 := vx X4 hb
      replace X22 := ux X22 hb
      replace B := bb B hb
      clear cc576a cc576b cc576c cc577a cc577b cc577c cc578a cc578b cc578c cc579a cc579b cc579c cc580a cc580b cc580c cc580d cc582a cc582b cc582c cc583a cc583b cc583c cc584a cc584b cc584c cc585a cc585b cc585c cc586a cc586b cc587a cc587b cc588a cc588b cc588c cc588d cc588e cc588f cc588g cc588h
      clear hb 
      have hb591 := (Below.refl _ _).alloc (Nat.le_refl w590.heap.size) (.cells #[.string (qtxt ((qnum al) + (qnum bl))), .string (qtxt ((qnum ah) + (qnum bh)))] 23)
      have hx592 := Vbx.new w590 (qtxt ((qnum al) + (qnum bl))) (qtxt ((qnum ah) + (qnum bh)))
      have L4 := hid X22.out.lt
      replace X3 := vx X3 hb591
      replace X4 := vx X4 hb591
      replace X22 := ux X22 hb591
      replace B := bb B hb591
      have Xc := hid hx592
      have hs593 : (w590.alloc (.cells #[.string (qtxt ((qnum al) + (qnum bl))), .string (qtxt ((qnum ah) + (qnum bh)))] 23)).heap.size = w590.heap.size + 1 := by simp
      clear hb591 hx592
      obtain ⟨cc594a, cc594b⟩ := X3.out.both
      obtain ⟨cc595a, cc595b⟩ := X4.out.both
      obtain ⟨cc596a, cc596b, cc596c, cc596d, cc596e, cc596f, cc596g, cc596h⟩ := X22.out.cells
      obtain ⟨cc597a, cc597b⟩ := Xc.out.both
      go_wp2_with fail
      generalize hW : w590.alloc (.cells #[.string (qtxt ((qnum al) + (qnum bl))), .string (qtxt ((qnum ah) + (qnum bh)))] 23) = W598 at *
      clear hW
      refine (same_nil W598 (HDR.out.below B.out)).mono ?_
      rintro e w599 ⟨rfl, hb⟩
      replace X3 := vx X3 hb
      replace X4 := vx X4 hb
      replace X22 := ux X22 hb
      replace Xc := vx Xc hb
      replace B := bb B hb
      clear cc594a cc594b cc595a cc595b cc596a cc596b cc596c cc596d cc596e cc596f cc596g cc596h cc597a cc597b
      clear hb 
      obtain ⟨cc600a, cc600b⟩ := X3.out.both
      obtain ⟨cc601a, cc601b⟩ := X4.out.both
      obtain ⟨cc602a, cc602b, cc602c, cc602d, cc602e, cc602f, cc602g, cc602h⟩ := X22.out.cells
      obtain ⟨cc603a, cc603b⟩ := Xc.out.both
      go_wp2_with fail
      refine (imul_good GA.out GB.out w599).mono ?_
      rintro e w604 ⟨rfl, hb⟩
      replace X3 := vx X3 hb
      replace X4 := vx X4 hb
      replace X22 := ux X22 hb
      replace Xc := vx Xc hb
      replace B := bb B hb
      clear cc600a cc600b cc601a cc601b cc602a cc602b cc602c cc602d cc602e cc602f cc602g cc602h cc603a cc603b
      clear hb 
      have hb605 := (Below.refl _ _).alloc (Nat.le_refl w604.heap.size) (.cells #[.string (qtxt (lo4 ((qnum al) * (qnum bl)) ((qnum al) * (qnum bh)) ((qnum ah) * (qnum bl)) ((qnum ah) * (qnum bh)))), .string (qtxt (hi4 ((qnum al) * (qnum bl)) ((qnum al) * (qnum bh)) ((qnum ah) * (qnum bl)) ((qnum ah) * (qnum bh))))] 23)
      have hx606 := Vbx.new w604 (qtxt (lo4 ((qnum al) * (qnum bl)) ((qnum al) * (qnum bh)) ((qnum ah) * (qnum bl)) ((qnum ah) * (qnum bh)))) (qtxt (hi4 ((qnum al) * (qnum bl)) ((qnum al) * (qnum bh)) ((qnum ah) * (qnum bl)) ((qnum ah) * (qnum bh))))
      have L5 := hid Xc.out.lt
      replace X3 := vx X3 hb605
      replace X4 := vx X4 hb605
      replace X22 := ux X22 hb605
      replace Xc := vx Xc hb605
      replace B := bb B hb605
      have Xd := hid hx606
      have hs607 : (w604.alloc (.cells #[.string (qtxt (lo4 ((qnum al) * (qnum bl)) ((qnum al) * (qnum bh)) ((qnum ah) * (qnum bl)) ((qnum ah) * (qnum bh)))), .string (qtxt (hi4 ((qnum al) * (qnum bl)) ((qnum al) * (qnum bh)) ((qnum ah) * (qnum bl)) ((qnum ah) * (qnum bh))))] 23)).heap.size = w604.heap.size + 1 := by simp
      clear hb605 hx606
      obtain ⟨cc608a, cc608b⟩ := X3.out.both
      obtain ⟨cc609a, cc609b⟩ := X4.out.both
      obtain ⟨cc610a, cc610b, cc610c, cc610d, cc610e, cc610f, cc610g, cc610h⟩ := X22.out.cells
      obtain ⟨cc611a, cc611b⟩ := Xc.out.both
      obtain ⟨cc612a, cc612b⟩ := Xd.out.both
      go_wp2_with fail
      generalize hW : w604.alloc (.cells #[.string (qtxt (lo4 ((qnum al) * (qnum bl)) ((qnum al) * (qnum bh)) ((qnum ah) * (qnum bl)) ((qnum ah) * (qnum bh)))), .string (qtxt (hi4 ((qnum al) * (qnum bl)) ((qnum al) * (qnum bh)) ((qnum ah) * (qnum bl)) ((qnum ah) * (qnum bh))))] 23) = W613 at *
      clear hW
      refine (same_nil W613 (HDR.out.below B.out)).mono ?_
      rintro e w614 ⟨rfl, hb⟩
      replace X3 := vx X3 hb
      replace X4 := vx X4 hb
      replace X22 := ux X22 hb
      replace Xc := vx Xc hb
      replace Xd := vx Xd hb
      replace B := bb B hb
      clear cc608a cc608b cc609a cc609b cc610a cc610b cc610c cc610d cc610e cc610f cc610g cc610h cc611a cc611b cc612a cc612b
      clear hb 
      obtain ⟨cc615a, cc615b⟩ := X3.out.both
      obtain ⟨cc616a, cc616b⟩ := X4.out.both
      obtain ⟨cc617a, cc617b, cc617c, cc617d, cc617e, cc617f, cc617g, cc617h⟩ := X22.out.cells
      obtain ⟨cc618a, cc618b⟩ := Xc.out.both
      obtain ⟨cc619a, cc619b⟩ := Xd.out.both
      go_wp2_with fail
      refine (ihull_good GA.out GB.out w614).mono ?_
      rintro e w620 ⟨rfl, hb⟩
      replace X3 := vx X3 hb
      replace X4 := vx X4 hb
      replace X22 := ux X22 hb
      replace Xc := vx Xc hb
      replace Xd := vx Xd hb
      replace B := bb B hb
      clear cc615a cc615b cc616a cc616b cc617a cc617b cc617c cc617d cc617e cc617f cc617g cc617h cc618a cc618b cc619a cc619b
      clear hb 
      have hb621 := (Below.refl _ _).alloc (Nat.le_refl w620.heap.size) (.cells #[.string (qtxt (lo4 (qnum al) (qnum ah) (qnum bl) (qnum bh))), .string (qtxt (hi4 (qnum al) (qnum ah) (qnum bl) (qnum bh)))] 23)
      have hx622 := Vbx.new w620 (qtxt (lo4 (qnum al) (qnum ah) (qnum bl) (qnum bh))) (qtxt (hi4 (qnum al) (qnum ah) (qnum bl) (qnum bh)))
      have L6 := hid Xd.out.lt
      replace X3 := vx X3 hb621
      replace X4 := vx X4 hb621
      replace X22 := ux X22 hb621
      replace Xc := vx Xc hb621
      replace Xd := vx Xd hb621
      replace B := bb B hb621
      have Xk := hid hx622
      have hs623 : (w620.alloc (.cells #[.string (qtxt (lo4 (qnum al) (qnum ah) (qnum bl) (qnum bh))), .string (qtxt (hi4 (qnum al) (qnum ah) (qnum bl) (qnum bh)))] 23)).heap.size = w620.heap.size + 1 := by simp
      clear hb621 hx622
      obtain ⟨cc624a, cc624b⟩ := X3.out.both
      obtain ⟨cc625a, cc625b⟩ := X4.out.both
      obtain ⟨cc626a, cc626b, cc626c, cc626d, cc626e, cc626f, cc626g, cc626h⟩ := X22.out.cells
      obtain ⟨cc627a, cc627b⟩ := Xc.out.both
      obtain ⟨cc628a, cc628b⟩ := Xd.out.both
      obtain ⟨cc629a, cc629b⟩ := Xk.out.both
      go_wp2_with fail
      generalize hW : w620.alloc (.cells #[.string (qtxt (lo4 (qnum al) (qnum ah) (qnum bl) (qnum bh))), .string (qtxt (hi4 (qnum al) (qnum ah) (qnum bl) (qnum bh)))] 23) = W630 at *
      clear hW
      refine (same_nil W630 (HDR.out.below B.out)).mono ?_
      rintro e w631 ⟨rfl, hb⟩
      replace X3 := vx X3 hb
      replace X4 := vx X4 hb
      replace X22 := ux X22 hb
      replace Xc := vx Xc hb
      replace Xd := vx Xd hb
      replace Xk := vx Xk hb
      replace B := bb B hb
      clear cc624a cc624b cc625a cc625b cc626a cc626b cc626c cc626d cc626e cc626f cc626g cc626h cc627a cc627b cc628a cc628b cc629a cc629b
      clear hb 
      obtain ⟨cc632a, cc632b⟩ := X3.out.both
      obtain ⟨cc633a, cc633b⟩ := X4.out.both
      obtain ⟨cc634a, cc634b, cc634c, cc634d, cc634e, cc634f, cc634g, cc634h⟩ := X22.out.cells
      obtain ⟨cc635a, cc635b⟩ := Xc.out.both
      obtain ⟨cc636a, cc636b⟩ := Xd.out.both
      obtain ⟨cc637a, cc637b⟩ := Xk.out.both
      go_wp2_with fail
      refine (idiv_good GA.out GB.out H0.out w631).mono ?_
      rintro e w638 ⟨rfl, hb⟩
      replace X3 := vx X3 hb
      replace X4 := vx X4 hb
      replace X22 := ux X22 hb
      replace Xc := vx Xc hb
      replace Xd := vx Xd hb
      replace Xk := vx Xk hb
      replace B := bb B hb
      clear cc632a cc632b cc633a cc633b cc634a cc634b cc634c cc634d cc634e cc634f cc634g cc634h cc635a cc635b cc636a cc636b cc637a cc637b
      clear hb 
      have hb639 := (Below.refl _ _).alloc (Nat.le_refl w638.heap.size) (.cells #[.string (qtxt (lo4 ((qnum al) / (qnum bl)) ((qnum al) / (qnum bh)) ((qnum ah) / (qnum bl)) ((qnum ah) / (qnum bh)))), .string (qtxt (hi4 ((qnum al) / (qnum bl)) ((qnum al) / (qnum bh)) ((qnum ah) / (qnum bl)) ((qnum ah) / (qnum bh))))] 23)
      have hx640 := Vbx.new w638 (qtxt (lo4 ((qnum al) / (qnum bl)) ((qnum al) / (qnum bh)) ((qnum ah) / (qnum bl)) ((qnum ah) / (qnum bh)))) (qtxt (hi4 ((qnum al) / (qnum bl)) ((qnum al) / (qnum bh)) ((qnum ah) / (qnum bl)) ((qnum ah) / (qnum bh))))
      have L7 := hid Xk.out.lt
      replace X3 := vx X3 hb639
      replace X4 := vx X4 hb639
      replace X22 := ux X22 hb639
      replace Xc := vx Xc hb639
      replace Xd := vx Xd hb639
      replace Xk := vx Xk hb639
      replace B := bb B hb639
      have Xm := hid hx640
      have hs641 : (w638.alloc (.cells #[.string (qtxt (lo4 ((qnum al) / (qnum bl)) ((qnum al) / (qnum bh)) ((qnum ah) / (qnum bl)) ((qnum ah) / (qnum bh)))), .string (qtxt (hi4 ((qnum al) / (qnum bl)) ((qnum al) / (qnum bh)) ((qnum ah) / (qnum bl)) ((qnum ah) / (qnum bh))))] 23)).heap.size = w638.heap.size + 1 := by simp
      clear hb639 hx640
      obtain ⟨cc642a, cc642b⟩ := X3.out.both
      obtain ⟨cc643a, cc643b⟩ := X4.out.both
      obtain ⟨cc644a, cc644b, cc644c, cc644d, cc644e, cc644f, cc644g, cc644h⟩ := X22.out.cells
      obtain ⟨cc645a, cc645b⟩ := Xc.out.both
      obtain ⟨cc646a, cc646b⟩ := Xd.out.both
      obtain ⟨cc647a, cc647b⟩ := Xk.out.both
      obtain ⟨cc648a, cc648b⟩ := Xm.out.both
      go_wp2_with fail
      generalize hW : w638.alloc (.cells #[.string (qtxt (lo4 ((qnum al) / (qnum bl)) ((qnum al) / (qnum bh)) ((qnum ah) / (qnum bl)) ((qnum ah) / (qnum bh)))), .string (qtxt (hi4 ((qnum al) / (qnum bl)) ((qnum al) / (qnum bh)) ((qnum ah) / (qnum bl)) ((qnum ah) / (qnum bh))))] 23) = W649 at *
      clear hW
      refine (same_nil W649 (HDR.out.below B.out)).mono ?_
      rintro e w650 ⟨rfl, hb⟩
      replace X22 := ux X22 hb
      replace Xc := vx Xc hb
      replace Xd := vx Xd hb
      replace Xk := vx Xk hb
      replace Xm := vx Xm hb
      replace B := bb B hb
      clear cc642a cc642b cc643a cc643b cc644a cc644b cc644c cc644d cc644e cc644f cc644g cc644h cc645a cc645b cc646a cc646b cc647a cc647b cc648a cc648b
      clear hb 
      obtain ⟨cc651a, cc651b, cc651c, cc651d, cc651e, cc651f, cc651g, cc651h⟩ := X22.out.cells
      obtain ⟨cc652a, cc652b⟩ := Xc.out.both
      obtain ⟨cc653a, cc653b⟩ := Xd.out.both
      obtain ⟨cc654a, cc654b⟩ := Xk.out.both
      obtain ⟨cc655a, cc655b⟩ := Xm.out.both
      have hb656 := (Below.refl _ _).alloc (Nat.le_refl w650.heap.size) (.cells #[.string (qtxt ((qnum al) + (qnum bl))), .string (qtxt ((qnum ah) + (qnum bh))), .string (qtxt (lo4 ((qnum al) * (qnum bl)) ((qnum al) * (qnum bh)) ((qnum ah) * (qnum bl)) ((qnum ah) * (qnum bh)))), .string (qtxt (hi4 ((qnum al) * (qnum bl)) ((qnum al) * (qnum bh)) ((qnum ah) * (qnum bl)) ((qnum ah) * (qnum bh)))), .string (qtxt (lo4 (qnum al) (qnum ah) (qnum bl) (qnum bh))), .string (qtxt (hi4 (qnum al) (qnum ah) (qnum bl) (qnum bh))), .string (qtxt (lo4 ((qnum al) / (qnum bl)) ((qnum al) / (qnum bh)) ((qnum ah) / (qnum bl)) ((qnum ah) / (qnum bh)))), .string (qtxt (hi4 ((qnum al) / (qnum bl)) ((qnum al) / (qnum bh)) ((qnum ah) / (qnum bl)) ((qnum ah) / (qnum bh))))] 44)
      have hx657 := Wbx.new w650 (qtxt ((qnum al) + (qnum bl))) (qtxt ((qnum ah) + (qnum bh))) (qtxt (lo4 ((qnum al) * (qnum bl)) ((qnum al) * (qnum bh)) ((qnum ah) * (qnum bl)) ((qnum ah) * (qnum bh)))) (qtxt (hi4 ((qnum al) * (qnum bl)) ((qnum al) * (qnum bh)) ((qnum ah) * (qnum bl)) ((qnum ah) * (qnum bh)))) (qtxt (lo4 (qnum al) (qnum ah) (qnum bl) (qnum bh))) (qtxt (hi4 (qnum al) (qnum ah) (qnum bl) (qnum bh))) (qtxt (lo4 ((qnum al) / (qnum bl)) ((qnum al) / (qnum bh)) ((qnum ah) / (qnum bl)) ((qnum ah) / (qnum bh)))) (qtxt (hi4 ((qnum al) / (qnum bl)) ((qnum al) / (qnum bh)) ((qnum ah) / (qnum bl)) ((qnum ah) / (qnum bh))))
      have L8 := hid Xm.out.lt
      replace X22 := ux X22 hb656
      replace Xc := vx Xc hb656
      replace Xd := vx Xd hb656
      replace Xk := vx Xk hb656
      replace Xm := vx Xm hb656
      replace B := bb B hb656
      have X31 := hid hx657
      have hs658 : (w650.alloc (.cells #[.string (qtxt ((qnum al) + (qnum bl))), .string (qtxt ((qnum ah) + (qnum bh))), .string (qtxt (lo4 ((qnum al) * (qnum bl)) ((qnum al) * (qnum bh)) ((qnum ah) * (qnum bl)) ((qnum ah) * (qnum bh)))), .string (qtxt (hi4 ((qnum al) * (qnum bl)) ((qnum al) * (qnum bh)) ((qnum ah) * (qnum bl)) ((qnum ah) * (qnum bh)))), .string (qtxt (lo4 (qnum al) (qnum ah) (qnum bl) (qnum bh))), .string (qtxt (hi4 (qnum al) (qnum ah) (qnum bl) (qnum bh))), .string (qtxt (lo4 ((qnum al) / (qnum bl)) ((qnum al) / (qnum bh)) ((qnum ah) / (qnum bl)) ((qnum ah) / (qnum bh)))), .string (qtxt (hi4 ((qnum al) / (qnum bl)) ((qnum al) / (qnum bh)) ((qnum ah) / (qnum bl)) ((qnum ah) / (qnum bh))))] 44)).heap.size = w650.heap.size + 1 := by simp
      clear hb656 hx657
      obtain ⟨cc659a, cc659b, cc659c, cc659d, cc659e, cc659f, cc659g, cc659h⟩ := X22.out.cells
      obtain ⟨cc660a, cc660b⟩ := Xc.out.both
      obtain ⟨cc661a, cc661b⟩ := Xd.out.both
      obtain ⟨cc662a, cc662b⟩ := Xk.out.both
      obtain ⟨cc663a, cc663b⟩ := Xm.out.both
      obtain ⟨cc664a, cc664b, cc664c, cc664d, cc664e, cc664f, cc664g, cc664h⟩ := X31.out.cells
      go_wp2_with fail
      go_ret
      exact ⟨rfl, B.out⟩

end Go.Proofs.YtkdeopikojgboaaGreatDoor

/-
  THE LAW IvalTells' WALK.
-/
namespace Go.Proofs.YtkdeopikojgboaaGreatDoor
open Go.RowKit
open Num4
open Num (dg isNat dval)
set_option linter.unusedVariables false
set_option maxRecDepth 100000
set_option linter.unusedSimpArgs false

theorem itells_walk (al ah bl bh x : ByteArray) (hal : al.size ≤ maxLen) (hah : ah.size ≤ maxLen) (hbl : bl.size ≤ maxLen) (hbh : bh.size ≤ maxLen) (hx : x.size ≤ maxLen) (w : World) (hd : Door w) :
    Calls Tryz.prog 3 #[.agg #[.string al, .string ah], .agg #[.string bl, .string bh], .string x] w fun e w' => e = .returned (.bool true) ∧ Below w.heap.size w w' := by
  rcases goodI_or_bad al ah with ha | ⟨k, ha⟩
  · rcases goodI_or_bad bl bh with hb0 | ⟨k, hb0⟩
    · exact itells_good al ah bl bh x hal hah hbl hbh hx w ha hb0 hd
    · exact itells_bad al ah bl bh x hal hah hbl hbh hx w ha hb0 hd
  · exact itells_a al ah bl bh x hal hah hbl hbh hx w ha hd

end Go.Proofs.YtkdeopikojgboaaGreatDoor
