import Derived.Test.YtdifiimaifmcpaaGreatDoorBunProofPgcdTells22
import Derived.Test.YtdifiimaifmcpaaGreatDoorBunProofPgcdTells26
import Derived.Test.YtdifiimaifmcpaaGreatDoorBunProofPgcdTells5
import Derived.Test.YtdifiimaifmcpaaGreatDoorBunProofPgcdTells14
import Derived.Test.YtdifiimaifmcpaaGreatDoorBunProofPgcdTells19
/-
  THE REFERENCE: All.
-/
namespace Go.Proofs.YtdifiimaifmcpaaGreatDoor
open Go.RowKit
open Num4
open Num (dg isNat dval)
set_option linter.unusedVariables false
set_option maxRecDepth 100000
set_option linter.unusedSimpArgs false

/-- One of them is wrong. -/
def BadAt (ss : List ByteArray) (k : Int) : Prop := ∃ i, i < ss.length ∧ (∀ j, j < i → GoodQ (tx ss j)) ∧ BadQ (tx ss i) k
theorem rdp_take {ss : List ByteArray} {j : Nat} (h : j < ss.length) : (rdp ss).take j ++ [qnum (tx ss j)] = (rdp ss).take (j + 1) := by
  have hj : j < (rdp ss).length := by rw [rdp_len]; exact h
  rw [List.take_succ_eq_append_getElem hj]
  congr 2
  rw [tx_lt h]
  simp [rdp]
set_option maxHeartbeats 4000000 in
theorem rall {w : World} {v : Value} {ss : List ByteArray} (h : TxsW w v ss) (hs : Szs ss) (hmax : ss.length ≤ 1000) :
    Calls Tryz.prog 16 #[v] w fun e w' => ((∃ k, BadAt ss k ∧ e = .returned (.tuple #[.slice none 0 0, .int .i64 k])) ∨ ((∀ i, i < ss.length → GoodQ (tx ss i)) ∧ ∃ v, e = .returned (.tuple #[v, .int .i64 0]) ∧ OwnP w' w.heap.size v (rdp ss))) ∧ Below w.heap.size w w' := by
  obtain ⟨p, c, rfl, hn, hc, hA⟩ := h
  obtain ⟨n, hN⟩ : ∃ n, ss.length = n := ⟨_, rfl⟩
  have HS := hid hs
  unfold Szs at hs
  rw [hN] at hn hA hmax ⊢
  have HN := hid hN
  have HA := hid hA
  have HM := hid hmax
  unfold maxLen at hc
  have B := hid (Below.refl w.heap.size w)
  clear hA hs hN hmax
  go_enter Tryz.func16, Tryz.ntmps16
  go_wp2_with fail
  go_loopw [5, 4] (fun i zv wr => ∃ j : Nat, j ≤ n ∧ i = .int .i64 j ∧ Hid (OwnP wr w.heap.size zv ((rdp ss).take j)) ∧ Hid (∀ l, l < j → GoodQ (tx ss l)) ∧ Hid (Below w.heap.size w wr)) (fun i _ _ => n - (intOf i).toNat)
  case atStart => exact ⟨0, by omega, rfl, hid (OwnP.nil _ _), hid (fun m hm => by omega), B⟩
  case round =>
    clear B
    obtain ⟨j, hj, rfl, HO, HG, B⟩ := hrel
    by_cases hlt : j < n
    · obtain ⟨b, off, rfl, hb, cu⟩ := HA.out j hlt
      have cu' := (B.out.cell (p := ⟨b, off + j, none⟩) hb).trans cu
      clear cu
      go_wp2_with fail
      rcases goodQ_or_bad (tx ss j) with hg | ⟨k, hk⟩
      · refine (ratof_good hg _).mono ?_
        rintro e w1 ⟨v, rfl, hv, hb1⟩
        obtain ⟨s5, p5, n5, c5, p5', n5', c5', rfl⟩ := hv.opened
        replace HO := hid (HO.out.on hb1)
        replace B := bb B hb1
        replace HG : Hid (∀ l, l < j + 1 → GoodQ (tx ss l)) := hid (fun l hl => if h : l < j then HG.out l h else (show l = j by omega) ▸ hg)
        have HV := hid hv.qf
        clear hb1 hg hv
        have hb2 := (Below.refl _ _).alloc (Nat.le_refl w1.heap.size) (.cells #[.bool s5, .slice p5 n5 c5, .slice p5' n5' c5'] 45)
        have XB := hid (Qbx.new w1 s5 p5 n5 c5 p5' n5' c5')
        replace HO := hid (HO.out.on hb2)
        replace HV := hid (HV.out.on hb2)
        replace B := bb B hb2
        clear hb2
        obtain ⟨cc0, cc1, cc2⟩ := XB.out.cells
        have hsz : (w1.alloc (.cells #[.bool s5, .slice p5 n5 c5, .slice p5' n5' c5'] 45)).heap.size = w1.heap.size + 1 := by simp
        have hb3 := (Below.refl _ _).alloc (Nat.le_refl (w1.alloc (.cells #[.bool s5, .slice p5 n5 c5, .slice p5' n5' c5'] 45)).heap.size) (.cells #[.bool s5, .slice p5 n5 c5, .slice p5' n5' c5'] 45)
        have XR := hid (Qbx.new (w1.alloc (.cells #[.bool s5, .slice p5 n5 c5, .slice p5' n5' c5'] 45)) s5 p5 n5 c5 p5' n5' c5')
        replace HO := hid (HO.out.on hb3)
        replace HV := hid (HV.out.on hb3)
        replace B := bb B hb3
        clear hb3
        obtain ⟨cd0, cd1, cd2⟩ := XR.out.cells
        rw [hsz] at cd0 cd1 cd2
        have hKK : w.heap.size ≤ ((w1.alloc (.cells #[.bool s5, .slice p5 n5 c5, .slice p5' n5' c5'] 45)).alloc (.cells #[.bool s5, .slice p5 n5 c5, .slice p5' n5' c5'] 45)).heap.size := B.out.size
        have hll : ((rdp ss).take j).length ≤ 1000 := by have := HM.out; rw [List.length_take]; omega
        go_wp2_with (at_builtin; refine wpList_append_p rfl _ _ rfl w.heap.size _ ((rdp ss).take j) rfl HO.out hKK hll (w1.heap.size + 1) 1 rfl cd0 cd1 cd2 HV.out (Nat.le_refl _) B.out ?_)
        intro v' wa hown hB2 _ _ _
        rw [rdp_take (by rw [HN.out]; exact hlt)] at hown
        replace HO := hid hown
        replace B := hid hB2
        clear hown hB2 hKK hll cc0 cc1 cc2 cd0 cd1 cd2 HV XB XR hsz
        go_wp2_with fail
        go_roundw
        case rel => exact ⟨j + 1, by omega, by go_num, HO, HG, B⟩
        case measure => simp [intOf]; omega
      · have hk0 : ¬ k = 0 := hk.ne
        refine (ratof_bad hk _ (HS.out j (by rw [HN.out]; exact hlt))).mono ?_
        rintro e w1 ⟨s5, p5, n5, c5, p5', n5', c5', rfl, hb1⟩
        replace B := bb B hb1
        have HK := hid (show BadAt ss k from ⟨j, by rw [HN.out]; exact hlt, HG.out, hk⟩)
        clear hb1 hk HG HO
        have hb2 := (Below.refl _ _).alloc (Nat.le_refl w1.heap.size) (.cells #[.bool s5, .slice p5 n5 c5, .slice p5' n5' c5'] 45)
        replace B := bb B hb2
        clear hb2
        go_wp2_with fail
        go_ret2
        exact ⟨.inl ⟨k, HK.out, rfl⟩, B.out⟩
    · obtain rfl : j = n := by omega
      have HO2 : Hid (OwnP wr w.heap.size u4 (rdp ss)) := hid (by have h := HO.out; rw [List.take_of_length_le (by rw [rdp_len, HN.out]; exact Nat.le_refl _)] at h; exact h)
      go_wp2_with fail
      go_ret2
      exact ⟨.inr ⟨HG.out, _, rfl, HO2.out⟩, B.out⟩

end Go.Proofs.YtdifiimaifmcpaaGreatDoor

/-
  THE REFERENCE: PolyOf.
-/
namespace Go.Proofs.YtdifiimaifmcpaaGreatDoor
open Go.RowKit
open Num4
open Num (dg isNat dval)
set_option linter.unusedVariables false
set_option maxRecDepth 100000
set_option linter.unusedSimpArgs false

theorem trim_of_trm {l : List Rat} (h : Trm l) : trimQ l = l := trm_ext (trm_trim l) h (co_trim l)
theorem trim_short {l : List Rat} (h : ¬ Trm l) : (trimQ l).length < l.length := by
  rcases Nat.lt_or_ge (trimQ l).length l.length with h1 | h1
  · exact h1
  · refine absurd ?_ h
    have h2 : (trimQ l).length = l.length := Nat.le_antisymm (trim_len l) h1
    have e : trimQ l = l := by
      apply List.ext_getElem h2
      intro i h3 h4
      rw [← co_lt h3, ← co_lt h4]
      exact co_trim l i
    rw [← e]
    exact trm_trim l
set_option maxHeartbeats 1000000 in
theorem rpolyof {w : World} {v : Value} {ss : List ByteArray} (h : TxsW w v ss) (hs : Szs ss) :
    Calls Tryz.prog 5 #[v] w fun e w' => ∃ v' k, e = .returned (.tuple #[v', .int .i64 k]) ∧ ((k = 0 ∧ GoodP ss ∧ PF w' v' (rdp ss)) ∨ (k ≠ 0 ∧ BadP ss k)) ∧ Below w.heap.size w w' := by
  have HT := hid h
  have HS := hid hs
  obtain ⟨p, c, rfl, hn, hc, _⟩ := h
  obtain ⟨n, hN⟩ : ∃ n, ss.length = n := ⟨_, rfl⟩
  rw [hN] at hn HT ⊢
  have HN := hid hN
  unfold maxLen at hc
  have B := hid (Below.refl w.heap.size w)
  clear hs hN
  by_cases h9 : 9 < n
  · have h9' : (9 : Int) < (n : Int) := by omega
    go_enter Tryz.func5, Tryz.ntmps5
    go_wp2_with fail
    go_ret2
    exact ⟨_, 4, rfl, .inr ⟨by decide, .inl ⟨by rw [HN.out]; exact h9, rfl⟩⟩, B.out⟩
  · have h9' : ¬ (9 : Int) < (n : Int) := by omega
    have HL := hid (show ss.length ≤ 9 by rw [HN.out]; omega)
    have HA := hid (rall HT.out HS.out (by have := HL.out; omega))
    go_enter Tryz.func5, Tryz.ntmps5
    go_wp2_with fail
    refine HA.out.mono ?_
    rintro e w1 ⟨⟨k, ⟨i, hi, hg, hk⟩, rfl⟩ | ⟨hg, v1, rfl, ho⟩, hb1⟩
    · have HK := hid (show BadP ss k from .inr (.inl ⟨HL.out, i, hi, hg, hk⟩))
      have hk0 : ¬ k = 0 := hk.ne
      replace B := bb B hb1
      clear hb1 hk hg
      go_wp2_with fail
      go_ret2
      exact ⟨_, k, rfl, .inr ⟨HK.out.ne, HK.out⟩, B.out⟩
    · replace B := bb B hb1
      have HG := hid hg
      obtain ⟨a1, c1, rfl, hn1, hc1⟩ := ho.len
      unfold maxLen at hc1
      have HP := hid ho.pf
      have hlr := rdp_len ss
      have HSL := hid (show Sml (rdp ss) 100 from ⟨by decide, fun j => by
        by_cases hj : j < ss.length
        · rw [co_lt (by rw [rdp_len]; exact hj)]
          have h2 := Sm.good (hg j hj)
          rw [tx_lt hj] at h2
          simp only [rdp, List.getElem_map]
          exact h2.mono (by decide)
        · rw [co_ge (by rw [rdp_len]; omega)]
          exact Sm.zero (by decide)⟩)
      clear hb1 hg ho
      by_cases ht : Trm (rdp ss)
      · have HG2 := hid (show GoodP ss from ⟨HL.out, HG.out, ht⟩)
        have HTR := rtrim_s HP.out HSL.out (by decide)
        rw [trim_of_trm ht] at HTR
        have HTR := hid HTR
        clear ht hlr
        go_wp2_with fail
        refine HTR.out.mono ?_
        rintro e w2 ⟨rfl, hb2⟩
        replace B := bb B hb2
        replace HP := hid (HP.out.on hb2)
        clear hb2 HTR
        go_wp2_with fail
        go_ret2
        exact ⟨_, 0, rfl, .inl ⟨rfl, HG2.out, HP.out⟩, B.out⟩
      · have HB := hid (show BadP ss 1 from .inr (.inr ⟨HL.out, HG.out, ht, rfl⟩))
        have hsh := trim_short ht
        have HTR := hid (rtrim_s HP.out HSL.out (by decide))
        have hsh' : ((trimQ (rdp ss)).length : Int) < ((rdp ss).length : Int) := by omega
        clear ht hlr
        go_wp2_with fail
        refine HTR.out.mono ?_
        rintro e w2 ⟨rfl, hb2⟩
        replace B := bb B hb2
        clear hb2 HTR
        go_wp2_with fail
        go_ret2
        exact ⟨_, 1, rfl, .inr ⟨by decide, HB.out⟩, B.out⟩

end Go.Proofs.YtdifiimaifmcpaaGreatDoor

/-
  PolyTells: what its walk stands on.
-/
namespace Go.Proofs.YtdifiimaifmcpaaGreatDoor
open Go.RowKit
open Num
set_option linter.unusedVariables false
set_option maxRecDepth 100000
set_option linter.unusedSimpArgs false

theorem perr_any (k : Int) (w : World) (hd : Door w) : Calls Tryz.prog 10 #[errv k, .int .i64 k] w fun r w' => r = .returned (.bool true) ∧ Below w.heap.size w w' := by
  have h := same_error k k w hd
  rw [beq_self_eq_true] at h
  exact h
def PCode (p : List ByteArray) (k : Int) : Prop := (k = 0 ∧ GoodP p) ∨ (k ≠ 0 ∧ BadP p k)
def XCode (p : List ByteArray) (a : ByteArray) (k : Int) : Prop := (k = 0 ∧ GoodP p ∧ GoodQ a) ∨ (k ≠ 0 ∧ WrongX p a k)
def BCode (p q : List ByteArray) (k : Int) : Prop := (k = 0 ∧ GoodP p ∧ GoodP q) ∨ (k ≠ 0 ∧ WrongP p q k)
theorem PCode.det {p : List ByteArray} {k l : Int} (h : PCode p k) (h' : PCode p l) : k = l := by
  rcases h with ⟨rfl, h⟩ | ⟨_, h⟩ <;> rcases h' with ⟨rfl, h'⟩ | ⟨_, h'⟩
  · rfl
  · exact absurd h h'.not
  · exact absurd h' h.not
  · exact h.det h'
theorem PEvals.det {p : List ByteArray} {x s t : ByteArray} {k l : Int} (h : PEvals p x s k) (h' : PEvals p x t l) : k = l ∧ s = t := by
  rcases h with ⟨rfl, h1, h2, rfl⟩ | ⟨_, h1, rfl⟩ <;> rcases h' with ⟨rfl, h1', h2', rfl⟩ | ⟨_, h1', rfl⟩
  · exact ⟨rfl, rfl⟩
  · exact absurd ⟨h1, h2⟩ h1'.not
  · exact absurd ⟨h1', h2'⟩ h1.not
  · exact ⟨h1.det h1', rfl⟩
/-- What the reference tells of a division. -/
def RDivs (p q ks rs : List ByteArray) (k : Int) : Prop :=
  (k = 0 ∧ GoodP p ∧ GoodP q ∧ rdp q ≠ [] ∧ ∃ y r, Trm y ∧ Trm r ∧ r.length < (rdp q).length ∧ (∀ x, pv (rdp p) x = pv y x * pv (rdp q) x + pv r x) ∧ ks = y.map qtxt ∧ rs = r.map qtxt) ∨
  (k = 5 ∧ GoodP p ∧ GoodP q ∧ rdp q = [] ∧ ks = [] ∧ rs = []) ∨ (k ≠ 0 ∧ WrongP p q k ∧ ks = [] ∧ rs = [])
theorem RDivs.det {p q ks rs ks' rs' : List ByteArray} {k l : Int} (h : RDivs p q ks rs k) (h' : PDivs p q ks' rs' l) : k = l ∧ ks = ks' ∧ rs = rs' := by
  rcases h with ⟨rfl, h1, h2, h3, y, r, ty, tr, hl, hx, rfl, rfl⟩ | ⟨rfl, h1, h2, h3, rfl, rfl⟩ | ⟨_, h1, rfl, rfl⟩ <;> rcases h' with ⟨rfl, h1', h2', h3', y', r', ty', tr', hl', _, hx', rfl, rfl⟩ | ⟨rfl, h1', h2', h3', rfl, rfl⟩ | ⟨_, h1', rfl, rfl⟩
  · obtain ⟨rfl, rfl⟩ := div_unique h2.2.2 h3 ty tr ty' tr' hl hl' (fun x => (hx x).symm.trans (hx' x))
    exact ⟨rfl, rfl, rfl⟩
  · exact absurd h3' h3
  · exact absurd ⟨h1, h2⟩ h1'.not
  · exact absurd h3 h3'
  · exact ⟨rfl, rfl, rfl⟩
  · exact absurd ⟨h1, h2⟩ h1'.not
  · exact absurd ⟨h1', h2'⟩ h1.not
  · exact absurd ⟨h1', h2'⟩ h1.not
  · exact ⟨h1.det h1', rfl, rfl⟩
theorem ppolyof {w : World} {v : Value} {ss : List ByteArray} (h : TxsW w v ss) (hs : Szs ss) :
    Calls Tryz.prog 5 #[v] w fun e w' => ∃ v' k, e = .returned (.tuple #[v', .int .i64 k]) ∧ PCode ss k ∧ (k = 0 → PF w' v' (rdp ss)) ∧ Below w.heap.size w w' := by
  refine (rpolyof h hs).mono ?_
  rintro e w' ⟨v', k, rfl, (⟨h1, h2, h3⟩ | ⟨h1, h2⟩), hb⟩
  · exact ⟨v', k, rfl, .inl ⟨h1, h2⟩, fun _ => h3, hb⟩
  · exact ⟨v', k, rfl, .inr ⟨h1, h2⟩, fun e => absurd e h1, hb⟩
theorem PCode.good {p : List ByteArray} {k : Int} (h : PCode p k) (h0 : k = 0) : GoodP p := by
  rcases h with ⟨_, h⟩ | ⟨h, _⟩
  · exact h
  · exact absurd h0 h
theorem XCode.good {p : List ByteArray} {a : ByteArray} {k : Int} (h : XCode p a k) (h0 : k = 0) : GoodP p ∧ GoodQ a := by
  rcases h with ⟨_, h⟩ | ⟨h, _⟩
  · exact h
  · exact absurd h0 h
theorem BCode.good {p q : List ByteArray} {k : Int} (h : BCode p q k) (h0 : k = 0) : GoodP p ∧ GoodP q := by
  rcases h with ⟨_, h⟩ | ⟨h, _⟩
  · exact h
  · exact absurd h0 h
end Go.Proofs.YtdifiimaifmcpaaGreatDoor
