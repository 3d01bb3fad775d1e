import Derived.Test.YtokojbgpboccnaaBunProofSturmOwn4
import Derived.Deep.LoopGhost
namespace Go.Proofs.Ytokojbgpboccnaa
open Go.RowKit
open Num
set_option linter.unusedVariables false
set_option maxRecDepth 100000
set_option linter.unusedSimpArgs false

theorem own_away {w w' : World} {K b n : Nat} {v : Value} {e : TypeId} {l : List Value} (h : w.ownsRow K e 1 v n l) (hg : w.grownBy w' (some b)) (hb : b < K) : w'.ownsRow K e 1 v n l := by
  refine h.kept hg ?_
  cases hv : v.ownBlock with
  | none => exact .inl rfl
  | some k =>
    right
    have := (h.lt k hv).1
    intro e
    have := Option.some.inj e
    omega

theorem shrink_nine (b n c : Nat) (xs : List Nat) (w : World) (hR : Row w b c xs) (hN : xs.length = n) (hf : Fits xs) (hnc : n ≤ c) (hmax : c ≤ maxLen) (hn : n ≤ 1099511627776) :
    Calls Try.prog 65 #[.slice (some ⟨b, 0, none⟩) n c, .int .u32 1000000000] w fun e w' => ∃ (r : Nat) (zs : List Nat), e = .returned (.int .u32 r) ∧ r < 1000000000 ∧ Row w' b c zs ∧ Fits zs ∧ zs.length = n ∧ val zs * 1000000000 + r = val xs ∧ w.grownBy w' (some b) :=
  shrink_own 0 b n c 1000000000 xs w hR hN hf hnc hmax hn (by omega) (by omega)

/-- A step of the digits. -/
theorem digit_step {fs : List Nat} {ch : Nat} : rval (fs ++ [ch % 10]) + ch / 10 * 10 ^ (fs ++ [ch % 10]).length = rval fs + ch * 10 ^ fs.length := by
  rw [rval_snoc, List.length_append, List.length_singleton, Nat.pow_succ]
  have h := Nat.div_add_mod ch 10
  have e : ch * 10 ^ fs.length = (10 * (ch / 10) + ch % 10) * 10 ^ fs.length := by rw [h]
  rw [e, Nat.add_mul, Nat.mul_comm (10 ^ fs.length) (ch % 10), Nat.mul_comm (10 ^ fs.length) 10, ← Nat.mul_assoc, Nat.mul_comm (ch / 10) 10]
  omega

set_option maxHeartbeats 2000000 in
set_option maxRecDepth 100000 in
theorem string_pos {w : World} {v : Value} {xs : List Nat} (h : Lim w v xs) (hz : 0 < val xs) (hn : xs.length ≤ 68719476736) :
    Calls Try.prog 47 #[v] w fun e w' => e = .returned (.string (txt (val xs))) ∧ Below w.heap.size w w' := by
  obtain ⟨i1, hi, hz0, hz1, hz2⟩ := info_parts infoU8
  have h0 : trimL xs ≠ [] := by
    intro e
    have := val_trimL xs
    rw [e, val_nil] at this
    omega
  have hlen : (trimL xs).length ≤ 68719476736 := by rw [length_trimL]; exact Nat.le_trans (tlen_le xs) hn
  have HT := hid (trim_lim h)
  have hvt := val_trimL xs
  have htr := trim_trimL xs
  have hft := fits_trimL h.1
  generalize trimL xs = ys at *
  generalize val xs = N at *
  have HVT := hid hvt
  have HTR := hid htr
  clear h hn hvt htr
  go_enter Try.func47, Try.ntmps47
  go_wp2_with fail
  refine HT.out.mono ?_
  rintro e w' ⟨v1, rfl, hL1, rfl⟩
  have HC := hid (clone_lim hL1 (by omega))
  clear hL1 HT
  go_wp2_with fail
  refine HC.out.mono ?_
  rintro e w2 ⟨v2, rfl, hL2, hO2, hb2⟩
  obtain ⟨_, b, c, rfl, hK, hR, hnc, hmax⟩ := hO2 h0
  clear hL2 hO2 HC
  obtain ⟨n, hN⟩ : ∃ n, ys.length = n := ⟨_, rfl⟩
  have hn0 : 0 < n := by rw [← hN]; exact List.length_pos_iff.2 h0
  rw [hN] at hnc hlen ⊢
  have HN := hid hN
  have HR := hid hR
  have hbK : b < w2.heap.size := hR.lt
  have hne : ((n : Int) == 0) = false := by rw [beq_eq_false_iff_ne]; omega
  unfold maxLen at hmax
  clear hN hR h0
  go_wp2_with fail
  go_loopg [3, 4] N (fun g rest dv wr => ∃ (m : Nat) (zs ds : List Nat), rest = .slice (some ⟨b, 0, none⟩) m c ∧ m ≤ n ∧ Hid (zs.length = m) ∧ Hid (Row wr b c zs) ∧ Fits zs ∧ Hid (Trim zs) ∧ Hid (val zs = g) ∧
      Hid (val zs * 10 ^ ds.length + rval ds = N) ∧ Hid (Low ds) ∧ Hid (wr.ownsRow w2.heap.size 5 1 dv ds.length ((D8 ds).map V8)) ∧ Hid (Below w.heap.size w wr) ∧ Hid (w2.heap.size ≤ wr.heap.size) ∧ Hid (ds.length ≤ 1000000000009))
  case atStart => exact ⟨n, ys, [], rfl, Nat.le_refl _, HN, HR, hft, HTR, HVT, hid (by rw [HVT.out]; simp [rval]), hid Low.nil, hid (World.ownsRow_nil _ _ _ _), hb2, hid (Nat.le_refl _), hid (by simp)⟩
  case round =>
    obtain ⟨m, zs, ds, rfl, hmn, hlz, hRz, hfz, htz, hvz, hI, hlow, hown, hbw, hsz, hcaps⟩ := hrel
    by_cases hm0 : 0 < m
    · have HDL : Hid (ds.length ≤ 1000000000000) := by
        show _ ≤ _
        have h1 := hI.out
        have h2 : val zs = 0 ∨ 1 ≤ val zs := by omega
        have h4 : 10 ^ ds.length ≤ N := by
          rcases h2 with h2 | h2
          · exfalso
            have h5 := (htz.out).zero_iff.1 h2
            have h6 := hlz.out
            rw [h5] at h6
            simp at h6
            omega
          · have := Nat.mul_le_mul_right (10 ^ ds.length) h2
            omega
        have h5 := digits_few (n := n) (by rw [← HVT.out, ← HN.out]; exact val_lt hft) h4
        omega
      have HS := hid (shrink_nine b m c zs wr hRz.out hlz.out hfz (by omega) (by unfold maxLen; omega) (by omega))
      go_wp2_with fail
      refine HS.out.mono ?_
      rintro e w3 ⟨r, qs, rfl, hr, hR3, hf3, hl3, hv3, hg3⟩
      have HR3 := hid hR3
      have HL3 := hid hl3
      have HV3 := hid hv3
      have HO3 := hid (own_away hown.out hg3 hbK)
      have HB3 := hid (hbw.out.grown hg3 (Nat.le_trans hb2.size hsz.out) (fun k hk => by simp at hk; omega))
      have HS3 := hid (Nat.le_trans hsz.out hg3.size)
      clear hR3 hl3 hv3 HS hg3
      go_wp2_with fail
      go_loopw [4, 5, 17] (fun dv cv i wr => ∃ (j ch : Nat) (fs : List Nat), j ≤ 9 ∧ i = .int .i64 j ∧ cv = .int .u32 ch ∧ ch < 1000000000 ∧ Hid (fs.length = ds.length + j) ∧ Hid (ch * 10 ^ j ≤ r) ∧
          Hid (rval fs + ch * 10 ^ fs.length = rval ds + r * 10 ^ ds.length) ∧ Hid (Low fs) ∧ Hid (wr.ownsRow w2.heap.size 5 1 dv fs.length ((D8 fs).map V8)) ∧ Hid (Row wr b c qs) ∧ Hid (Below w.heap.size w wr) ∧ Hid (w2.heap.size ≤ wr.heap.size)) (fun _ _ i _ => 9 - (intOf i).toNat)
      case atStart => exact ⟨0, r, ds, by omega, rfl, rfl, hr, hid rfl, hid (by simp), hid rfl, hlow, HO3, HR3, HB3, HS3⟩
      case round =>
        obtain ⟨j, ch, fs, hj, rfl, rfl, hch, hfl, hchr, hrv, hlf, hof, hrf, hbf, hsf⟩ := hrel
        by_cases hj9 : j < 9
        · have hcap : fs.length ≤ 1000000000009 := by have h3 := hfl.out; have := HDL.out; omega
          go_wp2_with (at_builtin; refine wpList_append_own _ rfl _ _ 97 rfl w2.heap.size 5 i1 (.int .u8 0) 1 1 Try.underlying97 hi hz0 hz1 hz2 rfl (by decide) _ _ _ rfl (hof.out.alloc _) ⟨wr.heap.size, 0, none⟩ 1 1 [.int .u8 (48 + (ch : Int) % 10)] ?c7 rfl ?c1 ?c2 ?c3 ?c4 ?c5 ?_)
          case c7 => rfl
          case c1 =>
            intro j u hj
            match j, hj with
            | 0, hj => simp at hj; subst hj; simp [Addr.add]
          case c2 => intro u hu; simp at hu; subst hu; rfl
          case c3 => unfold maxLen; omega
          case c4 => omega
          case c5 => have := hsf.out; simp; omega
          intro dv' w4 hown' hgrow _
          rw [D8_snoc'] at hown'
          have HO4 := hid hown'
          have hlt4 := hof.out.lt
          have HB4 := hid ((hbf.out.alloc (Nat.le_trans hb2.size hsf.out) _).grown hgrow (by have := hsf.out; have := hb2.size; simp; omega) (fun k hk => by have := (hlt4 k hk).1; have := hb2.size; omega))
          have HR4 := hid ((hrf.out.below (Below.alloc (Below.refl wr.heap.size wr) (Nat.le_refl _) _) hrf.out.lt).grown hgrow (fun e => by have := (hlt4 b e.symm).1; omega))
          have HS4 := hid (Nat.le_trans hsf.out (Nat.le_trans (by simp) hgrow.size))
          clear hown' hgrow hlt4
          go_wp2_with fail
          go_roundw
          case rel =>
            refine ⟨j + 1, ch / 10, fs ++ [ch % 10], by omega, by go_num, by go_num, by omega, hid (by rw [List.length_append, hfl.out]; rfl), ?_, ?_, hid (hlf.out.snoc (by omega)), ?_, HR4, HB4, HS4⟩
            · show _ ≤ _
              have h1 := hchr.out
              rw [Nat.pow_succ, Nat.mul_comm (10 ^ j) 10, ← Nat.mul_assoc]
              exact Nat.le_trans (Nat.mul_le_mul_right _ (by omega)) h1
            · show _ = _
              rw [digit_step]; exact hrv.out
            · have h1 := HO4.out
              rw [List.length_append]
              exact h1
          case measure => simp [intOf]; omega
        · obtain rfl : j = 9 := by omega
          have hlt := trim_any (some ⟨b, 0, none⟩) c qs wr hf3 (by rw [HL3.out]; omega) (by unfold maxLen; omega) (.inr ⟨b, 0, rfl, hrf.out.lt, fun i hi => by rw [Nat.zero_add]; exact hrf.out.cell hi⟩)
          rw [HL3.out] at hlt
          have HTT := hid hlt
          clear hlt
          go_wp2_with fail
          refine HTT.out.mono ?_
          rintro e w5 ⟨rfl, rfl⟩
          go_wp2_with fail
          go_roundg (val (trimL qs))
          case rel =>
            refine ⟨tlen qs, trimL qs, fs, rfl, by have := tlen_le qs; have := HL3.out; omega, hid (length_trimL _), hid (hrf.out.take _), fits_trimL hf3, hid (trim_trimL _), hid rfl, ?_, hlf, hof, hbf, hsf, hid (by have h3 := hfl.out; have := HDL.out; omega)⟩
            show _ = _
            have h1 := hchr.out
            have h2 := hrv.out
            have h3 := hI.out
            have h4 := hfl.out
            have h5 : ch = 0 := by
              have e9 : (10 : Nat) ^ 9 = 1000000000 := by decide
              rw [e9] at h1
              omega
            subst h5
            rw [val_trimL, ← h3, h4, Nat.pow_add, ← HV3.out]
            have e9 : (10 : Nat) ^ 9 = 1000000000 := by decide
            rw [e9, Nat.add_mul, Nat.mul_comm (10 ^ ds.length) 1000000000, ← Nat.mul_assoc]
            omega
          case measure =>
            rw [val_trimL]
            have h1 := HV3.out
            have h2 := hvz.out
            have h3 : 0 < val zs := by
              apply Nat.pos_of_ne_zero
              intro e
              have h5 := (htz.out).zero_iff.1 e
              have h6 := hlz.out
              rw [h5] at h6
              simp at h6
              omega
            omega
    · obtain rfl : m = 0 := by omega
      have hzs : zs = [] := List.length_eq_zero_iff.1 hlz.out
      have hrN : rval ds = N := by
        have h1 := hI.out
        rw [hzs, val_nil] at h1
        omega
      have hds : 0 < ds.length := by
        apply Nat.pos_of_ne_zero
        intro e
        rw [List.length_eq_zero_iff] at e
        rw [e] at hrN
        simp [rval] at hrN
        omega
      obtain ⟨g, cap, rfl, hKg, hRg, hlc, hcm⟩ := RowK.ofOwnsK (kd := .u8) hown.out hds
      rw [length_D8] at hlc ⊢
      have HRN := hid hrN
      have HRG := hid hRg
      obtain ⟨L, hL⟩ : ∃ L, ds.length = L := ⟨_, rfl⟩
      have hcap : ds.length ≤ 1099511627776 := by
        have h5 := hcaps.out
        omega
      rw [hL] at hlc hcap hds ⊢
      have HL := hid hL
      unfold maxLen at hcm
      clear hzs hrN hRg hL hmn hRz hfz htz hown
      go_wp2_with fail
      go_loop [4] (fun dv => ∃ k : Nat, k ≤ L ∧ dv = .slice (some ⟨g, 0, none⟩) k cap ∧ Hid (rval (ds.take k) = N)) (fun dv => lenSl dv)
      case atStart => exact ⟨L, Nat.le_refl _, rfl, hid (by rw [List.take_of_length_le (by rw [HL.out]; exact Nat.le_refl _)]; exact HRN.out)⟩
      case round =>
        obtain ⟨k, hk, rfl, hrv⟩ := hrel
        match k, hk, hrv with
        | 0, hk, hrv =>
          exfalso
          have := hrv.out
          simp [rval] at this
          omega
        | k + 1, hk, hrv =>
          have hlenk : (D8 ds).length = L := by rw [length_D8, HL.out]
          have cg := HRG.out.cell (i := k) (by omega)
          rw [dg_D8 (by rw [HL.out]; omega)] at cg
          have hl9 := hlow.out k
          have hstep := rval_take_succ ds k (by rw [HL.out]; omega)
          by_cases hd0 : dg ds k = 0
          · rw [hd0] at cg
            have HD0 := hid hd0
            have HST := hid hstep
            clear hd0 hl9 hstep hlenk
            go_wp2_with fail
            go_round
            case rel =>
              refine ⟨k, by omega, by go_num, ?_⟩
              show _ = _
              have h1 := HST.out
              rw [HD0.out, hrv.out] at h1
              omega
            case measure => simp [lenSl]
          · have hne48 : ((48 + dg ds k : Nat) : Int) = 48 + (dg ds k : Int) := by omega
            rw [hne48] at cg
            have hlt : (ds.take (k + 1)).length = k + 1 := by rw [List.length_take, HL.out]; omega
            have htop : dg (ds.take (k + 1)) (k + 1 - 1) ≠ 0 := by rw [Nat.add_sub_cancel, dg_take (by omega)]; exact hd0
            have hRV := reverse_row g (k + 1) cap (D8 (ds.take (k + 1))) wr (by rw [← D8_take]; exact HRG.out.take _) (by rw [length_D8, hlt]) (by omega) (by omega)
            have HRV := hid hRV
            have htx : rtext (ds.take (k + 1)) = dtext N := by
              rw [← hrv.out]
              exact rtext_eq (hlow.out.take _) (by rw [hlt]; omega) (by rw [hlt]; exact htop)
            have HTX := hid htx
            have HLT := hid hlt
            clear hRV htx hstep hlenk hne48 hlt htop
            go_wp2_with fail
            refine HRV.out.mono ?_
            rintro e w6 ⟨rfl, hR6, hg6⟩
            have hcv := D8_back hR6 HLT.out (hlow.out.take _)
            rw [HTX.out] at hcv
            have HB6 := hid (hbw.out.grown hg6 (Nat.le_trans hb2.size hsz.out) (fun q hq => by simp at hq; have := hb2.size; omega))
            clear hg6 hR6
            go_wp2_with fail
            go_ret
            exact ⟨rfl, HB6.out⟩

end Go.Proofs.Ytokojbgpboccnaa

namespace Go.Proofs.Ytokojbgpboccnaa
open Go.RowKit
open Num
set_option linter.unusedVariables false
set_option maxRecDepth 100000
set_option linter.unusedSimpArgs false

/-- A natural that may be handed in. -/
def Good (s : ByteArray) : Prop := s.size ≤ 100 ∧ isNat s.data.toList = true
/-- What is wrong with a text. -/
def Bad (s : ByteArray) (k : Int) : Prop := (100 < s.size ∧ k = 4) ∨ (s.size ≤ 100 ∧ isNat s.data.toList = false ∧ k = 1)
/-- The number of a text. -/
def num (s : ByteArray) : Nat := dval s.data.toList
theorem size_txt (n : Nat) : (txt n).size = (dtext n).length := by
  show (txt n).data.toList.length = _
  rw [txt_list]
theorem size_txt_le {n k : Nat} (h : n < 10 ^ k) (hk : 0 < k) : (txt n).size ≤ k := by rw [size_txt]; exact length_dtext_le h hk
/-- A block of one cell. -/
def One (w : World) (g : Nat) (v : Value) (t : TypeId) : Prop := w.heap[g]? = some (.cells #[v] t (0, 0))

/-- The error of two texts. -/
def Wrong (a b : ByteArray) (k : Int) : Prop := Bad a k ∨ (Good a ∧ Bad b k)
theorem string_lim {w : World} {v : Value} {xs : List Nat} (h : Lim w v xs) (hn : xs.length ≤ 68719476736) :
    Calls Try.prog 47 #[v] w fun e w' => e = .returned (.string (txt (val xs))) ∧ Below w.heap.size w w' := by
  by_cases hz : val xs = 0
  · rw [hz]; exact string_zero h hz (by omega)
  · exact string_pos h (by omega) hn

theorem One.cell {w : World} {g : Nat} {v : Value} {t : TypeId} (h : One w g v t) : w.cell? ⟨g, 0, none⟩ = some v := cell_of_one h
theorem One.free {w : World} {g : Nat} {v : Value} {t : TypeId} (h : One w g v t) : w.frozen? ⟨g, 0, none⟩ = false := free_of_one h
theorem One.lt {w : World} {g : Nat} {v : Value} {t : TypeId} (h : One w g v t) : g < w.heap.size := lt_of_block h
theorem One.set {w : World} {g : Nat} {v : Value} {t : TypeId} (h : One w g v t) (u : Value) : One (w.setCell ⟨g, 0, none⟩ u) g u t := one_setCell h
theorem One.below {w w' : World} {g K : Nat} {v : Value} {t : TypeId} (h : One w g v t) (hb : Below K w w') (hK : g < K) : One w' g v t := (hb.block g hK).trans h
theorem One.new (w : World) (v : Value) (t : TypeId) : One (w.alloc (.cells #[v] t)) w.heap.size v t := by
  show (w.heap.push _)[w.heap.size]? = _
  simp

theorem few_limbs {xs : List Nat} (hf : Fits xs) {k : Nat} (hl : xs.length ≤ k) : val xs < B ^ k :=
  Nat.lt_of_lt_of_le (val_lt hf) (Nat.pow_le_pow_right B_pos hl)

end Go.Proofs.Ytokojbgpboccnaa

namespace Go.Proofs.Ytokojbgpboccnaa
open Go.RowKit
open Num
set_option linter.unusedVariables false
set_option maxRecDepth 100000
set_option linter.unusedSimpArgs false
end Go.Proofs.Ytokojbgpboccnaa
