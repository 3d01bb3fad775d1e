import Derived.Test.YtkenlaikhnoldaaBunProofPgcdYun13
import Derived.Test.YtkenlaikhnoldaaBunProofPgcdYun1
import Derived.Test.YtkenlaikhnoldaaBunProofPgcdYun4
import Derived.Test.YtkenlaikhnoldaaBunProofPgcdYun10
import Derived.WideShapes
/-
  PACKAGE pgcd: remainder.
-/
namespace Go.Proofs.Ytkenlaikhnoldaa
open Go.RowKit
open Num
set_option linter.unusedVariables false
set_option maxRecDepth 100000
set_option linter.unusedSimpArgs false

theorem Zm.neg {z : Int} {m : Nat} (h : Zm z m) : Zm (-z) m := by unfold Zm; rw [Int.natAbs_neg]; exact h
theorem Zm.zero {m : Nat} : Zm 0 m := by unfold Zm; exact Nat.pow_pos (by decide)
/-- So far: times a number. -/
def tmi (R : Nat → Int) (l : Int) (i t : Nat) : Int := if t < i then R t * l else R t
theorem tmi_self (R : Nat → Int) (l : Int) (i : Nat) : tmi R l i i = R i := if_neg (by omega)
theorem tmi_next (R : Nat → Int) (l : Int) (i : Nat) : tmi R l (i + 1) i = R i * l := if_pos (by omega)
theorem tmi_ne (R : Nat → Int) (l : Int) {i t : Nat} (h : t ≠ i) : tmi R l (i + 1) t = tmi R l i t := by
  unfold tmi
  by_cases h1 : t < i
  · rw [if_pos h1, if_pos (by omega)]
  · rw [if_neg h1, if_neg (by omega)]
/-- So far: and so much of the other one taken off. -/
def ofi (R : Nat → Int) (l f : Int) (q : Nat → Int) (s i t : Nat) : Int := if s ≤ t ∧ t < s + i then R t * l - f * q (t - s) else R t * l
theorem ofi_start (R : Nat → Int) (l f : Int) (q : Nat → Int) (s t : Nat) : ofi R l f q s 0 t = R t * l := if_neg (by omega)
theorem ofi_self (R : Nat → Int) (l f : Int) (q : Nat → Int) (s i : Nat) : ofi R l f q s i (s + i) = R (s + i) * l := if_neg (by omega)
theorem ofi_next (R : Nat → Int) (l f : Int) (q : Nat → Int) (s i : Nat) : ofi R l f q s (i + 1) (s + i) = R (s + i) * l - f * q i := by
  unfold ofi
  rw [if_pos (by omega), Nat.add_sub_cancel_left]
theorem ofi_ne (R : Nat → Int) (l f : Int) (q : Nat → Int) {s i t : Nat} (h : t ≠ s + i) : ofi R l f q s (i + 1) t = ofi R l f q s i t := by
  unfold ofi
  by_cases h1 : s ≤ t ∧ t < s + i
  · rw [if_pos h1, if_pos (by omega)]
  · rw [if_neg h1, if_neg (by omega)]
/-- A step, done. -/
theorem ofi_all (R : Nat → Int) (l f : Int) (q : Nat → Int) {s n : Nat} (hq : ∀ i, n ≤ i → q i = 0) (t : Nat) : ofi R l f q s n t = scmb l R (-f) (ssh s q) t := by
  unfold ofi
  simp only [scmb, ssh]
  by_cases h : s ≤ t ∧ t < s + n
  · rw [if_pos h, if_neg (by omega)]; grind
  · rw [if_neg h]
    by_cases h2 : t < s
    · rw [if_pos h2]; grind
    · rw [if_neg h2, hq (t - s) (by omega)]; grind

set_option maxHeartbeats 8000000 in
/-- What is left, without fractions. -/
theorem zrem_p {w : World} {v u : Value} {lp lq : List Int} {m n d : Nat} (h : IN w v lp) (h' : IN w u lq) (hs : Zl lp m) (hs' : Zl lq n) (hdl : lq.length = d + 1) (hle : lq.length ≤ lp.length) (hl : lp.length ≤ 1000000) (hlim : m + (lp.length - lq.length + 1) * (n + 1) + n + 2 ≤ 68719476736) :
    Calls Try.prog 50 #[v, u] w fun e w' => ∃ v' r, e = .returned v' ∧ IN w' v' r ∧ Ztr r ∧ r.length ≤ d ∧ SRed (zc lq) (zc lq d) (lp.length - lq.length) (lp.length - lq.length + 1) (zc lp) (zc r) ∧ Zl r (m + (lp.length - lq.length + 1) * (n + 1)) ∧ Below w.heap.size w w' := by
  have HC := hid (zclone h (by rintro rfl; rw [hdl] at hle; simp at hle) hl)
  obtain ⟨ap, cp, rfl, hn1, hc1⟩ := h.opened
  obtain ⟨aq, cq, rfl, hnq, hcq⟩ := h'.opened
  have HQ := hid h'
  have SLP := hid hs
  have SLQ := hid hs'
  have HDL := hid hdl
  obtain ⟨np, hNP⟩ : ∃ np, lp.length = np := ⟨_, rfl⟩
  have NP := hid hNP
  rw [hNP, hdl] at hle
  rw [hNP, hdl] at hlim
  rw [hNP] at HC hl hn1
  rw [hdl] at hnq HQ
  rw [hNP, hdl]
  have HLIM := hid hlim
  unfold maxLen at hc1 hcq
  have hd0 : (0 : Int) ≤ (d : Int) := by omega
  have hd1 : (d : Int) < (d : Int) + 1 := by omega
  clear h h' hs hs' hlim hdl hNP
  go_enter Try.func50, Try.ntmps50
  go_wp2_with fail
  refine HC.out.mono ?_
  rintro e w1 ⟨b0, c1, rs, rfl, hb0, hrow, hcn, hcm, hw, hb⟩
  have B := hid hb
  have HB := hid hb0
  have ROW := hid hrow
  have HW := hid hw
  unfold maxLen at hcm
  obtain ⟨bq, s6, p6, n6, c6, rfl, hbq, cdq, hqd⟩ := in_at HQ.out B.out (i := d) (by rw [HDL.out]; omega)
  have HLD := hid hqd
  clear hb hb0 hrow hw hqd hbq HC
  have LB := hid ROW.out.lt
  obtain ⟨hb21, hx22, hs23⟩ := Box.made w1 s6 p6 n6 c6
  replace HLD := zf HLD hb21
  replace ROW := rwi ROW hb21
  replace HW := hid (fun q_ hq_ => (HW.out q_ hq_).on hb21)
  replace B := bb B hb21
  have X6 := hid hx22
  clear hb21 hx22
  have cc24 := X6.out.both
  go_wp2_with fail
  generalize hW : w1.alloc (.cells #[.bool s6, .slice p6 n6 c6] 50) = W25 at *
  clear hW
  obtain ⟨g6, hg6⟩ : ∃ g6, g6 = w1.heap.size := ⟨_, rfl⟩
  rw [← hg6] at X6 LB ⊢
  have L06 := LB
  clear hg6 LB cdq cc24
  go_loopw [5] (fun x wr => ∃ (k e : Nat) (rs : Nat → Zr) (R : SVec), d ≤ k ∧ e + k = np ∧ x = .slice (some ⟨b0, 0, none⟩) k c1 ∧ Hid (SRed (zc lq) (zc lq d) (np - (d + 1)) e (zc lp) R) ∧ Hid (∀ t, k ≤ t → R t = 0) ∧ Hid (∀ t, Zm (R t) (m + e * (n + 1))) ∧ Hid (IRw wr b0 np rs) ∧ Hid (∀ t, t < k → ZF wr (iag (rs t)) (R t)) ∧ Hid (Box wr g6 s6 (.slice p6 n6 c6)) ∧ Hid (ZF wr (.agg #[.bool s6, .slice p6 n6 c6]) (zc lq d)) ∧ Hid (Below w.heap.size w wr)) (fun x _ => sln x)
  case atStart => exact ⟨np, 0, rs, zc lp, by omega, by omega, rfl, hid (.nil _), hid (fun t ht => zc_ge (by rw [NP.out]; exact ht)), hid (fun t => by rw [Nat.zero_mul]; exact SLP.out t), ROW, HW, X6, HLD, B⟩
  case round =>
    clear ROW HW X6 HLD B
    obtain ⟨k, e, rs, R, hdk, hek, rfl, HR, HR0, HS, ROW, HW, X6, HLD, B⟩ := hrel
    by_cases hlt : d < k
    · obtain ⟨sf, rfl⟩ : ∃ sf, k = sf + d + 1 := ⟨k - d - 1, by omega⟩
      have hee : e * (n + 1) ≤ (np - (d + 1)) * (n + 1) := Nat.mul_le_mul_right _ (by omega)
      have hew : (np - (d + 1) + 1) * (n + 1) = (np - (d + 1)) * (n + 1) + (n + 1) := Nat.succ_mul _ _
      have HLE := hid (show m + e * (n + 1) + (n + 1) + n + 2 ≤ 68719476736 by have := HLIM.out; omega)
      have hge : (d : Int) ≤ (sf : Int) + (d : Int) := by omega
      obtain ⟨s7, p7, n7, c7, hz7⟩ : ∃ s7 p7 n7 c7, rs (sf + d) = (s7, p7, n7, c7) := ⟨_, _, _, _, rfl⟩
      have hq7 := HW.out (sf + d) (by omega)
      rw [hz7] at hq7
      dsimp only [iag] at hq7
      have HT := hid hq7
      clear hq7 hee hew
      have L66 := hid X6.out.lt
      have cr := ROW.out.cells (show sf + d < np by omega)
      rw [hz7] at cr
      obtain ⟨hb101, hx102, hs103⟩ := Box.made wr s7 p7 n7 c7
      have L3 := hid X6.out.lt
      replace X6 := bx X6 hb101
      replace HLD := zf HLD hb101
      replace HT := zf HT hb101
      replace ROW := rwi ROW hb101
      replace HW := hid (fun q_ hq_ => (HW.out q_ hq_).on hb101)
      replace B := bb B hb101
      have X7 := hid hx102
      clear hb101 hx102
      have cc104 := X6.out.both
      have cc105 := X7.out.both
      go_wp2_with fail
      generalize hW : wr.alloc (.cells #[.bool s7, .slice p7 n7 c7] 50) = W106 at *
      clear hW
      obtain ⟨g7, hg7⟩ : ∃ g7, g7 = wr.heap.size := ⟨_, rfl⟩
      rw [← hg7] at X7 L66 ⊢
      have L67 := L66
      clear hg7 L66 cr cc104 cc105
      go_loopw [34] (fun x wr => ∃ (i : Nat) (rs : Nat → Zr), i ≤ sf + d + 1 ∧ x = .int .i64 i ∧ Hid (IRw wr b0 np rs) ∧ Hid (∀ t, t < sf + d + 1 → ZF wr (iag (rs t)) (tmi R (zc lq d) i t)) ∧ Hid (Box wr g6 s6 (.slice p6 n6 c6)) ∧ Hid (ZF wr (.agg #[.bool s6, .slice p6 n6 c6]) (zc lq d)) ∧ Hid (Box wr g7 s7 (.slice p7 n7 c7)) ∧ Hid (ZF wr (.agg #[.bool s7, .slice p7 n7 c7]) (R (sf + d))) ∧ Hid (Below w.heap.size w wr)) (fun x _ => sf + d + 1 - (intOf x).toNat)
      case atStart => exact ⟨0, rs, by omega, rfl, ROW, hid (fun t ht => (HW.out t ht).cast (if_neg (by omega)).symm), X6, HLD, X7, HT, B⟩
      case round =>
        clear ROW HW X6 HLD X7 HT B
        obtain ⟨i, rs, hi, rfl, ROW, HW, X6, HLD, X7, HT, B⟩ := hrel
        by_cases hlti : i < sf + d + 1
        · obtain ⟨s8, p8, n8, c8, hz8⟩ : ∃ s8 p8 n8 c8, rs i = (s8, p8, n8, c8) := ⟨_, _, _, _, rfl⟩
          have hq8 := HW.out i hlti
          rw [hz8, tmi_self] at hq8
          dsimp only [iag] at hq8
          have HC := hid hq8
          clear hq8
          have L77 := hid X7.out.lt
          have cr := ROW.out.cells (show i < np by omega)
          rw [hz8] at cr
          obtain ⟨hb201, hx202, hs203⟩ := Box.made wr s8 p8 n8 c8
          have L4 := hid X7.out.lt
          replace X6 := bx X6 hb201
          replace X7 := bx X7 hb201
          replace HLD := zf HLD hb201
          replace HT := zf HT hb201
          replace HC := zf HC hb201
          replace ROW := rwi ROW hb201
          replace HW := hid (fun q_ hq_ => (HW.out q_ hq_).on hb201)
          replace B := bb B hb201
          have X9 := hid hx202
          clear hb201 hx202
          have cc204 := X6.out.both
          have cc205 := X7.out.both
          have cc206 := X9.out.both
          go_wp2_with fail
          refine (zmul_f HC.out HLD.out (HS.out i) (SLQ.out d) (by have := HLE.out; omega) (by have := HLE.out; omega)).mono ?_
          rintro e w207 ⟨v, rfl, hv, hb⟩
          obtain ⟨s9, p9, n9, c9, rfl⟩ := hv.opened
          replace X6 := bx X6 hb
          replace X7 := bx X7 hb
          replace X9 := bx X9 hb
          replace HLD := zf HLD hb
          replace HT := zf HT hb
          replace HC := zf HC hb
          replace ROW := rwi ROW hb
          replace HW := hid (fun q_ hq_ => (HW.out q_ hq_).on hb)
          replace B := bb B hb
          clear cc204 cc205 cc206
          have HX := hid hv
          clear hb hv cr
          have cc208 := ROW.out.stores (show i < np by omega)
          replace X6 := hid (X6.out.kept (ROW.out.far i (by have := HB.out; have := L06.out; have := L67.out; have := L77.out; have := L4.out; omega) s9 p9 n9 c9))
          replace X7 := hid (X7.out.kept (ROW.out.far i (by have := HB.out; have := L06.out; have := L67.out; have := L77.out; have := L4.out; omega) s9 p9 n9 c9))
          replace X9 := hid (X9.out.kept (ROW.out.far i (by have := HB.out; have := L06.out; have := L67.out; have := L77.out; have := L4.out; omega) s9 p9 n9 c9))
          replace HLD := hid (HLD.out.iput ROW.out i s9 p9 n9 c9)
          replace HT := hid (HT.out.iput ROW.out i s9 p9 n9 c9)
          replace HC := hid (HC.out.iput ROW.out i s9 p9 n9 c9)
          replace HX := hid (HX.out.iput ROW.out i s9 p9 n9 c9)
          replace HW := hid (fun q_ hq_ => (HW.out q_ hq_).iput ROW.out i s9 p9 n9 c9)
          replace B := hid (ROW.out.below B.out i (by have := HB.out; have := L06.out; have := L67.out; have := L77.out; have := L4.out; omega) s9 p9 n9 c9)
          replace ROW := hid (ROW.out.put (show i < np by omega) s9 p9 n9 c9)
          go_wp2_with fail
          go_roundw
          case rel => exact ⟨i + 1, _, by omega, by go_num, ROW, hid (fun t ht => by
              by_cases e : t = i
              · subst e; rw [upi_self, tmi_next]; exact HX.out
              · rw [upi_ne _ _ e, tmi_ne _ _ e]; exact HW.out t ht), X6, HLD, X7, HT, B⟩
          case measure => simp [intOf]; omega
        · have hie : i = sf + d + 1 := by omega
          replace HW : Hid (∀ t, t < sf + d + 1 → ZF wr (iag (rs t)) (ofi R (zc lq d) (R (sf + d)) (zc lq) sf 0 t)) := hid (fun t ht => (HW.out t ht).cast (by rw [ofi_start, tmi, if_pos (by omega)]))
          have W0 : ∃ rs : Nat → Zr, Hid (IRw wr b0 np rs) ∧ Hid (∀ t, t < sf + d + 1 → ZF wr (iag (rs t)) (ofi R (zc lq d) (R (sf + d)) (zc lq) sf 0 t)) := ⟨_, ROW, HW⟩
          clear ROW HW hie
          obtain ⟨rs1, ROW, HW⟩ := W0
          have hsf : IntKind.i64.wrap ((sf : Int) + d + 1 - ((d : Int) + 1)) = (sf : Int) := by rw [show (sf : Int) + d + 1 - ((d : Int) + 1) = sf by omega]; exact IntWalk.i64_in _ (by omega)
          go_wp2_with fail
          go_loopw [53] (fun x wr => ∃ (i : Nat) (rs : Nat → Zr), i ≤ d + 1 ∧ x = .int .i64 i ∧ Hid (IRw wr b0 np rs) ∧ Hid (∀ t, t < sf + d + 1 → ZF wr (iag (rs t)) (ofi R (zc lq d) (R (sf + d)) (zc lq) sf i t)) ∧ Hid (Box wr g6 s6 (.slice p6 n6 c6)) ∧ Hid (ZF wr (.agg #[.bool s6, .slice p6 n6 c6]) (zc lq d)) ∧ Hid (Box wr g7 s7 (.slice p7 n7 c7)) ∧ Hid (ZF wr (.agg #[.bool s7, .slice p7 n7 c7]) (R (sf + d))) ∧ Hid (Below w.heap.size w wr)) (fun x _ => d + 1 - (intOf x).toNat)
          case atStart => exact ⟨0, rs1, by omega, rfl, ROW, HW, X6, HLD, X7, HT, B⟩
          case round =>
            clear ROW HW X6 HLD X7 HT B
            obtain ⟨i, rs, hi2, rfl, ROW, HW, X6, HLD, X7, HT, B⟩ := hrel
            by_cases hltj : i < d + 1
            · have hkn : sf + i < np := by omega
              have hx1 : (0 : Int) ≤ (sf : Int) + (i : Int) := by omega
              have hx2 : (sf : Int) + (i : Int) < (sf : Int) + d + 1 := by omega
              have hx3 : ((sf : Int) + (i : Int)).toNat = sf + i := by omega
              have hx4 : IntKind.i64.wrap ((sf : Int) + (i : Int)) = (sf : Int) + (i : Int) := IntWalk.i64_in _ (by omega)
              obtain ⟨b5, s5, p5, n5, c5, e5, hb5, cd5, hq5⟩ := in_at HQ.out B.out (i := i) (by rw [HDL.out]; exact hltj)
              cases e5
              obtain ⟨s8, p8, n8, c8, hz8⟩ : ∃ s8 p8 n8 c8, rs (sf + i) = (s8, p8, n8, c8) := ⟨_, _, _, _, rfl⟩
              have hq8 := HW.out (sf + i) (by omega)
              rw [hz8, ofi_self] at hq8
              dsimp only [iag] at hq8
              have HC := hid hq5
              have HS2 := hid hq8
              clear hq5 hq8
              have L77 := hid X7.out.lt
              obtain ⟨hb401, hx402, hs403⟩ := Box.made wr s5 p5 n5 c5
              have L4 := hid X7.out.lt
              replace X6 := bx X6 hb401
              replace X7 := bx X7 hb401
              replace HLD := zf HLD hb401
              replace HT := zf HT hb401
              replace HC := zf HC hb401
              replace HS2 := zf HS2 hb401
              replace ROW := rwi ROW hb401
              replace HW := hid (fun q_ hq_ => (HW.out q_ hq_).on hb401)
              replace B := bb B hb401
              have X12 := hid hx402
              clear hb401 hx402
              have cc404 := X6.out.both
              have cc405 := X7.out.both
              have cc406 := X12.out.both
              have cr := ROW.out.cells hkn
              rw [hz8] at cr
              go_wp2_with fail
              generalize hW : wr.alloc (.cells #[.bool s5, .slice p5 n5 c5] 50) = W407 at *
              clear hW
              clear cr cd5 cc404 cc405 cc406
              refine region_ops (by kernel_rfl) (by kernel_rfl) (fun a f a' w' => ∃ u58 u59 u60 u61 u62 u63 u64 u65 u66 u67 u68 u69 u70 u71 u72 : Value, a' = { tmps := (((((((((((((((a.tmps.setIfInBounds 58 u58).setIfInBounds 59 u59).setIfInBounds 60 u60).setIfInBounds 61 u61).setIfInBounds 62 u62).setIfInBounds 63 u63).setIfInBounds 64 u64).setIfInBounds 65 u65).setIfInBounds 66 u66).setIfInBounds 67 u67).setIfInBounds 68 u68).setIfInBounds 69 u69).setIfInBounds 70 u70).setIfInBounds 71 u71).setIfInBounds 72 u72), defers := a.defers } ∧ Hid (Below W407.heap.size W407 w' ∨ f 15 = true) ∧ Hid (f 0 = true → u58 = .slice (some ⟨b0, 0, none⟩) (sf + d + 1) c1) ∧ Hid (f 1 = true → u59 = .int .i64 (sf : Int)) ∧ Hid (f 2 = true → u60 = .int .i64 (i : Int)) ∧ Hid (f 3 = true → u61 = .int .i64 ((sf : Int) + (i : Int))) ∧ Hid (f 4 = true → u62 = .slice (some ⟨b0, 0, none⟩) (sf + d + 1) c1) ∧ Hid (f 5 = true → u63 = .int .i64 (sf : Int)) ∧ Hid (f 6 = true → u64 = .int .i64 (i : Int)) ∧ Hid (f 7 = true → u65 = .int .i64 ((sf : Int) + (i : Int))) ∧ Hid (f 8 = true → u66 = .pointer (some ⟨b0, (sf + i) * 2, none⟩)) ∧ Hid (f 9 = true → u67 = (.agg #[.bool s8, .slice p8 n8 c8])) ∧ Hid (f 10 = true → u68 = (.agg #[.bool s7, .slice p7 n7 c7])) ∧ Hid (f 11 = true → u69 = (.agg #[.bool s5, .slice p5 n5 c5])) ∧ Hid (f 12 = true → (ZF w' u70 (R (sf + d) * zc lq i) ∨ f 15 = true)) ∧ Hid (f 13 = true → (ZF w' u71 (R (sf + i) * zc lq d - R (sf + d) * zc lq i) ∨ f 15 = true)) ∧ Hid (f 14 = true → u72 = .pointer (some ⟨b0, (sf + i) * 2, none⟩)) ∧ Hid (f 15 = true → ∃ w2 s4 p4 n4 c4, Below W407.heap.size W407 w2 ∧ ZF w2 (.agg #[.bool s4, .slice p4 n4 c4]) (R (sf + i) * zc lq d - R (sf + d) * zc lq i) ∧ w' = (w2.setCell ⟨b0, (sf + i) * 2, none⟩ (.bool s4)).setCell ⟨b0, (sf + i) * 2 + 1, none⟩ (.slice p4 n4 c4)) ∧ (f 15 = true → f 0 = true) ∧ (f 15 = true → f 1 = true) ∧ (f 15 = true → f 2 = true) ∧ (f 15 = true → f 3 = true) ∧ (f 15 = true → f 4 = true) ∧ (f 15 = true → f 5 = true) ∧ (f 15 = true → f 6 = true) ∧ (f 15 = true → f 7 = true) ∧ (f 15 = true → f 8 = true) ∧ (f 15 = true → f 9 = true) ∧ (f 15 = true → f 10 = true) ∧ (f 15 = true → f 11 = true) ∧ (f 15 = true → f 12 = true) ∧ (f 15 = true → f 13 = true) ∧ (f 15 = true → f 14 = true)) ?h0 ⟨?s0, ?s1, ?s2, ?s3, ?s4, ?s5, ?s6, ?s7, ?s8, ?s9, ?s10, ?s11, ?s12, ?s13, ?s14, ?s15, trivial⟩ ?hend
              case h0 =>
                simp only [List.setIfInBounds_toArray, List.set_cons_zero, List.set_cons_succ]
                exact ⟨_, _, _, _, _, _, _, _, _, _, _, _, _, _, _, rfl, hid (.inl (Below.drew (Below.refl _ _))), hid (fun h => by cases h), hid (fun h => by cases h), hid (fun h => by cases h), hid (fun h => by cases h), hid (fun h => by cases h), hid (fun h => by cases h), hid (fun h => by cases h), hid (fun h => by cases h), hid (fun h => by cases h), hid (fun h => by cases h), hid (fun h => by cases h), hid (fun h => by cases h), hid (fun h => by cases h), hid (fun h => by cases h), hid (fun h => by cases h), hid (fun h => by cases h), fun h => h, fun h => h, fun h => h, fun h => h, fun h => h, fun h => h, fun h => h, fun h => h, fun h => h, fun h => h, fun h => h, fun h => h, fun h => h, fun h => h, fun h => h⟩
              case s0 =>
                rintro f a1 w1 ⟨u58, u59, u60, u61, u62, u63, u64, u65, u66, u67, u68, u69, u70, u71, u72, rfl, HBW, h0, h1, h2, h3, h4, h5, h6, h7, h8, h9, h10, h11, h12, h13, h14, h15, o15_0, o15_1, o15_2, o15_3, o15_4, o15_5, o15_6, o15_7, o15_8, o15_9, o15_10, o15_11, o15_12, o15_13, o15_14⟩ hf hd K hK
                replace HBW := hid (HBW.out.resolve_right (fun e => absurd (o15_0 e) (by rw [hf]; decide)))
                simp only [List.setIfInBounds_toArray, List.set_cons_zero, List.set_cons_succ] at hK ⊢
                replace hK := hid hK
                go_simp
                exact hK.out _ _ ⟨_, _, _, _, _, _, _, _, _, _, _, _, _, _, _, rfl, hid (.inl (HBW).out), hid (fun h => rfl), hid (fun h => h1.out h), hid (fun h => h2.out h), hid (fun h => h3.out h), hid (fun h => h4.out h), hid (fun h => h5.out h), hid (fun h => h6.out h), hid (fun h => h7.out h), hid (fun h => h8.out h), hid (fun h => h9.out h), hid (fun h => h10.out h), hid (fun h => h11.out h), hid (fun h => h12.out h), hid (fun h => h13.out h), hid (fun h => h14.out h), hid (fun h => absurd (o15_0 h) (by rw [hf]; decide)), fun _ => rfl, fun h => o15_1 h, fun h => o15_2 h, fun h => o15_3 h, fun h => o15_4 h, fun h => o15_5 h, fun h => o15_6 h, fun h => o15_7 h, fun h => o15_8 h, fun h => o15_9 h, fun h => o15_10 h, fun h => o15_11 h, fun h => o15_12 h, fun h => o15_13 h, fun h => o15_14 h⟩
              case s1 =>
                rintro f a1 w1 ⟨u58, u59, u60, u61, u62, u63, u64, u65, u66, u67, u68, u69, u70, u71, u72, rfl, HBW, h0, h1, h2, h3, h4, h5, h6, h7, h8, h9, h10, h11, h12, h13, h14, h15, o15_0, o15_1, o15_2, o15_3, o15_4, o15_5, o15_6, o15_7, o15_8, o15_9, o15_10, o15_11, o15_12, o15_13, o15_14⟩ hf hd K hK
                replace HBW := hid (HBW.out.resolve_right (fun e => absurd (o15_1 e) (by rw [hf]; decide)))
                simp only [List.setIfInBounds_toArray, List.set_cons_zero, List.set_cons_succ] at hK ⊢
                replace hK := hid hK
                go_simp
                exact hK.out _ _ ⟨_, _, _, _, _, _, _, _, _, _, _, _, _, _, _, rfl, hid (.inl (HBW).out), hid (fun h => h0.out h), hid (fun h => rfl), hid (fun h => h2.out h), hid (fun h => h3.out h), hid (fun h => h4.out h), hid (fun h => h5.out h), hid (fun h => h6.out h), hid (fun h => h7.out h), hid (fun h => h8.out h), hid (fun h => h9.out h), hid (fun h => h10.out h), hid (fun h => h11.out h), hid (fun h => h12.out h), hid (fun h => h13.out h), hid (fun h => h14.out h), hid (fun h => absurd (o15_1 h) (by rw [hf]; decide)), fun h => o15_0 h, fun _ => rfl, fun h => o15_2 h, fun h => o15_3 h, fun h => o15_4 h, fun h => o15_5 h, fun h => o15_6 h, fun h => o15_7 h, fun h => o15_8 h, fun h => o15_9 h, fun h => o15_10 h, fun h => o15_11 h, fun h => o15_12 h, fun h => o15_13 h, fun h => o15_14 h⟩
              case s2 =>
                rintro f a1 w1 ⟨u58, u59, u60, u61, u62, u63, u64, u65, u66, u67, u68, u69, u70, u71, u72, rfl, HBW, h0, h1, h2, h3, h4, h5, h6, h7, h8, h9, h10, h11, h12, h13, h14, h15, o15_0, o15_1, o15_2, o15_3, o15_4, o15_5, o15_6, o15_7, o15_8, o15_9, o15_10, o15_11, o15_12, o15_13, o15_14⟩ hf hd K hK
                replace HBW := hid (HBW.out.resolve_right (fun e => absurd (o15_2 e) (by rw [hf]; decide)))
                simp only [List.setIfInBounds_toArray, List.set_cons_zero, List.set_cons_succ] at hK ⊢
                replace hK := hid hK
                go_simp
                exact hK.out _ _ ⟨_, _, _, _, _, _, _, _, _, _, _, _, _, _, _, rfl, hid (.inl (HBW).out), hid (fun h => h0.out h), hid (fun h => h1.out h), hid (fun h => rfl), hid (fun h => h3.out h), hid (fun h => h4.out h), hid (fun h => h5.out h), hid (fun h => h6.out h), hid (fun h => h7.out h), hid (fun h => h8.out h), hid (fun h => h9.out h), hid (fun h => h10.out h), hid (fun h => h11.out h), hid (fun h => h12.out h), hid (fun h => h13.out h), hid (fun h => h14.out h), hid (fun h => absurd (o15_2 h) (by rw [hf]; decide)), fun h => o15_0 h, fun h => o15_1 h, fun _ => rfl, fun h => o15_3 h, fun h => o15_4 h, fun h => o15_5 h, fun h => o15_6 h, fun h => o15_7 h, fun h => o15_8 h, fun h => o15_9 h, fun h => o15_10 h, fun h => o15_11 h, fun h => o15_12 h, fun h => o15_13 h, fun h => o15_14 h⟩
              case s3 =>
                rintro f a1 w1 ⟨u58, u59, u60, u61, u62, u63, u64, u65, u66, u67, u68, u69, u70, u71, u72, rfl, HBW, h0, h1, h2, h3, h4, h5, h6, h7, h8, h9, h10, h11, h12, h13, h14, h15, o15_0, o15_1, o15_2, o15_3, o15_4, o15_5, o15_6, o15_7, o15_8, o15_9, o15_10, o15_11, o15_12, o15_13, o15_14⟩ hf hd K hK
                replace HBW := hid (HBW.out.resolve_right (fun e => absurd (o15_3 e) (by rw [hf]; decide)))
                simp only [List.setIfInBounds_toArray, List.set_cons_zero, List.set_cons_succ] at hK ⊢
                replace hK := hid hK
                simp [Region.binds] at hd
                obtain rfl := h1.out (by simp only [hd])
                obtain rfl := h2.out (by simp only [hd])
                go_simp
                exact hK.out _ _ ⟨_, _, _, _, _, _, _, _, _, _, _, _, _, _, _, rfl, hid (.inl (HBW).out), hid (fun h => h0.out h), hid (fun h => rfl), hid (fun h => rfl), hid (fun h => rfl), hid (fun h => h4.out h), hid (fun h => h5.out h), hid (fun h => h6.out h), hid (fun h => h7.out h), hid (fun h => h8.out h), hid (fun h => h9.out h), hid (fun h => h10.out h), hid (fun h => h11.out h), hid (fun h => h12.out h), hid (fun h => h13.out h), hid (fun h => h14.out h), hid (fun h => absurd (o15_3 h) (by rw [hf]; decide)), fun h => o15_0 h, fun h => o15_1 h, fun h => o15_2 h, fun _ => rfl, fun h => o15_4 h, fun h => o15_5 h, fun h => o15_6 h, fun h => o15_7 h, fun h => o15_8 h, fun h => o15_9 h, fun h => o15_10 h, fun h => o15_11 h, fun h => o15_12 h, fun h => o15_13 h, fun h => o15_14 h⟩
              case s4 =>
                rintro f a1 w1 ⟨u58, u59, u60, u61, u62, u63, u64, u65, u66, u67, u68, u69, u70, u71, u72, rfl, HBW, h0, h1, h2, h3, h4, h5, h6, h7, h8, h9, h10, h11, h12, h13, h14, h15, o15_0, o15_1, o15_2, o15_3, o15_4, o15_5, o15_6, o15_7, o15_8, o15_9, o15_10, o15_11, o15_12, o15_13, o15_14⟩ hf hd K hK
                replace HBW := hid (HBW.out.resolve_right (fun e => absurd (o15_4 e) (by rw [hf]; decide)))
                simp only [List.setIfInBounds_toArray, List.set_cons_zero, List.set_cons_succ] at hK ⊢
                replace hK := hid hK
                go_simp
                exact hK.out _ _ ⟨_, _, _, _, _, _, _, _, _, _, _, _, _, _, _, rfl, hid (.inl (HBW).out), hid (fun h => h0.out h), hid (fun h => h1.out h), hid (fun h => h2.out h), hid (fun h => h3.out h), hid (fun h => rfl), hid (fun h => h5.out h), hid (fun h => h6.out h), hid (fun h => h7.out h), hid (fun h => h8.out h), hid (fun h => h9.out h), hid (fun h => h10.out h), hid (fun h => h11.out h), hid (fun h => h12.out h), hid (fun h => h13.out h), hid (fun h => h14.out h), hid (fun h => absurd (o15_4 h) (by rw [hf]; decide)), fun h => o15_0 h, fun h => o15_1 h, fun h => o15_2 h, fun h => o15_3 h, fun _ => rfl, fun h => o15_5 h, fun h => o15_6 h, fun h => o15_7 h, fun h => o15_8 h, fun h => o15_9 h, fun h => o15_10 h, fun h => o15_11 h, fun h => o15_12 h, fun h => o15_13 h, fun h => o15_14 h⟩
              case s5 =>
                rintro f a1 w1 ⟨u58, u59, u60, u61, u62, u63, u64, u65, u66, u67, u68, u69, u70, u71, u72, rfl, HBW, h0, h1, h2, h3, h4, h5, h6, h7, h8, h9, h10, h11, h12, h13, h14, h15, o15_0, o15_1, o15_2, o15_3, o15_4, o15_5, o15_6, o15_7, o15_8, o15_9, o15_10, o15_11, o15_12, o15_13, o15_14⟩ hf hd K hK
                replace HBW := hid (HBW.out.resolve_right (fun e => absurd (o15_5 e) (by rw [hf]; decide)))
                simp only [List.setIfInBounds_toArray, List.set_cons_zero, List.set_cons_succ] at hK ⊢
                replace hK := hid hK
                go_simp
                exact hK.out _ _ ⟨_, _, _, _, _, _, _, _, _, _, _, _, _, _, _, rfl, hid (.inl (HBW).out), hid (fun h => h0.out h), hid (fun h => h1.out h), hid (fun h => h2.out h), hid (fun h => h3.out h), hid (fun h => h4.out h), hid (fun h => rfl), hid (fun h => h6.out h), hid (fun h => h7.out h), hid (fun h => h8.out h), hid (fun h => h9.out h), hid (fun h => h10.out h), hid (fun h => h11.out h), hid (fun h => h12.out h), hid (fun h => h13.out h), hid (fun h => h14.out h), hid (fun h => absurd (o15_5 h) (by rw [hf]; decide)), fun h => o15_0 h, fun h => o15_1 h, fun h => o15_2 h, fun h => o15_3 h, fun h => o15_4 h, fun _ => rfl, fun h => o15_6 h, fun h => o15_7 h, fun h => o15_8 h, fun h => o15_9 h, fun h => o15_10 h, fun h => o15_11 h, fun h => o15_12 h, fun h => o15_13 h, fun h => o15_14 h⟩
              case s6 =>
                rintro f a1 w1 ⟨u58, u59, u60, u61, u62, u63, u64, u65, u66, u67, u68, u69, u70, u71, u72, rfl, HBW, h0, h1, h2, h3, h4, h5, h6, h7, h8, h9, h10, h11, h12, h13, h14, h15, o15_0, o15_1, o15_2, o15_3, o15_4, o15_5, o15_6, o15_7, o15_8, o15_9, o15_10, o15_11, o15_12, o15_13, o15_14⟩ hf hd K hK
                replace HBW := hid (HBW.out.resolve_right (fun e => absurd (o15_6 e) (by rw [hf]; decide)))
                simp only [List.setIfInBounds_toArray, List.set_cons_zero, List.set_cons_succ] at hK ⊢
                replace hK := hid hK
                go_simp
                exact hK.out _ _ ⟨_, _, _, _, _, _, _, _, _, _, _, _, _, _, _, rfl, hid (.inl (HBW).out), hid (fun h => h0.out h), hid (fun h => h1.out h), hid (fun h => h2.out h), hid (fun h => h3.out h), hid (fun h => h4.out h), hid (fun h => h5.out h), hid (fun h => rfl), hid (fun h => h7.out h), hid (fun h => h8.out h), hid (fun h => h9.out h), hid (fun h => h10.out h), hid (fun h => h11.out h), hid (fun h => h12.out h), hid (fun h => h13.out h), hid (fun h => h14.out h), hid (fun h => absurd (o15_6 h) (by rw [hf]; decide)), fun h => o15_0 h, fun h => o15_1 h, fun h => o15_2 h, fun h => o15_3 h, fun h => o15_4 h, fun h => o15_5 h, fun _ => rfl, fun h => o15_7 h, fun h => o15_8 h, fun h => o15_9 h, fun h => o15_10 h, fun h => o15_11 h, fun h => o15_12 h, fun h => o15_13 h, fun h => o15_14 h⟩
              case s7 =>
                rintro f a1 w1 ⟨u58, u59, u60, u61, u62, u63, u64, u65, u66, u67, u68, u69, u70, u71, u72, rfl, HBW, h0, h1, h2, h3, h4, h5, h6, h7, h8, h9, h10, h11, h12, h13, h14, h15, o15_0, o15_1, o15_2, o15_3, o15_4, o15_5, o15_6, o15_7, o15_8, o15_9, o15_10, o15_11, o15_12, o15_13, o15_14⟩ hf hd K hK
                replace HBW := hid (HBW.out.resolve_right (fun e => absurd (o15_7 e) (by rw [hf]; decide)))
                simp only [List.setIfInBounds_toArray, List.set_cons_zero, List.set_cons_succ] at hK ⊢
                replace hK := hid hK
                simp [Region.binds] at hd
                obtain rfl := h5.out (by simp only [hd])
                obtain rfl := h6.out (by simp only [hd])
                go_simp
                exact hK.out _ _ ⟨_, _, _, _, _, _, _, _, _, _, _, _, _, _, _, rfl, hid (.inl (HBW).out), hid (fun h => h0.out h), hid (fun h => h1.out h), hid (fun h => h2.out h), hid (fun h => h3.out h), hid (fun h => h4.out h), hid (fun h => rfl), hid (fun h => rfl), hid (fun h => rfl), hid (fun h => h8.out h), hid (fun h => h9.out h), hid (fun h => h10.out h), hid (fun h => h11.out h), hid (fun h => h12.out h), hid (fun h => h13.out h), hid (fun h => h14.out h), hid (fun h => absurd (o15_7 h) (by rw [hf]; decide)), fun h => o15_0 h, fun h => o15_1 h, fun h => o15_2 h, fun h => o15_3 h, fun h => o15_4 h, fun h => o15_5 h, fun h => o15_6 h, fun _ => rfl, fun h => o15_8 h, fun h => o15_9 h, fun h => o15_10 h, fun h => o15_11 h, fun h => o15_12 h, fun h => o15_13 h, fun h => o15_14 h⟩
              case s8 =>
                rintro f a1 w1 ⟨u58, u59, u60, u61, u62, u63, u64, u65, u66, u67, u68, u69, u70, u71, u72, rfl, HBW, h0, h1, h2, h3, h4, h5, h6, h7, h8, h9, h10, h11, h12, h13, h14, h15, o15_0, o15_1, o15_2, o15_3, o15_4, o15_5, o15_6, o15_7, o15_8, o15_9, o15_10, o15_11, o15_12, o15_13, o15_14⟩ hf hd K hK
                replace HBW := hid (HBW.out.resolve_right (fun e => absurd (o15_8 e) (by rw [hf]; decide)))
                simp only [List.setIfInBounds_toArray, List.set_cons_zero, List.set_cons_succ] at hK ⊢
                replace hK := hid hK
                simp [Region.binds] at hd
                obtain rfl := h4.out (by simp only [hd])
                obtain rfl := h7.out (by simp only [hd])
                go_simp
                exact hK.out _ _ ⟨_, _, _, _, _, _, _, _, _, _, _, _, _, _, _, rfl, hid (.inl (HBW).out), hid (fun h => h0.out h), hid (fun h => h1.out h), hid (fun h => h2.out h), hid (fun h => h3.out h), hid (fun h => rfl), hid (fun h => h5.out h), hid (fun h => h6.out h), hid (fun h => rfl), hid (fun h => rfl), hid (fun h => h9.out h), hid (fun h => h10.out h), hid (fun h => h11.out h), hid (fun h => h12.out h), hid (fun h => h13.out h), hid (fun h => h14.out h), hid (fun h => absurd (o15_8 h) (by rw [hf]; decide)), fun h => o15_0 h, fun h => o15_1 h, fun h => o15_2 h, fun h => o15_3 h, fun h => o15_4 h, fun h => o15_5 h, fun h => o15_6 h, fun h => o15_7 h, fun _ => rfl, fun h => o15_9 h, fun h => o15_10 h, fun h => o15_11 h, fun h => o15_12 h, fun h => o15_13 h, fun h => o15_14 h⟩
              case s9 =>
                rintro f a1 w1 ⟨u58, u59, u60, u61, u62, u63, u64, u65, u66, u67, u68, u69, u70, u71, u72, rfl, HBW, h0, h1, h2, h3, h4, h5, h6, h7, h8, h9, h10, h11, h12, h13, h14, h15, o15_0, o15_1, o15_2, o15_3, o15_4, o15_5, o15_6, o15_7, o15_8, o15_9, o15_10, o15_11, o15_12, o15_13, o15_14⟩ hf hd K hK
                replace HBW := hid (HBW.out.resolve_right (fun e => absurd (o15_9 e) (by rw [hf]; decide)))
                simp only [List.setIfInBounds_toArray, List.set_cons_zero, List.set_cons_succ] at hK ⊢
                replace hK := hid hK
                simp [Region.binds] at hd
                obtain rfl := h8.out (by simp only [hd])
                obtain ⟨y1, y2⟩ := (ROW.out.on HBW.out).cells hkn
                rw [hz8] at y1 y2
                go_simp
                exact hK.out _ _ ⟨_, _, _, _, _, _, _, _, _, _, _, _, _, _, _, rfl, hid (.inl (HBW).out), hid (fun h => h0.out h), hid (fun h => h1.out h), hid (fun h => h2.out h), hid (fun h => h3.out h), hid (fun h => h4.out h), hid (fun h => h5.out h), hid (fun h => h6.out h), hid (fun h => h7.out h), hid (fun h => rfl), hid (fun h => rfl), hid (fun h => h10.out h), hid (fun h => h11.out h), hid (fun h => h12.out h), hid (fun h => h13.out h), hid (fun h => h14.out h), hid (fun h => absurd (o15_9 h) (by rw [hf]; decide)), fun h => o15_0 h, fun h => o15_1 h, fun h => o15_2 h, fun h => o15_3 h, fun h => o15_4 h, fun h => o15_5 h, fun h => o15_6 h, fun h => o15_7 h, fun h => o15_8 h, fun _ => rfl, fun h => o15_10 h, fun h => o15_11 h, fun h => o15_12 h, fun h => o15_13 h, fun h => o15_14 h⟩
              case s10 =>
                rintro f a1 w1 ⟨u58, u59, u60, u61, u62, u63, u64, u65, u66, u67, u68, u69, u70, u71, u72, rfl, HBW, h0, h1, h2, h3, h4, h5, h6, h7, h8, h9, h10, h11, h12, h13, h14, h15, o15_0, o15_1, o15_2, o15_3, o15_4, o15_5, o15_6, o15_7, o15_8, o15_9, o15_10, o15_11, o15_12, o15_13, o15_14⟩ hf hd K hK
                replace HBW := hid (HBW.out.resolve_right (fun e => absurd (o15_10 e) (by rw [hf]; decide)))
                simp only [List.setIfInBounds_toArray, List.set_cons_zero, List.set_cons_succ] at hK ⊢
                replace hK := hid hK
                obtain ⟨y1, y2⟩ := (X7.out.below HBW.out X7.out.lt).both
                go_simp
                exact hK.out _ _ ⟨_, _, _, _, _, _, _, _, _, _, _, _, _, _, _, rfl, hid (.inl (HBW).out), hid (fun h => h0.out h), hid (fun h => h1.out h), hid (fun h => h2.out h), hid (fun h => h3.out h), hid (fun h => h4.out h), hid (fun h => h5.out h), hid (fun h => h6.out h), hid (fun h => h7.out h), hid (fun h => h8.out h), hid (fun h => h9.out h), hid (fun h => rfl), hid (fun h => h11.out h), hid (fun h => h12.out h), hid (fun h => h13.out h), hid (fun h => h14.out h), hid (fun h => absurd (o15_10 h) (by rw [hf]; decide)), fun h => o15_0 h, fun h => o15_1 h, fun h => o15_2 h, fun h => o15_3 h, fun h => o15_4 h, fun h => o15_5 h, fun h => o15_6 h, fun h => o15_7 h, fun h => o15_8 h, fun h => o15_9 h, fun _ => rfl, fun h => o15_11 h, fun h => o15_12 h, fun h => o15_13 h, fun h => o15_14 h⟩
              case s11 =>
                rintro f a1 w1 ⟨u58, u59, u60, u61, u62, u63, u64, u65, u66, u67, u68, u69, u70, u71, u72, rfl, HBW, h0, h1, h2, h3, h4, h5, h6, h7, h8, h9, h10, h11, h12, h13, h14, h15, o15_0, o15_1, o15_2, o15_3, o15_4, o15_5, o15_6, o15_7, o15_8, o15_9, o15_10, o15_11, o15_12, o15_13, o15_14⟩ hf hd K hK
                replace HBW := hid (HBW.out.resolve_right (fun e => absurd (o15_11 e) (by rw [hf]; decide)))
                simp only [List.setIfInBounds_toArray, List.set_cons_zero, List.set_cons_succ] at hK ⊢
                replace hK := hid hK
                obtain ⟨y1, y2⟩ := (X12.out.below HBW.out X12.out.lt).both
                go_simp
                exact hK.out _ _ ⟨_, _, _, _, _, _, _, _, _, _, _, _, _, _, _, rfl, hid (.inl (HBW).out), hid (fun h => h0.out h), hid (fun h => h1.out h), hid (fun h => h2.out h), hid (fun h => h3.out h), hid (fun h => h4.out h), hid (fun h => h5.out h), hid (fun h => h6.out h), hid (fun h => h7.out h), hid (fun h => h8.out h), hid (fun h => h9.out h), hid (fun h => h10.out h), hid (fun h => rfl), hid (fun h => h12.out h), hid (fun h => h13.out h), hid (fun h => h14.out h), hid (fun h => absurd (o15_11 h) (by rw [hf]; decide)), fun h => o15_0 h, fun h => o15_1 h, fun h => o15_2 h, fun h => o15_3 h, fun h => o15_4 h, fun h => o15_5 h, fun h => o15_6 h, fun h => o15_7 h, fun h => o15_8 h, fun h => o15_9 h, fun h => o15_10 h, fun _ => rfl, fun h => o15_12 h, fun h => o15_13 h, fun h => o15_14 h⟩
              case s12 =>
                rintro f a1 w1 ⟨u58, u59, u60, u61, u62, u63, u64, u65, u66, u67, u68, u69, u70, u71, u72, rfl, HBW, h0, h1, h2, h3, h4, h5, h6, h7, h8, h9, h10, h11, h12, h13, h14, h15, o15_0, o15_1, o15_2, o15_3, o15_4, o15_5, o15_6, o15_7, o15_8, o15_9, o15_10, o15_11, o15_12, o15_13, o15_14⟩ hf hd K hK
                replace HBW := hid (HBW.out.resolve_right (fun e => absurd (o15_12 e) (by rw [hf]; decide)))
                simp only [List.setIfInBounds_toArray, List.set_cons_zero, List.set_cons_succ] at hK ⊢
                replace hK := hid hK
                simp [Region.binds] at hd
                obtain rfl := h10.out (by simp only [hd])
                obtain rfl := h11.out (by simp only [hd])
                go_simp
                refine (zmul_f (HT.out.on HBW.out) (HC.out.on HBW.out) (HS.out (sf + d)) (SLQ.out i) (by have := HLE.out; omega) (by have := HLE.out; omega)).mono ?_
                rintro e w2 ⟨v, rfl, hv, hb⟩
                go_wp2_with fail
                exact hK.out _ _ ⟨_, _, _, _, _, _, _, _, _, _, _, _, _, _, _, rfl, hid (.inl (hid (below_next HBW.out hb)).out), hid (fun h => h0.out h), hid (fun h => h1.out h), hid (fun h => h2.out h), hid (fun h => h3.out h), hid (fun h => h4.out h), hid (fun h => h5.out h), hid (fun h => h6.out h), hid (fun h => h7.out h), hid (fun h => h8.out h), hid (fun h => h9.out h), hid (fun h => rfl), hid (fun h => rfl), hid (fun h => .inl hv), hid (fun h => (h13.out h).imp (fun h => h.on hb) id), hid (fun h => h14.out h), hid (fun h => absurd (o15_12 h) (by rw [hf]; decide)), fun h => o15_0 h, fun h => o15_1 h, fun h => o15_2 h, fun h => o15_3 h, fun h => o15_4 h, fun h => o15_5 h, fun h => o15_6 h, fun h => o15_7 h, fun h => o15_8 h, fun h => o15_9 h, fun h => o15_10 h, fun h => o15_11 h, fun _ => rfl, fun h => o15_13 h, fun h => o15_14 h⟩
              case s13 =>
                rintro f a1 w1 ⟨u58, u59, u60, u61, u62, u63, u64, u65, u66, u67, u68, u69, u70, u71, u72, rfl, HBW, h0, h1, h2, h3, h4, h5, h6, h7, h8, h9, h10, h11, h12, h13, h14, h15, o15_0, o15_1, o15_2, o15_3, o15_4, o15_5, o15_6, o15_7, o15_8, o15_9, o15_10, o15_11, o15_12, o15_13, o15_14⟩ hf hd K hK
                replace HBW := hid (HBW.out.resolve_right (fun e => absurd (o15_13 e) (by rw [hf]; decide)))
                simp only [List.setIfInBounds_toArray, List.set_cons_zero, List.set_cons_succ] at hK ⊢
                replace hK := hid hK
                simp [Region.binds] at hd
                obtain rfl := h9.out (by simp only [hd])
                have NF : f 15 = false := by cases e : f 15 with | false => rfl | true => exact absurd (o15_13 e) (by rw [hf]; decide)
                have h12a := (h12.out (by simp only [hd])).resolve_right (fun e => by rw [NF] at e; cases e)
                go_simp
                refine (zsub_f (HS2.out.on HBW.out) h12a ((HS.out (sf + i)).mul (SLQ.out d)) ((HS.out (sf + d)).mul (SLQ.out i)) (by have := HLE.out; omega) (by have := HLE.out; omega)).mono ?_
                rintro e w2 ⟨v, rfl, hv, hb⟩
                go_wp2_with fail
                exact hK.out _ _ ⟨_, _, _, _, _, _, _, _, _, _, _, _, _, _, _, rfl, hid (.inl (hid (below_next HBW.out hb)).out), hid (fun h => h0.out h), hid (fun h => h1.out h), hid (fun h => h2.out h), hid (fun h => h3.out h), hid (fun h => h4.out h), hid (fun h => h5.out h), hid (fun h => h6.out h), hid (fun h => h7.out h), hid (fun h => h8.out h), hid (fun h => rfl), hid (fun h => h10.out h), hid (fun h => h11.out h), hid (fun h => (h12.out h).imp (fun h => h.on hb) id), hid (fun h => .inl hv), hid (fun h => h14.out h), hid (fun h => absurd (o15_13 h) (by rw [hf]; decide)), fun h => o15_0 h, fun h => o15_1 h, fun h => o15_2 h, fun h => o15_3 h, fun h => o15_4 h, fun h => o15_5 h, fun h => o15_6 h, fun h => o15_7 h, fun h => o15_8 h, fun h => o15_9 h, fun h => o15_10 h, fun h => o15_11 h, fun h => o15_12 h, fun _ => rfl, fun h => o15_14 h⟩
              case s14 =>
                rintro f a1 w1 ⟨u58, u59, u60, u61, u62, u63, u64, u65, u66, u67, u68, u69, u70, u71, u72, rfl, HBW, h0, h1, h2, h3, h4, h5, h6, h7, h8, h9, h10, h11, h12, h13, h14, h15, o15_0, o15_1, o15_2, o15_3, o15_4, o15_5, o15_6, o15_7, o15_8, o15_9, o15_10, o15_11, o15_12, o15_13, o15_14⟩ hf hd K hK
                replace HBW := hid (HBW.out.resolve_right (fun e => absurd (o15_14 e) (by rw [hf]; decide)))
                simp only [List.setIfInBounds_toArray, List.set_cons_zero, List.set_cons_succ] at hK ⊢
                replace hK := hid hK
                simp [Region.binds] at hd
                obtain rfl := h0.out (by simp only [hd])
                obtain rfl := h3.out (by simp only [hd])
                go_simp
                exact hK.out _ _ ⟨_, _, _, _, _, _, _, _, _, _, _, _, _, _, _, rfl, hid (.inl (HBW).out), hid (fun h => rfl), hid (fun h => h1.out h), hid (fun h => h2.out h), hid (fun h => rfl), hid (fun h => h4.out h), hid (fun h => h5.out h), hid (fun h => h6.out h), hid (fun h => h7.out h), hid (fun h => h8.out h), hid (fun h => h9.out h), hid (fun h => h10.out h), hid (fun h => h11.out h), hid (fun h => h12.out h), hid (fun h => h13.out h), hid (fun h => rfl), hid (fun h => absurd (o15_14 h) (by rw [hf]; decide)), fun h => o15_0 h, fun h => o15_1 h, fun h => o15_2 h, fun h => o15_3 h, fun h => o15_4 h, fun h => o15_5 h, fun h => o15_6 h, fun h => o15_7 h, fun h => o15_8 h, fun h => o15_9 h, fun h => o15_10 h, fun h => o15_11 h, fun h => o15_12 h, fun h => o15_13 h, fun _ => rfl⟩
              case s15 =>
                rintro f a1 w1 ⟨u58, u59, u60, u61, u62, u63, u64, u65, u66, u67, u68, u69, u70, u71, u72, rfl, HBW, h0, h1, h2, h3, h4, h5, h6, h7, h8, h9, h10, h11, h12, h13, h14, h15, o15_0, o15_1, o15_2, o15_3, o15_4, o15_5, o15_6, o15_7, o15_8, o15_9, o15_10, o15_11, o15_12, o15_13, o15_14⟩ hf hd K hK
                replace HBW := hid (HBW.out.resolve_right (fun e => by rw [hf] at e; cases e))
                simp only [List.setIfInBounds_toArray, List.set_cons_zero, List.set_cons_succ] at hK ⊢
                replace hK := hid hK
                simp [Region.binds] at hd
                have h13a := (h13.out (by simp only [hd])).resolve_right (fun e => by rw [hf] at e; cases e)
                obtain rfl := h14.out (by simp only [hd])
                obtain ⟨s4, p4, n4, c4, rfl⟩ := h13a.opened
                obtain ⟨⟨y1, y2⟩, y3, y4⟩ := (ROW.out.on HBW.out).stores hkn
                go_simp
                exact hK.out _ _ ⟨_, _, _, _, _, _, _, _, _, _, _, _, _, _, _, rfl, hid (.inr rfl), hid (fun h => h0.out h), hid (fun h => h1.out h), hid (fun h => h2.out h), hid (fun h => h3.out h), hid (fun h => h4.out h), hid (fun h => h5.out h), hid (fun h => h6.out h), hid (fun h => h7.out h), hid (fun h => h8.out h), hid (fun h => h9.out h), hid (fun h => h10.out h), hid (fun h => h11.out h), hid (fun h => .inr rfl), hid (fun h => .inr rfl), hid (fun h => rfl), hid (fun h => ⟨_, _, _, _, _, HBW.out, h13a, rfl⟩), fun _ => (show f 0 = true from by simp only [hd]), fun _ => (show f 1 = true from by simp only [hd]), fun _ => (show f 2 = true from by simp only [hd]), fun _ => (show f 3 = true from by simp only [hd]), fun _ => (show f 4 = true from by simp only [hd]), fun _ => (show f 5 = true from by simp only [hd]), fun _ => (show f 6 = true from by simp only [hd]), fun _ => (show f 7 = true from by simp only [hd]), fun _ => (show f 8 = true from by simp only [hd]), fun _ => (show f 9 = true from by simp only [hd]), fun _ => (show f 10 = true from by simp only [hd]), fun _ => (show f 11 = true from by simp only [hd]), fun _ => (show f 12 = true from by simp only [hd]), fun _ => (show f 13 = true from by simp only [hd]), fun _ => (show f 14 = true from by simp only [hd])⟩
              case hend =>
                rintro f a1 w' ⟨u58, u59, u60, u61, u62, u63, u64, u65, u66, u67, u68, u69, u70, u71, u72, rfl, HBW, h0, h1, h2, h3, h4, h5, h6, h7, h8, h9, h10, h11, h12, h13, h14, h15, _⟩ hall
                simp only [List.setIfInBounds_toArray, List.set_cons_zero, List.set_cons_succ]
                obtain ⟨w2, s4, p4, n4, c4, hb, hv, rfl⟩ := h15.out (hall 15 (by decide))
                clear HBW hall h0 h1 h2 h3 h4 h5 h6 h7 h8 h9 h10 h11 h12 h13 h14 h15
                replace X6 := bx X6 hb
                replace X7 := bx X7 hb
                replace HLD := zf HLD hb
                replace HT := zf HT hb
                replace ROW := rwi ROW hb
                replace HW := hid (fun q_ hq_ => (HW.out q_ hq_).on hb)
                replace B := bb B hb
                have HX := hid hv
                clear hb hv
                have cc501 := ROW.out.stores hkn
                replace X6 := hid (X6.out.kept (ROW.out.far (sf + i) (by have := HB.out; have := L06.out; have := L67.out; omega) s4 p4 n4 c4))
                replace X7 := hid (X7.out.kept (ROW.out.far (sf + i) (by have := HB.out; have := L06.out; have := L67.out; omega) s4 p4 n4 c4))
                replace HLD := hid (HLD.out.iput ROW.out (sf + i) s4 p4 n4 c4)
                replace HT := hid (HT.out.iput ROW.out (sf + i) s4 p4 n4 c4)
                replace HX := hid (HX.out.iput ROW.out (sf + i) s4 p4 n4 c4)
                replace HW := hid (fun q_ hq_ => (HW.out q_ hq_).iput ROW.out (sf + i) s4 p4 n4 c4)
                replace B := hid (ROW.out.below B.out (sf + i) (by have := HB.out; have := L06.out; have := L67.out; omega) s4 p4 n4 c4)
                replace ROW := hid (ROW.out.put hkn s4 p4 n4 c4)
                go_wp2_with fail
                go_roundw
                case rel => exact ⟨i + 1, _, by omega, by go_num, ROW, hid (fun t ht => by
                    by_cases e : t = sf + i
                    · subst e; rw [upi_self, ofi_next]; exact HX.out
                    · rw [upi_ne _ _ e, ofi_ne _ _ _ _ e]; exact HW.out t ht), X6, HLD, X7, HT, B⟩
                case measure => simp [intOf]; omega
            · obtain rfl : i = d + 1 := by omega
              have HZ0 : ∀ i, d + 1 ≤ i → zc lq i = 0 := fun i hi => zc_ge (by rw [HDL.out]; exact hi)
              go_wp2_with fail
              go_roundw
              case rel => exact ⟨sf + d, e + 1, rs, scmb (zc lq d) R (-(R (sf + d))) (ssh sf (zc lq)), by omega, by omega, by first | rfl | (congr 1; omega), hid (HR.out.snoc _ sf (by omega)), hid (fun t ht => by
                  rw [← ofi_all R (zc lq d) (R (sf + d)) (zc lq) HZ0 t]
                  unfold ofi
                  by_cases h : t = sf + d
                  · subst h
                    rw [if_pos (by omega), Nat.add_sub_cancel_left]; grind
                  · rw [if_neg (by omega), HR0.out t (by omega)]; omega), hid (fun t => by
                  rw [← ofi_all R (zc lq d) (R (sf + d)) (zc lq) HZ0 t]
                  have e1 : m + (e + 1) * (n + 1) = m + e * (n + 1) + n + 1 := by rw [Nat.succ_mul]; omega
                  rw [e1]
                  unfold ofi
                  split
                  · exact ((HS.out t).mul (SLQ.out d)).sub ((HS.out (sf + d)).mul (SLQ.out _))
                  · exact ((HS.out t).mul (SLQ.out d)).mono (by omega)), ROW, hid (fun t ht => (HW.out t (by omega)).cast (ofi_all _ _ _ _ HZ0 t)), X6, HLD, B⟩
              case measure => simp [sln] <;> omega
    · obtain rfl : k = d := by omega
      have HP2 : Hid (IN wr (.slice (some ⟨b0, 0, none⟩) k c1) (zlf k R)) := hid ((ROW.out.less (show k ≤ np by omega)).inn (zlf_len _ _) (by omega) (by unfold maxLen; omega) (fun t ht => (HW.out t ht).cast (zc_zlf HR0.out t).symm))
      have HT := hid (ztrim_in HP2.out)
      go_wp2_with fail
      refine HT.out.mono ?_
      rintro e1 w2 ⟨k2, rfl, hk2, hz2, ht2, hb⟩
      have HK := hid hz2
      have HK2 := hid ht2
      have HI := hid ((HP2.out.take (show k2 ≤ _ by rw [zlf_len]; exact hk2)).on hb)
      replace B := bb B hb
      clear hz2 ht2 hb HT
      go_wp2_with fail
      go_ret
      have hzr : ∀ t, zc ((zlf k R).take k2) t = R t := fun t => by
        by_cases h : t < k2
        · rw [zc_take h, zc_zlf HR0.out]
        · rw [zc_ge (by rw [List.length_take, zlf_len]; omega), ← HK.out t (by omega), zc_zlf HR0.out]
      have hzf : zc ((zlf k R).take k2) = R := funext hzr
      have hlen : ((zlf k R).take k2).length = k2 := by rw [List.length_take, zlf_len]; omega
      have hee : e = np - (k + 1) + 1 := by omega
      refine ⟨_, _, rfl, HI.out, ?_, by rw [hlen]; exact hk2, by rw [hzf, ← hee]; exact HR.out, fun t => by rw [hzr, ← hee]; exact HS.out t, B.out⟩
      rcases HK2.out with h | h
      · exact .inl (List.length_eq_zero_iff.1 (by rw [hlen]; exact h))
      · refine .inr ?_
        rw [hlen, hzr, ← zc_zlf HR0.out]; exact h

end Go.Proofs.Ytkenlaikhnoldaa

/-
  PACKAGE poly: trim.
-/
namespace Go.Proofs.Ytkenlaikhnoldaa
open Go.RowKit
open Num
set_option linter.unusedVariables false
set_option maxRecDepth 100000
set_option linter.unusedSimpArgs false

theorem trim_stop {l : List Rat} {k : Nat} (hk : k ≤ l.length) (hz : ∀ j, k ≤ j → co l j = 0) (h : k = 0 ∨ co l (k - 1) ≠ 0) : trimQ l = l.take k ∧ (trimQ l).length = k := by
  have hl : (l.take k).length = k := by rw [List.length_take]; omega
  have e : trimQ l = l.take k := by
    refine trm_ext (trm_trim l) (trm_of_last ?_) fun i => ?_
    · rcases h with h | h
      · exact .inl (by rw [h]; rfl)
      · by_cases h0 : k = 0
        · exact .inl (by rw [h0]; rfl)
        · rw [hl, co_take (by omega)]
          exact .inr h
    · rw [co_trim]
      by_cases hi : i < k
      · rw [co_take hi]
      · rw [hz i (by omega), co_ge (by omega)]
  exact ⟨e, by rw [e, hl]⟩
/-- One of them, at a later world. -/
theorem pn_at {w w' : World} {l : List Rat} {a : Option Addr} {n c : Nat} (h : PN w (.slice a n c) l) (hb : Below w.heap.size w w') {i : Nat} (hi : i < l.length) :
    ∃ b s1 p1 n1 c1 s2 p2 n2 c2, a = some ⟨b, 0, none⟩ ∧ b < w.heap.size ∧ (w'.cell? ⟨b, i * 4, none⟩ = some (.bool s1) ∧ w'.cell? ⟨b, i * 4 + 1, none⟩ = some (.slice p1 n1 c1) ∧ w'.cell? ⟨b, i * 4 + 2, none⟩ = some (.bool s2) ∧ w'.cell? ⟨b, i * 4 + 3, none⟩ = some (.slice p2 n2 c2)) ∧ NF w' (.agg #[.bool s1, .slice p1 n1 c1, .bool s2, .slice p2 n2 c2]) (co l i) := by
  obtain ⟨a', c', rs, h1, h2, h3, h4⟩ := h
  obtain ⟨rfl, rfl, rfl⟩ := Value.slice.inj h1
  obtain ⟨b, e, hl, hA, hq⟩ := h4 i hi
  exact ⟨b, _, _, _, _, _, _, _, _, e, hl, hA.kept (hb.block b hl), hq.on hb⟩

set_option maxHeartbeats 1000000 in
theorem trim_pn {w : World} {a : Option Addr} {n c : Nat} {l : List Rat} (h : PN w (.slice a n c) l) :
    Calls Try.prog 21 #[.slice a n c] w fun e w' => e = .returned (.slice a (trimQ l).length c) ∧ Below w.heap.size w w' := by
  have HP := hid h
  obtain ⟨a', c', h1, hn, hc⟩ := h.opened
  obtain ⟨rfl, rfl, rfl⟩ := Value.slice.inj h1
  obtain ⟨n, hN⟩ : ∃ n, l.length = n := ⟨_, rfl⟩
  rw [hN] at hn HP ⊢
  have HN := hid hN
  unfold maxLen at hc
  clear hN h1 h
  go_enter Try.func21, Try.ntmps21
  go_wp2_with fail
  go_loopw [3] (fun i wr => ∃ k : Nat, k ≤ n ∧ i = .int .i64 k ∧ Hid (∀ j, k ≤ j → co l j = 0) ∧ Hid (Below w.heap.size w wr)) (fun i _ => (intOf i).toNat)
  case atStart => exact ⟨n, Nat.le_refl _, rfl, hid (fun j hj => co_ge (by rw [HN.out]; exact hj)), hid (Below.refl _ _)⟩
  case round =>
    obtain ⟨k, hk, rfl, HZ, B⟩ := hrel
    rcases k with _ | j
    · have HE := hid (trim_stop (l := l) (k := 0) (Nat.zero_le _) HZ.out (.inl rfl)).2
      go_wp2_with fail
      go_ret
      exact ⟨by rw [HE.out]; rfl, B.out⟩
    · obtain ⟨b, s1, p1, n1, c1, s2, p2, n2, c2, rfl, hb, cc, hq⟩ := pn_at HP.out B.out (i := j) (by rw [HN.out]; omega)
      have HQ := hid hq
      clear hq hb
      by_cases h0 : co l j = 0
      · have HZ2 : Hid (∀ i, j ≤ i → co l i = 0) := hid (fun i hi => if h : i = j then h ▸ h0 else HZ.out i (by omega))
        have hs := (sgn_eq_zero _).2 h0
        clear h0
        go_wp2_with fail
        refine (nsgn_f HQ.out hs).mono ?_
        rintro e w1 ⟨rfl, hb1⟩
        replace B := bb B hb1
        clear hb1 hs
        go_wp2_with fail
        go_roundw
        case rel => exact ⟨j, by omega, by go_num, HZ2, B⟩
        case measure => simp [intOf]
      · have HE := hid (trim_stop (l := l) (k := j + 1) (by rw [HN.out]; exact hk) HZ.out (.inr (by simpa using h0))).2
        obtain ⟨z, hz⟩ : ∃ z, (co l j).num.sign = z := ⟨_, rfl⟩
        have hne : (z == 0) = false := by rw [beq_eq_false_iff_ne]; rintro rfl; exact h0 ((sgn_eq_zero _).1 hz)
        have HS := hid hz
        clear h0 hz
        go_wp2_with fail
        refine (nsgn_f HQ.out HS.out).mono ?_
        rintro e w1 ⟨rfl, hb1⟩
        replace B := bb B hb1
        clear hb1
        go_wp2_with fail
        go_ret
        exact ⟨by rw [HE.out]; rfl, B.out⟩
theorem PN.trim {w : World} {a : Option Addr} {n c : Nat} {l : List Rat} (h : PN w (.slice a n c) l) : PN w (.slice a (trimQ l).length c) (trimQ l) := by
  have hz : ∀ j, (trimQ l).length ≤ j → co l j = 0 := fun j hj => by rw [← co_trim]; exact co_ge hj
  have e := (trim_stop (trim_len l) hz (by
    by_cases h0 : trimQ l = []
    · exact .inl (by rw [h0]; rfl)
    · exact .inr (by rw [← co_trim]; exact trm_last (trm_trim l) h0))).1
  have h1 := h.take (trim_len l)
  rw [← e] at h1
  exact h1
/-- Without noughts at the end. -/
theorem trim_p {w : World} {v : Value} {l : List Rat} (h : PN w v l) :
    Calls Try.prog 21 #[v] w fun e w' => ∃ v', e = .returned v' ∧ PN w' v' (trimQ l) ∧ Below w.heap.size w w' := by
  obtain ⟨a, c, rfl, hn, hc⟩ := h.opened
  refine (trim_pn h).mono ?_
  rintro e w' ⟨rfl, hb⟩
  exact ⟨_, rfl, h.trim.on hb, hb⟩

end Go.Proofs.Ytkenlaikhnoldaa

/-
  PACKAGE poly: slices.Clone.
-/
namespace Go.Proofs.Ytkenlaikhnoldaa
open Go.RowKit
open Num
set_option linter.unusedVariables false
set_option maxRecDepth 100000
set_option linter.unusedSimpArgs false

/-- The k-th cell of a Number. -/
def ncell (r : Nr) (k : Nat) : Value := if k = 0 then .bool r.1.1 else if k = 1 then .slice r.1.2.1 r.1.2.2.1 r.1.2.2.2 else if k = 2 then .bool r.2.1 else .slice r.2.2.1 r.2.2.2.1 r.2.2.2.2
theorem ncell_one (r : Nr) (k : Nat) : (ncell r k).oneCell' = true ∧ NI (ncell r k) := by
  unfold ncell
  split
  · exact ⟨rfl, NI.bool _⟩
  · split
    · exact ⟨rfl, NI.slc _ _ _⟩
    · split
      · exact ⟨rfl, NI.bool _⟩
      · exact ⟨rfl, NI.slc _ _ _⟩
theorem At4.cell {w : World} {b i : Nat} {r : Nr} (h : At4 w b (i * 4) r) {j : Nat} (h1 : i * 4 ≤ j) (h2 : j < i * 4 + 4) : w.cell? ⟨b, j, none⟩ = some (ncell r (j - i * 4)) := by
  obtain ⟨c0, c1, c2, c3⟩ := h
  rcases (show j = i * 4 ∨ j = i * 4 + 1 ∨ j = i * 4 + 2 ∨ j = i * 4 + 3 by omega) with h | h | h | h
  · rw [h, c0]; simp [ncell]
  · rw [h, c1]; simp [ncell]
  · rw [h, c2]; simp [ncell]
  · rw [h, c3]; simp [ncell]
def nrow (rs : Nat → Nr) (n : Nat) : List Value := (List.range (n * 4)).map fun j => ncell (rs (j / 4)) (j % 4)
theorem nrow_len (rs : Nat → Nr) (n : Nat) : (nrow rs n).length = n * 4 := by simp [nrow]
theorem nrow_get {rs : Nat → Nr} {n j : Nat} {u : Value} (h : (nrow rs n)[j]? = some u) : j < n * 4 ∧ u = ncell (rs (j / 4)) (j % 4) := by
  unfold nrow at h
  rw [List.getElem?_map] at h
  obtain ⟨k, hk, rfl⟩ := Option.map_eq_some_iff.1 h
  obtain ⟨h1, h2⟩ := List.getElem?_eq_some_iff.1 hk
  simp at h1 h2
  subst h2
  exact ⟨h1, rfl⟩
theorem nrow_at (rs : Nat → Nr) {n i k : Nat} (hi : i < n) (hk : k < 4) : (nrow rs n)[i * 4 + k]? = some (ncell (rs i) k) := by
  unfold nrow
  rw [List.getElem?_map, List.getElem?_range (by omega)]
  simp only [Option.map_some]
  rw [show (i * 4 + k) / 4 = i by omega, show (i * 4 + k) % 4 = k by omega]
theorem run_append_nop (w : World) (ty : TypeId) (b0 : Addr) (p : Option Addr) (c : Nat) :
    (Builtin.append_ #[36, 36] ty #[.slice (some b0) 0 0, .slice p 0 c]).run Try.prog w = .ok (.slice (some b0) 0 0) w := by
  obtain ⟨i, hi, _⟩ := info_parts infoN
  cases p <;> simp [Builtin.append_, run_underlying Try.underlying36, sizeOf, typeInfo, hi, Builtin.lenOf, Builtin.firstCells, loadCells, loadCellsFrom, storeCells]
/-- A list of the call's own, in blocks from K on. -/
def OwnN (w : World) (K : Nat) (v : Value) (l : List Rat) : Prop := (l = [] ∧ ∃ a c, v = .slice a 0 c ∧ c ≤ maxLen) ∨
  ∃ b c rs, v = .slice (some ⟨b, 0, none⟩) l.length c ∧ K ≤ b ∧ NRw w b l.length rs ∧ l.length ≤ c ∧ c ≤ maxLen ∧ ∀ i, i < l.length → NF w (nag (rs i)) (co l i)

set_option maxHeartbeats 1000000 in
theorem nclone_nil (w : World) (c : Nat) :
    Calls Try.prog 40 #[.slice none 0 c] w fun e w' => e = .returned (.slice none 0 0) ∧ Below w.heap.size w w' := by
  have hq := eql_slice_nil 36 _ Try.underlying36
  go_enter Try.func40, Try.ntmps40
  go_wp2
  go_ret
  exact ⟨rfl, Below.refl _ _⟩

set_option maxHeartbeats 1000000 in
theorem nclone_zero (w : World) (b : Addr) (c : Nat) :
    Calls Try.prog 40 #[.slice (some b) 0 c] w fun e w' => e = .returned (.slice (some ⟨w.heap.size, 0, none⟩) 0 0) ∧ Below w.heap.size w w' := by
  have hq := eql_slice_nil 36 _ Try.underlying36
  have hrun := run_append_nop (w.alloc (.cells #[] 52)) 36 ⟨w.heap.size, 0, none⟩ (some b) c
  have hb := (Below.refl w.heap.size w).alloc (Nat.le_refl _) (.cells #[] 52)
  have B := hid hb
  clear hb
  go_enter Try.func40, Try.ntmps40
  go_wp2_with (at_builtin; refine wpList_append_run rfl _ _ 36 rfl _ _ _ rfl rfl hrun ?_)
  go_wp2
  go_ret
  exact ⟨rfl, B.out⟩

set_option maxHeartbeats 1000000 in
theorem nclone_at {w : World} {b n c : Nat} {rs : Nat → Nr} {q : Nat → Rat} (hb : b < w.heap.size) (hA : ∀ i, i < n → At4 w b (i * 4) (rs i)) (hq : ∀ i, i < n → NF w (nag (rs i)) (q i)) (hn0 : 1 ≤ n) (hn : n ≤ 1000000) :
    Calls Try.prog 40 #[.slice (some ⟨b, 0, none⟩) n c] w fun e w' => ∃ b' c', e = .returned (.slice (some ⟨b', 0, none⟩) n c') ∧ w.heap.size ≤ b' ∧ NRw w' b' n rs ∧ n ≤ c' ∧ c' ≤ maxLen ∧ (∀ i, i < n → NF w' (nag (rs i)) (q i)) ∧ Below w.heap.size w w' := by
  obtain ⟨i0, hi, hz0, hz1, hz2⟩ := info_parts infoN
  have hb0 := (Below.refl w.heap.size w).alloc (Nat.le_refl _) (.cells #[] 52)
  have hnews : ∀ j u, (nrow rs n)[j]? = some u → (w.alloc (.cells #[] 52)).cell? (Addr.add ⟨b, 0, none⟩ j) = some u := by
    intro j u hj
    obtain ⟨h1, rfl⟩ := nrow_get hj
    rw [World.cell?_alloc_lt _ _ _ (by rw [Go.WideShapes.add_plain]; exact hb)]
    have h2 := (hA (j / 4) (by omega)).cell (j := j) (by omega) (by omega)
    rw [show j - j / 4 * 4 = j % 4 by omega] at h2
    rw [Go.WideShapes.add_plain, Nat.zero_add]
    exact h2
  have HNEWS := hid hnews
  have HNI : ∀ g, (Value.slice (some ⟨w.heap.size, 0, none⟩) 0 0).ownBlock = some g → NoInt (w.alloc (.cells #[] 52)) g := by
    intro g hg
    simp [Value.ownBlock] at hg
    subst hg
    exact NoInt.new w _ _ fun u hu => by simp at hu
  have HNI := hid HNI
  have hown := World.ownsRow_made (base := w.heap.size) (e := 52) (size := 4) w #[] 0 (Nat.le_refl _) (by unfold maxLen; omega) rfl
  have HO := hid hown
  have HQ := hid hq
  have HB := hid hb0
  clear hnews hown hA hq hb0
  have hq := eql_slice_nil 36 _ Try.underlying36
  go_enter Try.func40, Try.ntmps40
  go_wp2_with (at_builtin; refine wpList_append_ni rfl _ _ 36 rfl w.heap.size 52 i0 _ 4 64 Try.underlying36 hi hz0 hz1 hz2 rfl (by decide) _ _ _ rfl HO.out HNI.out ?c7 ⟨b, 0, none⟩ n c (nrow rs n) rfl ?c0 ?c1 ?c2 ?c8 ?c3 ?c4 ?c5 ?_)
  case c7 =>
    intro u hu
    simp [Value.cells] at hu
    rcases hu with rfl | rfl | rfl | rfl <;> first | exact NI.bool _ | exact NI.slc _ _ _
  case c0 => exact nrow_len rs n
  case c1 => exact HNEWS.out
  case c2 =>
    intro u hu
    obtain ⟨j, hj⟩ := List.getElem?_of_mem hu
    obtain ⟨_, rfl⟩ := nrow_get hj
    exact (ncell_one _ _).1
  case c8 =>
    intro u hu
    obtain ⟨j, hj⟩ := List.getElem?_of_mem hu
    obtain ⟨_, rfl⟩ := nrow_get hj
    exact (ncell_one _ _).2
  case c3 => unfold maxLen; omega
  case c4 => omega
  case c5 => simp
  intro v' w1 hown' hgrow hni
  have HO' := hid hown'
  have HN' := hid hni
  have hb2 : Below w.heap.size w w1 := HB.out.grown hgrow (by simp) (fun g hg => by simp [Value.ownBlock] at hg; omega)
  have HB2 := hid hb2
  clear hown' hgrow hni hb2
  go_wp2
  go_ret
  have ho := HO'.out
  have hbw := HB2.out
  rcases ho.2 with ⟨_, h0⟩ | ⟨g, cap, cur, rfl, hK, h1, h2, h3, h4, h5⟩
  · omega
  · refine ⟨g, cap, rfl, hK, ⟨cur, h1, by omega, fun i hi => ?_, HN'.out g rfl cur _ _ h1⟩, h2, h3, fun i hi => (HQ.out i hi).on hbw, hbw⟩
    have hc : ∀ k, k < 4 → cur[i * 4 + k]? = some (ncell (rs i) k) := by
      intro k hk
      have h6 := nrow_at rs hi hk
      rw [← h5, List.getElem?_take, if_pos (by omega), Array.getElem?_toList] at h6
      exact h6
    exact ⟨hc 0 (by decide), hc 1 (by decide), hc 2 (by decide), hc 3 (by decide)⟩
/-- A copy, in memory of its own. -/
theorem nclone {w : World} {v : Value} {l : List Rat} (h : PN w v l) (hl : l.length ≤ 1000000) :
    Calls Try.prog 40 #[v] w fun e w' => ∃ v', e = .returned v' ∧ OwnN w' w.heap.size v' l ∧ Below w.heap.size w w' := by
  obtain ⟨a, c, rs, rfl, hn, hc, hA⟩ := h
  by_cases h0 : l.length = 0
  · obtain rfl := List.length_eq_zero_iff.1 h0
    cases a with
    | none =>
      refine (nclone_nil w c).mono ?_
      rintro e w' ⟨rfl, hb⟩
      exact ⟨_, rfl, .inl ⟨rfl, _, _, rfl, Nat.zero_le _⟩, hb⟩
    | some b =>
      refine (nclone_zero w b c).mono ?_
      rintro e w' ⟨rfl, hb⟩
      exact ⟨_, rfl, .inl ⟨rfl, _, _, rfl, Nat.zero_le _⟩, hb⟩
  · obtain ⟨b, rfl, hb, _, _⟩ := hA 0 (by omega)
    refine (nclone_at (q := co l) (rs := rs) hb (fun i hi => ?_) (fun i hi => ?_) (by omega) hl).mono ?_
    · obtain ⟨b', e, _, h1, _⟩ := hA i hi; cases e; exact h1
    · obtain ⟨b', e, _, _, h1⟩ := hA i hi; exact h1
    · rintro e w' ⟨b', c', rfl, h1, h2, h3, h4, h5, h6⟩
      exact ⟨_, rfl, .inr ⟨b', c', rs, rfl, h1, h2, h3, h4, h5⟩, h6⟩

end Go.Proofs.Ytkenlaikhnoldaa

/-
  PACKAGE poly: Polynomial.Add.
-/
namespace Go.Proofs.Ytkenlaikhnoldaa
open Go.RowKit
open Num
set_option linter.unusedVariables false
set_option maxRecDepth 100000
set_option linter.unusedSimpArgs false
end Go.Proofs.Ytkenlaikhnoldaa

/-
  POLYNOMIALS BY THEIR SIZE, over one denominator: what is left of a division grows by a sum. Nothing of a program.
-/
namespace Go.Proofs.Ytkenlaikhnoldaa
open Go.RowKit
open Num4
open Num (dg isNat dval)
set_option linter.unusedVariables false
set_option maxRecDepth 100000
set_option linter.unusedSimpArgs false

/-- With one number times all are whole, and none has more limbs. -/
def Cml (l : List Rat) (n : Nat) : Prop := 1 ≤ n ∧ ∃ D : Int, D ≠ 0 ∧ D.natAbs < B ^ n ∧ ∀ i, ∃ z : Int, z.natAbs < B ^ n ∧ co l i * (D : Rat) = (z : Rat)
theorem bpow_le {m n : Nat} (h : m ≤ n) : B ^ m ≤ B ^ n := Nat.pow_le_pow_right (by decide) h
theorem Cml.mono {l : List Rat} {m n : Nat} (h : Cml l m) (hn : m ≤ n) : Cml l n := by
  obtain ⟨h1, D, h2, h3, h4⟩ := h
  refine ⟨by omega, D, h2, Nat.lt_of_lt_of_le h3 (bpow_le hn), fun i => ?_⟩
  obtain ⟨z, h5, h6⟩ := h4 i
  exact ⟨z, Nat.lt_of_lt_of_le h5 (bpow_le hn), h6⟩
theorem int_ne {D : Int} (h : D ≠ 0) : (D : Rat) ≠ 0 := fun e => h (by exact_mod_cast e)
theorem cml_divInt {c : Rat} {D z : Int} (hD : D ≠ 0) (e : c * (D : Rat) = (z : Rat)) : c = Rat.divInt z D := by
  have h1 : c = (z : Rat) / (D : Rat) := by
    have h2 := rat_inv (int_ne hD)
    rw [← e, Rat.div_def, Rat.mul_assoc, Rat.mul_inv_cancel _ (int_ne hD)]; grind
  rw [h1, Rat.divInt_eq_div]
theorem Cml.sml {l : List Rat} {n : Nat} (h : Cml l n) : Sml l n := by
  obtain ⟨h1, D, h2, h3, h4⟩ := h
  refine ⟨h1, fun i => ?_⟩
  obtain ⟨z, h5, h6⟩ := h4 i
  rw [cml_divInt h2 h6]
  obtain ⟨d1, d2⟩ := divInt_le z D
  refine ⟨Nat.lt_of_le_of_lt d1 h5, Nat.lt_of_le_of_lt d2 ?_⟩
  have : 1 < B ^ n := Nat.one_lt_pow (by omega) (by decide)
  omega
theorem Cml.nil {n : Nat} (hn : 1 ≤ n) : Cml [] n := ⟨hn, 1, by decide, Nat.one_lt_pow (by omega) (by decide), fun i => ⟨0, by have : 0 < B ^ n := Nat.pow_pos (by decide); simpa using this, by rw [co_nil]; show (0 : Rat) * _ = (0 : Rat); grind⟩⟩
theorem Sml.cml {m : Nat} : ∀ {l : List Rat}, Sml l m → Cml l (l.length * m + 1)
  | [], _ => Cml.nil (by omega)
  | a :: l, h => by
    have h0 : Sm a m := by have := h.2 0; rwa [co_zero] at this
    have hl : Sml l m := ⟨h.1, fun i => by have := h.2 (i + 1); rwa [co_succ] at this⟩
    obtain ⟨h1, D, h2, h3, h4⟩ := hl.cml
    have e : (a :: l).length * m + 1 = m + (l.length * m + 1) := by rw [List.length_cons, Nat.succ_mul]; omega
    rw [e]
    have hd : a * (a.den : Rat) = (a.num : Rat) := by
      have h5 := Rat.num_divInt_den a
      have h6 : (a.den : Int) ≠ 0 := by have := a.den_pos; omega
      have h7 : (((a.den : Int)) : Rat) ≠ 0 := int_ne h6
      rw [Rat.divInt_eq_div] at h5
      have h8 : ((a.den : Int) : Rat) = (a.den : Rat) := rfl
      rw [← h8]
      have h9 : (a.num : Rat) / ((a.den : Int) : Rat) * ((a.den : Int) : Rat) = (a.num : Rat) := Rat.div_mul_cancel h7
      rw [h5] at h9
      exact h9
    refine ⟨by omega, (a.den : Int) * D, ?_, ?_, fun i => ?_⟩
    · intro e
      rcases Int.mul_eq_zero.1 e with e | e
      · have := a.den_pos; omega
      · exact h2 e
    · rw [Int.natAbs_mul, Nat.pow_add]
      exact Nat.mul_lt_mul'' (by simpa using h0.2) h3
    · cases i with
      | zero =>
        refine ⟨a.num * D, ?_, ?_⟩
        · rw [Int.natAbs_mul, Nat.pow_add]
          exact Nat.mul_lt_mul'' h0.1 h3
        · rw [co_zero, Rat.intCast_mul, Rat.intCast_mul, ← hd]
          show a * ((a.den : Rat) * (D : Rat)) = _
          grind
      | succ i =>
        obtain ⟨z, h5, h6⟩ := h4 i
        refine ⟨(a.den : Int) * z, ?_, ?_⟩
        · rw [Int.natAbs_mul, Nat.pow_add]
          exact Nat.mul_lt_mul'' (by simpa using h0.2) h5
        · rw [co_succ, Rat.intCast_mul, Rat.intCast_mul, ← h6]; grind
theorem two_pow_lt {a b c d : Nat} {m n : Nat} (ha : a < B ^ m) (hb : b < B ^ n) (hc : c < B ^ m) (hd : d < B ^ n) : a * b + c * d < B ^ (m + n + 1) := by
  have h1 := Nat.mul_lt_mul'' ha hb
  have h2 := Nat.mul_lt_mul'' hc hd
  rw [← Nat.pow_add] at h1 h2
  have h3 : B ^ (m + n + 1) = B ^ (m + n) * 10000 := rfl
  rw [h3]
  omega
theorem Cml.step {p q : List Rat} {m n : Nat} (h : Cml p m) (h' : Cml q n) (hq : Trm q) (h0 : q ≠ []) : Cml (stepp p q) (m + n + 1) := by
  obtain ⟨h1, D, h2, h3, h4⟩ := h
  obtain ⟨k1, F, k2, k3, k4⟩ := h'
  obtain ⟨E, k5, k6⟩ := k4 (q.length - 1)
  obtain ⟨A, h5, h6⟩ := h4 (p.length - 1)
  have ht : top q ≠ 0 := top_ne hq h0
  have hE : E ≠ 0 := by
    rintro rfl
    rcases Rat.mul_eq_zero.1 k6 with e | e
    · exact ht e
    · exact int_ne k2 e
  have hDr := int_ne h2
  have hFr := int_ne k2
  refine ⟨by omega, D * E, ?_, ?_, fun i => ?_⟩
  · intro e
    rcases Int.mul_eq_zero.1 e with e | e
    · exact h2 e
    · exact hE e
  · rw [Int.natAbs_mul]
    refine Nat.lt_of_lt_of_le (Nat.mul_lt_mul'' h3 k5) ?_
    rw [← Nat.pow_add]
    exact bpow_le (by omega)
  · obtain ⟨z, h7, h8⟩ := h4 i
    rw [co_stepp]
    split
    · obtain ⟨y, k7, k8⟩ := k4 (i - (p.length - q.length))
      refine ⟨z * E - A * y, ?_, ?_⟩
      · have e1 : (z * E - A * y).natAbs ≤ z.natAbs * E.natAbs + A.natAbs * y.natAbs := by
          have e2 := Int.natAbs_add_le (z * E) (-(A * y))
          rw [Int.natAbs_neg, Int.natAbs_mul, Int.natAbs_mul] at e2
          exact e2
        exact Nat.lt_of_le_of_lt e1 (two_pow_lt h7 k5 h5 k7)
      · have e1 : co q (q.length - 1) = top q := rfl
        have e2 : co p (p.length - 1) = top p := rfl
        rw [e1] at k6
        rw [e2] at h6
        have e3 : top p / top q * top q = top p := Rat.div_mul_cancel ht
        rw [Rat.intCast_sub, Rat.intCast_mul, Rat.intCast_mul, Rat.intCast_mul, ← h8, ← h6, ← k8, ← k6]
        generalize top p / top q = t at *
        rw [← e3]
        grind
    · refine ⟨z * E, ?_, ?_⟩
      · rw [Int.natAbs_mul]
        refine Nat.lt_of_lt_of_le (Nat.mul_lt_mul'' h7 k5) ?_
        rw [← Nat.pow_add]
        exact bpow_le (by omega)
      · rw [Rat.intCast_mul, Rat.intCast_mul, ← h8]; grind
theorem Cml.mnc {p : List Rat} {m : Nat} (h : Cml p m) (hp : Trm p) (h0 : p ≠ []) : Cml (mnc p) m := by
  obtain ⟨h1, D, h2, h3, h4⟩ := h
  obtain ⟨A, h5, h6⟩ := h4 (p.length - 1)
  have ht := top_ne hp h0
  have e2 : co p (p.length - 1) = top p := rfl
  rw [e2] at h6
  refine ⟨h1, A, ?_, h5, fun i => ?_⟩
  · rintro rfl
    rcases Rat.mul_eq_zero.1 h6 with e | e
    · exact ht e
    · exact int_ne h2 e
  · obtain ⟨z, h7, h8⟩ := h4 i
    refine ⟨z, h7, ?_⟩
    have hi := rat_inv ht
    rw [co_mnc, ← h6, ← h8]
    generalize 1 / top p = t at *
    grind
theorem Cml.slope {p : List Rat} {m : Nat} (h : Cml p m) (hl : p.length ≤ 1000) : Cml (slope p) (m + 1) := by
  obtain ⟨h1, D, h2, h3, h4⟩ := h
  refine ⟨by omega, D, h2, Nat.lt_of_lt_of_le h3 (bpow_le (by omega)), fun i => ?_⟩
  rw [co_slope, co_pder]
  by_cases hi : i + 1 < p.length
  · obtain ⟨z, h5, h6⟩ := h4 (i + 1)
    refine ⟨z * ((i : Int) + 1), ?_, ?_⟩
    · rw [Int.natAbs_mul]
      have e1 : ((i : Int) + 1).natAbs = i + 1 := by omega
      rw [e1]
      have e2 : B ^ (m + 1) = B ^ m * 10000 := rfl
      rw [e2]
      exact Nat.mul_lt_mul'' h5 (by omega)
    · have e1 : ((i : Rat) + 1) = (((i : Int) + 1 : Int) : Rat) := by push_cast; rfl
      rw [Rat.intCast_mul, ← h6, e1]; grind
  · refine ⟨0, by have : 0 < B ^ (m + 1) := Nat.pow_pos (by decide); simpa using this, ?_⟩
    rw [co_ge (by omega)]
    show _ = (0 : Rat)
    grind

end Go.Proofs.Ytkenlaikhnoldaa

/-
  PACKAGE pgcd: MonicOf.
-/
namespace Go.Proofs.Ytkenlaikhnoldaa
open Go.RowKit
open Num
set_option linter.unusedVariables false
set_option maxRecDepth 100000
set_option linter.unusedSimpArgs false

set_option maxHeartbeats 4000000 in
theorem padd_own {w : World} {v u : Value} {l r : List Rat} {m n : Nat} (h : PN w v l) (h' : PN w u r) (hs : Sml l m) (hs' : Sml r n) (hm : m ≤ 68719476736) (hn : n ≤ 68719476736) (hl : l.length ≤ 1000000) (hle : r.length ≤ l.length) :
    Calls Try.prog 25 #[v, u] w fun e w' => ∃ v', e = .returned v' ∧ OwnN w' w.heap.size v' (addp l r) ∧ Below w.heap.size w w' := by
  obtain ⟨a, c, rfl, hn1, hc1⟩ := h.opened
  obtain ⟨a', c', rfl, hn2, hc2⟩ := h'.opened
  have HP := hid h
  have HP' := hid h'
  have SL := hid hs
  have SR := hid hs'
  have HM := hid hm
  have HM' := hid hn
  have HC := hid (nclone h hl)
  have HK : Hid (addp l r = trimQ (lof l.length fun i => co l i + co r i)) := hid (by rw [addp, Nat.max_eq_left (by omega)])
  obtain ⟨nl, hNL⟩ : ∃ nl, l.length = nl := ⟨_, rfl⟩
  obtain ⟨nr, hNR⟩ : ∃ nr, r.length = nr := ⟨_, rfl⟩
  have NL := hid hNL
  have NR := hid hNR
  rw [hNL] at hn1 hl hle HP HC HK ⊢
  rw [hNR] at hn2 hle HP' ⊢
  clear h h' hs hs' hm hn hNL hNR
  unfold maxLen at hc1 hc2
  go_enter Try.func25, Try.ntmps25
  go_wp2_with fail
  refine HC.out.mono ?_
  rintro e w1 ⟨v1, rfl, ho, hb⟩
  have B := hid hb
  clear hb HC
  rcases ho with ⟨h0, a1, c1, rfl, hc3⟩ | ⟨b0, c1, rs, rfl, hb0, hrow, hn3, hc3, hw⟩
  · have h00 : nl = 0 := by rw [← NL.out, h0]; rfl
    subst h00
    obtain rfl : nr = 0 := by omega
    have HT := hid (trim_pn (PN.nil w1 (a := a1) hc3))
    unfold maxLen at hc3
    go_wp2_with fail
    go_loopw [19] (fun i wr => i = .int .i64 0 ∧ ∃ j, wr = w1.drewN j) (fun i _ => 0)
    case atStart => exact ⟨rfl, 0, rfl⟩
    case round =>
      obtain ⟨rfl, j, rfl⟩ := hrel
      have HT := hid (trim_pn (PN.nil (w1.drewN j) (a := a1) (c := c1) (by unfold maxLen; omega)))
      have BJ := hid (below_drewN (Below.refl w1.heap.size w1) j)
      go_wp2_with fail
      refine HT.out.mono ?_
      rintro e w2 ⟨rfl, hb⟩
      go_wp2_with fail
      go_ret
      have e0 : addp l r = [] := by rw [HK.out]; rfl
      rw [e0]
      exact ⟨_, rfl, .inl ⟨rfl, _, _, rfl, by unfold maxLen; omega⟩, (B.out.trans (BJ.out.mono B.out.size)).trans (hb.mono (B.out.trans (BJ.out.mono B.out.size)).size)⟩
  · rw [NL.out] at hrow hn3 hw ⊢
    have HB := hid hb0
    have ROW := hid hrow
    have HW : Hid (∀ j, j < nl → NF w1 (nag (rs j)) (co l j + if j < 0 then co r j else 0)) := hid (fun j hj => (hw j hj).cast (by rw [if_neg (by omega)]; grind))
    have HC3 := hid hc3
    clear hrow hw hb0
    unfold maxLen at hc3
    go_wp2_with fail
    go_loopw [19] (fun i wr => ∃ (k : Nat) (rs : Nat → Nr), k ≤ nr ∧ i = .int .i64 k ∧ Hid (NRw wr b0 nl rs) ∧ Hid (∀ j, j < nl → NF wr (nag (rs j)) (co l j + if j < k then co r j else 0)) ∧ Hid (Below w.heap.size w wr)) (fun i _ => nr - (intOf i).toNat)
    case atStart => exact ⟨0, rs, by omega, rfl, ROW, HW, B⟩
    case round =>
      clear ROW HW B
      obtain ⟨k, rs, hk, rfl, ROW, HW, B⟩ := hrel
      by_cases hlt : k < nr
      · have hkn : k < nl := by omega
        obtain ⟨b5, s5a, p5a, n5a, c5a, s5b, p5b, n5b, c5b, rfl, hb5, cd5, hq5⟩ := pn_at HP'.out B.out (i := k) (by rw [NR.out]; exact hlt)
        obtain ⟨s6a, p6a, n6a, c6a, s6b, p6b, n6b, c6b, hz6⟩ : ∃ s6a p6a n6a c6a s6b p6b n6b c6b, rs k = ((s6a, p6a, n6a, c6a), (s6b, p6b, n6b, c6b)) := ⟨_, _, _, _, _, _, _, _, rfl⟩
        have hq6 := HW.out k hkn
        rw [hz6, if_neg (by omega)] at hq6
        dsimp only [nag] at hq6
        have HQ := hid hq5
        have HS := hid (hq6.cast (show co l k + 0 = co l k by grind))
        have HN3 := hid hn3
        clear hq5 hq6
        have LB := hid ROW.out.lt
        obtain ⟨hb101, hx102, hs103⟩ := Nbx.made wr s5a s5b (.slice p5a n5a c5a) (.slice p5b n5b c5b)
        replace HQ := nf HQ hb101
        replace HS := nf HS hb101
        replace ROW := rwo ROW hb101
        replace HW := hid (fun q_ hq_ => (HW.out q_ hq_).on hb101)
        replace B := bb B hb101
        have X7 := hid hx102
        clear hb101 hx102
        have cc104 := X7.out.cells
        have cr := ROW.out.cells hkn
        rw [hz6] at cr
        go_wp2_with fail
        generalize hW : wr.alloc (.cells #[.bool s5a, .slice p5a n5a c5a, .bool s5b, .slice p5b n5b c5b] 52) = W105 at *
        clear hW
        clear cr
        have cc106 := X7.out.cells
        replace X7 := hid X7.out.dr
        replace HQ := hid HQ.out.drew
        replace HS := hid HS.out.drew
        replace HW := hid (fun q_ hq_ => (HW.out q_ hq_).drew)
        replace ROW := hid ROW.out.dr
        replace B := hid (Below.drew B.out)
        have cr := ROW.out.cells hkn
        rw [hz6] at cr
        have cc107 := X7.out.cells
        go_region_with (first
          | (go_at_call 28; refine (nadd_f HS.out HQ.out (SL.out.2 k) (SR.out.2 k) HM.out HM'.out).mono ?_; rintro e w109 ⟨v, rfl, hv, hb⟩; obtain ⟨s7a, p7a, n7a, c7a, s7b, p7b, n7b, c7b, rfl⟩ := hv.opened; replace X7 := nx X7 hb; replace HQ := nf HQ hb; replace HS := nf HS hb; replace ROW := rwo ROW hb; replace HW := hid (fun q_ hq_ => (HW.out q_ hq_).on hb); replace B := bb B hb; clear cc104 cc106 cc107; have HV := hid hv; clear hb hv cr; have cc110 := X7.out.cells; have cr := ROW.out.cells hkn; rw [hz6] at cr; have cc111 := ROW.out.stores hkn; replace X7 := hid (X7.out.kept (ROW.out.far k (by have := HB.out; have := LB.out; omega) s7a p7a n7a c7a s7b p7b n7b c7b)); replace HQ := hid (HQ.out.put ROW.out k s7a p7a n7a c7a s7b p7b n7b c7b); replace HS := hid (HS.out.put ROW.out k s7a p7a n7a c7a s7b p7b n7b c7b); replace HV := hid (HV.out.put ROW.out k s7a p7a n7a c7a s7b p7b n7b c7b); replace HW := hid (fun q_ hq_ => (HW.out q_ hq_).put ROW.out k s7a p7a n7a c7a s7b p7b n7b c7b); replace B := hid (ROW.out.below B.out k (by have := HB.out; have := LB.out; omega) s7a p7a n7a c7a s7b p7b n7b c7b); replace ROW := hid (ROW.out.put hkn s7a p7a n7a c7a s7b p7b n7b c7b); have mk108_0 := hid True.intro))
        all_goals
          go_wp2_with fail
          go_roundw
          case rel => exact ⟨k + 1, _, by omega, by go_num, ROW, hid (fun j hj => by
            by_cases hjk : j = k
            · subst hjk; rw [upd_self, if_pos (by omega)]; exact HV.out
            · rw [upd_ne _ _ hjk]; exact (HW.out j hj).cast (by split <;> split <;> first | rfl | omega)), B⟩
          case measure => simp [intOf]; omega
      · obtain rfl : k = nr := by omega
        have HP2 : Hid (PN wr (.slice (some ⟨b0, 0, none⟩) nl c1) (lof nl fun i => co l i + co r i)) := hid (ROW.out.pn (by simp [lof]) hn3 HC3.out (fun i hi => (HW.out i hi).cast (by rw [co_lof, if_pos hi]; split; rfl; rw [co_ge (l := r) (by rw [NR.out]; omega)])))
        go_wp2_with fail
        refine (trim_pn HP2.out).mono ?_
        rintro e w2 ⟨rfl, hb⟩
        replace ROW := rwo ROW hb
        replace HW : Hid (∀ j, j < nl → NF w2 (nag (rs j)) (co l j + if j < k then co r j else 0)) := hid (fun j hj => (HW.out j hj).on hb)
        have B2 := hid (B.out.trans (hb.mono B.out.size))
        have HLE := hid (show (trimQ (lof nl fun i => co l i + co r i)).length ≤ nl from Nat.le_trans (trim_len _) (by simp [lof]))
        clear hb
        go_wp2_with fail
        go_ret
        refine ⟨_, rfl, ?_, B2.out⟩
        rw [HK.out]
        refine .inr ⟨b0, c1, rs, rfl, HB.out, ROW.out.less HLE.out, Nat.le_trans HLE.out hn3, by unfold maxLen; omega, fun i hi => ?_⟩
        have hi2 : i < nl := Nat.lt_of_lt_of_le hi HLE.out
        rw [co_trim, co_lof, if_pos hi2]
        exact (HW.out i hi2).cast (by split; rfl; rw [co_ge (l := r) (by rw [NR.out]; omega)])

def dvi (l : List Rat) (c : Rat) (i t : Nat) : Rat := if t < i then co l t / c else co l t
theorem addp_nil {l : List Rat} (h : Trm l) : addp l [] = l := trm_ext (trm_addp _ _) h fun i => by rw [co_addp, co_nil]; grind
set_option maxHeartbeats 4000000 in
/-- With 1 at its end. -/
theorem monicof_p {w : World} {v : Value} {l : List Rat} {m : Nat} (h : PN w v l) (ht : Trm l) (hs : Cml l m) (hm : m ≤ 68719476736) (hl : l.length ≤ 9) :
    Calls Try.prog 15 #[v] w fun e w' => ∃ v', e = .returned v' ∧ PN w' v' (mnc l) ∧ Below w.heap.size w w' := by
  have HC := padd_own (r := []) (u := .slice none 0 0) h (PN.nil w (by decide)) hs.sml (Sml.nil (m := 1) (by omega)) hm (by decide) (by omega) (by simp)
  rw [addp_nil ht] at HC
  have HC := hid HC
  have SL := hid hs.sml
  have HM := hid hm
  obtain ⟨a, c, rfl, hn, hc⟩ := h.opened
  by_cases hl0 : l = []
  · subst hl0
    clear h ht hs hm hl
    go_enter Try.func15, Try.ntmps15
    go_wp2_with fail
    refine HC.out.mono ?_
    rintro e w1 ⟨v1, rfl, ho, hb⟩
    have B := hid hb
    rcases ho with ⟨_, a1, c1, rfl, hc3⟩ | ⟨b0, c1, rs, rfl, hb0, hrow, hn3, hc3, hw⟩
    · clear hb
      go_wp2_with fail
      go_ret
      exact ⟨_, rfl, PN.nil _ (by decide), B.out⟩
    · clear hb hrow hw
      go_wp2_with fail
      go_ret
      exact ⟨_, rfl, PN.nil _ (by decide), B.out⟩
  · obtain ⟨d, hd⟩ : ∃ d, l.length = d + 1 := ⟨l.length - 1, by have := List.length_pos_iff.2 hl0; omega⟩
    have HD := hid hd
    have H0 : Hid (co l d ≠ 0) := hid (by have := trm_last ht hl0; rwa [hd] at this)
    have HTR := hid ht
    have HL0 := hid hl0
    rw [hd] at hn hl ⊢
    rw [hd] at HC
    have hd0 : (0 : Int) ≤ (d : Int) := by omega
    have hd1 : (d : Int) < (d : Int) + 1 := by omega
    have hz0 : ((d : Int) + 1 == 0) = false := by rw [beq_eq_false_iff_ne]; omega
    clear h ht hs hm hl0 hd
    go_enter Try.func15, Try.ntmps15
    go_wp2_with fail
    refine HC.out.mono ?_
    rintro e w1 ⟨v1, rfl, ho, hb⟩
    have B := hid hb
    rcases ho with ⟨h00, _⟩ | ⟨b0, c1, rs, rfl, hb0, hrow, hn3, hc3, hw⟩
    · exact absurd h00 HL0.out
    rw [HD.out] at hrow hn3 hw ⊢
    have ROW := hid hrow
    have HB := hid hb0
    have HW := hid hw
    unfold maxLen at hc3
    clear hrow hb0 hw hb HC
    obtain ⟨s4a, p4a, n4a, c4a, s4b, p4b, n4b, c4b, hz4⟩ : ∃ s4a p4a n4a c4a s4b p4b n4b c4b, rs d = ((s4a, p4a, n4a, c4a), (s4b, p4b, n4b, c4b)) := ⟨_, _, _, _, _, _, _, _, rfl⟩
    have hr4 := HW.out d (by omega)
    rw [hz4] at hr4
    dsimp only [nag] at hr4
    have HT := hid hr4
    clear hr4
    have LB := hid ROW.out.lt
    have cr := ROW.out.cells (show d < d + 1 by omega)
    rw [hz4] at cr
    obtain ⟨hb11, hx12, hs13⟩ := Nbx.made w1 s4a s4b (.slice p4a n4a c4a) (.slice p4b n4b c4b)
    replace HT := nf HT hb11
    replace ROW := rwo ROW hb11
    replace HW := hid (fun q_ hq_ => (HW.out q_ hq_).on hb11)
    replace B := bb B hb11
    have X4 := hid hx12
    clear hb11 hx12
    have cc14 := X4.out.cells
    go_wp2_with fail
    generalize hW : w1.alloc (.cells #[.bool s4a, .slice p4a n4a c4a, .bool s4b, .slice p4b n4b c4b] 52) = W15 at *
    clear hW
    obtain ⟨g4, hg4⟩ : ∃ g4, g4 = w1.heap.size := ⟨_, rfl⟩
    rw [← hg4] at X4 LB ⊢
    have L04 := LB
    clear hg4 LB cr cc14
    go_loopw [20] (fun x wr => ∃ (i : Nat) (rs : Nat → Nr), i ≤ d + 1 ∧ x = .int .i64 i ∧ Hid (NRw wr b0 (d + 1) rs) ∧ Hid (∀ t, t < d + 1 → NF wr (nag (rs t)) (dvi l (co l d) i t)) ∧ Hid (Nbx wr g4 s4a (.slice p4a n4a c4a) s4b (.slice p4b n4b c4b)) ∧ Hid (NF wr (.agg #[.bool s4a, .slice p4a n4a c4a, .bool s4b, .slice p4b n4b c4b]) (co l d)) ∧ Hid (Below w.heap.size w wr)) (fun x _ => d + 1 - (intOf x).toNat)
    case atStart => exact ⟨0, rs, by omega, rfl, ROW, hid (fun t ht => (HW.out t ht).cast (if_neg (by omega)).symm), X4, HT, B⟩
    case round =>
      clear ROW HW X4 HT B
      obtain ⟨i, rs, hi, rfl, ROW, HW, X4, HT, B⟩ := hrel
      by_cases hlt : i < d + 1
      · obtain ⟨s5a, p5a, n5a, c5a, s5b, p5b, n5b, c5b, hz5⟩ : ∃ s5a p5a n5a c5a s5b p5b n5b c5b, rs i = ((s5a, p5a, n5a, c5a), (s5b, p5b, n5b, c5b)) := ⟨_, _, _, _, _, _, _, _, rfl⟩
        have hq5 := HW.out i hlt
        rw [hz5, dvi, if_neg (by omega)] at hq5
        dsimp only [nag] at hq5
        have HQ := hid hq5
        clear hq5
        have L44 := hid X4.out.lt
        have cr := ROW.out.cells hlt
        rw [hz5] at cr
        obtain ⟨hb201, hx202, hs203⟩ := Nbx.made wr s5a s5b (.slice p5a n5a c5a) (.slice p5b n5b c5b)
        have L3 := hid X4.out.lt
        replace X4 := nx X4 hb201
        replace HT := nf HT hb201
        replace HQ := nf HQ hb201
        replace ROW := rwo ROW hb201
        replace HW := hid (fun q_ hq_ => (HW.out q_ hq_).on hb201)
        replace B := bb B hb201
        have X6 := hid hx202
        clear hb201 hx202
        have cc204 := X4.out.cells
        have cc205 := X6.out.cells
        go_wp2_with fail
        refine (ndiv_f HQ.out HT.out (SL.out.2 i) (SL.out.2 d) H0.out HM.out HM.out).mono ?_
        rintro e w206 ⟨v, rfl, hv, hb⟩
        obtain ⟨s8a, p8a, n8a, c8a, s8b, p8b, n8b, c8b, rfl⟩ := hv.opened
        replace X4 := nx X4 hb
        replace X6 := nx X6 hb
        replace HT := nf HT hb
        replace HQ := nf HQ hb
        replace ROW := rwo ROW hb
        replace HW := hid (fun q_ hq_ => (HW.out q_ hq_).on hb)
        replace B := bb B hb
        clear cc204 cc205
        have HX := hid hv
        clear hb hv cr
        have cc207 := ROW.out.stores hlt
        replace X4 := hid (X4.out.kept (ROW.out.far i (by have := HB.out; have := L04.out; have := L44.out; have := L3.out; omega) s8a p8a n8a c8a s8b p8b n8b c8b))
        replace X6 := hid (X6.out.kept (ROW.out.far i (by have := HB.out; have := L04.out; have := L44.out; have := L3.out; omega) s8a p8a n8a c8a s8b p8b n8b c8b))
        replace HT := hid (HT.out.put ROW.out i s8a p8a n8a c8a s8b p8b n8b c8b)
        replace HQ := hid (HQ.out.put ROW.out i s8a p8a n8a c8a s8b p8b n8b c8b)
        replace HX := hid (HX.out.put ROW.out i s8a p8a n8a c8a s8b p8b n8b c8b)
        replace HW := hid (fun q_ hq_ => (HW.out q_ hq_).put ROW.out i s8a p8a n8a c8a s8b p8b n8b c8b)
        replace B := hid (ROW.out.below B.out i (by have := HB.out; have := L04.out; have := L44.out; have := L3.out; omega) s8a p8a n8a c8a s8b p8b n8b c8b)
        replace ROW := hid (ROW.out.put hlt s8a p8a n8a c8a s8b p8b n8b c8b)
        go_wp2_with fail
        go_roundw
        case rel => exact ⟨i + 1, _, by omega, by go_num, ROW, hid (fun t ht => by
            by_cases e : t = i
            · subst e; rw [upd_self, dvi, if_pos (by omega)]; exact HX.out
            · rw [upd_ne _ _ e]; exact (HW.out t ht).cast (by unfold dvi; by_cases h : t < i; rw [if_pos h, if_pos (by omega)]; rw [if_neg h, if_neg (by omega)])), X4, HT, B⟩
        case measure => simp [intOf]; omega
      · obtain rfl : i = d + 1 := by omega
        have HP2 : Hid (PN wr (.slice (some ⟨b0, 0, none⟩) (d + 1) c1) (mnc l)) := hid (ROW.out.pn (by rw [mnc_len HTR.out HL0.out]; exact HD.out) hn3 (by unfold maxLen; omega) (fun t ht => (HW.out t ht).cast (by
          rw [dvi, if_pos ht, co_mnc, top, HD.out, Nat.add_sub_cancel, Rat.div_def, Rat.div_def]; grind)))
        go_wp2_with fail
        go_ret
        exact ⟨_, rfl, HP2.out, B.out⟩

end Go.Proofs.Ytkenlaikhnoldaa

/-
  PACKAGE pgcd: cleared.
-/
namespace Go.Proofs.Ytkenlaikhnoldaa
open Go.RowKit
open Num
set_option linter.unusedVariables false
set_option maxRecDepth 100000
set_option linter.unusedSimpArgs false

theorem den_dvd {q : Rat} {D z : Int} (e : q * (D : Rat) = (z : Rat)) : (q.den : Int) ∣ D := by
  have h1 : q * ((q.den : Int) : Rat) = (q.num : Rat) := by
    have h2 := Rat.num_divInt_den q
    have h3 : ((q.den : Int) : Rat) ≠ 0 := int_ne (by have := q.den_pos; omega)
    rw [Rat.divInt_eq_div] at h2
    have h4 : (q.num : Rat) / ((q.den : Int) : Rat) * ((q.den : Int) : Rat) = (q.num : Rat) := Rat.div_mul_cancel h3
    rw [h2] at h4
    exact h4
  have h2 : ((q.num * D : Int) : Rat) = ((z * q.den : Int) : Rat) := by
    rw [Rat.intCast_mul, Rat.intCast_mul, ← h1, ← e]; grind
  have h3 : q.num * D = z * q.den := by exact_mod_cast h2
  have h4 : q.den ∣ q.num.natAbs * D.natAbs := by
    rw [← Int.natAbs_mul, h3, Int.natAbs_mul]
    exact Nat.dvd_mul_left _ _
  exact Int.ofNat_dvd_left.2 (Nat.Coprime.dvd_of_dvd_mul_left q.reduced.symm h4)
theorem lcm_parts {M y : Int} (hM : M ≠ 0) (hy : y ≠ 0) : ((Int.gcd M y : Nat) : Int) ≠ 0 ∧ M * (y / (Int.gcd M y : Nat)) ≠ 0 ∧ y ∣ M * (y / (Int.gcd M y : Nat)) ∧ ∀ D, M ∣ D → y ∣ D → M * (y / (Int.gcd M y : Nat)) ∣ D := by
  have hg : Int.gcd M y ≠ 0 := fun e => hM (Int.gcd_eq_zero_iff.1 e).1
  have hgi : ((Int.gcd M y : Nat) : Int) ≠ 0 := by omega
  obtain ⟨a, ha⟩ := Int.gcd_dvd_left M y
  obtain ⟨b, hb⟩ := Int.gcd_dvd_right M y
  have hyb : y / (Int.gcd M y : Nat) = b := by
    rw [show y / ((Int.gcd M y : Nat) : Int) = (((Int.gcd M y : Nat) : Int) * b) / ((Int.gcd M y : Nat) : Int) by rw [← hb]]
    exact Int.mul_ediv_cancel_left b hgi
  have hb0 : b ≠ 0 := by rintro rfl; exact hy (by rw [hb]; omega)
  rw [hyb]
  refine ⟨hgi, Int.mul_ne_zero hM hb0, ⟨a, ?_⟩, fun D h1 h2 => ?_⟩
  · generalize ((Int.gcd M y : Nat) : Int) = g at *
    rw [ha, hb]; grind
  · have h3 : Nat.lcm M.natAbs y.natAbs ∣ D.natAbs := Nat.lcm_dvd (Int.natAbs_dvd_natAbs.2 h1) (Int.natAbs_dvd_natAbs.2 h2)
    have h4 : (M * b).natAbs = Nat.lcm M.natAbs y.natAbs := by
      have h5 : y.natAbs = Int.gcd M y * b.natAbs := by
        have := congrArg Int.natAbs hb
        rwa [Int.natAbs_mul, Int.natAbs_natCast] at this
      have h6 : Nat.gcd M.natAbs y.natAbs * Nat.lcm M.natAbs y.natAbs = M.natAbs * y.natAbs := Nat.gcd_mul_lcm _ _
      have h7 : Nat.gcd M.natAbs y.natAbs = Int.gcd M y := rfl
      rw [h7] at h6
      have h8 : Int.gcd M y * Nat.lcm M.natAbs y.natAbs = Int.gcd M y * (M * b).natAbs := by
        rw [h6, Int.natAbs_mul, h5]; grind
      exact (Nat.eq_of_mul_eq_mul_left (by omega) h8).symm
    exact Int.natAbs_dvd_natAbs.1 (by rw [h4]; exact h3)
theorem dvd_le {M D : Int} (h : M ∣ D) (hD : D ≠ 0) : M.natAbs ≤ D.natAbs := Nat.le_of_dvd (by omega) (Int.natAbs_dvd_natAbs.2 h)
/-- A coefficient, times what goes into the denominator of all. -/
theorem clr_co {q : Rat} {M : Int} (h : (q.den : Int) ∣ M) : ((q.num * (M / q.den) : Int) : Rat) = q * (M : Rat) := by
  have h1 : q * ((q.den : Int) : Rat) = (q.num : Rat) := by
    have h2 := Rat.num_divInt_den q
    have h3 : ((q.den : Int) : Rat) ≠ 0 := int_ne (by have := q.den_pos; omega)
    rw [Rat.divInt_eq_div] at h2
    have h4 : (q.num : Rat) / ((q.den : Int) : Rat) * ((q.den : Int) : Rat) = (q.num : Rat) := Rat.div_mul_cancel h3
    rw [h2] at h4
    exact h4
  obtain ⟨y, hy⟩ := h
  have h2 : M / (q.den : Int) = y := by rw [hy]; exact Int.mul_ediv_cancel_left y (by have := q.den_pos; omega)
  rw [h2, hy, Rat.intCast_mul, Rat.intCast_mul, ← h1]; grind
theorem clr_zm {q : Rat} {M D z : Int} {m : Nat} (h : (q.den : Int) ∣ M) (hM : M ∣ D) (hD : D ≠ 0) (e : q * (D : Rat) = (z : Rat)) (hz : Zm z m) : Zm (q.num * (M / q.den)) m := by
  obtain ⟨y, hy⟩ := hM
  have h1 := clr_co h
  generalize q.num * (M / q.den) = N at *
  have h2 : ((N * y : Int) : Rat) = (z : Rat) := by
    rw [Rat.intCast_mul, h1, ← e, hy, Rat.intCast_mul]; grind
  have h3 : N * y = z := by exact_mod_cast h2
  have h4 : y ≠ 0 := by rintro rfl; exact hD (by rw [hy]; omega)
  refine hz.le ?_
  rw [← h3, Int.natAbs_mul]
  exact Nat.le_mul_of_pos_right _ (by omega)
theorem nparts_f {w : World} {v : Value} {q : Rat} {m : Nat} (h : NF w v q) (hs : Sm q m) :
    Calls Try.prog 41 #[v] w fun e w' => ∃ v u, e = .returned (.tuple #[v, u]) ∧ ZF w' v q.num ∧ ZF w' u q.den ∧ Below w.heap.size w w' := by
  refine (parts_rtl (h.sm hs) hs.pos).mono ?_
  rintro e w' ⟨v, u, rfl, hv, hu, hb⟩
  exact ⟨v, u, rfl, hv.zf, hu.zf, hb⟩

set_option maxHeartbeats 8000000 in
/-- Without denominators. -/
theorem zclear_p {w : World} {v : Value} {l : List Rat} {m : Nat} (h : PN w v l) (hs : Cml l m) (hm : m ≤ 68719476736) (hl : l.length ≤ 1000000) :
    Calls Try.prog 32 #[v] w fun e w' => ∃ (v' : Value) (L : List Int) (M : Int), e = .returned v' ∧ IN w' v' L ∧ Ztr L ∧ L.length ≤ l.length ∧ M ≠ 0 ∧ (∀ i, ((zc L i : Int) : Rat) = co l i * (M : Rat)) ∧ Zl L m ∧ Below w.heap.size w w' := by
  obtain ⟨a, c, rfl, hn1, hc1⟩ := h.opened
  have SL := hid hs.sml
  obtain ⟨hm1, D, hD, hDm, hDz⟩ := hs
  have HP := hid h
  have HM := hid hm
  have HD0 := hid hD
  have HZ := hid hDz
  have HDM : Hid (Zm D m) := hid hDm
  obtain ⟨nl, hNL⟩ : ∃ nl, l.length = nl := ⟨_, rfl⟩
  have NL := hid hNL
  rw [hNL] at hn1 hl HP
  rw [hNL]
  unfold maxLen at hc1
  have B := hid (Below.refl w.heap.size w)
  clear  h hm hD hDz hDm hNL hm1
  go_enter Try.func32, Try.ntmps32
  go_wp2_with fail
  refine (of_small 1 (by decide) _).mono ?_
  rintro e w1 ⟨v, rfl, hv, hb⟩
  obtain ⟨s3, p3, n3, c3, rfl⟩ := hv.opened
  replace B := bb B hb
  have HV := hid hv.zf
  clear hb hv
  have HB0 := hid B.out.size
  obtain ⟨hb2, hx3, hs4⟩ := Box.made w1 s3 p3 n3 c3
  replace HV := zf HV hb2
  replace B := bb B hb2
  have X3 := hid hx3
  clear hb2 hx3
  have cc5 := X3.out.both
  go_wp2_with fail
  generalize hW : w1.alloc (.cells #[.bool s3, .slice p3 n3 c3] 50) = W6 at *
  clear hW
  obtain ⟨g3, hg3⟩ : ∃ g3, g3 = w1.heap.size := ⟨_, rfl⟩
  have L3 := hid X3.out.lt
  rw [← hg3] at X3 HB0 L3 ⊢
  clear hg3 L3 cc5
  go_loopw [16] (fun x wr => ∃ (i : Nat) (M : Int) (s3 : Bool) (p3 : Option Addr) (n3 c3 : Nat), i ≤ nl ∧ x = .int .i64 i ∧ Hid (M ≠ 0 ∧ M ∣ D ∧ ∀ t, t < i → ((co l t).den : Int) ∣ M) ∧ Hid (Box wr g3 s3 (.slice p3 n3 c3)) ∧ Hid (ZF wr (.agg #[.bool s3, .slice p3 n3 c3]) M) ∧ Hid (Below w.heap.size w wr)) (fun x _ => nl - (intOf x).toNat)
  case atStart => exact ⟨0, 1, _, _, _, _, by omega, rfl, hid ⟨by decide, Int.one_dvd _, fun t ht => by omega⟩, X3, HV, B⟩
  case round =>
    clear X3 HV B
    obtain ⟨i, M, s3, p3, n3, c3, hi, rfl, HM0, X3, HV, B⟩ := hrel
    have ZM := hid (HDM.out.le (dvd_le HM0.out.2.1 HD0.out))
    by_cases hlt : i < nl
    · obtain ⟨b5, s5a, p5a, n5a, c5a, s5b, p5b, n5b, c5b, rfl, hb5, cd5, hq5⟩ := pn_at HP.out B.out (i := i) (by rw [NL.out]; exact hlt)
      have HQ := hid hq5
      have DD : Hid (((co l i).den : Int) ∣ D) := hid (by obtain ⟨z, _, hz⟩ := HZ.out i; exact den_dvd hz)
      have hdn : ((co l i).den : Int) ≠ 0 := by have := (co l i).den_pos; omega
      have HL := hid (lcm_parts HM0.out.1 hdn)
      have ZD := hid (HDM.out.le (dvd_le DD.out HD0.out))
      have ZG := hid (ZD.out.le (dvd_le (Int.gcd_dvd_right M ((co l i).den : Int)) hdn))
      have ZY : Hid (Zm (((co l i).den : Int) / (Int.gcd M ((co l i).den : Int) : Nat)) m) := hid (ZD.out.le (Int.natAbs_ediv_le_natAbs _ _))
      clear hq5 hdn
      have L33 := hid X3.out.lt
      obtain ⟨hb101, hx102, hs103⟩ := Nbx.made wr s5a s5b (.slice p5a n5a c5a) (.slice p5b n5b c5b)
      have L2 := hid X3.out.lt
      replace X3 := bx X3 hb101
      replace HQ := nf HQ hb101
      replace HV := zf HV hb101
      replace B := bb B hb101
      have X5 := hid hx102
      clear hb101 hx102
      have cc104 := X3.out.both
      have cc105 := X5.out.cells
      go_wp2_with fail
      refine (nparts_f HQ.out (SL.out.2 i)).mono ?_
      rintro e w106 ⟨v, u, rfl, hv, hu, hb⟩
      obtain ⟨s6, p6, n6, c6, rfl⟩ := hv.opened
      obtain ⟨s7, p7, n7, c7, rfl⟩ := hu.opened
      replace X3 := bx X3 hb
      replace HV := zf HV hb
      replace B := bb B hb
      clear cc104 cc105
      have HT := hid hv
      have HU := hid hu
      clear hb hv hu cd5
      obtain ⟨hb107, hx108, hs109⟩ := Box.made w106 s6 p6 n6 c6
      have L3 := hid X3.out.lt
      replace X3 := bx X3 hb107
      replace HV := zf HV hb107
      replace HU := zf HU hb107
      replace B := bb B hb107
      have X6 := hid hx108
      clear hb107 hx108
      obtain ⟨hb110, hx111, hs112⟩ := Box.made (w106.alloc (.cells #[.bool s6, .slice p6 n6 c6] 50)) s7 p7 n7 c7
      rw [hs109] at hx111 hs112
      replace X3 := bx X3 hb110
      replace HV := zf HV hb110
      replace HU := zf HU hb110
      replace B := bb B hb110
      have X7 := hid hx111
      clear hb110 hx111
      have cc113 := X3.out.both
      have cc114 := X7.out.both
      go_wp2_with fail
      generalize hW : (w106.alloc (.cells #[.bool s6, .slice p6 n6 c6] 50)).alloc (.cells #[.bool s7, .slice p7 n7 c7] 50) = W115 at *
      clear hW
      clear cc113 cc114
      have LX3 := hid X3.out.lt
      refine region_ops (by kernel_rfl) (by kernel_rfl) (fun a f a' w' => ∃ u25 u26 u27 u28 u29 u30 u31 : Value, a' = { tmps := (((((((a.tmps.setIfInBounds 25 u25).setIfInBounds 26 u26).setIfInBounds 27 u27).setIfInBounds 28 u28).setIfInBounds 29 u29).setIfInBounds 30 u30).setIfInBounds 31 u31), defers := a.defers } ∧ Hid (Below W115.heap.size W115 w' ∨ f 7 = true) ∧ Hid (f 0 = true → u25 = (.agg #[.bool s3, .slice p3 n3 c3])) ∧ Hid (f 1 = true → u26 = (.agg #[.bool s7, .slice p7 n7 c7])) ∧ Hid (f 2 = true → u27 = (.agg #[.bool s3, .slice p3 n3 c3])) ∧ Hid (f 3 = true → u28 = (.agg #[.bool s7, .slice p7 n7 c7])) ∧ Hid (f 4 = true → (ZF w' u29 (((Int.gcd M ((co l i).den : Int) : Nat) : Int)) ∨ f 7 = true)) ∧ Hid (f 5 = true → (ZF w' u30 (((co l i).den : Int) / ((Int.gcd M ((co l i).den : Int) : Nat) : Int)) ∨ f 7 = true)) ∧ Hid (f 6 = true → (ZF w' u31 (M * (((co l i).den : Int) / ((Int.gcd M ((co l i).den : Int) : Nat) : Int))) ∨ f 7 = true)) ∧ Hid (f 7 = true → ∃ w2 s4 p4 n4 c4, Below W115.heap.size W115 w2 ∧ ZF w2 (.agg #[.bool s4, .slice p4 n4 c4]) (M * (((co l i).den : Int) / ((Int.gcd M ((co l i).den : Int) : Nat) : Int))) ∧ w' = (w2.setCell ⟨g3, 0, none⟩ (.bool s4)).setCell ⟨g3, 1, none⟩ (.slice p4 n4 c4)) ∧ (f 7 = true → f 0 = true) ∧ (f 7 = true → f 1 = true) ∧ (f 7 = true → f 2 = true) ∧ (f 7 = true → f 3 = true) ∧ (f 7 = true → f 4 = true) ∧ (f 7 = true → f 5 = true) ∧ (f 7 = true → f 6 = true)) ?h0 ⟨?s0, ?s1, ?s2, ?s3, ?s4, ?s5, ?s6, ?s7, trivial⟩ ?hend
      case h0 =>
        simp only [List.setIfInBounds_toArray, List.set_cons_zero, List.set_cons_succ]
        exact ⟨_, _, _, _, _, _, _, rfl, hid (.inl (Below.drew (Below.refl _ _))), hid (fun h => by cases h), hid (fun h => by cases h), hid (fun h => by cases h), hid (fun h => by cases h), hid (fun h => by cases h), hid (fun h => by cases h), hid (fun h => by cases h), hid (fun h => by cases h), fun h => h, fun h => h, fun h => h, fun h => h, fun h => h, fun h => h, fun h => h⟩
      case s0 =>
        rintro f a1 w1 ⟨u25, u26, u27, u28, u29, u30, u31, rfl, HBW, h0, h1, h2, h3, h4, h5, h6, h7, o7_0, o7_1, o7_2, o7_3, o7_4, o7_5, o7_6⟩ hf hd K hK
        replace HBW := hid (HBW.out.resolve_right (fun e => absurd (o7_0 e) (by rw [hf]; decide)))
        simp only [List.setIfInBounds_toArray, List.set_cons_zero, List.set_cons_succ] at hK ⊢
        replace hK := hid hK
        obtain ⟨y1, y2⟩ := (X3.out.below HBW.out X3.out.lt).both
        go_simp
        exact hK.out _ _ ⟨_, _, _, _, _, _, _, rfl, hid (.inl (HBW).out), hid (fun h => rfl), hid (fun h => h1.out h), hid (fun h => h2.out h), hid (fun h => h3.out h), hid (fun h => h4.out h), hid (fun h => h5.out h), hid (fun h => h6.out h), hid (fun h => absurd (o7_0 h) (by rw [hf]; decide)), fun _ => rfl, fun h => o7_1 h, fun h => o7_2 h, fun h => o7_3 h, fun h => o7_4 h, fun h => o7_5 h, fun h => o7_6 h⟩
      case s1 =>
        rintro f a1 w1 ⟨u25, u26, u27, u28, u29, u30, u31, rfl, HBW, h0, h1, h2, h3, h4, h5, h6, h7, o7_0, o7_1, o7_2, o7_3, o7_4, o7_5, o7_6⟩ hf hd K hK
        replace HBW := hid (HBW.out.resolve_right (fun e => absurd (o7_1 e) (by rw [hf]; decide)))
        simp only [List.setIfInBounds_toArray, List.set_cons_zero, List.set_cons_succ] at hK ⊢
        replace hK := hid hK
        obtain ⟨y1, y2⟩ := (X7.out.below HBW.out X7.out.lt).both
        go_simp
        exact hK.out _ _ ⟨_, _, _, _, _, _, _, rfl, hid (.inl (HBW).out), hid (fun h => h0.out h), hid (fun h => rfl), hid (fun h => h2.out h), hid (fun h => h3.out h), hid (fun h => h4.out h), hid (fun h => h5.out h), hid (fun h => h6.out h), hid (fun h => absurd (o7_1 h) (by rw [hf]; decide)), fun h => o7_0 h, fun _ => rfl, fun h => o7_2 h, fun h => o7_3 h, fun h => o7_4 h, fun h => o7_5 h, fun h => o7_6 h⟩
      case s2 =>
        rintro f a1 w1 ⟨u25, u26, u27, u28, u29, u30, u31, rfl, HBW, h0, h1, h2, h3, h4, h5, h6, h7, o7_0, o7_1, o7_2, o7_3, o7_4, o7_5, o7_6⟩ hf hd K hK
        replace HBW := hid (HBW.out.resolve_right (fun e => absurd (o7_2 e) (by rw [hf]; decide)))
        simp only [List.setIfInBounds_toArray, List.set_cons_zero, List.set_cons_succ] at hK ⊢
        replace hK := hid hK
        obtain ⟨y1, y2⟩ := (X3.out.below HBW.out X3.out.lt).both
        go_simp
        exact hK.out _ _ ⟨_, _, _, _, _, _, _, rfl, hid (.inl (HBW).out), hid (fun h => h0.out h), hid (fun h => h1.out h), hid (fun h => rfl), hid (fun h => h3.out h), hid (fun h => h4.out h), hid (fun h => h5.out h), hid (fun h => h6.out h), hid (fun h => absurd (o7_2 h) (by rw [hf]; decide)), fun h => o7_0 h, fun h => o7_1 h, fun _ => rfl, fun h => o7_3 h, fun h => o7_4 h, fun h => o7_5 h, fun h => o7_6 h⟩
      case s3 =>
        rintro f a1 w1 ⟨u25, u26, u27, u28, u29, u30, u31, rfl, HBW, h0, h1, h2, h3, h4, h5, h6, h7, o7_0, o7_1, o7_2, o7_3, o7_4, o7_5, o7_6⟩ hf hd K hK
        replace HBW := hid (HBW.out.resolve_right (fun e => absurd (o7_3 e) (by rw [hf]; decide)))
        simp only [List.setIfInBounds_toArray, List.set_cons_zero, List.set_cons_succ] at hK ⊢
        replace hK := hid hK
        obtain ⟨y1, y2⟩ := (X7.out.below HBW.out X7.out.lt).both
        go_simp
        exact hK.out _ _ ⟨_, _, _, _, _, _, _, rfl, hid (.inl (HBW).out), hid (fun h => h0.out h), hid (fun h => h1.out h), hid (fun h => h2.out h), hid (fun h => rfl), hid (fun h => h4.out h), hid (fun h => h5.out h), hid (fun h => h6.out h), hid (fun h => absurd (o7_3 h) (by rw [hf]; decide)), fun h => o7_0 h, fun h => o7_1 h, fun h => o7_2 h, fun _ => rfl, fun h => o7_4 h, fun h => o7_5 h, fun h => o7_6 h⟩
      case s4 =>
        rintro f a1 w1 ⟨u25, u26, u27, u28, u29, u30, u31, rfl, HBW, h0, h1, h2, h3, h4, h5, h6, h7, o7_0, o7_1, o7_2, o7_3, o7_4, o7_5, o7_6⟩ hf hd K hK
        replace HBW := hid (HBW.out.resolve_right (fun e => absurd (o7_4 e) (by rw [hf]; decide)))
        simp only [List.setIfInBounds_toArray, List.set_cons_zero, List.set_cons_succ] at hK ⊢
        replace hK := hid hK
        simp [Region.binds] at hd
        obtain rfl := h2.out (by simp only [hd])
        obtain rfl := h3.out (by simp only [hd])
        go_simp
        refine (zgcd_f (HV.out.on HBW.out) (HU.out.on HBW.out) ZM.out ZD.out HM.out).mono ?_
        rintro e w2 ⟨v, rfl, hv, hb⟩
        go_wp2_with fail
        exact hK.out _ _ ⟨_, _, _, _, _, _, _, rfl, hid (.inl (hid (below_next HBW.out hb)).out), hid (fun h => h0.out h), hid (fun h => h1.out h), hid (fun h => rfl), hid (fun h => rfl), hid (fun h => .inl hv), hid (fun h => (h5.out h).imp (fun h => h.on hb) id), hid (fun h => (h6.out h).imp (fun h => h.on hb) id), hid (fun h => absurd (o7_4 h) (by rw [hf]; decide)), fun h => o7_0 h, fun h => o7_1 h, fun h => o7_2 h, fun h => o7_3 h, fun _ => rfl, fun h => o7_5 h, fun h => o7_6 h⟩
      case s5 =>
        rintro f a1 w1 ⟨u25, u26, u27, u28, u29, u30, u31, rfl, HBW, h0, h1, h2, h3, h4, h5, h6, h7, o7_0, o7_1, o7_2, o7_3, o7_4, o7_5, o7_6⟩ hf hd K hK
        replace HBW := hid (HBW.out.resolve_right (fun e => absurd (o7_5 e) (by rw [hf]; decide)))
        simp only [List.setIfInBounds_toArray, List.set_cons_zero, List.set_cons_succ] at hK ⊢
        replace hK := hid hK
        simp [Region.binds] at hd
        obtain rfl := h1.out (by simp only [hd])
        have NF : f 7 = false := by cases e : f 7 with | false => rfl | true => exact absurd (o7_5 e) (by rw [hf]; decide)
        have h4a := (h4.out (by simp only [hd])).resolve_right (fun e => by rw [NF] at e; cases e)
        go_simp
        refine (zdivd_f (HU.out.on HBW.out) h4a HL.out.1 ZD.out ZG.out HM.out HM.out).mono ?_
        rintro e w2 ⟨v, rfl, hv, hb⟩
        go_wp2_with fail
        exact hK.out _ _ ⟨_, _, _, _, _, _, _, rfl, hid (.inl (hid (below_next HBW.out hb)).out), hid (fun h => h0.out h), hid (fun h => rfl), hid (fun h => h2.out h), hid (fun h => h3.out h), hid (fun h => (h4.out h).imp (fun h => h.on hb) id), hid (fun h => .inl hv), hid (fun h => (h6.out h).imp (fun h => h.on hb) id), hid (fun h => absurd (o7_5 h) (by rw [hf]; decide)), fun h => o7_0 h, fun h => o7_1 h, fun h => o7_2 h, fun h => o7_3 h, fun h => o7_4 h, fun _ => rfl, fun h => o7_6 h⟩
      case s6 =>
        rintro f a1 w1 ⟨u25, u26, u27, u28, u29, u30, u31, rfl, HBW, h0, h1, h2, h3, h4, h5, h6, h7, o7_0, o7_1, o7_2, o7_3, o7_4, o7_5, o7_6⟩ hf hd K hK
        replace HBW := hid (HBW.out.resolve_right (fun e => absurd (o7_6 e) (by rw [hf]; decide)))
        simp only [List.setIfInBounds_toArray, List.set_cons_zero, List.set_cons_succ] at hK ⊢
        replace hK := hid hK
        simp [Region.binds] at hd
        obtain rfl := h0.out (by simp only [hd])
        have NF : f 7 = false := by cases e : f 7 with | false => rfl | true => exact absurd (o7_6 e) (by rw [hf]; decide)
        have h5a := (h5.out (by simp only [hd])).resolve_right (fun e => by rw [NF] at e; cases e)
        go_simp
        refine (zmul_f (HV.out.on HBW.out) h5a ZM.out ZY.out HM.out HM.out).mono ?_
        rintro e w2 ⟨v, rfl, hv, hb⟩
        go_wp2_with fail
        exact hK.out _ _ ⟨_, _, _, _, _, _, _, rfl, hid (.inl (hid (below_next HBW.out hb)).out), hid (fun h => rfl), hid (fun h => h1.out h), hid (fun h => h2.out h), hid (fun h => h3.out h), hid (fun h => (h4.out h).imp (fun h => h.on hb) id), hid (fun h => (h5.out h).imp (fun h => h.on hb) id), hid (fun h => .inl hv), hid (fun h => absurd (o7_6 h) (by rw [hf]; decide)), fun h => o7_0 h, fun h => o7_1 h, fun h => o7_2 h, fun h => o7_3 h, fun h => o7_4 h, fun h => o7_5 h, fun _ => rfl⟩
      case s7 =>
        rintro f a1 w1 ⟨u25, u26, u27, u28, u29, u30, u31, rfl, HBW, h0, h1, h2, h3, h4, h5, h6, h7, o7_0, o7_1, o7_2, o7_3, o7_4, o7_5, o7_6⟩ hf hd K hK
        replace HBW := hid (HBW.out.resolve_right (fun e => by rw [hf] at e; cases e))
        simp only [List.setIfInBounds_toArray, List.set_cons_zero, List.set_cons_succ] at hK ⊢
        replace hK := hid hK
        simp [Region.binds] at hd
        have h6a := (h6.out (by simp only [hd])).resolve_right (fun e => by rw [hf] at e; cases e)
        obtain ⟨s4, p4, n4, c4, rfl⟩ := h6a.opened
        obtain ⟨y1, y2, y3, y4⟩ := (X3.out.below HBW.out X3.out.lt).stores
        go_simp
        exact hK.out _ _ ⟨_, _, _, _, _, _, _, rfl, hid (.inr rfl), hid (fun h => h0.out h), hid (fun h => h1.out h), hid (fun h => h2.out h), hid (fun h => h3.out h), hid (fun h => .inr rfl), hid (fun h => .inr rfl), hid (fun h => .inr rfl), hid (fun h => ⟨_, _, _, _, _, HBW.out, h6a, rfl⟩), fun _ => (show f 0 = true from by simp only [hd]), fun _ => (show f 1 = true from by simp only [hd]), fun _ => (show f 2 = true from by simp only [hd]), fun _ => (show f 3 = true from by simp only [hd]), fun _ => (show f 4 = true from by simp only [hd]), fun _ => (show f 5 = true from by simp only [hd]), fun _ => (show f 6 = true from by simp only [hd])⟩
      case hend =>
        rintro f a1 w' ⟨u25, u26, u27, u28, u29, u30, u31, rfl, HBW, h0, h1, h2, h3, h4, h5, h6, h7, _⟩ hall
        simp only [List.setIfInBounds_toArray, List.set_cons_zero, List.set_cons_succ]
        obtain ⟨w2, s4, p4, n4, c4, hb, hv, rfl⟩ := h7.out (hall 7 (by decide))
        clear HBW hall h0 h1 h2 h3 h4 h5 h6 h7
        replace X3 := bx X3 hb
        replace B := bb B hb
        have HX := hid hv
        clear hb hv
        have cc301 := X3.out.stores
        obtain ⟨r302a, r302b, r302c⟩ := X3.out.last B.out (by have := HB0.out; omega) s4 p4 n4 c4
        replace HX := hid (HX.out.moved fun _ _ _ hv => r302c hv)
        replace X3 := hid r302a
        replace B := hid r302b
        clear r302a r302b r302c
        go_wp2_with fail
        go_roundw
        case rel => exact ⟨i + 1, _, _, _, _, _, by omega, by go_num, hid ⟨HL.out.2.1, HL.out.2.2.2 D HM0.out.2.1 DD.out, fun t ht => by
            by_cases e : t = i
            · subst e; exact HL.out.2.2.1
            · exact Int.dvd_mul_of_dvd_left (HM0.out.2.2 t (by omega))⟩, X3, HX, B⟩
        case measure => simp [intOf]; omega
    · obtain rfl : i = nl := by omega
      have LB0 := hid B.out.size
      have L3 := hid X3.out.lt
      go_wp2_with (refine wpList_make_is _ rfl _ _ _ rfl Try.underlying63 i rfl rfl (by omega) ?_)
      intro w0 hrow hb0 hs0
      replace X3 := bx X3 hb0
      replace HV := zf HV hb0
      replace B := bb B hb0
      have ROW := hid hrow
      clear hrow hb0 hs0
      generalize wr.heap.size = b0 at *
      have HB3 := L3
      clear LB0
      go_wp2_with fail
      have W0 : ∃ rs : Nat → Zr, Hid (IRw w0 b0 i rs) := ⟨_, ROW⟩
      clear ROW
      obtain ⟨rs0, ROW⟩ := W0
      obtain ⟨nl, rfl⟩ : ∃ nl, nl = i := ⟨_, rfl⟩
      go_loopw [38] (fun x wr => ∃ (i : Nat) (rs : Nat → Zr), i ≤ nl ∧ x = .int .i64 i ∧ Hid (IRw wr b0 nl rs) ∧ Hid (∀ t, t < i → ZF wr (iag (rs t)) ((co l t).num * (M / (co l t).den))) ∧ Hid (Box wr g3 s3 (.slice p3 n3 c3)) ∧ Hid (ZF wr (.agg #[.bool s3, .slice p3 n3 c3]) M) ∧ Hid (Below w.heap.size w wr)) (fun x _ => nl - (intOf x).toNat)
      case atStart => exact ⟨0, rs0, by omega, rfl, ROW, hid (fun t ht => by omega), X3, HV, B⟩
      case round =>
        clear ROW X3 HV B
        obtain ⟨i, rs, hi, rfl, ROW, HW, X3, HV, B⟩ := hrel
        by_cases hlt : i < nl
        · obtain ⟨b5, s5a, p5a, n5a, c5a, s5b, p5b, n5b, c5b, rfl, hb5, cd5, hq5⟩ := pn_at HP.out B.out (i := i) (by rw [NL.out]; exact hlt)
          have HQ := hid hq5
          have hdn : ((co l i).den : Int) ≠ 0 := by have := (co l i).den_pos; omega
          have HDN := hid hdn
          have ZD : Hid (Zm ((co l i).den : Int) m) := hid (ZM.out.le (dvd_le (HM0.out.2.2 i hlt) HM0.out.1))
          have ZY : Hid (Zm (M / ((co l i).den : Int)) m) := hid (ZM.out.le (Int.natAbs_ediv_le_natAbs _ _))
          have ZT : Hid (Zm (co l i).num m) := hid ((SL.out.2 i).1)
          clear hq5 hdn
          have L00 := hid ROW.out.lt
          obtain ⟨hb401, hx402, hs403⟩ := Nbx.made wr s5a s5b (.slice p5a n5a c5a) (.slice p5b n5b c5b)
          have L3 := hid X3.out.lt
          replace X3 := bx X3 hb401
          replace HQ := nf HQ hb401
          replace HV := zf HV hb401
          replace ROW := rwi ROW hb401
          replace HW := hid (fun q_ hq_ => (HW.out q_ hq_).on hb401)
          replace B := bb B hb401
          have X5 := hid hx402
          clear hb401 hx402
          have cc404 := X3.out.both
          have cc405 := X5.out.cells
          go_wp2_with fail
          refine (nparts_f HQ.out (SL.out.2 i)).mono ?_
          rintro e w406 ⟨v, u, rfl, hv, hu, hb⟩
          obtain ⟨s6, p6, n6, c6, rfl⟩ := hv.opened
          obtain ⟨s7, p7, n7, c7, rfl⟩ := hu.opened
          replace X3 := bx X3 hb
          replace HV := zf HV hb
          replace ROW := rwi ROW hb
          replace HW := hid (fun q_ hq_ => (HW.out q_ hq_).on hb)
          replace B := bb B hb
          clear cc404 cc405
          have HT := hid hv
          have HU := hid hu
          clear hb hv hu cd5
          have LW := hid (show b0 < w406.heap.size from ROW.out.lt)
          obtain ⟨hb407, hx408, hs409⟩ := Box.made w406 s6 p6 n6 c6
          have L5 := hid X3.out.lt
          replace X3 := bx X3 hb407
          replace HV := zf HV hb407
          replace HT := zf HT hb407
          replace HU := zf HU hb407
          replace ROW := rwi ROW hb407
          replace HW := hid (fun q_ hq_ => (HW.out q_ hq_).on hb407)
          replace B := bb B hb407
          have X6 := hid hx408
          clear hb407 hx408
          obtain ⟨hb410, hx411, hs412⟩ := Box.made (w406.alloc (.cells #[.bool s6, .slice p6 n6 c6] 50)) s7 p7 n7 c7
          rw [hs409] at hx411 hs412
          replace X3 := bx X3 hb410
          replace X6 := bx X6 hb410
          replace HV := zf HV hb410
          replace HT := zf HT hb410
          replace HU := zf HU hb410
          replace ROW := rwi ROW hb410
          replace HW := hid (fun q_ hq_ => (HW.out q_ hq_).on hb410)
          replace B := bb B hb410
          have X7 := hid hx411
          clear hb410 hx411
          have cc413 := X3.out.both
          have cc414 := X6.out.both
          have cc415 := X7.out.both
          go_wp2_with fail
          generalize hW : (w406.alloc (.cells #[.bool s6, .slice p6 n6 c6] 50)).alloc (.cells #[.bool s7, .slice p7 n7 c7] 50) = W416 at *
          clear hW
          clear cc413 cc414 cc415
          have cc417 := X3.out.both
          have cc418 := X6.out.both
          have cc419 := X7.out.both
          replace X3 := hid X3.out.dr
          replace X6 := hid X6.out.dr
          replace X7 := hid X7.out.dr
          replace HV := hid HV.out.drew
          replace HT := hid HT.out.drew
          replace HU := hid HU.out.drew
          replace HW := hid (fun q_ hq_ => (HW.out q_ hq_).drew)
          replace ROW := hid ROW.out.dr
          replace B := hid (Below.drew B.out)
          have cc420 := X3.out.both
          have cc421 := X6.out.both
          have cc422 := X7.out.both
          go_region_held3 (fun w' => w'.cell? ⟨g3, 0, none⟩ = some (.bool s3) ∧ w'.cell? ⟨g3, 1, none⟩ = some (.slice p3 n3 c3) ∧ w'.cell? ⟨w406.heap.size, 0, none⟩ = some (.bool s6) ∧ w'.cell? ⟨w406.heap.size, 1, none⟩ = some (.slice p6 n6 c6) ∧ w'.cell? ⟨w406.heap.size + 1, 0, none⟩ = some (.bool s7) ∧ w'.cell? ⟨w406.heap.size + 1, 1, none⟩ = some (.slice p7 n7 c7)) (go_keep) (first
            | (have hm := mk423_0; clear hm; go_at_call 43; refine (zmul_f HT.out HY.out ZT.out ZY.out HM.out HM.out).mono ?_; rintro e w428 ⟨v, rfl, hv, hb⟩; obtain ⟨s4, p4, n4, c4, rfl⟩ := hv.opened; replace X3 := bx X3 hb; replace X6 := bx X6 hb; replace X7 := bx X7 hb; replace HV := zf HV hb; replace HT := zf HT hb; replace HU := zf HU hb; replace HY := zf HY hb; replace ROW := rwi ROW hb; replace HW := hid (fun q_ hq_ => (HW.out q_ hq_).on hb); replace B := bb B hb; clear cc425 cc426 cc427; have HX := hid hv; clear hb hv; have cc429 := X3.out.both; have cc430 := X6.out.both; have cc431 := X7.out.both; have cc432 := ROW.out.stores hlt; replace X3 := hid (X3.out.kept (ROW.out.far i (by have := HB0.out; have := HB3.out; have := L00.out; have := L3.out; have := LW.out; have := L5.out; omega) s4 p4 n4 c4)); replace X6 := hid (X6.out.kept (ROW.out.far i (by have := HB0.out; have := HB3.out; have := L00.out; have := L3.out; have := LW.out; have := L5.out; omega) s4 p4 n4 c4)); replace X7 := hid (X7.out.kept (ROW.out.far i (by have := HB0.out; have := HB3.out; have := L00.out; have := L3.out; have := LW.out; have := L5.out; omega) s4 p4 n4 c4)); replace HV := hid (HV.out.iput ROW.out i s4 p4 n4 c4); replace HT := hid (HT.out.iput ROW.out i s4 p4 n4 c4); replace HU := hid (HU.out.iput ROW.out i s4 p4 n4 c4); replace HY := hid (HY.out.iput ROW.out i s4 p4 n4 c4); replace HX := hid (HX.out.iput ROW.out i s4 p4 n4 c4); replace HW := hid (fun q_ hq_ => (HW.out q_ hq_).iput ROW.out i s4 p4 n4 c4); replace B := hid (ROW.out.below B.out i (by have := HB0.out; have := HB3.out; have := L00.out; have := L3.out; have := LW.out; have := L5.out; omega) s4 p4 n4 c4); replace ROW := hid (ROW.out.put hlt s4 p4 n4 c4); have cc433 := X3.out.both; have cc434 := X6.out.both; have cc435 := X7.out.both; have mk423_1 := hid True.intro)
            | (go_at_call 47; refine (zdivd_f HV.out HU.out HDN.out ZM.out ZD.out HM.out HM.out).mono ?_; rintro e w424 ⟨v, rfl, hv, hb⟩; obtain ⟨s8, p8, n8, c8, rfl⟩ := hv.opened; replace X3 := bx X3 hb; replace X6 := bx X6 hb; replace X7 := bx X7 hb; replace HV := zf HV hb; replace HT := zf HT hb; replace HU := zf HU hb; replace ROW := rwi ROW hb; replace HW := hid (fun q_ hq_ => (HW.out q_ hq_).on hb); replace B := bb B hb; clear cc417 cc418 cc419 cc420 cc421 cc422; have HY := hid hv; clear hb hv; have cc425 := X3.out.both; have cc426 := X6.out.both; have cc427 := X7.out.both; have mk423_0 := hid True.intro))
          go_wp2_with fail
          go_roundw
          case rel => exact ⟨i + 1, _, by omega, by go_num, ROW, hid (fun t ht => by
              by_cases e : t = i
              · subst e; rw [upi_self]; exact HX.out
              · rw [upi_ne _ _ e]; exact HW.out t (by omega)), X3, HV, B⟩
          case measure => simp [intOf]; omega
        · obtain rfl : i = nl := by omega
          have hzr : ∀ t, i ≤ t → (co l t).num * (M / (co l t).den) = 0 := fun t ht => by rw [co_ge (by rw [NL.out]; exact ht)]; exact Int.zero_mul _
          have HZR := hid hzr
          have HP2 : Hid (IN wr (.slice (some ⟨b0, 0, none⟩) i i) (zlf i fun t => (co l t).num * (M / (co l t).den))) := hid (ROW.out.inn (zlf_len _ _) (Nat.le_refl _) (by unfold maxLen; omega) (fun t ht => (HW.out t ht).cast (zc_zlf hzr t).symm))
          have HT := hid (ztrim_in HP2.out)
          clear hzr
          go_wp2_with fail
          refine HT.out.mono ?_
          rintro e1 w2 ⟨k2, rfl, hk2, hz2, ht2, hb⟩
          have HK := hid hz2
          have HK2 := hid ht2
          have HI := hid ((HP2.out.take (show k2 ≤ _ by rw [zlf_len]; exact hk2)).on hb)
          replace B := bb B hb
          clear hz2 ht2 hb HT
          go_wp2_with fail
          go_ret
          have hzr : ∀ t, zc ((zlf i fun t => (co l t).num * (M / (co l t).den)).take k2) t = (co l t).num * (M / (co l t).den) := fun t => by
            by_cases h : t < k2
            · rw [zc_take h, zc_zlf HZR.out]
            · rw [zc_ge (by rw [List.length_take, zlf_len]; omega)]
              exact ((zc_zlf HZR.out t).symm.trans (HK.out t (by omega))).symm
          have hlen : ((zlf i fun t => (co l t).num * (M / (co l t).den)).take k2).length = k2 := by rw [List.length_take, zlf_len]; omega
          have hdv : ∀ t, ((co l t).den : Int) ∣ M := fun t => by
            by_cases h : t < i
            · exact HM0.out.2.2 t h
            · rw [co_ge (by rw [NL.out]; omega)]; exact Int.one_dvd _
          refine ⟨_, _, M, rfl, HI.out, ?_, by rw [hlen]; exact hk2, HM0.out.1, fun t => by rw [hzr, clr_co (hdv t)], fun t => ?_, B.out⟩
          · rcases HK2.out with h | h
            · exact .inl (List.length_eq_zero_iff.1 (by rw [hlen]; exact h))
            · refine .inr ?_
              rw [hlen, hzr, ← zc_zlf HZR.out]; exact h
          · rw [hzr]
            obtain ⟨z, hz1, hz2⟩ := HZ.out t
            exact clr_zm (hdv t) HM0.out.2.1 HD0.out hz2 hz1

end Go.Proofs.Ytkenlaikhnoldaa

/-
  POLYNOMIALS BY THEIR SIZE: those that go into one. Nothing of a program.
-/
namespace Go.Proofs.Ytkenlaikhnoldaa
open Go.RowKit
open Num4
set_option linter.unusedVariables false
/-- What is monic and goes into one of nine coefficients has seven limbs more. -/
theorem Cml.dv {d p : List Rat} {m : Nat} (h : Cml p m) (hd : Mnc d) (hp : Trm p) (h0 : p ≠ []) (hdv : Dv d p) (hl : p.length ≤ 9) : Cml d (m + 7) := by
  obtain ⟨h1, D, h2, h3, h4⟩ := h
  obtain ⟨E, k1, k2, k3⟩ := dv_bound (M := B ^ m) hd hp h0 hdv hl h2 fun i => by
    obtain ⟨z, z1, z2⟩ := h4 i
    exact ⟨z, Nat.le_of_lt z1, z2⟩
  have e : 36 ^ 9 * (17 ^ 9 * B ^ m) < B ^ (m + 7) := by
    have e1 : B ^ (m + 7) = B ^ 7 * B ^ m := by rw [Nat.pow_add, Nat.mul_comm]
    have e2 : 36 ^ 9 * (17 ^ 9 * B ^ m) = (36 ^ 9 * 17 ^ 9) * B ^ m := by rw [Nat.mul_assoc]
    have e3 : 0 < B ^ m := Nat.pow_pos (by decide)
    have e4 : 36 ^ 9 * 17 ^ 9 < B ^ 7 := by decide +kernel
    rw [e1, e2]
    exact Nat.mul_lt_mul_of_pos_right e4 e3
  refine ⟨by omega, E, k1, Nat.lt_of_le_of_lt k2 e, fun i => ?_⟩
  obtain ⟨z, z1, z2⟩ := k3 i
  exact ⟨z, Nat.lt_of_le_of_lt z1 e, z2⟩
end Go.Proofs.Ytkenlaikhnoldaa

/-
  PACKAGE pgcd: how long its results are. Nothing of a program.
-/
namespace Go.Proofs.Ytkenlaikhnoldaa
open Go.RowKit
open Num4
set_option linter.unusedVariables false
set_option maxRecDepth 100000
set_option linter.unusedSimpArgs false

theorem cml_slope2 {l : List Rat} {m : Nat} (h : Cml l m) (hl : l.length ≤ 9) : Cml (slope l) (m + 1) ∧ (slope l).length ≤ 9 := ⟨h.slope (by omega), Nat.le_trans (Nat.le_trans (trim_len _) (by simp [lof])) hl⟩
theorem cml_gcdp2 {p q : List Rat} {m : Nat} (hp : Trm p) (hq : Trm q) (h : Cml p m) (h' : Cml q m) (hl : p.length ≤ 9) (hl' : q.length ≤ 9) : Cml (gcdp p q) (m + 7) ∧ (gcdp p q).length ≤ 9 := by
  by_cases h0 : p = []
  · by_cases h1 : q = []
    · subst h0; subst h1
      rw [gcdp_nil]
      exact ⟨Cml.nil (by have := h.1; omega), by decide⟩
    · rw [gcdp_comm hp hq]
      obtain ⟨u, v, k1, k2, k3, _⟩ := gcdp_spec hq hp (.inl h1)
      exact ⟨h'.dv k1 hq h1 k2 hl', Nat.le_trans (k2.len k1.trm hq h1) hl'⟩
  · obtain ⟨u, v, k1, k2, k3, _⟩ := gcdp_spec hp hq (.inl h0)
    exact ⟨h.dv k1 hp h0 k2 hl, Nat.le_trans (k2.len k1.trm hp h0) hl⟩
theorem cml_freep {p : List Rat} {m : Nat} (hp : Trm p) (h : Cml p m) (hl : p.length ≤ 9) : Cml (freep p) (m + 7) ∧ (freep p).length ≤ 9 := by
  by_cases h0 : p = []
  · subst h0
    rw [freep_nil]
    exact ⟨Cml.nil (by have := h.1; omega), by decide⟩
  · have k1 := mnc_freep hp h0
    have k2 := freep_dv hp h0
    exact ⟨h.dv k1 hp h0 k2 hl, Nat.le_trans (k2.len k1.trm hp h0) hl⟩
theorem cml_mnc2 {p : List Rat} {m : Nat} (hp : Trm p) (h : Cml p m) (hl : p.length ≤ 9) : Cml (mnc p) m ∧ (mnc p).length ≤ 9 := by
  by_cases h0 : p = []
  · subst h0
    rw [mnc_nil]
    exact ⟨h, by decide⟩
  · exact ⟨h.mnc hp h0, by rw [mnc_len hp h0]; exact hl⟩

end Go.Proofs.Ytkenlaikhnoldaa

/-
  PACKAGE poly: Deriv.
-/
namespace Go.Proofs.Ytkenlaikhnoldaa
open Go.RowKit
open Num
set_option linter.unusedVariables false
set_option maxRecDepth 100000
set_option linter.unusedSimpArgs false

/-- The derivative, so far. -/
def dco (l : List Rat) (k j : Nat) : Rat := if j + 1 < k then co l (j + 1) * ((j : Rat) + 1) else 0
theorem dco_all (l : List Rat) : trimQ (lof l.length (dco l l.length)) = slope l := by
  refine trim_ext fun i => ?_
  rw [co_lof, co_lof, dco]
  by_cases h : i < l.length - 1
  · rw [if_pos h, if_pos (by omega), if_pos (by omega)]
  · rw [if_neg h]
    by_cases h2 : i < l.length
    · rw [if_pos h2, if_neg (by omega)]
    · rw [if_neg h2]

set_option maxHeartbeats 4000000 in
theorem pderiv_p {w : World} {v : Value} {l : List Rat} {m : Nat} (h : PN w v l) (hs : Sml l m) (hm : m ≤ 68719476736) (hl : l.length ≤ 1000000) :
    Calls Try.prog 18 #[v] w fun e w' => ∃ v', e = .returned v' ∧ PN w' v' (slope l) ∧ Below w.heap.size w w' := by
  obtain ⟨a, c, rfl, hn1, hc1⟩ := h.opened
  have HP := hid h
  have SL := hid hs
  have HM := hid hm
  have HK := hid (dco_all l)
  obtain ⟨nl, hNL⟩ : ∃ nl, l.length = nl := ⟨_, rfl⟩
  have NL := hid hNL
  rw [hNL] at hn1 hl HP HK ⊢
  clear h hs hm hNL
  unfold maxLen at hc1
  go_enter Try.func18, Try.ntmps18
  go_wp2_with (refine wpList_make_ns _ rfl _ _ _ rfl Try.underlying36 nl rfl rfl (by omega) ?_)
  intro w0 hrow hb0 hs0
  have B := hid hb0
  have ROW := hid hrow
  have HW : Hid (∀ t, t < nl → NF w0 (nag Nz) (dco l 0 t)) := hid (fun t ht => (NF.zero w0).cast (by rw [dco, if_neg (by omega)]))
  clear hrow hb0 hs0
  go_wp2_with fail
  obtain ⟨b0, hb0⟩ : ∃ b0, b0 = w.heap.size := ⟨_, rfl⟩
  have HB := hid (show w.heap.size ≤ b0 by omega)
  rw [← hb0] at ROW ⊢
  clear hb0
  have W0 : ∃ rs : Nat → Nr, Hid (NRw w0 b0 nl rs) ∧ Hid (∀ t, t < nl → NF w0 (nag (rs t)) (dco l 0 t)) := ⟨_, ROW, HW⟩
  clear ROW HW
  obtain ⟨rs0, ROW, HW⟩ := W0
  go_loopw [11] (fun x wr => ∃ (i : Nat) (rs : Nat → Nr), i ≤ nl ∧ x = .int .i64 i ∧ Hid (NRw wr b0 nl rs) ∧ Hid (∀ t, t < nl → NF wr (nag (rs t)) (dco l i t)) ∧ Hid (Below w.heap.size w wr)) (fun x _ => nl - (intOf x).toNat)
  case atStart => exact ⟨0, rs0, by omega, rfl, ROW, HW, B⟩
  case round =>
    clear ROW HW B
    obtain ⟨i, rs, hi, rfl, ROW, HW, B⟩ := hrel
    by_cases hlt : i < nl
    · obtain ⟨b5, s5a, p5a, n5a, c5a, s5b, p5b, n5b, c5b, rfl, hb5, cd5, hq5⟩ := pn_at HP.out B.out (i := i) (by rw [NL.out]; exact hlt)
      have HQ := hid hq5
      clear hq5
      rcases i with _ | j
      · have LB := hid ROW.out.lt
        obtain ⟨hb101, hx102, hs103⟩ := Nbx.made wr s5a s5b (.slice p5a n5a c5a) (.slice p5b n5b c5b)
        replace HQ := nf HQ hb101
        replace ROW := rwo ROW hb101
        replace HW := hid (fun q_ hq_ => (HW.out q_ hq_).on hb101)
        replace B := bb B hb101
        have X5 := hid hx102
        clear hb101 hx102
        have cc104 := X5.out.cells
        go_wp2_with fail
        generalize hW : wr.alloc (.cells #[.bool s5a, .slice p5a n5a c5a, .bool s5b, .slice p5b n5b c5b] 52) = W105 at *
        clear hW
        clear cd5 cc104
        go_roundw
        case rel => exact ⟨1, rs, by omega, by go_num, ROW, hid (fun t ht => (HW.out t ht).cast (by rw [dco, dco, if_neg (by omega), if_neg (by omega)])), B⟩
        case measure => simp [intOf]; omega
      · have hjn : j < nl := by omega
        have hx1 : (0 : Int) ≤ (j : Int) := by omega
        have hx2 : (j : Int) < (nl : Int) := by omega
        have hx3 : IntKind.i64.wrap (j : Int) = (j : Int) := IntWalk.i64_in _ (by omega)
        have hx4 : IntKind.i64.wrap ((j : Int) + 1 - 1) = (j : Int) := by rw [Int.add_sub_cancel]; exact hx3
        have LB := hid ROW.out.lt
        obtain ⟨hb101, hx102, hs103⟩ := Nbx.made wr s5a s5b (.slice p5a n5a c5a) (.slice p5b n5b c5b)
        replace HQ := nf HQ hb101
        replace ROW := rwo ROW hb101
        replace HW := hid (fun q_ hq_ => (HW.out q_ hq_).on hb101)
        replace B := bb B hb101
        have X5 := hid hx102
        clear hb101 hx102
        have cc104 := X5.out.cells
        go_wp2_with fail
        generalize hW : wr.alloc (.cells #[.bool s5a, .slice p5a n5a c5a, .bool s5b, .slice p5b n5b c5b] 52) = W105 at *
        clear hW
        clear cd5 cc104
        have cc401 := X5.out.cells
        replace X5 := hid X5.out.dr
        replace HQ := hid HQ.out.drew
        replace HW := hid (fun q_ hq_ => (HW.out q_ hq_).drew)
        replace ROW := hid ROW.out.dr
        replace B := hid (Below.drew B.out)
        have cc402 := X5.out.cells
        go_region_held3 (fun w' => w'.cell? ⟨wr.heap.size, 0, none⟩ = some (.bool s5a) ∧ w'.cell? ⟨wr.heap.size, 1, none⟩ = some (.slice p5a n5a c5a) ∧ w'.cell? ⟨wr.heap.size, 2, none⟩ = some (.bool s5b) ∧ w'.cell? ⟨wr.heap.size, 3, none⟩ = some (.slice p5b n5b c5b)) (go_keep) (first
          | (have hm := mk403_1; clear hm; go_at_call 29; refine (nmul_f HQ.out HN.out (SL.out.2 (j + 1)) (Sm.int (m := 2) (by have : Num4.B ^ 2 = 100000000 := rfl; omega) (by decide)) HM.out (by decide)).mono ?_; rintro e w408 ⟨v, rfl, hv, hb⟩; obtain ⟨s8a, p8a, n8a, c8a, s8b, p8b, n8b, c8b, rfl⟩ := hv.opened; replace X5 := nx X5 hb; replace HQ := nf HQ hb; replace HN := nf HN hb; replace ROW := rwo ROW hb; replace HW := hid (fun q_ hq_ => (HW.out q_ hq_).on hb); replace B := bb B hb; clear cc407; have HX := hid hv; clear hb hv; have cc409 := X5.out.cells; have cc410 := ROW.out.stores hjn; replace X5 := hid (X5.out.kept (ROW.out.far j (by have := HB.out; have := LB.out; omega) s8a p8a n8a c8a s8b p8b n8b c8b)); replace HQ := hid (HQ.out.put ROW.out j s8a p8a n8a c8a s8b p8b n8b c8b); replace HN := hid (HN.out.put ROW.out j s8a p8a n8a c8a s8b p8b n8b c8b); replace HX := hid (HX.out.put ROW.out j s8a p8a n8a c8a s8b p8b n8b c8b); replace HW := hid (fun q_ hq_ => (HW.out q_ hq_).put ROW.out j s8a p8a n8a c8a s8b p8b n8b c8b); replace B := hid (ROW.out.below B.out j (by have := HB.out; have := LB.out; omega) s8a p8a n8a c8a s8b p8b n8b c8b); replace ROW := hid (ROW.out.put hjn s8a p8a n8a c8a s8b p8b n8b c8b); have cc411 := X5.out.cells; have mk403_2 := hid True.intro)
          | (have hm := mk403_0; clear hm; go_at_call 30; refine (wholeq HO.out).mono ?_; rintro e w406 ⟨v, rfl, hv, hb⟩; obtain ⟨s7a, p7a, n7a, c7a, s7b, p7b, n7b, c7b, rfl⟩ := hv.opened; replace X5 := nx X5 hb; replace HQ := nf HQ hb; replace ROW := rwo ROW hb; replace HW := hid (fun q_ hq_ => (HW.out q_ hq_).on hb); replace B := bb B hb; clear cc405; have HN := hid hv.nf; clear hb hv; have cc407 := X5.out.cells; have mk403_1 := hid True.intro)
          | (go_at_call 31; refine (of_small ((j : Int) + 1) (by omega) _).mono ?_; rintro e w404 ⟨v, rfl, hv, hb⟩; obtain ⟨s6, p6, n6, c6, rfl⟩ := hv.opened; replace X5 := nx X5 hb; replace HQ := nf HQ hb; replace ROW := rwo ROW hb; replace HW := hid (fun q_ hq_ => (HW.out q_ hq_).on hb); replace B := bb B hb; clear cc401 cc402; have HO := hid hv; clear hb hv; have cc405 := X5.out.cells; have mk403_0 := hid True.intro))
        go_wp2_with fail
        go_roundw
        case rel => exact ⟨j + 1 + 1, _, by omega, by go_num, ROW, hid (fun i hi => by
            by_cases hij : i = j
            · subst hij; rw [upd_self, dco, if_pos (by omega)]; exact HX.out.cast (by push_cast; rfl)
            · rw [upd_ne _ _ hij]; exact (HW.out i hi).cast (by rw [dco, dco]; by_cases h : i + 1 < j + 1; rw [if_pos h, if_pos (by omega)]; rw [if_neg h, if_neg (by omega)])), B⟩
        case measure => simp [intOf]; omega
    · obtain rfl : i = nl := by omega
      have HP2 : Hid (PN wr (.slice (some ⟨b0, 0, none⟩) i i) (lof i (dco l i))) := hid (ROW.out.pn (by simp [lof]) (Nat.le_refl _) (by unfold maxLen; omega) (fun t ht => (HW.out t ht).cast (by rw [co_lof, if_pos ht])))
      go_wp2_with fail
      refine (trim_p HP2.out).mono ?_
      rintro e w2 ⟨v2, rfl, hp, hb⟩
      have HR := hid hp
      have B2 := hid (B.out.trans (hb.mono B.out.size))
      clear hp hb
      go_wp2_with fail
      go_ret
      exact ⟨_, rfl, by rw [← HK.out]; exact HR.out, B2.out⟩

end Go.Proofs.Ytkenlaikhnoldaa

/-
  PACKAGE poly: Texts.
-/
namespace Go.Proofs.Ytkenlaikhnoldaa
open Go.RowKit
open Num
set_option linter.unusedVariables false
set_option maxRecDepth 100000
set_option linter.unusedSimpArgs false

/-- Block b holds n texts, and may be written. -/
def SRw (w : World) (b n : Nat) (ss : Nat → ByteArray) : Prop := ∃ cur, w.heap[b]? = some (.cells cur 9 (0, 0)) ∧ cur.size = n ∧ ∀ i, i < n → cur[i]? = some (.string (ss i))
theorem SRw.lt {w : World} {b n : Nat} {ss : Nat → ByteArray} (h : SRw w b n ss) : b < w.heap.size := by
  obtain ⟨cur, h, _⟩ := h
  exact (Array.getElem?_eq_some_iff.1 h).1
theorem SRw.on {w w' : World} {b n : Nat} {ss : Nat → ByteArray} (h : SRw w b n ss) (hb : Below w.heap.size w w') : SRw w' b n ss := by
  have hl := h.lt
  obtain ⟨cur, h, h2⟩ := h
  exact ⟨cur, (hb.block b hl).trans h, h2⟩
theorem SRw.stores {w : World} {b n : Nat} {ss : Nat → ByteArray} (h : SRw w b n ss) {i : Nat} (hi : i < n) : w.cell? ⟨b, i, none⟩ = some (.string (ss i)) ∧ w.frozen? ⟨b, i, none⟩ = false := by
  obtain ⟨cur, h, hs, h2⟩ := h
  exact ⟨by simp [World.cell?, h, h2 i hi], by simp [World.frozen?, h]⟩
theorem SRw.put {w : World} {b n : Nat} {ss : Nat → ByteArray} (h : SRw w b n ss) {i : Nat} (hi : i < n) (s : ByteArray) : SRw (w.setCell ⟨b, i, none⟩ (.string s)) b n (fun k => if k = i then s else ss k) := by
  obtain ⟨cur, h, hs, h2⟩ := h
  refine ⟨cur.setIfInBounds i (.string s), heap_set h _, by simpa using hs, fun k hk => ?_⟩
  show (cur.setIfInBounds i (.string s))[k]? = some (.string (if k = i then s else ss k))
  by_cases hki : k = i
  · subst hki
    rw [if_pos rfl, Array.getElem?_setIfInBounds_self_of_lt (by omega)]
  · rw [if_neg hki, Array.getElem?_setIfInBounds_ne (by omega)]
    exact h2 k hk
theorem SRw.own {w : World} {b n K : Nat} {ss : Nat → ByteArray} {l : List ByteArray} (h : SRw w b n ss) (hK : K ≤ b) (hl : l.length = n) (hn : n ≤ maxLen) (hs : ∀ i, i < n → ss i = tx l i) : OwnT w K (.slice (some ⟨b, 0, none⟩) n n) l := by
  obtain ⟨cur, h, h1, h2⟩ := h
  subst hl
  refine ⟨by simp, .inr ⟨b, l.length, cur, rfl, hK, h, Nat.le_refl _, hn, by omega, ?_⟩⟩
  rw [Nat.mul_one]
  apply List.ext_getElem?
  intro i
  rw [List.getElem?_take]
  by_cases hi : i < l.length
  · rw [if_pos hi, Array.getElem?_toList, h2 i hi, hs i hi, List.getElem?_map, tx_lt hi, List.getElem?_eq_getElem hi]; rfl
  · rw [if_neg hi, List.getElem?_eq_none (by simp; omega)]
/-- 'make([]string, n)'. -/
theorem wpList_make_ts (w : World) {ops : Array Oper} {rest : List Oper} {o : Oper} {a : Act} {Q : Exit → Act → World → Prop}
    (hg : o.guard = none) (l c : Operand) (t : TypeId) (hop : o.op = Op.makeSlice t l c) (h1 : Try.prog.underlying t = some (.slice 9))
    (n : Nat) (hl : a.eval l = .int .i64 n) (hc : a.eval c = .int .i64 n) (hb : n ≤ 1000000000000)
    (hK : ∀ w', SRw w' w.heap.size n (fun _ => ⟨#[]⟩) → Below w.heap.size w w' → w'.heap.size = w.heap.size + 1 → wpList Try.prog ops Q rest (a.put o.dst (.slice (some ⟨w.heap.size, 0, none⟩) n n)) w') :
    wpList Try.prog ops Q (o :: rest) a w := by
  obtain ⟨i, hi, hz0, hz1, hz2⟩ := info_parts infoStr
  refine wpList_plain hg fun K hK' => ?_
  have hr := run_make (P := Try.prog) w t _ i _ h1 hi hz0 .i64 .i64 (n : Int) (n : Int) (by omega) (by omega) (by rw [hz2]; omega) (by omega)
  simp only [Int.toNat_natCast] at hr
  unfold Oper.wp
  simp [execOp, hop, hl, hc, hr, Result.andThen]
  rw [hz1]
  refine hK' _ _ (hK _ ⟨_, by show (w.heap.push _)[w.heap.size]? = _; simp; rfl, by simp [madeCells], fun j hj => ?_⟩ ((Below.refl _ _).alloc (Nat.le_refl _) _) (by simp))
  have hcs : (Value.string ⟨#[]⟩).cells = #[.string ⟨#[]⟩] := by simp [Value.cells]
  rw [hcs]
  simp [madeCells, hj, Nat.mod_one]

set_option maxHeartbeats 1000000 in
theorem texts_p {w : World} {v : Value} {l : List Rat} {m : Nat} (h : PN w v l) (hs : Sml l m) (hm : m ≤ 4294967296) (hl : l.length ≤ 1000000) :
    Calls Try.prog 14 #[v] w fun e w' => ∃ u, e = .returned u ∧ OwnT w' w.heap.size u ((trimQ l).map qtxt) ∧ Below w.heap.size w w' := by
  obtain ⟨a, c, rfl, hn, hc⟩ := h.opened
  have HP0 := hid (trim_p h)
  have HL := hid (Nat.le_trans (trim_len l) hl)
  have HS := hid hs.trim
  have HM := hid hm
  generalize trimQ l = t at *
  clear h hs hm hl
  generalize l.length = n0 at *
  go_enter Try.func14, Try.ntmps14
  go_wp2_with fail
  refine HP0.out.mono ?_
  rintro e w1 ⟨v1, rfl, hp, hb⟩
  have B0 := hid hb
  have B := hid (Below.refl w1.heap.size w1)
  obtain ⟨a1, c1, rfl, hn1, hc1⟩ := hp.opened
  have HP := hid hp
  obtain ⟨n, hN⟩ : ∃ n, t.length = n := ⟨_, rfl⟩
  rw [hN] at hn1 HL HP ⊢
  have HN := hid hN
  have hl := HL.out
  clear hb hp hN HP0 hn hc
  unfold maxLen at hc1
  go_wp2_with (refine wpList_make_ts _ rfl _ _ _ rfl Try.underlying22 n rfl rfl (by omega) ?_)
  intro w2 hsr hb2 hs2
  have SR := hid hsr
  replace B := bb B hb2
  clear hsr hb2
  obtain ⟨b0, hb0⟩ : ∃ b0, w1.heap.size = b0 := ⟨_, rfl⟩
  have HB := hid (show w1.heap.size ≤ b0 by omega)
  rw [hb0] at SR ⊢
  clear hb0 hs2
  go_wp2_with fail
  go_loopw [13] (fun i wr => ∃ (k : Nat) (ss : Nat → ByteArray), k ≤ n ∧ i = .int .i64 k ∧ Hid (SRw wr b0 n ss) ∧ Hid (∀ j, j < k → ss j = qtxt (co t j)) ∧ Hid (Below w1.heap.size w1 wr)) (fun i _ => n - (intOf i).toNat)
  case atStart => exact ⟨0, _, by omega, rfl, SR, hid (fun j hj => by omega), B⟩
  case round =>
    obtain ⟨k, ss, hk, rfl, SR, HT, B⟩ := hrel
    by_cases hlt : k < n
    · obtain ⟨b, s5a, p5a, n5a, c5a, s5b, p5b, n5b, c5b, rfl, hb, cd, hq⟩ := pn_at HP.out B.out (i := k) (by rw [HN.out]; exact hlt)
      have HQ := hid hq
      clear hq
      have LB := hid SR.out.lt
      obtain ⟨hb101, hx102, hs103⟩ := Nbx.made wr s5a s5b (.slice p5a n5a c5a) (.slice p5b n5b c5b)
      replace HQ := nf HQ hb101
      replace B := bb B hb101
      replace SR := hid (SR.out.on hb101)
      have X5 := hid hx102
      clear hb101 hx102
      have cc104 := X5.out.cells
      go_wp2_with fail
      generalize hW : wr.alloc (.cells #[.bool s5a, .slice p5a n5a c5a, .bool s5b, .slice p5b n5b c5b] 52) = W105 at *
      clear hW
      refine (nstr_f HQ.out (HS.out.2 k) HM.out).mono ?_
      rintro e w106 ⟨rfl, hb⟩
      replace B := bb B hb
      replace SR := hid (SR.out.on hb)
      clear cc104
      clear hb 
      have cc := SR.out.stores hlt
      have SR2 := hid (SR.out.put hlt (qtxt (co t k)))
      have B2 := hid (B.out.setCell (p := ⟨b0, k, none⟩) HB.out (.string (qtxt (co t k))))
      go_wp2_with fail
      go_roundw
      case rel => exact ⟨k + 1, _, by omega, by go_num, SR2, hid (fun j hj => by by_cases hjk : j = k; exact hjk ▸ if_pos rfl; exact (if_neg hjk).trans (HT.out j (by omega))), B2⟩
      case measure => simp [intOf]; omega
    · obtain rfl : k = n := by omega
      go_wp2_with fail
      go_ret
      exact ⟨_, rfl, SR.out.own (Nat.le_trans B0.out.size HB.out) (by rw [List.length_map, HN.out]) (by unfold maxLen; omega) (fun i hi => by rw [HT.out i hi, tx_lt (by rw [List.length_map, HN.out]; exact hi), List.getElem_map, co_lt (by rw [HN.out]; exact hi)]), B0.out.trans (B.out.mono B0.out.size)⟩

end Go.Proofs.Ytkenlaikhnoldaa

/-
  PACKAGE pgcd: how long Yun's polynomials are. Nothing of a program.
-/
namespace Go.Proofs.Ytkenlaikhnoldaa
open Go.RowKit
open Num4
set_option linter.unusedVariables false
theorem top_quop {p q : List Rat} (hp : Trm p) (hq : Mnc q) (h : Dv q p) (hp0 : p ≠ []) : top (quop p q) = top p := by
  have e := quop_dv hp hq.trm hq.1 h
  have h1 := quop_ne hp hq.trm hq.1 h hp0
  have h2 := top_mulp (trm_quop hp hq.trm hq.1) hq.trm h1 hq.1
  rw [e, hq.2] at h2
  rw [h2]; grind
theorem top_yp {p : List Rat} (hp : Trm p) (h0 : p ≠ []) : ∀ n, top (yp p n) = top p
  | 0 => rfl
  | n + 1 => by
    obtain ⟨h1, h2, _⟩ := yp_spec hp h0 n
    show top (quop (yp p n) (freep (yp p n))) = top p
    rw [top_quop h1 (mnc_freep h1 h2) (freep_dv h1 h2) h2, top_yp hp h0 n]
theorem cml_yp {p : List Rat} {m : Nat} (hp : Trm p) (h0 : p ≠ []) (h : Cml p m) (hl : p.length ≤ 9) (n : Nat) : Cml (yp p n) (m + 7 + m) ∧ (yp p n).length ≤ 9 := by
  obtain ⟨h1, h2, h3, _⟩ := yp_spec hp h0 n
  have hlen := h3.len h1 hp h0
  have hc := h.dv (mnc_mnc h1 h2) hp h0 ((mnc_dv h1).trans h3) hl
  refine ⟨?_, by omega⟩
  obtain ⟨k1, D, k2, k3, k4⟩ := h
  obtain ⟨l1, E, l2, l3, l4⟩ := hc
  obtain ⟨A, a1, a2⟩ := k4 (p.length - 1)
  have e2 : co p (p.length - 1) = top p := rfl
  rw [e2] at a2
  refine ⟨by omega, E * D, Int.mul_ne_zero l2 k2, ?_, fun i => ?_⟩
  · rw [Int.natAbs_mul, Nat.pow_add]
    exact Nat.mul_lt_mul'' l3 k3
  · obtain ⟨z, z1, z2⟩ := l4 i
    refine ⟨z * A, ?_, ?_⟩
    · rw [Int.natAbs_mul, Nat.pow_add]
      exact Nat.mul_lt_mul'' z1 a1
    · have hi := rat_inv (top_ne h1 h2)
      rw [top_yp hp h0 n] at hi
      rw [co_mnc, top_yp hp h0 n] at z2
      rw [Rat.intCast_mul, Rat.intCast_mul, ← z2, ← a2]
      generalize 1 / top p = y at *
      have : y * co (yp p n) i * (E : Rat) * (top p * (D : Rat)) = (y * top p) * (co (yp p n) i * ((E : Rat) * (D : Rat))) := by grind
      rw [this, hi]; grind
theorem yp_nil_free (i : Nat) (h : ∀ k, k < i → 2 ≤ (freep (yp [] k)).length) (h' : 2 ≤ (freep (yp [] i)).length) : False := by
  have e : (freep (yp [] 0)).length = 0 := by show (freep []).length = 0; rw [freep_nil]; rfl
  cases i with
  | zero => omega
  | succ i => have := h 0 (by omega); omega
end Go.Proofs.Ytkenlaikhnoldaa
