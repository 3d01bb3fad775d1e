import Derived.Test.YtokojbgpboccnaaGreatBunProofSturmMoved17
import Derived.Test.YtokojbgpboccnaaGreatBunProofSturmMoved18
import Derived.Test.YtokojbgpboccnaaGreatBunProofSturmMoved5
import Derived.Test.YtokojbgpboccnaaGreatBunProofSturmMoved13
import Derived.Deep.DeepCutAuto
/-
  PACKAGE pgcd: gcd.
-/
namespace Go.Proofs.YtokojbgpboccnaaGreat
open Go.RowKit
open Num
set_option linter.unusedVariables false
set_option maxRecDepth 100000
set_option linter.unusedSimpArgs false

theorem ino {w w' : World} {v : Value} {l : List Int} (h : Hid (IN w v l)) (hb : Below w.heap.size w w') : Hid (IN w' v l) := hid (h.out.on hb)
theorem IN.bx2 {w : World} {v : Value} {l : List Int} {g : Nat} {s : Bool} {sv : Value} (h : IN w v l) (hx : Box w g s sv) (hne : l = [] ∨ v.ownBlock ≠ some g) (s' : Bool) (p : Option Addr) (n c : Nat) : IN ((w.setCell ⟨g, 0, none⟩ (.bool s')).setCell ⟨g, 1, none⟩ (.slice p n c)) v l := by
  obtain ⟨a, c', rs, h1, h2, h3, h4⟩ := h
  refine ⟨a, c', rs, h1, h2, h3, fun i hi => ?_⟩
  obtain ⟨b, e, hl, hA, hq⟩ := h4 i hi
  have hbg : b ≠ g := by
    rintro rfl
    subst e
    rcases hne with rfl | hne
    · simp at hi
    · rw [h1] at hne
      exact hne (by simp [Value.ownBlock])
  have hni : NoInt w g := by
    intro cur T f hh u hu
    rw [show w.heap[g]? = _ from hx.1] at hh
    cases hh
    obtain ⟨p0, n0, c0, rfl⟩ := hx.2
    simp at hu
    rcases hu with rfl | rfl
    · exact NI.bool _
    · exact NI.slc _ _ _
  exact ⟨b, e, by simpa [World.setCell] using hl, hA.kept (heap2 hbg _ _), hq.grown hni ⟨rfl, rfl, rfl, by simp [World.setCell], fun k _ hk => heap2 (fun e => hk (by rw [e])) _ _⟩⟩
/-- It lies apart from two boxes. -/
def Apt (v : Value) (l : List Int) (g5 : Nat) : Prop := l = [] ∨ ∀ g, g5 ≤ g → g ≤ g5 + 1 → v.ownBlock ≠ some g
theorem Apt.one {v : Value} {l : List Int} {g5 : Nat} (h : Apt v l g5) {g : Nat} (h1 : g5 ≤ g) (h2 : g ≤ g5 + 1) : l = [] ∨ v.ownBlock ≠ some g := h.imp id fun h => h g h1 h2
theorem IN.apt {w : World} {v : Value} {l : List Int} {g5 : Nat} (h : IN w v l) (hg : w.heap.size ≤ g5) : Apt v l g5 := by
  by_cases h0 : l = []
  · exact .inl h0
  · right
    have hp := List.length_pos_iff.2 h0
    obtain ⟨a, c', rs, h1, h2, h3, h4⟩ := h
    obtain ⟨b, e, hl, _⟩ := h4 0 hp
    subst e
    intro g k1 _ hg2
    rw [h1] at hg2
    simp [Value.ownBlock] at hg2
    omega
def RmOk (p q : List Int) (d a b : Nat) (r : List Int) : Prop := Ztr r ∧ r.length ≤ d ∧ SRed (zc q) (zc q d) (p.length - q.length) (p.length - q.length + 1) (zc p) (zc r) ∧ Zl r (a + (p.length - q.length + 1) * (b + 1))

set_option maxHeartbeats 8000000 in
theorem ggcd_one {w : World} {v u : Value} {lp lq : List Int} {m : Nat} (h : IN w v lp) (h' : IN w u lq) (hp : Ztr lp) (hq : Ztr lq) (hs : Zl lp m) (hs' : Zl lq m) (hm : m ≤ 100000) (hl : lp.length ≤ 9) (hle : lq.length ≤ lp.length) :
    Calls Tryz.prog 78 #[v, u] w fun e w' => ∃ v' r, e = .returned v' ∧ IN w' v' r ∧ Ztr r ∧ r.length ≤ 9 ∧ mnc (zq r) = gcdp (zq lp) (zq lq) ∧ Zl r (3363 * (m + 1)) ∧ Below w.heap.size w w' := by
  have HST := hid (Gst.start hp hq hs hs' hl hle)
  obtain ⟨ap, cp, rfl, hn1, hc1⟩ := h.opened
  obtain ⟨aq, cq, rfl, hn2, hc2⟩ := h'.opened
  have IP := hid h
  have IQ := hid h'
  have HMM := hid hm
  have IP0 := hid h
  have IQ0 := hid h'
  have hli : ¬ ((lp.length : Int) < (lq.length : Int)) := by omega
  have B := hid (Below.refl w.heap.size w)
  clear  h h' hp hq hs hs' hm hl hle
  go_enter Tryz.func78, Tryz.ntmps78
  go_wp2_with fail
  refine (of_small 1 (by decide) _).mono ?_
  rintro e w1 ⟨v, rfl, hv, hb⟩
  obtain ⟨s3, p3, n3, c3, rfl⟩ := hv.opened
  replace B := bb B hb
  replace IP := ino IP hb
  replace IQ := ino IQ hb
  have HG := hid hv.zf
  clear hb hv
  go_wp2_with fail
  refine (of_small 1 (by decide) _).mono ?_
  rintro e w2 ⟨v, rfl, hv, hb⟩
  obtain ⟨s4, p4, n4, c4, rfl⟩ := hv.opened
  replace HG := zf HG hb
  replace B := bb B hb
  replace IP := ino IP hb
  replace IQ := ino IQ hb
  have HH := hid hv.zf
  clear hb hv
  have HB5 := hid B.out.size
  obtain ⟨hb3, hx4, hs5⟩ := Box.made w2 s3 p3 n3 c3
  replace HG := zf HG hb3
  replace HH := zf HH hb3
  replace B := bb B hb3
  replace IP := ino IP hb3
  replace IQ := ino IQ hb3
  have X5 := hid hx4
  clear hb3 hx4
  obtain ⟨hb6, hx7, hs8⟩ := Box.made (w2.alloc (.cells #[.bool s3, .slice p3 n3 c3] 41)) s4 p4 n4 c4
  rw [hs5] at hx7 hs8
  replace X5 := bx X5 hb6
  replace HG := zf HG hb6
  replace HH := zf HH hb6
  replace B := bb B hb6
  replace IP := ino IP hb6
  replace IQ := ino IQ hb6
  have X6 := hid hx7
  clear hb6 hx7
  have cc9 := X5.out.both
  have cc10 := X6.out.both
  go_wp2_with fail
  generalize hW : (w2.alloc (.cells #[.bool s3, .slice p3 n3 c3] 41)).alloc (.cells #[.bool s4, .slice p4 n4 c4] 41) = W11 at *
  clear hW
  obtain ⟨g5, hg5⟩ : ∃ g5, g5 = w2.heap.size := ⟨_, rfl⟩
  rw [← hg5] at X5 X6 HB5 ⊢
  clear hg5 hli cc9 cc10
  have NP := hid (IP0.out.apt HB5.out)
  have NQ := hid (IQ0.out.apt HB5.out)
  clear IP0 IQ0 hn1 hn2 hc1 hc2
  go_loopw [0, 1] (fun x y wr => ∃ (p q : List Int) (g h : Int) (s5 : Bool) (p5 : Option Addr) (n5 c5 : Nat) (s6 : Bool) (p6 : Option Addr) (n6 c6 : Nat), Hid (Gst m lp lq p q g h) ∧ Hid (IN wr x p) ∧ Hid (IN wr y q) ∧ Hid (Apt x p g5) ∧ Hid (Apt y q g5) ∧ Hid (Box wr g5 s5 (.slice p5 n5 c5)) ∧ Hid (Box wr (g5 + 1) s6 (.slice p6 n6 c6)) ∧ Hid (ZF wr (.agg #[.bool s5, .slice p5 n5 c5]) g) ∧ Hid (ZF wr (.agg #[.bool s6, .slice p6 n6 c6]) h) ∧ Hid (Below w.heap.size w wr)) (fun x y _ => sln y)
  case atStart => exact ⟨lp, lq, 1, 1, _, _, _, _, _, _, _, _, HST, IP, IQ, NP, NQ, X5, X6, HG, HH, B⟩
  case round =>
    clear IP IQ NP NQ X5 X6 HG HH B HST
    obtain ⟨p, q, g, h, s5, p5, n5, c5, s6, p6, n6, c6, HST, IP, IQ, NP, NQ, X5, X6, HG, HH, B⟩ := hrel
    obtain ⟨a1, c1, rfl, h11, h12⟩ := IP.out.opened
    obtain ⟨a2, c2, rfl, h21, h22⟩ := IQ.out.opened
    unfold maxLen at h12 h22
    by_cases hq0 : q = []
    · subst hq0
      have K := hid HST.out.end
      go_wp2_with fail
      go_ret
      exact ⟨_, p, rfl, IP.out, K.out.1, K.out.2.1, K.out.2.2.1, K.out.2.2.2, B.out⟩
    · obtain ⟨d, hdl⟩ : ∃ d, q.length = d + 1 := ⟨q.length - 1, by have := List.length_pos_iff.2 hq0; omega⟩
      have hle := HST.out.1.2.2.2
      have hl9 := HST.out.1.2.2.1
      obtain ⟨ma, mb, hza, hzb, hb1, hb2, hnx⟩ := HST.out.2.1.next hq0 hl9
      obtain ⟨gp, hnp⟩ : ∃ gp, p.length = gp + d + 1 := ⟨p.length - q.length, by omega⟩
      have HDL := hid hdl
      have HNP := hid hnp
      have HGP := hid (show p.length - q.length = gp by omega)
      have HLE := hid hle
      have HL6 := hid (show p.length ≤ 1000000 by omega)
      have HZA := hid hza
      have HZB := hid hzb
      have HBM := hid hb2
      have HNX := hid hnx
      have HLIM := hid (show ma + (p.length - q.length + 1) * (mb + 1) + mb + 2 ≤ 68719476736 by have := HMM.out; omega)
      have HLA := hid (show ma + (p.length - q.length + 1) * (mb + 1) ≤ 68719476736 by have := HMM.out; omega)
      have HZG := hid HST.out.2.2.1.2.2.1
      have HZH := hid HST.out.2.2.1.2.2.2
      have HZP := hid (HZH.out.pow gp)
      have HH0 := hid HST.out.2.2.1.2.1
      have HK0 := hid (show g * h ^ gp ≠ 0 from Int.mul_ne_zero HST.out.2.2.1.1 (spow_ne HH0.out gp))
      have HLP : Hid (gp ≤ 8 ∧ gp * (30000 * (m + 1)) + 1 + 30000 * (m + 1) ≤ 60000000000 ∧ 3363 * (m + 1) + (gp * (30000 * (m + 1)) + 1) ≤ 60000000000) := hid (by
        have h1 : gp * (30000 * (m + 1)) ≤ 8 * (30000 * (m + 1)) := Nat.mul_le_mul_right _ (by omega)
        have := HMM.out
        omega)
      have hsf : IntKind.i64.wrap ((gp : Int) + d + 1 - ((d : Int) + 1)) = (gp : Int) := by rw [show (gp : Int) + d + 1 - ((d : Int) + 1) = gp by omega]; exact IntWalk.i64_in _ (by omega)
      rw [hnp] at IP h11 ⊢
      rw [hdl] at IQ h21 ⊢
      clear hdl hnp hza hzb hb1 hb2 hnx hle
      have cc201 := X5.out.both
      have cc202 := X6.out.both
      go_wp2_with fail
      clear cc201 cc202
      refine region_ops (by kernel_rfl) (by kernel_rfl) (fun a f a' w' => ∃ u8 u27 u28 u29 u30 u31 u32 u33 u34 u35 : Value, a' = { tmps := ((((((((((a.tmps.setIfInBounds 8 u8).setIfInBounds 27 u27).setIfInBounds 28 u28).setIfInBounds 29 u29).setIfInBounds 30 u30).setIfInBounds 31 u31).setIfInBounds 32 u32).setIfInBounds 33 u33).setIfInBounds 34 u34).setIfInBounds 35 u35), defers := a.defers } ∧ Hid (Below wr.heap.size wr w') ∧ Hid (f 0 = true → u27 = .slice a1 (gp + d + 1) c1) ∧ Hid (f 1 = true → u28 = .slice a2 (d + 1) c2) ∧ Hid (f 2 = true → ∃ r, RmOk p q d ma mb r ∧ IN w' u29 r) ∧ Hid (f 3 = true → u30 = (.agg #[.bool s5, .slice p5 n5 c5])) ∧ Hid (f 4 = true → u31 = (.agg #[.bool s6, .slice p6 n6 c6])) ∧ Hid (f 5 = true → u32 = .int .i64 (gp : Int)) ∧ Hid (f 6 = true → (ZF w' u33 (h ^ gp))) ∧ Hid (f 7 = true → (ZF w' u34 (g * h ^ gp))) ∧ Hid (f 8 = true → ∃ r, RmOk p q d ma mb r ∧ IN w' u35 (r.map (· / (g * h ^ gp))) ∧ (∀ x, u35.ownBlock = some x → wr.heap.size ≤ x)) ∧ Hid (f 9 = true → ∃ r, RmOk p q d ma mb r ∧ IN w' u8 (r.map (· / (g * h ^ gp))) ∧ (∀ x, u8.ownBlock = some x → wr.heap.size ≤ x))) ?h0 ⟨?s0, ?s1, ?s2, ?s3, ?s4, ?s5, ?s6, ?s7, ?s8, ?s9, trivial⟩ ?hend
      case h0 =>
        simp only [List.setIfInBounds_toArray, List.set_cons_zero, List.set_cons_succ]
        exact ⟨_, _, _, _, _, _, _, _, _, _, rfl, hid (Below.drew (Below.refl _ _)), hid (fun h => by cases h), hid (fun h => by cases h), hid (fun h => by cases h), hid (fun h => by cases h), hid (fun h => by cases h), hid (fun h => by cases h), hid (fun h => by cases h), hid (fun h => by cases h), hid (fun h => by cases h), hid (fun h => by cases h)⟩
      case s0 =>
        rintro f a1 w1 ⟨u8, u27, u28, u29, u30, u31, u32, u33, u34, u35, rfl, HBW, h0, h1, h2, h3, h4, h5, h6, h7, h8, h9⟩ hf hd K hK
        simp only [List.setIfInBounds_toArray, List.set_cons_zero, List.set_cons_succ] at hK ⊢
        replace hK := hid hK
        go_simp
        exact hK.out _ _ ⟨_, _, _, _, _, _, _, _, _, _, rfl, HBW, hid (fun h => rfl), hid (fun h => h1.out h), hid (fun h => h2.out h), hid (fun h => h3.out h), hid (fun h => h4.out h), hid (fun h => h5.out h), hid (fun h => h6.out h), hid (fun h => h7.out h), hid (fun h => h8.out h), hid (fun h => h9.out h)⟩
      case s1 =>
        rintro f a1 w1 ⟨u8, u27, u28, u29, u30, u31, u32, u33, u34, u35, rfl, HBW, h0, h1, h2, h3, h4, h5, h6, h7, h8, h9⟩ hf hd K hK
        simp only [List.setIfInBounds_toArray, List.set_cons_zero, List.set_cons_succ] at hK ⊢
        replace hK := hid hK
        go_simp
        exact hK.out _ _ ⟨_, _, _, _, _, _, _, _, _, _, rfl, HBW, hid (fun h => h0.out h), hid (fun h => rfl), hid (fun h => h2.out h), hid (fun h => h3.out h), hid (fun h => h4.out h), hid (fun h => h5.out h), hid (fun h => h6.out h), hid (fun h => h7.out h), hid (fun h => h8.out h), hid (fun h => h9.out h)⟩
      case s2 =>
        rintro f a1 w1 ⟨u8, u27, u28, u29, u30, u31, u32, u33, u34, u35, rfl, HBW, h0, h1, h2, h3, h4, h5, h6, h7, h8, h9⟩ hf hd K hK
        simp only [List.setIfInBounds_toArray, List.set_cons_zero, List.set_cons_succ] at hK ⊢
        replace hK := hid hK
        simp [Region.binds] at hd
        obtain rfl := h0.out (by simp only [hd])
        obtain rfl := h1.out (by simp only [hd])
        go_simp
        refine (zrem_p (IP.out.on HBW.out) (IQ.out.on HBW.out) HZA.out HZB.out HDL.out HLE.out HL6.out HLIM.out).mono ?_
        rintro e w2 ⟨v, r, rfl, hv, hr1, hr2, hr3, hr4, hb⟩
        go_wp2_with fail
        exact hK.out _ _ ⟨_, _, _, _, _, _, _, _, _, _, rfl, hid (below_next HBW.out hb), hid (fun h => rfl), hid (fun h => rfl), hid (fun h => ⟨r, ⟨hr1, hr2, hr3, hr4⟩, hv⟩), hid (fun h => h3.out h), hid (fun h => h4.out h), hid (fun h => h5.out h), hid (fun h => (h6.out h).on hb), hid (fun h => (h7.out h).on hb), hid (fun h => (fun ⟨r, h1, h2, h3⟩ => ⟨r, h1, h2.on hb, h3⟩) (h8.out h)), hid (fun h => (fun ⟨r, h1, h2, h3⟩ => ⟨r, h1, h2.on hb, h3⟩) (h9.out h))⟩
      case s3 =>
        rintro f a1 w1 ⟨u8, u27, u28, u29, u30, u31, u32, u33, u34, u35, rfl, HBW, h0, h1, h2, h3, h4, h5, h6, h7, h8, h9⟩ hf hd K hK
        simp only [List.setIfInBounds_toArray, List.set_cons_zero, List.set_cons_succ] at hK ⊢
        replace hK := hid hK
        obtain ⟨y1, y2⟩ := (X5.out.below HBW.out X5.out.lt).both
        go_simp
        exact hK.out _ _ ⟨_, _, _, _, _, _, _, _, _, _, rfl, HBW, hid (fun h => h0.out h), hid (fun h => h1.out h), hid (fun h => h2.out h), hid (fun h => rfl), hid (fun h => h4.out h), hid (fun h => h5.out h), hid (fun h => h6.out h), hid (fun h => h7.out h), hid (fun h => h8.out h), hid (fun h => h9.out h)⟩
      case s4 =>
        rintro f a1 w1 ⟨u8, u27, u28, u29, u30, u31, u32, u33, u34, u35, rfl, HBW, h0, h1, h2, h3, h4, h5, h6, h7, h8, h9⟩ hf hd K hK
        simp only [List.setIfInBounds_toArray, List.set_cons_zero, List.set_cons_succ] at hK ⊢
        replace hK := hid hK
        obtain ⟨y1, y2⟩ := (X6.out.below HBW.out X6.out.lt).both
        go_simp
        exact hK.out _ _ ⟨_, _, _, _, _, _, _, _, _, _, rfl, HBW, hid (fun h => h0.out h), hid (fun h => h1.out h), hid (fun h => h2.out h), hid (fun h => h3.out h), hid (fun h => rfl), hid (fun h => h5.out h), hid (fun h => h6.out h), hid (fun h => h7.out h), hid (fun h => h8.out h), hid (fun h => h9.out h)⟩
      case s5 =>
        rintro f a1 w1 ⟨u8, u27, u28, u29, u30, u31, u32, u33, u34, u35, rfl, HBW, h0, h1, h2, h3, h4, h5, h6, h7, h8, h9⟩ hf hd K hK
        simp only [List.setIfInBounds_toArray, List.set_cons_zero, List.set_cons_succ] at hK ⊢
        replace hK := hid hK
        go_simp
        exact hK.out _ _ ⟨_, _, _, _, _, _, _, _, _, _, rfl, HBW, hid (fun h => h0.out h), hid (fun h => h1.out h), hid (fun h => h2.out h), hid (fun h => h3.out h), hid (fun h => h4.out h), hid (fun h => rfl), hid (fun h => h6.out h), hid (fun h => h7.out h), hid (fun h => h8.out h), hid (fun h => h9.out h)⟩
      case s6 =>
        rintro f a1 w1 ⟨u8, u27, u28, u29, u30, u31, u32, u33, u34, u35, rfl, HBW, h0, h1, h2, h3, h4, h5, h6, h7, h8, h9⟩ hf hd K hK
        simp only [List.setIfInBounds_toArray, List.set_cons_zero, List.set_cons_succ] at hK ⊢
        replace hK := hid hK
        simp [Region.binds] at hd
        obtain rfl := h4.out (by simp only [hd])
        obtain rfl := h5.out (by simp only [hd])
        go_simp
        refine (zpow_f (HH.out.on HBW.out) HZH.out (by have := HLP.out; omega) (by have := HLP.out; omega)).mono ?_
        rintro e w2 ⟨v, rfl, hv, hb⟩
        go_wp2_with fail
        exact hK.out _ _ ⟨_, _, _, _, _, _, _, _, _, _, rfl, hid (below_next HBW.out hb), hid (fun h => h0.out h), hid (fun h => h1.out h), hid (fun h => (fun ⟨r, h1, h2⟩ => ⟨r, h1, h2.on hb⟩) (h2.out h)), hid (fun h => h3.out h), hid (fun h => rfl), hid (fun h => rfl), hid (fun h => hv), hid (fun h => (h7.out h).on hb), hid (fun h => (fun ⟨r, h1, h2, h3⟩ => ⟨r, h1, h2.on hb, h3⟩) (h8.out h)), hid (fun h => (fun ⟨r, h1, h2, h3⟩ => ⟨r, h1, h2.on hb, h3⟩) (h9.out h))⟩
      case s7 =>
        rintro f a1 w1 ⟨u8, u27, u28, u29, u30, u31, u32, u33, u34, u35, rfl, HBW, h0, h1, h2, h3, h4, h5, h6, h7, h8, h9⟩ hf hd K hK
        simp only [List.setIfInBounds_toArray, List.set_cons_zero, List.set_cons_succ] at hK ⊢
        replace hK := hid hK
        simp [Region.binds] at hd
        obtain rfl := h3.out (by simp only [hd])
        have h6a := h6.out (by simp only [hd])
        go_simp
        refine (zmul_f (HG.out.on HBW.out) h6a HZG.out HZP.out (by have := HLP.out; omega) (by have := HLP.out; omega)).mono ?_
        rintro e w2 ⟨v, rfl, hv, hb⟩
        go_wp2_with fail
        exact hK.out _ _ ⟨_, _, _, _, _, _, _, _, _, _, rfl, hid (below_next HBW.out hb), hid (fun h => h0.out h), hid (fun h => h1.out h), hid (fun h => (fun ⟨r, h1, h2⟩ => ⟨r, h1, h2.on hb⟩) (h2.out h)), hid (fun h => rfl), hid (fun h => h4.out h), hid (fun h => h5.out h), hid (fun h => (h6.out h).on hb), hid (fun h => hv), hid (fun h => (fun ⟨r, h1, h2, h3⟩ => ⟨r, h1, h2.on hb, h3⟩) (h8.out h)), hid (fun h => (fun ⟨r, h1, h2, h3⟩ => ⟨r, h1, h2.on hb, h3⟩) (h9.out h))⟩
      case s8 =>
        rintro f a1 w1 ⟨u8, u27, u28, u29, u30, u31, u32, u33, u34, u35, rfl, HBW, h0, h1, h2, h3, h4, h5, h6, h7, h8, h9⟩ hf hd K hK
        simp only [List.setIfInBounds_toArray, List.set_cons_zero, List.set_cons_succ] at hK ⊢
        replace hK := hid hK
        simp [Region.binds] at hd
        have h2a := h2.out (by simp only [hd])
        have h7a := h7.out (by simp only [hd])
        obtain ⟨r, hr1, hr2⟩ := h2a
        go_simp
        refine (zover_p hr2 h7a HK0.out hr1.2.2.2 (HZG.out.mul HZP.out) HLA.out (by have := HLP.out; omega) (by have := hr1.2.1; have := HL6.out; have := HNP.out; omega)).mono ?_
        rintro e w2 ⟨v, rfl, hv, ha, hb⟩
        go_wp2_with fail
        exact hK.out _ _ ⟨_, _, _, _, _, _, _, _, _, _, rfl, hid (below_next HBW.out hb), hid (fun h => h0.out h), hid (fun h => h1.out h), hid (fun h => (fun ⟨r, h1, h2⟩ => ⟨r, h1, h2.on hb⟩) (h2.out h)), hid (fun h => h3.out h), hid (fun h => h4.out h), hid (fun h => h5.out h), hid (fun h => (h6.out h).on hb), hid (fun h => (h7.out h).on hb), hid (fun h => ⟨r, hr1, hv, fun x hx => Nat.le_trans HBW.out.size (ha x hx)⟩), hid (fun h => (fun ⟨r, h1, h2, h3⟩ => ⟨r, h1, h2.on hb, h3⟩) (h9.out h))⟩
      case s9 =>
        rintro f a1 w1 ⟨u8, u27, u28, u29, u30, u31, u32, u33, u34, u35, rfl, HBW, h0, h1, h2, h3, h4, h5, h6, h7, h8, h9⟩ hf hd K hK
        simp only [List.setIfInBounds_toArray, List.set_cons_zero, List.set_cons_succ] at hK ⊢
        replace hK := hid hK
        simp [Region.binds] at hd
        have h8a := h8.out (by simp only [hd])
        go_simp
        exact hK.out _ _ ⟨_, _, _, _, _, _, _, _, _, _, rfl, HBW, hid (fun h => h0.out h), hid (fun h => h1.out h), hid (fun h => h2.out h), hid (fun h => h3.out h), hid (fun h => h4.out h), hid (fun h => h5.out h), hid (fun h => h6.out h), hid (fun h => h7.out h), hid (fun h => h8.out h), hid (fun h => h8a)⟩
      case hend =>
        rintro f a1 w' ⟨u8, u27, u28, u29, u30, u31, u32, u33, u34, u35, rfl, HBW, h0, h1, h2, h3, h4, h5, h6, h7, h8, h9⟩ hall
        simp only [List.setIfInBounds_toArray, List.set_cons_zero, List.set_cons_succ]
        obtain ⟨r, hr, hic, hao⟩ := h9.out (hall 9 (by decide))
        have NC := hid (show Apt u8 (r.map (· / (g * h ^ gp))) g5 from .inr fun x h1 h2 h3 => by have := hao x h3; have := X6.out.lt; omega)
        replace X5 := bx X5 HBW.out
        replace X6 := bx X6 HBW.out
        replace HG := zf HG HBW.out
        replace HH := zf HH HBW.out
        replace B := bb B HBW.out
        replace IP := ino IP HBW.out
        replace IQ := ino IQ HBW.out
        have IC := hid hic
        have HR := hid hr
        clear HBW hall hao hic hr IP h0 h1 h2 h3 h4 h5 h6 h7 h8 h9
        obtain ⟨a3, c3, e8, h31, h32⟩ := IC.out.opened
        rw [List.length_map] at e8 h31
        subst e8
        obtain ⟨hK, hN⟩ := HST.out.next HDL.out HR.out.1 HR.out.2.1 HR.out.2.2.1 HZB.out HBM.out HR.out.2.2.2 HNX.out
        rw [HGP.out] at hN
        have HN := hid hN
        clear hK hN
        obtain ⟨bq, s7, p7, n7, c7, rfl, hbq, cdq, hqd⟩ := in_at IQ.out (Below.refl _ _) (i := d) (by rw [HDL.out]; omega)
        have HL := hid hqd
        clear hqd hbq
        have hlc := HR.out.2.1
        have hd0 : (0 : Int) ≤ (d : Int) := by omega
        have hd1 : (d : Int) < (d : Int) + 1 := by omega
        by_cases hgp : gp = 0
        · have hgi : ¬ (0 : Int) < (gp : Int) := by omega
          have cc501 := X5.out.both
          have cc502 := X6.out.both
          have cc503 := X5.out.stores
          obtain ⟨r504a, r504b, r504c⟩ := X5.out.last B.out (by have := HB5.out; omega) s7 p7 n7 c7
          replace IQ := hid (IQ.out.bx2 X5.out (NQ.out.one (by omega) (by omega)) s7 p7 n7 c7); replace IC := hid (IC.out.bx2 X5.out (NC.out.one (by omega) (by omega)) s7 p7 n7 c7)
          replace X6 := hid (X6.out.kept (heap2 (g := g5) (by have := HB5.out; omega) (.bool s7) (.slice p7 n7 c7)))
          replace HH := hid (HH.out.moved fun _ _ _ hv => r504c hv)
          replace HL := hid (HL.out.moved fun _ _ _ hv => r504c hv)
          replace X5 := hid r504a
          replace B := hid r504b
          clear r504a r504b r504c
          go_wp2_with fail
          go_roundw
          case rel => exact ⟨q, _, _, h, _, _, _, _, _, _, _, _, hid (HN.out h (fun hlt => by have := HNP.out; have := HDL.out; omega) (fun _ => rfl)), IQ, IC, NQ, NC, X5, X6, HL, HH, B⟩
          case measure => simp [sln]; omega
        · obtain ⟨j, hj⟩ : ∃ j, gp = j + 1 := ⟨gp - 1, by omega⟩
          have HJ := hid hj
          have hgi : (0 : Int) < (gp : Int) := by omega
          have hgn : 0 < gp := by omega
          have hx4 : IntKind.i64.wrap ((gp : Int) - 1) = (j : Int) := by rw [show (gp : Int) - 1 = j by omega]; exact IntWalk.i64_in _ (by omega)
          have HJ0 := hid (spow_ne HH0.out j)
          have HLJ : Hid (j * (30000 * (m + 1)) + 1 + 30000 * (m + 1) ≤ 60000000000) := hid (by
            have h1 : j * (30000 * (m + 1)) ≤ gp * (30000 * (m + 1)) := Nat.mul_le_mul_right _ (by omega)
            have := HLP.out
            omega)
          have HLQ : Hid (gp * mb + 1 + mb ≤ 60000000000) := hid (by
            have h1 : gp * mb ≤ 8 * mb := Nat.mul_le_mul_right _ (by have := HLP.out; omega)
            have := HBM.out
            have := HMM.out
            omega)
          clear hj
          have cc601 := X5.out.both
          have cc602 := X6.out.both
          have cc603 := X5.out.stores
          obtain ⟨r604a, r604b, r604c⟩ := X5.out.last B.out (by have := HB5.out; omega) s7 p7 n7 c7
          replace IQ := hid (IQ.out.bx2 X5.out (NQ.out.one (by omega) (by omega)) s7 p7 n7 c7); replace IC := hid (IC.out.bx2 X5.out (NC.out.one (by omega) (by omega)) s7 p7 n7 c7)
          replace X6 := hid (X6.out.kept (heap2 (g := g5) (by have := HB5.out; omega) (.bool s7) (.slice p7 n7 c7)))
          replace HH := hid (HH.out.moved fun _ _ _ hv => r604c hv)
          replace HL := hid (HL.out.moved fun _ _ _ hv => r604c hv)
          replace X5 := hid r604a
          replace B := hid r604b
          clear r604a r604b r604c
          go_upto_region 10 with fail
          generalize hW : (w'.setCell ⟨g5, 0, none⟩ (.bool s7)).setCell ⟨g5, 1, none⟩ (.slice p7 n7 c7) = W605 at *
          clear hW
          clear cdq cc601 cc602 cc603
          refine region_ops (by kernel_rfl) (by kernel_rfl) (fun a f a' w' => ∃ u46 u47 u48 u49 u50 u51 u52 u53 : Value, a' = { tmps := ((((((((a.tmps.setIfInBounds 46 u46).setIfInBounds 47 u47).setIfInBounds 48 u48).setIfInBounds 49 u49).setIfInBounds 50 u50).setIfInBounds 51 u51).setIfInBounds 52 u52).setIfInBounds 53 u53), defers := a.defers } ∧ Hid (Below W605.heap.size W605 w' ∨ f 8 = true) ∧ Hid (f 0 = true → u46 = (.agg #[.bool s7, .slice p7 n7 c7])) ∧ Hid (f 1 = true → u47 = .int .i64 (gp : Int)) ∧ Hid (f 2 = true → (ZF w' u48 (zc q d ^ gp) ∨ f 8 = true)) ∧ Hid (f 3 = true → u49 = (.agg #[.bool s6, .slice p6 n6 c6])) ∧ Hid (f 4 = true → u50 = .int .i64 (gp : Int)) ∧ Hid (f 5 = true → u51 = .int .i64 (j : Int)) ∧ Hid (f 6 = true → (ZF w' u52 (h ^ j) ∨ f 8 = true)) ∧ Hid (f 7 = true → (ZF w' u53 (zc q d ^ gp / h ^ j) ∨ f 8 = true)) ∧ Hid (f 8 = true → ∃ w2 s4 p4 n4 c4, Below W605.heap.size W605 w2 ∧ ZF w2 (.agg #[.bool s4, .slice p4 n4 c4]) (zc q d ^ gp / h ^ j) ∧ w' = (w2.setCell ⟨g5 + 1, 0, none⟩ (.bool s4)).setCell ⟨g5 + 1, 1, none⟩ (.slice p4 n4 c4)) ∧ (f 8 = true → f 0 = true) ∧ (f 8 = true → f 1 = true) ∧ (f 8 = true → f 2 = true) ∧ (f 8 = true → f 3 = true) ∧ (f 8 = true → f 4 = true) ∧ (f 8 = true → f 5 = true) ∧ (f 8 = true → f 6 = true) ∧ (f 8 = true → f 7 = true)) ?h0 ⟨?s0, ?s1, ?s2, ?s3, ?s4, ?s5, ?s6, ?s7, ?s8, trivial⟩ ?hend
          case h0 =>
            simp only [List.setIfInBounds_toArray, List.set_cons_zero, List.set_cons_succ]
            exact ⟨_, _, _, _, _, _, _, _, rfl, hid (.inl (Below.drew (Below.refl _ _))), hid (fun h => by cases h), hid (fun h => by cases h), hid (fun h => by cases h), hid (fun h => by cases h), hid (fun h => by cases h), hid (fun h => by cases h), hid (fun h => by cases h), hid (fun h => by cases h), hid (fun h => by cases h), fun h => h, fun h => h, fun h => h, fun h => h, fun h => h, fun h => h, fun h => h, fun h => h⟩
          case s0 =>
            rintro f a1 w1 ⟨u46, u47, u48, u49, u50, u51, u52, u53, rfl, HBW, h0, h1, h2, h3, h4, h5, h6, h7, h8, o8_0, o8_1, o8_2, o8_3, o8_4, o8_5, o8_6, o8_7⟩ hf hd K hK
            replace HBW := hid (HBW.out.resolve_right (fun e => absurd (o8_0 e) (by rw [hf]; decide)))
            simp only [List.setIfInBounds_toArray, List.set_cons_zero, List.set_cons_succ] at hK ⊢
            replace hK := hid hK
            obtain ⟨y1, y2⟩ := (X5.out.below HBW.out X5.out.lt).both
            go_simp
            exact hK.out _ _ ⟨_, _, _, _, _, _, _, _, rfl, hid (.inl (HBW).out), hid (fun h => rfl), hid (fun h => h1.out h), hid (fun h => h2.out h), hid (fun h => h3.out h), hid (fun h => h4.out h), hid (fun h => h5.out h), hid (fun h => h6.out h), hid (fun h => h7.out h), hid (fun h => absurd (o8_0 h) (by rw [hf]; decide)), fun _ => rfl, fun h => o8_1 h, fun h => o8_2 h, fun h => o8_3 h, fun h => o8_4 h, fun h => o8_5 h, fun h => o8_6 h, fun h => o8_7 h⟩
          case s1 =>
            rintro f a1 w1 ⟨u46, u47, u48, u49, u50, u51, u52, u53, rfl, HBW, h0, h1, h2, h3, h4, h5, h6, h7, h8, o8_0, o8_1, o8_2, o8_3, o8_4, o8_5, o8_6, o8_7⟩ hf hd K hK
            replace HBW := hid (HBW.out.resolve_right (fun e => absurd (o8_1 e) (by rw [hf]; decide)))
            simp only [List.setIfInBounds_toArray, List.set_cons_zero, List.set_cons_succ] at hK ⊢
            replace hK := hid hK
            go_simp
            exact hK.out _ _ ⟨_, _, _, _, _, _, _, _, rfl, hid (.inl (HBW).out), hid (fun h => h0.out h), hid (fun h => rfl), hid (fun h => h2.out h), hid (fun h => h3.out h), hid (fun h => h4.out h), hid (fun h => h5.out h), hid (fun h => h6.out h), hid (fun h => h7.out h), hid (fun h => absurd (o8_1 h) (by rw [hf]; decide)), fun h => o8_0 h, fun _ => rfl, fun h => o8_2 h, fun h => o8_3 h, fun h => o8_4 h, fun h => o8_5 h, fun h => o8_6 h, fun h => o8_7 h⟩
          case s2 =>
            rintro f a1 w1 ⟨u46, u47, u48, u49, u50, u51, u52, u53, rfl, HBW, h0, h1, h2, h3, h4, h5, h6, h7, h8, o8_0, o8_1, o8_2, o8_3, o8_4, o8_5, o8_6, o8_7⟩ hf hd K hK
            replace HBW := hid (HBW.out.resolve_right (fun e => absurd (o8_2 e) (by rw [hf]; decide)))
            simp only [List.setIfInBounds_toArray, List.set_cons_zero, List.set_cons_succ] at hK ⊢
            replace hK := hid hK
            simp [Region.binds] at hd
            obtain rfl := h0.out (by simp only [hd])
            obtain rfl := h1.out (by simp only [hd])
            go_simp
            refine (zpow_f (HL.out.on HBW.out) (HZB.out d) (by have := HLQ.out; omega) (by have := HLP.out; omega)).mono ?_
            rintro e w2 ⟨v, rfl, hv, hb⟩
            go_wp2_with fail
            exact hK.out _ _ ⟨_, _, _, _, _, _, _, _, rfl, hid (.inl (hid (below_next HBW.out hb)).out), hid (fun h => rfl), hid (fun h => rfl), hid (fun h => .inl hv), hid (fun h => h3.out h), hid (fun h => h4.out h), hid (fun h => h5.out h), hid (fun h => (h6.out h).imp (fun h => h.on hb) id), hid (fun h => (h7.out h).imp (fun h => h.on hb) id), hid (fun h => absurd (o8_2 h) (by rw [hf]; decide)), fun h => o8_0 h, fun h => o8_1 h, fun _ => rfl, fun h => o8_3 h, fun h => o8_4 h, fun h => o8_5 h, fun h => o8_6 h, fun h => o8_7 h⟩
          case s3 =>
            rintro f a1 w1 ⟨u46, u47, u48, u49, u50, u51, u52, u53, rfl, HBW, h0, h1, h2, h3, h4, h5, h6, h7, h8, o8_0, o8_1, o8_2, o8_3, o8_4, o8_5, o8_6, o8_7⟩ hf hd K hK
            replace HBW := hid (HBW.out.resolve_right (fun e => absurd (o8_3 e) (by rw [hf]; decide)))
            simp only [List.setIfInBounds_toArray, List.set_cons_zero, List.set_cons_succ] at hK ⊢
            replace hK := hid hK
            obtain ⟨y1, y2⟩ := (X6.out.below HBW.out X6.out.lt).both
            go_simp
            exact hK.out _ _ ⟨_, _, _, _, _, _, _, _, rfl, hid (.inl (HBW).out), hid (fun h => h0.out h), hid (fun h => h1.out h), hid (fun h => h2.out h), hid (fun h => rfl), hid (fun h => h4.out h), hid (fun h => h5.out h), hid (fun h => h6.out h), hid (fun h => h7.out h), hid (fun h => absurd (o8_3 h) (by rw [hf]; decide)), fun h => o8_0 h, fun h => o8_1 h, fun h => o8_2 h, fun _ => rfl, fun h => o8_4 h, fun h => o8_5 h, fun h => o8_6 h, fun h => o8_7 h⟩
          case s4 =>
            rintro f a1 w1 ⟨u46, u47, u48, u49, u50, u51, u52, u53, rfl, HBW, h0, h1, h2, h3, h4, h5, h6, h7, h8, o8_0, o8_1, o8_2, o8_3, o8_4, o8_5, o8_6, o8_7⟩ hf hd K hK
            replace HBW := hid (HBW.out.resolve_right (fun e => absurd (o8_4 e) (by rw [hf]; decide)))
            simp only [List.setIfInBounds_toArray, List.set_cons_zero, List.set_cons_succ] at hK ⊢
            replace hK := hid hK
            go_simp
            exact hK.out _ _ ⟨_, _, _, _, _, _, _, _, rfl, hid (.inl (HBW).out), hid (fun h => h0.out h), hid (fun h => h1.out h), hid (fun h => h2.out h), hid (fun h => h3.out h), hid (fun h => rfl), hid (fun h => h5.out h), hid (fun h => h6.out h), hid (fun h => h7.out h), hid (fun h => absurd (o8_4 h) (by rw [hf]; decide)), fun h => o8_0 h, fun h => o8_1 h, fun h => o8_2 h, fun h => o8_3 h, fun _ => rfl, fun h => o8_5 h, fun h => o8_6 h, fun h => o8_7 h⟩
          case s5 =>
            rintro f a1 w1 ⟨u46, u47, u48, u49, u50, u51, u52, u53, rfl, HBW, h0, h1, h2, h3, h4, h5, h6, h7, h8, o8_0, o8_1, o8_2, o8_3, o8_4, o8_5, o8_6, o8_7⟩ hf hd K hK
            replace HBW := hid (HBW.out.resolve_right (fun e => absurd (o8_5 e) (by rw [hf]; decide)))
            simp only [List.setIfInBounds_toArray, List.set_cons_zero, List.set_cons_succ] at hK ⊢
            replace hK := hid hK
            simp [Region.binds] at hd
            obtain rfl := h4.out (by simp only [hd])
            go_simp
            exact hK.out _ _ ⟨_, _, _, _, _, _, _, _, rfl, hid (.inl (HBW).out), hid (fun h => h0.out h), hid (fun h => h1.out h), hid (fun h => h2.out h), hid (fun h => h3.out h), hid (fun h => rfl), hid (fun h => rfl), hid (fun h => h6.out h), hid (fun h => h7.out h), hid (fun h => absurd (o8_5 h) (by rw [hf]; decide)), fun h => o8_0 h, fun h => o8_1 h, fun h => o8_2 h, fun h => o8_3 h, fun h => o8_4 h, fun _ => rfl, fun h => o8_6 h, fun h => o8_7 h⟩
          case s6 =>
            rintro f a1 w1 ⟨u46, u47, u48, u49, u50, u51, u52, u53, rfl, HBW, h0, h1, h2, h3, h4, h5, h6, h7, h8, o8_0, o8_1, o8_2, o8_3, o8_4, o8_5, o8_6, o8_7⟩ hf hd K hK
            replace HBW := hid (HBW.out.resolve_right (fun e => absurd (o8_6 e) (by rw [hf]; decide)))
            simp only [List.setIfInBounds_toArray, List.set_cons_zero, List.set_cons_succ] at hK ⊢
            replace hK := hid hK
            simp [Region.binds] at hd
            obtain rfl := h3.out (by simp only [hd])
            obtain rfl := h5.out (by simp only [hd])
            go_simp
            refine (zpow_f (HH.out.on HBW.out) HZH.out (by have := HLJ.out; omega) (by have := HLP.out; have := HJ.out; omega)).mono ?_
            rintro e w2 ⟨v, rfl, hv, hb⟩
            go_wp2_with fail
            exact hK.out _ _ ⟨_, _, _, _, _, _, _, _, rfl, hid (.inl (hid (below_next HBW.out hb)).out), hid (fun h => h0.out h), hid (fun h => h1.out h), hid (fun h => (h2.out h).imp (fun h => h.on hb) id), hid (fun h => rfl), hid (fun h => h4.out h), hid (fun h => rfl), hid (fun h => .inl hv), hid (fun h => (h7.out h).imp (fun h => h.on hb) id), hid (fun h => absurd (o8_6 h) (by rw [hf]; decide)), fun h => o8_0 h, fun h => o8_1 h, fun h => o8_2 h, fun h => o8_3 h, fun h => o8_4 h, fun h => o8_5 h, fun _ => rfl, fun h => o8_7 h⟩
          case s7 =>
            rintro f a1 w1 ⟨u46, u47, u48, u49, u50, u51, u52, u53, rfl, HBW, h0, h1, h2, h3, h4, h5, h6, h7, h8, o8_0, o8_1, o8_2, o8_3, o8_4, o8_5, o8_6, o8_7⟩ hf hd K hK
            replace HBW := hid (HBW.out.resolve_right (fun e => absurd (o8_7 e) (by rw [hf]; decide)))
            simp only [List.setIfInBounds_toArray, List.set_cons_zero, List.set_cons_succ] at hK ⊢
            replace hK := hid hK
            simp [Region.binds] at hd
            have NF : f 8 = false := by cases e : f 8 with | false => rfl | true => exact absurd (o8_7 e) (by rw [hf]; decide)
            have h2a := (h2.out (by simp only [hd])).resolve_right (fun e => by rw [NF] at e; cases e)
            have h6a := (h6.out (by simp only [hd])).resolve_right (fun e => by rw [NF] at e; cases e)
            go_simp
            refine (zdivd_f h2a h6a HJ0.out ((HZB.out d).pow gp) (HZH.out.pow j) (by have := HLQ.out; omega) (by have := HLJ.out; omega)).mono ?_
            rintro e w2 ⟨v, rfl, hv, hb⟩
            go_wp2_with fail
            exact hK.out _ _ ⟨_, _, _, _, _, _, _, _, rfl, hid (.inl (hid (below_next HBW.out hb)).out), hid (fun h => h0.out h), hid (fun h => h1.out h), hid (fun h => (h2.out h).imp (fun h => h.on hb) id), hid (fun h => h3.out h), hid (fun h => h4.out h), hid (fun h => h5.out h), hid (fun h => (h6.out h).imp (fun h => h.on hb) id), hid (fun h => .inl hv), hid (fun h => absurd (o8_7 h) (by rw [hf]; decide)), fun h => o8_0 h, fun h => o8_1 h, fun h => o8_2 h, fun h => o8_3 h, fun h => o8_4 h, fun h => o8_5 h, fun h => o8_6 h, fun _ => rfl⟩
          case s8 =>
            rintro f a1 w1 ⟨u46, u47, u48, u49, u50, u51, u52, u53, rfl, HBW, h0, h1, h2, h3, h4, h5, h6, h7, h8, o8_0, o8_1, o8_2, o8_3, o8_4, o8_5, o8_6, o8_7⟩ hf hd K hK
            replace HBW := hid (HBW.out.resolve_right (fun e => by rw [hf] at e; cases e))
            simp only [List.setIfInBounds_toArray, List.set_cons_zero, List.set_cons_succ] at hK ⊢
            replace hK := hid hK
            simp [Region.binds] at hd
            have h7a := (h7.out (by simp only [hd])).resolve_right (fun e => by rw [hf] at e; cases e)
            obtain ⟨s4, p4, n4, c4, rfl⟩ := h7a.opened
            obtain ⟨y1, y2, y3, y4⟩ := (X6.out.below HBW.out X6.out.lt).stores
            go_simp
            exact hK.out _ _ ⟨_, _, _, _, _, _, _, _, rfl, hid (.inr rfl), hid (fun h => h0.out h), hid (fun h => h1.out h), hid (fun h => .inr rfl), hid (fun h => h3.out h), hid (fun h => h4.out h), hid (fun h => h5.out h), hid (fun h => .inr rfl), hid (fun h => .inr rfl), hid (fun h => ⟨_, _, _, _, _, HBW.out, h7a, rfl⟩), fun _ => (show f 0 = true from by simp only [hd]), fun _ => (show f 1 = true from by simp only [hd]), fun _ => (show f 2 = true from by simp only [hd]), fun _ => (show f 3 = true from by simp only [hd]), fun _ => (show f 4 = true from by simp only [hd]), fun _ => (show f 5 = true from by simp only [hd]), fun _ => (show f 6 = true from by simp only [hd]), fun _ => (show f 7 = true from by simp only [hd])⟩
          case hend =>
            rintro f a1 w' ⟨u46, u47, u48, u49, u50, u51, u52, u53, rfl, HBW, h0, h1, h2, h3, h4, h5, h6, h7, h8, _⟩ hall
            simp only [List.setIfInBounds_toArray, List.set_cons_zero, List.set_cons_succ]
            obtain ⟨w2, s4, p4, n4, c4, hb, hv, rfl⟩ := h8.out (hall 8 (by decide))
            clear HBW hall h0 h1 h2 h3 h4 h5 h6 h7 h8
            replace X5 := bx X5 hb
            replace X6 := bx X6 hb
            replace HL := zf HL hb
            replace B := bb B hb
            replace IC := ino IC hb
            replace IQ := ino IQ hb
            have HX := hid hv
            clear hb hv
            have cc701 := X6.out.stores
            obtain ⟨r702a, r702b, r702c⟩ := X6.out.last B.out (by have := HB5.out; omega) s4 p4 n4 c4
            replace IQ := hid (IQ.out.bx2 X6.out (NQ.out.one (by omega) (by omega)) s4 p4 n4 c4); replace IC := hid (IC.out.bx2 X6.out (NC.out.one (by omega) (by omega)) s4 p4 n4 c4)
            replace X5 := hid (X5.out.kept (heap2 (g := g5 + 1) (by have := HB5.out; omega) (.bool s4) (.slice p4 n4 c4)))
            replace HL := hid (HL.out.moved fun _ _ _ hv => r702c hv)
            replace HX := hid (HX.out.moved fun _ _ _ hv => r702c hv)
            replace X6 := hid r702a
            replace B := hid r702b
            clear r702a r702b r702c
            go_wp2_with fail
            go_roundw
            case rel => exact ⟨q, _, _, _, _, _, _, _, _, _, _, _, hid (HN.out _ (fun _ => by rw [show gp - 1 = j by have := HJ.out; omega]) (fun e => by have := HNP.out; have := HDL.out; omega)), IQ, IC, NQ, NC, X5, X6, HL, HX, B⟩
            case measure => simp [sln]; omega

end Go.Proofs.YtokojbgpboccnaaGreat

/-
  PACKAGE pgcd: gcd, in whatever order.
-/
namespace Go.Proofs.YtokojbgpboccnaaGreat
open Go.RowKit
open Num
set_option linter.unusedVariables false
set_option maxRecDepth 100000
set_option linter.unusedSimpArgs false

set_option maxHeartbeats 1000000 in
theorem ggcd_p {w : World} {v u : Value} {lp lq : List Int} {m : Nat} (h : IN w v lp) (h' : IN w u lq) (hp : Ztr lp) (hq : Ztr lq) (hs : Zl lp m) (hs' : Zl lq m) (hm : m ≤ 100000) (hl : lp.length ≤ 9) (hl' : lq.length ≤ 9) :
    Calls Tryz.prog 78 #[v, u] w fun e w' => ∃ v' r, e = .returned v' ∧ IN w' v' r ∧ Ztr r ∧ r.length ≤ 9 ∧ mnc (zq r) = gcdp (zq lp) (zq lq) ∧ Zl r (3363 * (m + 1)) ∧ Below w.heap.size w w' := by
  by_cases hle : lq.length ≤ lp.length
  · exact ggcd_one h h' hp hq hs hs' hm hl hle
  · have H := hid (ggcd_one h' h hq hp hs' hs hm hl' (by omega))
    rw [gcdp_comm hp.trm hq.trm]
    obtain ⟨ap, cp, rfl, hn1, hc1⟩ := h.opened
    obtain ⟨aq, cq, rfl, hn2, hc2⟩ := h'.opened
    have hli : (lp.length : Int) < (lq.length : Int) := by omega
    clear h h' hp hq hs hs' hm hl hl' hle
    go_enter Tryz.func78, Tryz.ntmps78
    go_wp2_with fail
    refine H.out.mono ?_
    rintro e w1 ⟨v', r, rfl, h1, h2, h3, h4, h5, hb⟩
    have K := hid (And.intro h1 (And.intro h2 (And.intro h3 (And.intro h4 (And.intro h5 hb)))))
    clear h1 h2 h3 h4 h5 hb
    go_wp2_with fail
    go_ret
    exact ⟨_, r, rfl, K.out⟩

end Go.Proofs.YtokojbgpboccnaaGreat
