import Derived.Test.YteephnbfdblgeaaGreatDoorBunProofFareyTells18
import Derived.Deep.LoopGhost
/-
  PACKAGE farey: wayTo.
-/
namespace Go.Proofs.YteephnbfdblgeaaGreatDoor
open Go.RowKit
open Num
set_option linter.unusedVariables false
set_option maxRecDepth 100000
set_option linter.unusedSimpArgs false

theorem Frc.mono {w : World} {v : Value} {z y : Int} {k m : Nat} (h : Frc w v z y k) (hk : k ≤ m) : Frc w v z y m := by
  obtain ⟨s, p, n, c, s', p', n', c', h1, h2, h3⟩ := h
  exact ⟨s, p, n, c, s', p', n', c', h1, h2.mono hk, h3.mono hk⟩
theorem wayn_here {g : Nat} {p : Int} {q : Nat} {s : Bnd} {bs : List UInt8} (h : cmpw p q s = 0) : (wayn g p q s).map (bs ++ ·) = some bs := by
  cases g with
  | zero => rw [wayn, if_pos h]; simp
  | succ g => rw [wayn, if_pos h]; simp
theorem wayn_none {p : Int} {q : Nat} {s : Bnd} {bs : List UInt8} (h : cmpw p q s ≠ 0) : (wayn 0 p q s).map (bs ++ ·) = none := by rw [wayn, if_neg h]; rfl
theorem wayn_left {g : Nat} {p : Int} {q : Nat} {bs : List UInt8} (h : cmpw p q (wlk bnd0 bs) = -1) : (wayn (g + 1) p q (wlk bnd0 bs)).map (bs ++ ·) = (wayn g p q (wlk bnd0 (bs ++ [76]))).map ((bs ++ [76]) ++ ·) := by
  rw [wayn, if_neg (by omega), if_pos (by omega), Option.map_map, wlk_snoc]
  congr 1
  funext t
  simp
theorem wayn_right {g : Nat} {p : Int} {q : Nat} {bs : List UInt8} (h : cmpw p q (wlk bnd0 bs) = 1) : (wayn (g + 1) p q (wlk bnd0 bs)).map (bs ++ ·) = (wayn g p q (wlk bnd0 (bs ++ [82]))).map ((bs ++ [82]) ++ ·) := by
  rw [wayn, if_neg (by omega), if_neg (by omega), Option.map_map, wlk_snoc]
  congr 1
  funext t
  simp
theorem wayn_start (o : Option (List UInt8)) : o = o.map ([] ++ ·) := by cases o <;> rfl
theorem cmpw_three (p : Int) (q : Nat) (s : Bnd) : cmpw p q s = 0 ∨ cmpw p q s = -1 ∨ cmpw p q s = 1 := by
  unfold cmpw
  rcases Int.lt_trichotomy (p * s.n - s.m * q) 0 with h | h | h
  · exact .inr (.inl (Int.sign_eq_neg_one_of_neg h))
  · rw [h]; exact .inl rfl
  · exact .inr (.inr (Int.sign_eq_one_of_pos h))

set_option maxHeartbeats 8000000 in
theorem wayTo_frc {w : World} {v : Value} {p : Int} {q k : Nat} (h : Frc w v p q k) (hk1 : 1 ≤ k) (hk : k ≤ 68719476736) :
    Calls Tryz.prog 36 #[v] w fun e w' => ((∃ l, wayn 30 p q bnd0 = some l ∧ e = .returned (.tuple #[.string ⟨l.toArray⟩, .nilIface])) ∨ (wayn 30 p q bnd0 = none ∧ e = .returned (.tuple #[.string ⟨#[]⟩, errno 4]))) ∧ Below w.heap.size w w' := by
  obtain ⟨i0, hi, hz0, hz1, hz2⟩ := info_parts infoU8
  obtain ⟨s1a, p1a, n1a, c1a, s1b, p1b, n1b, c1b, rfl⟩ := h.opened
  obtain ⟨ht1, hu1⟩ := h.two
  have HK := hid hk
  have HK1 := hid hk1
  have B := hid (Below.refl w.heap.size w)
  have HT1 := hid ht1
  have HU1 := hid hu1
  have hb1 := (Below.refl _ _).alloc (Nat.le_refl w.heap.size) (.cells #[.bool s1a, .slice p1a n1a c1a, .bool s1b, .slice p1b n1b c1b] 66)
  have hx2 := Fbx.new w s1a s1b (.slice p1a n1a c1a) (.slice p1b n1b c1b)
  replace HT1 := wl HT1 hb1
  replace HU1 := wl HU1 hb1
  replace B := bb B hb1
  have X1 := hid hx2
  have hs3 : (w.alloc (.cells #[.bool s1a, .slice p1a n1a c1a, .bool s1b, .slice p1b n1b c1b] 66)).heap.size = w.heap.size + 1 := by simp
  clear hb1 hx2
  clear hs3 h ht1 hu1 hk hk1
  go_enter Tryz.func36, Tryz.ntmps36
  obtain ⟨cc4a, cc4b, cc4c, cc4d⟩ := X1.out.cells
  go_wp2_with fail
  generalize hW : w.alloc (.cells #[.bool s1a, .slice p1a n1a c1a, .bool s1b, .slice p1b n1b c1b] 66) = W5 at *
  clear hW
  refine (descent_tri W5).mono ?_
  rintro e w1 ⟨v, gl, gh, gm, rfl, hv, ht, hb⟩
  obtain ⟨s2a, p2a, n2a, c2a, s2b, p2b, n2b, c2b, rfl⟩ := hv.opened
  obtain ⟨ht2, hu2⟩ := hv.two
  have LG := hid (show w.heap.size < gl ∧ gl < gh ∧ gh < gm ∧ gm < w1.heap.size from ⟨by have := ht.1; have := X1.out.lt; omega, ht.2.1, ht.2.2.1, ht.lt⟩)
  have TR := hid (show Tri w1 w.heap.size gl gh gm bnd0 from ⟨by have := LG.out; omega, ht.2⟩)
  replace X1 := fx X1 hb
  replace HT1 := wl HT1 hb
  replace HU1 := wl HU1 hb
  replace B := bb B hb
  have HT2 := hid ht2
  have HU2 := hid hu2
  clear hv ht hb ht2 hu2 cc4a cc4b cc4c cc4d
  have hb6 := (Below.refl _ _).alloc (Nat.le_refl w1.heap.size) (.cells #[.bool s2a, .slice p2a n2a c2a, .bool s2b, .slice p2b n2b c2b] 66)
  have hx7 := Fbx.new w1 s2a s2b (.slice p2a n2a c2a) (.slice p2b n2b c2b)
  replace X1 := fx X1 hb6
  replace HT1 := wl HT1 hb6
  replace HU1 := wl HU1 hb6
  replace HT2 := wl HT2 hb6
  replace HU2 := wl HU2 hb6
  replace B := bb B hb6
  replace TR := hid (TR.out.on hb6)
  have XH := hid hx7
  have hs8 : (w1.alloc (.cells #[.bool s2a, .slice p2a n2a c2a, .bool s2b, .slice p2b n2b c2b] 66)).heap.size = w1.heap.size + 1 := by simp
  clear hb6 hx7
  obtain ⟨cc9a, cc9b, cc9c, cc9d⟩ := X1.out.cells
  obtain ⟨cc10a, cc10b, cc10c, cc10d⟩ := XH.out.cells
  go_wp2_with fail
  clear cc9a cc9b cc9c cc9d cc10a cc10b cc10c cc10d
  generalize hG : w1.heap.size = G at *
  clear hG
  go_loopg [4] 30 (fun gk l wr => ∃ (bs : List UInt8) (sha : Bool) (pha : Option Addr) (nha cha : Nat) (shb : Bool) (phb : Option Addr) (nhb chb : Nat), Hid (bs.length + gk = 30) ∧ Hid (wayn 30 p q bnd0 = (wayn gk p q (wlk bnd0 bs)).map (bs ++ ·)) ∧ Hid (OwnB wr w.heap.size l bs) ∧ Hid (Fbx wr w.heap.size s1a (.slice p1a n1a c1a) s1b (.slice p1b n1b c1b)) ∧ Hid (Whl wr (.agg #[.bool s1a, .slice p1a n1a c1a]) p k) ∧ Hid (Whl wr (.agg #[.bool s1b, .slice p1b n1b c1b]) q k) ∧ Hid (Fbx wr G sha (.slice pha nha cha) shb (.slice phb nhb chb)) ∧ Hid (Whl wr (.agg #[.bool sha, .slice pha nha cha]) (wlk bnd0 bs).m 1) ∧ Hid (Whl wr (.agg #[.bool shb, .slice phb nhb chb]) (wlk bnd0 bs).n 1) ∧ Hid (Tri wr w.heap.size gl gh gm (wlk bnd0 bs)) ∧ Hid (Below w.heap.size w wr))
  case atStart => exact ⟨[], _, _, _, _, _, _, _, _, hid rfl, hid (wayn_start _), hid (OwnB.nil _ _), X1, HT1, HU1, XH, HT2, HU2, TR, B⟩
  case round =>
    obtain ⟨bs, sha, pha, nha, cha, shb, phb, nhb, chb, HL, HI, HO, X1, HT1, HU1, XH, HTh, HUh, TR, B⟩ := hrel
    rcases cmpw_three p q (wlk bnd0 bs) with hc | hc | hc
    · have HC := hid hc
      have HA := against_frc (Frc.mk2 HT1.out HU1.out) ((Frc.mk2 HTh.out HUh.out).mono HK1.out) HK.out
      rw [show (p * ((wlk bnd0 bs).n : Int) - ((wlk bnd0 bs).m : Int) * (q : Int)).sign = 0 from hc] at HA
      clear hc
      obtain ⟨cc301a, cc301b, cc301c, cc301d⟩ := X1.out.cells
      obtain ⟨cc302a, cc302b, cc302c, cc302d⟩ := XH.out.cells
      go_wp2_with fail
      refine (HA).mono ?_
      rintro e w303 ⟨rfl, hb⟩
      replace X1 := fx X1 hb
      replace XH := fx XH hb
      replace HT1 := wl HT1 hb
      replace HU1 := wl HU1 hb
      replace HTh := wl HTh hb
      replace HUh := wl HUh hb
      replace B := bb B hb
      replace TR := hid (TR.out.on hb)
      replace HO := hid (HO.out.on hb)
      clear cc301a cc301b cc301c cc301d cc302a cc302b cc302c cc302d
      clear hb 
      clear HA
      have hcv := HO.out.str
      obtain ⟨cc304a, cc304b, cc304c, cc304d⟩ := X1.out.cells
      obtain ⟨cc305a, cc305b, cc305c, cc305d⟩ := XH.out.cells
      go_wp2_with fail
      go_ret2
      exact ⟨.inl ⟨bs, by rw [HI.out]; exact wayn_here HC.out, rfl⟩, B.out⟩
    · have HC := hid hc
      have HA := against_frc (Frc.mk2 HT1.out HU1.out) ((Frc.mk2 HTh.out HUh.out).mono HK1.out) HK.out
      rw [show (p * ((wlk bnd0 bs).n : Int) - ((wlk bnd0 bs).m : Int) * (q : Int)).sign = -1 from hc] at HA
      clear hc
      obtain ⟨cc501a, cc501b, cc501c, cc501d⟩ := X1.out.cells
      obtain ⟨cc502a, cc502b, cc502c, cc502d⟩ := XH.out.cells
      go_wp2_with fail
      refine (HA).mono ?_
      rintro e w503 ⟨rfl, hb⟩
      replace X1 := fx X1 hb
      replace XH := fx XH hb
      replace HT1 := wl HT1 hb
      replace HU1 := wl HU1 hb
      replace B := bb B hb
      replace TR := hid (TR.out.on hb)
      replace HO := hid (HO.out.on hb)
      clear cc501a cc501b cc501c cc501d cc502a cc502b cc502c cc502d
      clear hb 
      clear HA
      obtain ⟨po, co, rfl⟩ := HO.out.opened
      by_cases hgk : gk = 0
      · subst hgk
        have hlen : bs.length = 30 := by have := HL.out; omega
        have h30 : ((bs.length : Int) == 30) = true := by rw [hlen]; rfl
        clear hlen
        obtain ⟨cc601a, cc601b, cc601c, cc601d⟩ := X1.out.cells
        obtain ⟨cc602a, cc602b, cc602c, cc602d⟩ := XH.out.cells
        go_wp2_with fail
        go_ret2
        exact ⟨.inr ⟨by rw [HI.out]; exact wayn_none (by rw [HC.out]; decide), rfl⟩, B.out⟩
      · obtain ⟨gk, rfl⟩ : ∃ j, gk = j + 1 := ⟨gk - 1, by omega⟩
        have hlen : bs.length < 30 := by have := HL.out; omega
        have h30 : ((bs.length : Int) == 30) = false := by simp; omega
        have HLN := hid hlen
        clear hlen hgk
        have HFI := hid (stp_fit (l := bs) (x := 76) HLN.out)
        have HIN := hid (HI.out.trans (wayn_left HC.out))
        clear HI HC
        have hb0 := (Below.refl w503.heap.size w503).alloc (Nat.le_refl _) (.cells #[.int .u8 76] 5)
        have HOA := hid (HO.out.on hb0)
        obtain ⟨cc701a, cc701b, cc701c, cc701d⟩ := X1.out.cells
        obtain ⟨cc702a, cc702b, cc702c, cc702d⟩ := XH.out.cells
        go_wp2_with (at_builtin; refine wpList_append_n8 rfl _ _ 91 rfl w.heap.size 5 i0 (.int .u8 0) 1 1 Tryz.underlying91 hi hz0 hz1 hz2 rfl (by decide) _ _ _ rfl HOA.out.1 HOA.out.2 ?c0 ⟨w503.heap.size, 0, none⟩ 1 1 [.int .u8 76] rfl rfl ?c1 ?c2 ?c3 ?c4 ?c5 ?c6 ?_)
        case c0 => intro u hu; simp [cells_byte] at hu; subst hu; exact N8.byte _
        case c1 =>
          intro j u hj
          match j, hj with
          | 0, hj => simp at hj; subst hj; simp [Addr.add]
        case c2 => intro u hu; simp at hu; subst hu; rfl
        case c3 => intro u hu; simp at hu; subst hu; exact N8.byte _
        case c4 => have := HLN.out; unfold maxLen; omega
        case c5 => have := HLN.out; omega
        case c6 => have := B.out.size; simp; omega
        intro v' wb hown hgrow hni
        have HO2 : Hid (OwnB wb w.heap.size v' (bs ++ [76])) := hid ⟨by rw [List.length_append, List.map_append]; exact hown, hni⟩
        replace X1 := fx X1 hb0
        replace X1 := hid (X1.out.own8 HOA.out hgrow)
        replace XH := fx XH hb0
        replace XH := hid (XH.out.own8 HOA.out hgrow)
        replace HT1 := wl HT1 hb0
        replace HT1 := hid (HT1.out.own8 HOA.out hgrow)
        replace HU1 := wl HU1 hb0
        replace HU1 := hid (HU1.out.own8 HOA.out hgrow)
        replace TR := hid ((TR.out.on hb0).own8 HOA.out hgrow)
        replace B := bb B hb0
        replace B := hid (HOA.out.grown B.out (by have := B.out.size; omega) hgrow)
        clear hown hgrow hni hb0 HOA HO HTh HUh h30 cc701a cc701b cc701c cc701d cc702a cc702b cc702c cc702d
        obtain ⟨cc703a, cc703b, cc703c, cc703d⟩ := X1.out.cells
        obtain ⟨cc704a, cc704b, cc704c, cc704d⟩ := XH.out.cells
        go_wp2_with fail
        refine (step_tri 76 TR.out HFI.out).mono ?_
        rintro e wc ⟨v, rfl, hv, ht, hc, hb⟩
        obtain ⟨s7a, p7a, n7a, c7a, s7b, p7b, n7b, c7b, rfl⟩ := hv.opened
        obtain ⟨ht7, hu7⟩ := hv.two
        have hl := LG.out
        replace HO2 := hid (HO2.out.but3 TR.out hc)
        replace X1 := hid (hc.fbx X1.out (by omega) (by omega) (by omega))
        replace XH := hid (hc.fbx XH.out (by omega) (by omega) (by omega))
        replace HT1 := hid (hc.2.2 _ _ _ HT1.out)
        replace HU1 := hid (hc.2.2 _ _ _ HU1.out)
        clear hl
        replace B := hid (B.out.trans hb)
        replace TR := hid ht
        have HT7 := hid ht7
        have HU7 := hid hu7
        clear hv ht hc hb ht7 hu7 cc703a cc703b cc703c cc703d cc704a cc704b cc704c cc704d
        obtain ⟨cc705a, cc705b, cc705c, cc705d⟩ := X1.out.cells
        obtain ⟨cc706a, cc706b, cc706c, cc706d⟩ := XH.out.cells
        obtain ⟨⟨cc707a, cc707b⟩, ⟨cc707c, cc707d⟩, ⟨cc707e, cc707f⟩, cc707g, cc707h⟩ := XH.out.stores
        obtain ⟨r708a, r708b, r708c⟩ := XH.out.last B.out (by have := LG.out; omega) s7a s7b p7a p7b n7a n7b c7a c7b
        replace HO2 := hid (HO2.out.set4 XH.out (.bool s7a) (.slice p7a n7a c7a) (.bool s7b) (.slice p7b n7b c7b))
        replace TR := hid (TR.out.set4 (by have := LG.out; omega) XH.out s7a s7b p7a p7b n7a n7b c7a c7b)
        replace X1 := hid ((((X1.out.other (g2 := G) (by have := LG.out; omega) 0 (.bool s7a)).other (g2 := G) (by have := LG.out; omega) 1 (.slice p7a n7a c7a)).other (g2 := G) (by have := LG.out; omega) 2 (.bool s7b)).other (g2 := G) (by have := LG.out; omega) 3 (.slice p7b n7b c7b))
        replace HT1 := hid (r708c HT1.out)
        replace HU1 := hid (r708c HU1.out)
        replace HT7 := hid (r708c HT7.out)
        replace HU7 := hid (r708c HU7.out)
        replace XH := hid r708a
        replace B := hid r708b
        clear r708a r708b r708c
        go_wp2_with fail
        go_roundg gk
        case rel => exact ⟨bs ++ [76], _, _, _, _, _, _, _, _, hid (by have := HL.out; rw [List.length_append, List.length_singleton]; omega), HIN, HO2, X1, HT1, HU1, XH, hid (by rw [wlk_snoc]; exact HT7.out), hid (by rw [wlk_snoc]; exact HU7.out), hid (by rw [wlk_snoc]; exact TR.out), B⟩
        case measure => omega
    · have HC := hid hc
      have HA := against_frc (Frc.mk2 HT1.out HU1.out) ((Frc.mk2 HTh.out HUh.out).mono HK1.out) HK.out
      rw [show (p * ((wlk bnd0 bs).n : Int) - ((wlk bnd0 bs).m : Int) * (q : Int)).sign = 1 from hc] at HA
      clear hc
      obtain ⟨cc901a, cc901b, cc901c, cc901d⟩ := X1.out.cells
      obtain ⟨cc902a, cc902b, cc902c, cc902d⟩ := XH.out.cells
      go_wp2_with fail
      refine (HA).mono ?_
      rintro e w903 ⟨rfl, hb⟩
      replace X1 := fx X1 hb
      replace XH := fx XH hb
      replace HT1 := wl HT1 hb
      replace HU1 := wl HU1 hb
      replace B := bb B hb
      replace TR := hid (TR.out.on hb)
      replace HO := hid (HO.out.on hb)
      clear cc901a cc901b cc901c cc901d cc902a cc902b cc902c cc902d
      clear hb 
      clear HA
      obtain ⟨po, co, rfl⟩ := HO.out.opened
      by_cases hgk : gk = 0
      · subst hgk
        have hlen : bs.length = 30 := by have := HL.out; omega
        have h30 : ((bs.length : Int) == 30) = true := by rw [hlen]; rfl
        clear hlen
        obtain ⟨cc1001a, cc1001b, cc1001c, cc1001d⟩ := X1.out.cells
        obtain ⟨cc1002a, cc1002b, cc1002c, cc1002d⟩ := XH.out.cells
        go_wp2_with fail
        go_ret2
        exact ⟨.inr ⟨by rw [HI.out]; exact wayn_none (by rw [HC.out]; decide), rfl⟩, B.out⟩
      · obtain ⟨gk, rfl⟩ : ∃ j, gk = j + 1 := ⟨gk - 1, by omega⟩
        have hlen : bs.length < 30 := by have := HL.out; omega
        have h30 : ((bs.length : Int) == 30) = false := by simp; omega
        have HLN := hid hlen
        clear hlen hgk
        have HFI := hid (stp_fit (l := bs) (x := 82) HLN.out)
        have HIN := hid (HI.out.trans (wayn_right HC.out))
        clear HI HC
        have hb0 := (Below.refl w903.heap.size w903).alloc (Nat.le_refl _) (.cells #[.int .u8 82] 5)
        have HOA := hid (HO.out.on hb0)
        obtain ⟨cc1101a, cc1101b, cc1101c, cc1101d⟩ := X1.out.cells
        obtain ⟨cc1102a, cc1102b, cc1102c, cc1102d⟩ := XH.out.cells
        go_wp2_with (at_builtin; refine wpList_append_n8 rfl _ _ 91 rfl w.heap.size 5 i0 (.int .u8 0) 1 1 Tryz.underlying91 hi hz0 hz1 hz2 rfl (by decide) _ _ _ rfl HOA.out.1 HOA.out.2 ?c0 ⟨w903.heap.size, 0, none⟩ 1 1 [.int .u8 82] rfl rfl ?c1 ?c2 ?c3 ?c4 ?c5 ?c6 ?_)
        case c0 => intro u hu; simp [cells_byte] at hu; subst hu; exact N8.byte _
        case c1 =>
          intro j u hj
          match j, hj with
          | 0, hj => simp at hj; subst hj; simp [Addr.add]
        case c2 => intro u hu; simp at hu; subst hu; rfl
        case c3 => intro u hu; simp at hu; subst hu; exact N8.byte _
        case c4 => have := HLN.out; unfold maxLen; omega
        case c5 => have := HLN.out; omega
        case c6 => have := B.out.size; simp; omega
        intro v' wb hown hgrow hni
        have HO2 : Hid (OwnB wb w.heap.size v' (bs ++ [82])) := hid ⟨by rw [List.length_append, List.map_append]; exact hown, hni⟩
        replace X1 := fx X1 hb0
        replace X1 := hid (X1.out.own8 HOA.out hgrow)
        replace XH := fx XH hb0
        replace XH := hid (XH.out.own8 HOA.out hgrow)
        replace HT1 := wl HT1 hb0
        replace HT1 := hid (HT1.out.own8 HOA.out hgrow)
        replace HU1 := wl HU1 hb0
        replace HU1 := hid (HU1.out.own8 HOA.out hgrow)
        replace TR := hid ((TR.out.on hb0).own8 HOA.out hgrow)
        replace B := bb B hb0
        replace B := hid (HOA.out.grown B.out (by have := B.out.size; omega) hgrow)
        clear hown hgrow hni hb0 HOA HO HTh HUh h30 cc1101a cc1101b cc1101c cc1101d cc1102a cc1102b cc1102c cc1102d
        obtain ⟨cc1103a, cc1103b, cc1103c, cc1103d⟩ := X1.out.cells
        obtain ⟨cc1104a, cc1104b, cc1104c, cc1104d⟩ := XH.out.cells
        go_wp2_with fail
        refine (step_tri 82 TR.out HFI.out).mono ?_
        rintro e wc ⟨v, rfl, hv, ht, hc, hb⟩
        obtain ⟨s7a, p7a, n7a, c7a, s7b, p7b, n7b, c7b, rfl⟩ := hv.opened
        obtain ⟨ht7, hu7⟩ := hv.two
        have hl := LG.out
        replace HO2 := hid (HO2.out.but3 TR.out hc)
        replace X1 := hid (hc.fbx X1.out (by omega) (by omega) (by omega))
        replace XH := hid (hc.fbx XH.out (by omega) (by omega) (by omega))
        replace HT1 := hid (hc.2.2 _ _ _ HT1.out)
        replace HU1 := hid (hc.2.2 _ _ _ HU1.out)
        clear hl
        replace B := hid (B.out.trans hb)
        replace TR := hid ht
        have HT7 := hid ht7
        have HU7 := hid hu7
        clear hv ht hc hb ht7 hu7 cc1103a cc1103b cc1103c cc1103d cc1104a cc1104b cc1104c cc1104d
        obtain ⟨cc1105a, cc1105b, cc1105c, cc1105d⟩ := X1.out.cells
        obtain ⟨cc1106a, cc1106b, cc1106c, cc1106d⟩ := XH.out.cells
        obtain ⟨⟨cc1107a, cc1107b⟩, ⟨cc1107c, cc1107d⟩, ⟨cc1107e, cc1107f⟩, cc1107g, cc1107h⟩ := XH.out.stores
        obtain ⟨r1108a, r1108b, r1108c⟩ := XH.out.last B.out (by have := LG.out; omega) s7a s7b p7a p7b n7a n7b c7a c7b
        replace HO2 := hid (HO2.out.set4 XH.out (.bool s7a) (.slice p7a n7a c7a) (.bool s7b) (.slice p7b n7b c7b))
        replace TR := hid (TR.out.set4 (by have := LG.out; omega) XH.out s7a s7b p7a p7b n7a n7b c7a c7b)
        replace X1 := hid ((((X1.out.other (g2 := G) (by have := LG.out; omega) 0 (.bool s7a)).other (g2 := G) (by have := LG.out; omega) 1 (.slice p7a n7a c7a)).other (g2 := G) (by have := LG.out; omega) 2 (.bool s7b)).other (g2 := G) (by have := LG.out; omega) 3 (.slice p7b n7b c7b))
        replace HT1 := hid (r1108c HT1.out)
        replace HU1 := hid (r1108c HU1.out)
        replace HT7 := hid (r1108c HT7.out)
        replace HU7 := hid (r1108c HU7.out)
        replace XH := hid r1108a
        replace B := hid r1108b
        clear r1108a r1108b r1108c
        go_wp2_with fail
        go_roundg gk
        case rel => exact ⟨bs ++ [82], _, _, _, _, _, _, _, _, hid (by have := HL.out; rw [List.length_append, List.length_singleton]; omega), HIN, HO2, X1, HT1, HU1, XH, hid (by rw [wlk_snoc]; exact HT7.out), hid (by rw [wlk_snoc]; exact HU7.out), hid (by rw [wlk_snoc]; exact TR.out), B⟩
        case measure => omega

end Go.Proofs.YteephnbfdblgeaaGreatDoor

/-
  PACKAGE farey: Way.
-/
namespace Go.Proofs.YteephnbfdblgeaaGreatDoor
open Go.RowKit
open Num
set_option linter.unusedVariables false
set_option maxRecDepth 100000
set_option linter.unusedSimpArgs false

set_option maxHeartbeats 4000000 in
theorem way_a {a : ByteArray} {k : Int} (h : BadQ a k) (ha : a.size ≤ maxLen) (w : World) :
    Calls Tryz.prog 15 #[.string a] w fun e w' => e = .returned (.tuple #[.string ⟨#[]⟩, errno k]) ∧ Below w.heap.size w w' := by
  have hne := errv_neq
  have hgd := errv_guard
  have hkk := errv_some h.ne
  have H1 := hid (qread_bad h w ha)
  have B := hid (Below.refl w.heap.size w)
  clear  h
  go_enter Tryz.func15, Tryz.ntmps15
  go_wp2_with fail
  refine (H1.out).mono ?_
  rintro e w1 ⟨rfl, hb⟩
  replace B := bb B hb
  clear hb H1
  have hb2 := (Below.refl _ _).alloc (Nat.le_refl w1.heap.size) (.cells #[.bool false, .slice none 0 0, .bool false, .slice none 0 0] 62)
  have hx3 := Nbx.new w1 false false (.slice none 0 0) (.slice none 0 0)
  replace B := bb B hb2
  have XA := hid hx3
  have hs4 : (w1.alloc (.cells #[.bool false, .slice none 0 0, .bool false, .slice none 0 0] 62)).heap.size = w1.heap.size + 1 := by simp
  clear hb2 hx3
  obtain ⟨cc5a, cc5b, cc5c, cc5d⟩ := XA.out.cells
  go_wp2_with fail
  go_ret2
  exact ⟨rfl, B.out⟩

set_option maxHeartbeats 4000000 in
theorem way_r {a : ByteArray} (h : GoodQ a) (hp : (qnum a).num ≤ 0) (w : World) :
    Calls Tryz.prog 15 #[.string a] w fun e w' => e = .returned (.tuple #[.string ⟨#[]⟩, errno 2]) ∧ Below w.heap.size w w' := by
  have hne := errv_neq
  have hgd := errv_guard
  have H1 := hid (qread_good h w)
  have HP := hid hp
  have B := hid (Below.refl w.heap.size w)
  clear  h hp
  go_enter Tryz.func15, Tryz.ntmps15
  go_wp2_with fail
  refine (H1.out).mono ?_
  rintro e w1 ⟨v, rfl, hv, hb⟩
  obtain ⟨s1a, p1a, n1a, c1a, s1b, p1b, n1b, c1b, rfl⟩ := hv.opened
  obtain ⟨ht1, d1, hu1, hd1⟩ := hv.two
  have HD1 := hid hd1
  replace B := bb B hb
  have HT1 := hid ht1
  have HU1 := hid hu1
  clear hb hv ht1 hu1 hd1 H1
  have hb2 := (Below.refl _ _).alloc (Nat.le_refl w1.heap.size) (.cells #[.bool s1a, .slice p1a n1a c1a, .bool s1b, .slice p1b n1b c1b] 62)
  have hx3 := Nbx.new w1 s1a s1b (.slice p1a n1a c1a) (.slice p1b n1b c1b)
  replace HT1 := wl HT1 hb2
  replace HU1 := wl HU1 hb2
  replace B := bb B hb2
  have XA := hid hx3
  have hs4 : (w1.alloc (.cells #[.bool s1a, .slice p1a n1a c1a, .bool s1b, .slice p1b n1b c1b] 62)).heap.size = w1.heap.size + 1 := by simp
  clear hb2 hx3
  obtain ⟨cc5a, cc5b, cc5c, cc5d⟩ := XA.out.cells
  go_wp2_with fail
  generalize hW : w1.alloc (.cells #[.bool s1a, .slice p1a n1a c1a, .bool s1b, .slice p1b n1b c1b] 62) = W6 at *
  clear hW
  refine (fractionOf_frc (Rtl.mk2 HT1.out HU1.out HD1.out) (by decide)).mono ?_
  rintro e w7 ⟨v, rfl, hv, hb⟩
  obtain ⟨s3a, p3a, n3a, c3a, s3b, p3b, n3b, c3b, rfl⟩ := hv.opened
  obtain ⟨ht3, hu3⟩ := hv.two
  replace B := bb B hb
  clear cc5a cc5b cc5c cc5d
  have HT3 := hid ht3
  have HU3 := hid hu3
  clear hb hv ht3 hu3
  have hb8 := (Below.refl _ _).alloc (Nat.le_refl w7.heap.size) (.cells #[.bool s3a, .slice p3a n3a c3a, .bool s3b, .slice p3b n3b c3b] 66)
  have hx9 := Fbx.new w7 s3a s3b (.slice p3a n3a c3a) (.slice p3b n3b c3b)
  replace HT3 := wl HT3 hb8
  replace B := bb B hb8
  have XF := hid hx9
  have hs10 : (w7.alloc (.cells #[.bool s3a, .slice p3a n3a c3a, .bool s3b, .slice p3b n3b c3b] 66)).heap.size = w7.heap.size + 1 := by simp
  clear hb8 hx9
  obtain ⟨cc11a, cc11b, cc11c, cc11d⟩ := XF.out.cells
  go_wp2_with fail
  generalize hW : w7.alloc (.cells #[.bool s3a, .slice p3a n3a c3a, .bool s3b, .slice p3b n3b c3b] 66) = W12 at *
  clear hW
  have HS := sgn_whl HT3.out
  have hsg : (qnum a).num.sign ≤ 0 := by have := HP.out; rcases Int.lt_or_eq_of_le this with h | h; rw [Int.sign_eq_neg_one_of_neg h]; decide; rw [h]; decide
  generalize (qnum a).num.sign = sg at HS hsg
  refine (HS).mono ?_
  rintro e w13 ⟨rfl, hb⟩
  replace XF := fx XF hb
  replace B := bb B hb
  clear cc11a cc11b cc11c cc11d
  clear hb 
  clear HS
  obtain ⟨cc14a, cc14b, cc14c, cc14d⟩ := XF.out.cells
  go_wp2_with fail
  go_ret2
  exact ⟨rfl, B.out⟩

set_option maxHeartbeats 4000000 in
theorem way_ok {a : ByteArray} (h : GoodQ a) (hp : 0 < (qnum a).num) (w : World) :
    Calls Tryz.prog 15 #[.string a] w fun e w' => ((∃ l, wayq (qnum a) = some l ∧ e = .returned (.tuple #[.string ⟨l.toArray⟩, .nilIface])) ∨ (wayq (qnum a) = none ∧ e = .returned (.tuple #[.string ⟨#[]⟩, errno 4]))) ∧ Below w.heap.size w w' := by
  have hne := errv_neq
  have hgd := errv_guard
  have H1 := hid (qread_good h w)
  have HP := hid hp
  have B := hid (Below.refl w.heap.size w)
  clear  h hp
  go_enter Tryz.func15, Tryz.ntmps15
  go_wp2_with fail
  refine (H1.out).mono ?_
  rintro e w1 ⟨v, rfl, hv, hb⟩
  obtain ⟨s1a, p1a, n1a, c1a, s1b, p1b, n1b, c1b, rfl⟩ := hv.opened
  obtain ⟨ht1, d1, hu1, hd1⟩ := hv.two
  have HD1 := hid hd1
  replace B := bb B hb
  have HT1 := hid ht1
  have HU1 := hid hu1
  clear hb hv ht1 hu1 hd1 H1
  have hb2 := (Below.refl _ _).alloc (Nat.le_refl w1.heap.size) (.cells #[.bool s1a, .slice p1a n1a c1a, .bool s1b, .slice p1b n1b c1b] 62)
  have hx3 := Nbx.new w1 s1a s1b (.slice p1a n1a c1a) (.slice p1b n1b c1b)
  replace HT1 := wl HT1 hb2
  replace HU1 := wl HU1 hb2
  replace B := bb B hb2
  have XA := hid hx3
  have hs4 : (w1.alloc (.cells #[.bool s1a, .slice p1a n1a c1a, .bool s1b, .slice p1b n1b c1b] 62)).heap.size = w1.heap.size + 1 := by simp
  clear hb2 hx3
  obtain ⟨cc5a, cc5b, cc5c, cc5d⟩ := XA.out.cells
  go_wp2_with fail
  generalize hW : w1.alloc (.cells #[.bool s1a, .slice p1a n1a c1a, .bool s1b, .slice p1b n1b c1b] 62) = W6 at *
  clear hW
  refine (fractionOf_frc (Rtl.mk2 HT1.out HU1.out HD1.out) (by decide)).mono ?_
  rintro e w7 ⟨v, rfl, hv, hb⟩
  obtain ⟨s3a, p3a, n3a, c3a, s3b, p3b, n3b, c3b, rfl⟩ := hv.opened
  obtain ⟨ht3, hu3⟩ := hv.two
  replace B := bb B hb
  clear cc5a cc5b cc5c cc5d
  have HT3 := hid ht3
  have HU3 := hid hu3
  clear hb hv ht3 hu3
  have hb8 := (Below.refl _ _).alloc (Nat.le_refl w7.heap.size) (.cells #[.bool s3a, .slice p3a n3a c3a, .bool s3b, .slice p3b n3b c3b] 66)
  have hx9 := Fbx.new w7 s3a s3b (.slice p3a n3a c3a) (.slice p3b n3b c3b)
  replace HT3 := wl HT3 hb8
  replace HU3 := wl HU3 hb8
  replace B := bb B hb8
  have XF := hid hx9
  have hs10 : (w7.alloc (.cells #[.bool s3a, .slice p3a n3a c3a, .bool s3b, .slice p3b n3b c3b] 66)).heap.size = w7.heap.size + 1 := by simp
  clear hb8 hx9
  obtain ⟨cc11a, cc11b, cc11c, cc11d⟩ := XF.out.cells
  go_wp2_with fail
  generalize hW : w7.alloc (.cells #[.bool s3a, .slice p3a n3a c3a, .bool s3b, .slice p3b n3b c3b] 66) = W12 at *
  clear hW
  have HS := sgn_whl HT3.out
  rw [Int.sign_eq_one_of_pos HP.out] at HS
  refine (HS).mono ?_
  rintro e w13 ⟨rfl, hb⟩
  replace XF := fx XF hb
  replace HT3 := wl HT3 hb
  replace HU3 := wl HU3 hb
  replace B := bb B hb
  clear cc11a cc11b cc11c cc11d
  clear hb 
  clear HS
  obtain ⟨cc14a, cc14b, cc14c, cc14d⟩ := XF.out.cells
  go_wp2_with fail
  refine (wayTo_frc (Frc.mk2 HT3.out HU3.out) (by decide) (by decide)).mono ?_
  rintro e w9 ⟨h9, hb⟩
  replace B := bb B hb
  clear hb HT3 HU3 XF cc14a cc14b cc14c cc14d
  rcases h9 with ⟨l, hl, rfl⟩ | ⟨hl, rfl⟩
  · have HL := hid hl
    clear hl
    go_wp2_with fail
    go_ret2
    exact ⟨.inl ⟨l, HL.out, rfl⟩, B.out⟩
  · have HL := hid hl
    clear hl
    go_wp2_with fail
    go_ret2
    exact ⟨.inr ⟨HL.out, rfl⟩, B.out⟩

def WayBad (a : ByteArray) (k : Int) : Prop := BadQ a k ∨ (GoodQ a ∧ (qnum a).num ≤ 0 ∧ k = 2) ∨ (GoodQ a ∧ 0 < (qnum a).num ∧ wayq (qnum a) = none ∧ k = 4)
def WayTells (a s : ByteArray) (k : Int) : Prop :=
  (k = 0 ∧ GoodQ a ∧ 0 < (qnum a).num ∧ ∃ l, wayq (qnum a) = some l ∧ s = ⟨l.toArray⟩) ∨ (k ≠ 0 ∧ WayBad a k ∧ s = ⟨#[]⟩)
theorem way_any (a : ByteArray) (ha : a.size ≤ maxLen) (w : World) :
    Calls Tryz.prog 15 #[.string a] w fun e w' => ∃ s k, e = .returned (.tuple #[.string s, errv k]) ∧ WayTells a s k ∧ s.size ≤ maxLen ∧ Below w.heap.size w w' := by
  rcases goodQ_or_bad a with h | ⟨k, h⟩
  · by_cases hp : 0 < (qnum a).num
    · refine (way_ok h hp w).mono ?_
      rintro e w' ⟨⟨l, hl, rfl⟩ | ⟨hl, rfl⟩, hb⟩
      · refine ⟨_, 0, rfl, .inl ⟨rfl, h, hp, l, hl, rfl⟩, ?_, hb⟩
        have := (endq_wayq hl).1
        show l.toArray.size ≤ _
        simp only [List.size_toArray]
        unfold maxLen
        omega
      · exact ⟨_, 4, by rw [errv_some (by decide)], .inr ⟨by decide, .inr (.inr ⟨h, hp, hl, rfl⟩), rfl⟩, Nat.zero_le _, hb⟩
    · refine (way_r h (by omega) w).mono ?_
      rintro e w' ⟨rfl, hb⟩
      exact ⟨_, 2, by rw [errv_some (by decide)], .inr ⟨by decide, .inr (.inl ⟨h, by omega, rfl⟩), rfl⟩, Nat.zero_le _, hb⟩
  · refine (way_a h ha w).mono ?_
    rintro e w' ⟨rfl, hb⟩
    exact ⟨_, k, by rw [errv_some h.ne], .inr ⟨h.ne, .inl h, rfl⟩, Nat.zero_le _, hb⟩

end Go.Proofs.YteephnbfdblgeaaGreatDoor

namespace Go.Proofs.YteephnbfdblgeaaGreatDoor
open Go.RowKit
open Num
set_option linter.unusedVariables false

theorem dist_text {a b c s ac bc x y : ByteArray} (h1 : QTells (· + ·) a b s 0) (h2 : QTells (· * ·) a c ac 0) (h3 : QTells (· * ·) b c bc 0) (h4 : QTells (· * ·) s c x 0) (h5 : QTells (· + ·) ac bc y 0) : x = y := by
  have e1 := (h1.yes rfl).2.2
  have e2 := (h2.yes rfl).2.2
  have e3 := (h3.yes rfl).2.2
  have e4 := (h4.yes rfl).2.2
  have e5 := (h5.yes rfl).2.2

  rw [e4, e5, e1, e2, e3, qnum_qtxt, qnum_qtxt, qnum_qtxt, Rat.add_mul]
theorem cancel_text {a b q p : ByteArray} (h1 : QDivs a b q 0) (h2 : QTells (· * ·) q b p 0) : p = a := by
  obtain ⟨g1, g2, g3, e1⟩ := h1.yes rfl
  have e2 := (h2.yes rfl).2.2

  rw [e2, e1, qnum_qtxt, Rat.div_mul_cancel g3]
  exact qtxt_good g1
theorem zero_text {b : ByteArray} (h : GoodQ b) (h0 : qnum b = 0) : b = ⟨#[48]⟩ := by
  rw [← qtxt_good h, h0, qtxt_zero]
theorem addc_text {a b s t : ByteArray} (h1 : QTells (· + ·) a b s 0) (h2 : QTells (· + ·) b a t 0) : s = t := by
  have e1 := (h1.yes rfl).2.2
  have e2 := (h2.yes rfl).2.2

  rw [e1, e2, Rat.add_comm]
theorem mulc_text {a b s t : ByteArray} (h1 : QTells (· * ·) a b s 0) (h2 : QTells (· * ·) b a t 0) : s = t := by
  have e1 := (h1.yes rfl).2.2
  have e2 := (h2.yes rfl).2.2

  rw [e1, e2, Rat.mul_comm]
theorem toList_ne {a b : ByteArray} (h : a ≠ b) : (a.toList == b.toList) = false ∧ ¬ a.toList = b.toList := by
  have h1 : ¬ a.toList = b.toList := by
    intro e
    rw [ByteArray.toList_eq, ByteArray.toList_eq] at e
    exact h (ba_ext e)
  exact ⟨by simpa using h1, h1⟩
theorem less_true {a b : ByteArray} {t : Bool} (h : QLess a b t 0) (hl : qnum a < qnum b) : t = true := by
  rw [(h.yes rfl).2.2]; exact decide_eq_true hl
theorem less_false {a b : ByteArray} {t : Bool} (h : QLess a b t 0) (hl : ¬ qnum a < qnum b) : t = false := by
  rw [(h.yes rfl).2.2]; exact decide_eq_false hl
theorem rat_tri (p q : Rat) : p < q ∨ p = q ∨ q < p := by grind
theorem rat_asym {p q : Rat} (h : p < q) : ¬ q < p := by grind
theorem same_of_num {a b : ByteArray} (ha : GoodQ a) (hb : GoodQ b) (h : qnum a = qnum b) : a = b := by
  rw [← qtxt_good ha, h, qtxt_good hb]
theorem less_trans {a b c : ByteArray} {x z v : Bool} (h1 : QLess a b x 0) (h2 : QLess b c z 0) (h3 : QLess a c v 0) (hx : x = true) (hz : z = true) : v = true := by
  have e1 := (h1.yes rfl).2.2
  have e2 := (h2.yes rfl).2.2
  rw [hx] at e1; rw [hz] at e2
  have l1 := of_decide_eq_true e1.symm
  have l2 := of_decide_eq_true e2.symm
  exact less_true h3 (by grind)
theorem less_shift {a b c ac bc : ByteArray} {x u : Bool} (h1 : QLess a b x 0) (h2 : QTells (· + ·) a c ac 0) (h3 : QTells (· + ·) b c bc 0) (h4 : QLess ac bc u 0) : u = x := by
  rw [(h4.yes rfl).2.2, (h1.yes rfl).2.2, (h2.yes rfl).2.2, (h3.yes rfl).2.2, qnum_qtxt, qnum_qtxt]
  exact decide_eq_decide.2 Rat.add_lt_add_right

theorem good_one : GoodQ ⟨#[49]⟩ := ⟨by decide, by decide +kernel⟩
theorem qnum_one : qnum ⟨#[49]⟩ = 1 := by decide +kernel
theorem good_half : GoodQ ⟨#[49, 47, 50]⟩ := ⟨by decide, by decide +kernel⟩
theorem qnum_half : qnum ⟨#[49, 47, 50]⟩ = 1 / 2 := by decide +kernel
theorem good_neg : GoodQ ⟨#[45, 49]⟩ := ⟨by decide, by decide +kernel⟩
theorem qnum_neg : qnum ⟨#[45, 49]⟩ = -1 := by decide +kernel

/-- The text of an integer is no longer than that of a greater one of its sign. -/
theorem size_ztxt_mono {y z : Int} (h : y.natAbs ≤ z.natAbs) (hs : y < 0 → z < 0) : (ztxt y).size ≤ (ztxt z).size := by
  rw [size_ztxt, size_ztxt]
  have hl : (dtext y.natAbs).length ≤ (dtext z.natAbs).length := by
    have h1 := dval_lt (dtext_all z.natAbs)
    rw [dval_dtext] at h1
    refine length_dtext_le (Nat.lt_of_le_of_lt h h1) ?_
    exact List.length_pos_iff.2 (dtext_ne _)
  split <;> split <;> omega
theorem floor_good {a : ByteArray} (h : GoodQ a) : GoodQ (ztxt (qnum a).floor) ∧ GoodZ (ztxt (qnum a).floor) := by
  have hs : (ztxt (qnum a).floor).size ≤ 100 := by
    have e := qtxt_good h
    have h1 := h.1
    rw [← e] at h1
    by_cases hd : (qnum a).den = 1
    · rw [qtxt_one hd] at h1
      have e2 : (qnum a).floor = (qnum a).num := by rw [Rat.floor_def, hd]; simp
      rw [e2]; exact h1
    · have hd0 := (qnum a).den_pos
      have h2 : (ztxt (qnum a).num).size ≤ (qtxt (qnum a)).size := by
        have := congrArg List.length (qtxt_two hd)
        rw [List.length_append] at this
        have l1 : (qtxt (qnum a)).data.toList.length = (qtxt (qnum a)).size := rfl
        have l2 : (ztxt (qnum a).num).data.toList.length = (ztxt (qnum a).num).size := rfl
        omega
      refine Nat.le_trans (size_ztxt_mono ?_ ?_) (Nat.le_trans h2 h1)
      · rw [Rat.floor_def]; exact natAbs_ediv_le _ _
      · rw [Rat.floor_def]
        intro hn
        apply Int.lt_of_not_ge
        intro hge
        have := Int.ediv_nonneg hge (show (0 : Int) ≤ (qnum a).den by omega)
        omega
  refine ⟨⟨hs, ?_⟩, hs, isWhl_ztxt _⟩
  rw [← qtxt_int]
  exact isRat_qtxt _
theorem qnum_ztxt (z : Int) : qnum (ztxt z) = z := by rw [← qtxt_int, qnum_qtxt]
theorem floor_not {a : ByteArray} : ¬ qnum a < qnum (ztxt (qnum a).floor) := by
  rw [qnum_ztxt, Rat.not_lt]; exact Rat.floor_le _
theorem floor_next {a g : ByteArray} {y : Bool} (h1 : QTells (· + ·) (ztxt (qnum a).floor) ⟨#[49]⟩ g 0) (h2 : QLess a g y 0) : y = true := by
  refine less_true h2 ?_
  rw [(h1.yes rfl).2.2, qnum_qtxt, qnum_ztxt, qnum_one]
  have := Rat.lt_floor_add_one (qnum a)
  rwa [Rat.intCast_add] at this

/-- A text of an integer reads as that fraction. -/
theorem qnum_whole {s : ByteArray} (h : GoodZ s) : GoodQ s ∧ qnum s = (znum s : Rat) := by
  have e := ztxt_good h
  have h1 : qnum s = (znum s : Rat) := by rw [← qnum_ztxt, e]
  refine ⟨⟨h.1, ?_⟩, h1⟩
  rw [← e, ← qtxt_int]
  exact isRat_qtxt _
theorem make_times {n d a m : ByteArray} (h1 : QMakes n d a 0) (h2 : QTells (· * ·) a d m 0) : m = n := by
  obtain ⟨g1, g2, g3, e1⟩ := h1.yes rfl
  rw [(h2.yes rfl).2.2, e1, qnum_qtxt, (qnum_whole g2).2, Rat.divInt_eq_div, Rat.div_mul_cancel (by intro e; exact g3 (by exact_mod_cast e)), qtxt_int]
  exact ztxt_good g1
theorem make_scaled {n d k a x y b : ByteArray} (h1 : QMakes n d a 0) (h2 : ZTells (· * ·) n k x 0) (h3 : ZTells (· * ·) d k y 0) (h4 : QMakes x y b 0) : a = b := by
  obtain ⟨g1, g2, g3, e1⟩ := h1.yes rfl
  obtain ⟨f1, f2, f3, e4⟩ := h4.yes rfl
  have e2 := (h2.yes rfl).2.2
  have e3 := (h3.yes rfl).2.2
  rw [e3, znum_ztxt] at f3
  rw [e4, e1, e2, e3, znum_ztxt, znum_ztxt]
  have hk : znum k ≠ 0 := by intro e; apply f3; show znum d * znum k = 0; rw [e, Int.mul_zero]
  rw [Rat.divInt_mul_right hk]
theorem between {a b s m : ByteArray} {is x y : Bool} (h1 : QLess a b is 0) (h2 : QTells (· + ·) a b s 0) (h3 : QTells (· * ·) s ⟨#[49, 47, 50]⟩ m 0) (h4 : QLess a m x 0) (h5 : QLess m b y 0) (hi : is = true) : x = true ∧ y = true := by
  have e1 := (h1.yes rfl).2.2
  rw [hi] at e1
  have l := of_decide_eq_true e1.symm
  have em : qnum m = (qnum a + qnum b) * (1 / 2) := by
    rw [(h3.yes rfl).2.2, (h2.yes rfl).2.2, qnum_qtxt, qnum_qtxt, qnum_half]
  exact ⟨less_true h4 (by rw [em]; grind), less_true h5 (by rw [em]; grind)⟩
theorem less_itself {a t z : ByteArray} (h1 : QTells (· * ·) a ⟨#[45, 49]⟩ t 0) (h2 : QTells (· + ·) a t z 0) : z = ⟨#[48]⟩ := by
  rw [(h2.yes rfl).2.2, (h1.yes rfl).2.2, qnum_qtxt, qnum_neg]
  have : qnum a + qnum a * -1 = 0 := by grind
  rw [this, qtxt_zero]

end Go.Proofs.YteephnbfdblgeaaGreatDoor

namespace Go.Proofs.YteephnbfdblgeaaGreatDoor
open Go.RowKit
open Num
set_option linter.unusedVariables false
set_option maxRecDepth 100000
set_option linter.unusedSimpArgs false

theorem med_gold (w : World) :
    Calls Tryz.prog 10 #[.string ⟨#[49, 47, 50]⟩, .string ⟨#[50, 47, 51]⟩] w fun e w' => e = .returned (.tuple #[.string ⟨#[51, 47, 53]⟩, .nilIface]) ∧ Below w.heap.size w w' := by
  have h := qmed_ok good_half (b := ⟨#[50, 47, 51]⟩) ⟨by decide, by decide +kernel⟩ w
  have e1 := qtxt_qnum (s := ⟨#[51, 47, 53]⟩) (by decide +kernel)
  have e3 : medq (qnum ⟨#[49, 47, 50]⟩) (qnum ⟨#[50, 47, 51]⟩) = qnum ⟨#[51, 47, 53]⟩ := by decide +kernel
  rw [e3, e1] at h
  exact h

-- @needs{abacist/abacistlaw1.middle}@
set_option maxHeartbeats 400000 in
theorem middle_true (w : World) :
    Calls Tryz.prog 4 #[] w fun e w' => e = .returned (.bool true) ∧ Below w.heap.size w w' := by
  have H := hid (med_gold w)
  go_enter Tryz.func4, Tryz.ntmps4
  go_wp2_with fail
  refine H.out.mono ?_
  rintro e w' ⟨rfl, hb⟩
  go_wp2_with fail
  go_ret
  exact ⟨rfl, hb⟩

theorem AtTells.yes {way s : ByteArray} (h : AtTells way s 0) : LR way.data.toList ∧ way.data.toList.length ≤ 30 ∧ s = qtxt (endq way.data.toList) := by
  rcases h with ⟨_, h⟩ | ⟨h, _⟩
  · exact h
  · exact absurd rfl h
theorem AtTells.no {way s : ByteArray} {k : Int} (h : AtTells way s k) (hk : k ≠ 0) : s = ⟨#[]⟩ ∧ k = wayE way.data.toList := by
  rcases h with ⟨h, _⟩ | ⟨_, h1, h2⟩
  · exact absurd h hk
  · exact ⟨h2, h1⟩
theorem AtTells.zero {way s : ByteArray} {k : Int} (h : AtTells way s k) (hl : LR way.data.toList) (hn : way.data.toList.length ≤ 30) : k = 0 := by
  rcases h with ⟨h, _⟩ | ⟨h1, h2, _⟩
  · exact h
  · rw [wayE_ok hl hn] at h2; exact h2
theorem WayTells.no {a s : ByteArray} {k : Int} (h : WayTells a s k) (hk : k ≠ 0) : s = ⟨#[]⟩ := by
  rcases h with ⟨h, _⟩ | ⟨_, _, h2⟩
  · exact absurd h hk
  · exact h2
theorem WayTells.yes {a s : ByteArray} (h : WayTells a s 0) : GoodQ a ∧ ∃ l, wayq (qnum a) = some l ∧ s = ⟨l.toArray⟩ := by
  rcases h with ⟨_, h1, _, h2⟩ | ⟨h, _⟩
  · exact ⟨h1, h2⟩
  · exact absurd rfl h
theorem WayTells.short {a s : ByteArray} (h : WayTells a s 0) : s.size ≤ 30 := by
  obtain ⟨_, l, h1, rfl⟩ := h.yes
  have := (endq_wayq h1).1
  show l.toArray.size ≤ _
  simpa using this
theorem ba_list (l : List UInt8) : (⟨l.toArray⟩ : ByteArray).data.toList = l := by simp
theorem way_of_at {way n u : ByteArray} {k : Int} (h1 : AtTells way n 0) (h2 : WayTells n u k) : k = 0 ∧ way = u := by
  obtain ⟨a1, a2, rfl⟩ := h1.yes
  have hg := endq_good a2
  have hw := wayq_endq a1 a2
  have hp := endq_pos way.data.toList
  rcases h2 with ⟨rfl, _, _, l, hl, rfl⟩ | ⟨_, hb, _⟩
  · rw [qnum_qtxt, hw] at hl
    obtain rfl := Option.some.inj hl
    exact ⟨rfl, ba_ext (by rw [ba_list])⟩
  · rcases hb with hb | ⟨_, hb, _⟩ | ⟨_, _, hb, _⟩
    · exact absurd hg hb.not
    · rw [qnum_qtxt] at hb; omega
    · rw [qnum_qtxt, hw] at hb; cases hb
theorem at_of_way {a v m : ByteArray} {k : Int} (h1 : WayTells a v 0) (h2 : AtTells v m k) : k = 0 ∧ a = m := by
  obtain ⟨hg, l, hl, rfl⟩ := h1.yes
  obtain ⟨b1, b2, b3⟩ := endq_wayq hl
  have hk := h2.zero (by rw [ba_list]; exact b2) (by rw [ba_list]; exact b1)
  subst hk
  obtain ⟨_, _, rfl⟩ := h2.yes
  rw [ba_list, b3]
  exact ⟨rfl, (qtxt_good hg).symm⟩
theorem med_between {a b m : ByteArray} {x y : Bool} (h1 : QTells medq a b m 0) (h2 : QLess a b true 0) (h3 : QLess a m x 0) (h4 : QLess m b y 0) : x = true ∧ y = true := by
  obtain ⟨_, _, e1⟩ := h1.yes rfl
  have hl := of_decide_eq_true (h2.yes rfl).2.2.symm
  obtain ⟨g1, g2⟩ := medq_between hl
  exact ⟨less_true h3 (by rw [e1, qnum_qtxt]; exact g1), less_true h4 (by rw [e1, qnum_qtxt]; exact g2)⟩
theorem at_left {way n l : ByteArray} {x : Bool} {k : Int} (h1 : AtTells way n 0) (h2 : AtTells (way ++ ⟨#[76]⟩) l 0) (h3 : QLess l n x k) : k = 0 ∧ true = x := by
  obtain ⟨a1, a2, rfl⟩ := h1.yes
  obtain ⟨b1, b2, rfl⟩ := h2.yes
  obtain rfl := h3.zero (endq_good b2) (endq_good a2)
  refine ⟨rfl, (less_true h3 ?_).symm⟩
  rw [qnum_qtxt, qnum_qtxt, app_list]
  exact endq_left _
theorem at_right {way n r : ByteArray} {x : Bool} {k : Int} (h1 : AtTells way n 0) (h2 : AtTells (way ++ ⟨#[82]⟩) r 0) (h3 : QLess n r x k) : k = 0 ∧ true = x := by
  obtain ⟨a1, a2, rfl⟩ := h1.yes
  obtain ⟨b1, b2, rfl⟩ := h2.yes
  obtain rfl := h3.zero (endq_good a2) (endq_good b2)
  refine ⟨rfl, (less_true h3 ?_).symm⟩
  rw [qnum_qtxt, qnum_qtxt, app_list]
  exact endq_right _
theorem at_turned {way t n m q : ByteArray} {k j : Int} (h1 : AtTells way n 0) (ht : t.data.toList = way.data.toList.map turn) (h2 : AtTells t m k) (h3 : QDivs ⟨#[49]⟩ n q j) : k = 0 ∧ j = 0 ∧ m = q := by
  obtain ⟨a1, a2, rfl⟩ := h1.yes
  have hk := h2.zero (by rw [ht]; exact turn_LR _) (by rw [ht, List.length_map]; exact a2)
  subst hk
  obtain ⟨_, _, rfl⟩ := h2.yes
  have hp := endq_pos way.data.toList
  have h0 : qnum (qtxt (endq way.data.toList)) ≠ 0 := by
    rw [qnum_qtxt]
    intro e
    rw [e] at hp
    exact absurd hp (by decide)
  have hj := h3.zero good_one (endq_good a2) h0
  subst hj
  obtain ⟨_, _, _, rfl⟩ := h3.yes rfl
  rw [qnum_qtxt, qnum_one, ht, endq_turn]
  exact ⟨rfl, rfl, rfl⟩

end Go.Proofs.YteephnbfdblgeaaGreatDoor
