import Derived.Shelf.Strings.Repeat
import Derived.Test.YtjeeepcnaaadmaaGreatDoorBunProofDecTells19
import Derived.Test.YtjeeepcnaaadmaaGreatDoorBunProofDecTells12
import Derived.Test.YtjeeepcnaaadmaaGreatDoorBunProofDecTells16
import Derived.Test.YtjeeepcnaaadmaaGreatDoorBunProofDecTells20
/- The contract of strings.Repeat at this program, off the library's shelf. -/
namespace Go.Proofs
open Go.Shelf Go.RowKit
def Tryz.lays105_ren : Go.Shelf.Ren := ⟨fun | 99 => 145 | 105 => 134 | 165 => 146 | 166 => 147 | 169 => 149 | 170 => 148 | 206 => 143 | 212 => 144 | 240 => 157 | 241 => 158 | 263 => 155 | 264 => 156 | 276 => 167 | 277 => 168 | n => n, fun | 0 => 0 | 3 => 3 | 4 => 4 | 5 => 5 | 9 => 9 | 20 => 20 | 37 => 160 | 46 => 192 | 51 => 164 | 53 => 173 | 70 => 197 | 72 => 199 | 75 => 34 | 76 => 201 | 80 => 90 | 109 => 195 | 127 => 211 | 146 => 207 | 148 => 209 | 164 => 146 | n => n, fun | n => n⟩
theorem Tryz.lays105 : Go.Proofs.Lays.n105 Tryz.prog Tryz.lays105_ren := {
  mixed := by kernel_rfl
  f99 := Tryz.func145.trans (congrArg some (by kernel_rfl))
  f105 := Tryz.func134.trans (congrArg some (by kernel_rfl))
  f165 := Tryz.func146.trans (congrArg some (by kernel_rfl))
  f166 := Tryz.func147.trans (congrArg some (by kernel_rfl))
  f169 := Tryz.func149.trans (congrArg some (by kernel_rfl))
  f170 := Tryz.func148.trans (congrArg some (by kernel_rfl))
  f206 := Tryz.func143.trans (congrArg some (by kernel_rfl))
  f212 := Tryz.func144.trans (congrArg some (by kernel_rfl))
  f240 := Tryz.func157.trans (congrArg some (by kernel_rfl))
  f241 := Tryz.func158.trans (congrArg some (by kernel_rfl))
  f263 := Tryz.func155.trans (congrArg some (by kernel_rfl))
  f264 := Tryz.func156.trans (congrArg some (by kernel_rfl))
  f276 := Tryz.func167.trans (congrArg some (by kernel_rfl))
  f277 := Tryz.func168.trans (congrArg some (by kernel_rfl))
  t0 := Tryz.underlying0
  a0 := Tryz.isAgg0
  z0 := Tryz.sizeOf0
  v0 := Tryz.zeroValue0
  t3 := Tryz.underlying3
  a3 := Tryz.isAgg3
  z3 := Tryz.sizeOf3
  v3 := Tryz.zeroValue3
  t4 := Tryz.underlying4
  a4 := Tryz.isAgg4
  z4 := Tryz.sizeOf4
  v4 := Tryz.zeroValue4
  t5 := Tryz.underlying5
  a5 := Tryz.isAgg5
  z5 := Tryz.sizeOf5
  v5 := Tryz.zeroValue5
  t9 := Tryz.underlying9
  a9 := Tryz.isAgg9
  z9 := Tryz.sizeOf9
  v9 := Tryz.zeroValue9
  t20 := Tryz.underlying20
  a20 := Tryz.isAgg20
  z20 := Tryz.sizeOf20
  v20 := Tryz.zeroValue20
  t37 := Tryz.underlying160
  a37 := Tryz.isAgg160
  z37 := Tryz.sizeOf160
  v37 := Tryz.zeroValue160
  t46 := Tryz.underlying192
  a46 := Tryz.isAgg192
  z46 := Tryz.sizeOf192
  v46 := Tryz.zeroValue192
  t51 := Tryz.underlying164
  a51 := Tryz.isAgg164
  z51 := Tryz.sizeOf164
  v51 := Tryz.zeroValue164
  t53 := Tryz.underlying173
  a53 := Tryz.isAgg173
  z53 := Tryz.sizeOf173
  v53 := Tryz.zeroValue173
  t70 := Tryz.underlying197
  a70 := Tryz.isAgg197
  z70 := Tryz.sizeOf197
  v70 := Tryz.zeroValue197
  t72 := Tryz.underlying199
  a72 := Tryz.isAgg199
  z72 := Tryz.sizeOf199
  v72 := Tryz.zeroValue199
  t75 := Tryz.underlying34
  a75 := Tryz.isAgg34
  z75 := Tryz.sizeOf34
  v75 := Tryz.zeroValue34
  t76 := Tryz.underlying201
  a76 := Tryz.isAgg201
  z76 := Tryz.sizeOf201
  v76 := Tryz.zeroValue201
  t109 := Tryz.underlying195
  a109 := Tryz.isAgg195
  z109 := Tryz.sizeOf195
  v109 := Tryz.zeroValue195
  t127 := Tryz.underlying211
  a127 := Tryz.isAgg211
  z127 := Tryz.sizeOf211
  v127 := Tryz.zeroValue211
  t146 := Tryz.underlying207
  a146 := Tryz.isAgg207
  z146 := Tryz.sizeOf207
  v146 := Tryz.zeroValue207
  t148 := Tryz.underlying209
  a148 := Tryz.isAgg209
  z148 := Tryz.sizeOf209
  v148 := Tryz.zeroValue209
  t164 := Tryz.underlying146
  a164 := Tryz.isAgg146
  z164 := Tryz.sizeOf146
  v164 := Tryz.zeroValue146 }
theorem Tryz.builder_extra105 : Go.Proofs.Builder.Extra Tryz.prog Tryz.lays105_ren := {
  sizeBuilder := by kernel_rfl
  liesBuilder := by kernel_rfl
  t5 := Tryz.underlying5
  a5 := Tryz.isAgg5
  z5 := Tryz.sizeOf5
  v5 := Tryz.zeroValue5
  infoByte := by kernel_rfl
  cellsByte := by kernel_rfl
  sizeByte := by kernel_rfl
  neB5 := by decide }
theorem Tryz.strings_repeat (s : ByteArray) (c : Nat) (w : World) (hc : c ≤ 9223372036854775807) (hlen : s.size * c ≤ 140737488355328) :
    Calls Tryz.prog 134 #[.string s, .int .i64 c] w fun e w' => e = .returned (.string ⟨(Lib.repeatL s.data.toList c).toArray⟩) ∧ Below w.heap.size w w' := Any.strings_Repeat Tryz.lays105 Tryz.builder_extra105 s c w hc hlen
end Go.Proofs
namespace Go.Proofs.YtjeeepcnaaadmaaGreatDoor
open Go.RowKit
open Num

/-- So many noughts. -/
def zeros (c : Nat) : ByteArray := ⟨(List.replicate c (48 : UInt8)).toArray⟩
theorem zeros_list (c : Nat) : (zeros c).data.toList = List.replicate c 48 := by simp [zeros]
theorem size_zeros (c : Nat) : (zeros c).size = c := by
  have e : (zeros c).size = (zeros c).data.toList.length := by simp
  rw [e, zeros_list, List.length_replicate]
theorem repeat_zeros (c : Nat) (hc : c ≤ 31) (w : World) :
    Calls Tryz.prog 134 #[.string ⟨#[48]⟩, .int .i64 (c : Int)] w fun e w' => e = .returned (.string (zeros c)) ∧ Below w.heap.size w w' := by
  have h := Tryz.strings_repeat ⟨#[48]⟩ c w (by omega) (by show 1 * c ≤ _; omega)
  have e : Lib.repeatL (⟨#[48]⟩ : ByteArray).data.toList c = List.replicate c 48 := by
    have := Lib.repeatL_replicate 48 1 c
    rw [Nat.mul_one] at this
    exact this
  rw [e] at h
  exact h
end Go.Proofs.YtjeeepcnaaadmaaGreatDoor

/-
  PACKAGE dec: withPoint.
-/
namespace Go.Proofs.YtjeeepcnaaadmaaGreatDoor
open Go.RowKit
open Num
set_option linter.unusedVariables false
set_option maxRecDepth 100000
set_option linter.unusedSimpArgs false

theorem pad_list (k n : Nat) : (zeros (n + 1 - (txt k).size) ++ txt k).data.toList = zpad (n + 1) (dtext k) := by
  rw [app_list, zeros_list, txt_list, size_txt]; rfl
theorem pad_size (k n : Nat) : (zeros (n + 1 - (txt k).size) ++ txt k).size = max (n + 1) (txt k).size := by
  rw [ByteArray.size_append, size_zeros]; omega
set_option maxHeartbeats 2000000 in
theorem point_dec (k n : Nat) (hn0 : 0 < n) (hn : n ≤ 30) (hk : (txt k).size ≤ 4294967296) (w : World) :
    Calls Tryz.prog 109 #[.string (txt k), .int .i64 (n : Int)] w fun e w' => e = .returned (.string (dabs k n)) ∧ Below w.heap.size w w' := by
  have HP := hid (point_text (k := k) hn0 _ (pad_list k n))
  have hps := pad_size k n
  have hzs := size_zeros (n + 1 - (txt k).size)
  have HR := hid (fun w => repeat_zeros (n + 1 - (txt k).size) (by omega) w)
  obtain ⟨c, hc⟩ : ∃ c, n + 1 - (txt k).size = c := ⟨_, rfl⟩
  rw [hc] at HP hps hzs HR
  generalize htx : txt k = s at *
  clear htx
  have hj1 : ¬ 9223372036854775807 < (zeros c).size + s.size := by rw [hzs]; omega
  generalize hz : zeros c = z at *
  clear hz
  generalize ht : z ++ s = t at *
  have hts : n + 1 ≤ t.size := by omega
  have htu : t.size ≤ 4294967400 := by omega
  have hm : max (0 : Int) ((n : Int) + 1 - (s.size : Int)) = (c : Int) := by omega
  have HM := hid hm
  obtain ⟨p, hp⟩ : ∃ p : Nat, t.size = p + n := ⟨t.size - n, by omega⟩
  have HT := hid (show (t.size : Int) - (n : Int) = (p : Int) by omega)
  have hpt : p ≤ t.size := by omega
  have hj2 : ¬ 9223372036854775807 < p + 1 := by omega
  have hj3 : ¬ 9223372036854775807 < p + 1 + (t.size - p) := by omega
  rw [show t.size - n = p by omega] at HP
  clear hc hzs hm hps hp
  go_enter Tryz.func109, Tryz.ntmps109
  go_wp2_with fail
  rw [HM.out]
  refine (HR.out w).mono ?_
  rintro e w1 ⟨rfl, hb⟩
  have B := hid hb
  clear hb HR
  go_wp2_with fail
  rw [HT.out]
  go_region_held3 (fun w' => True) (trivial) (first | fail)
  replace B := hid (Below.drew B.out)
  go_wp2_with fail
  go_ret
  exact ⟨by rw [HP.out]; rfl, B.out⟩

end Go.Proofs.YtjeeepcnaaadmaaGreatDoor

/-
  PACKAGE dec: String.
-/
namespace Go.Proofs.YtjeeepcnaaadmaaGreatDoor
open Go.RowKit
open Num
set_option linter.unusedVariables false
set_option maxRecDepth 100000
set_option linter.unusedSimpArgs false

theorem cut_neg {z : Int} (h : z < 0) : cutZ 45 (ztxt z) = txt z.natAbs ∧ ((ztxt z).data.toList.head? == some 45) = true := by
  have e := ztxt_list z
  rw [if_pos h] at e
  have hh : ((ztxt z).data.toList.head? == some 45) = true := by rw [e]; rfl
  refine ⟨?_, hh⟩
  apply ba_ext
  rw [(tail_cut hh).1, e, txt_list]; rfl
theorem cut_pos {z : Int} (h : ¬ z < 0) : cutZ 45 (ztxt z) = txt z.natAbs ∧ ((ztxt z).data.toList.head? == some 45) = false := by
  have e : ztxt z = txt z.natAbs := by rw [ztxt, if_neg h]
  have hh : ((ztxt z).data.toList.head? == some 45) = false := by
    rw [e, txt_list]
    have hall := dtext_all z.natAbs
    have hne := dtext_ne z.natAbs
    cases hd : dtext z.natAbs with
    | nil => exact absurd hd hne
    | cons a t =>
      rw [hd] at hall
      have ha : isDig a = true := by
        rw [List.all_cons, Bool.and_eq_true] at hall; exact hall.1
      have hn : a ≠ 45 := by
        intro e2
        subst e2
        exact absurd ha (by decide)
      simpa using hn
  exact ⟨by rw [same_cut hh, e], hh⟩

set_option maxHeartbeats 1000000 in
theorem decstr_n0 {w : World} {v : Value} {z : Int} {n : Nat} (h : Dcl w v z n 106) (hz : z < 0) (hn0 : n = 0) :
    Calls Tryz.prog 82 #[v] w fun e w' => e = .returned (.string (dtxt z n)) ∧ Below w.heap.size w w' := by
  obtain ⟨s1, p1, n1, c1, rfl⟩ := h.opened
  have h1 := h.one
  have hlt := size_ztxt_k h1.lt
  have hts : (txt z.natAbs).size ≤ 1100 := by have e := (cut_neg hz).1; have := size_txt_le (k := 1100) (Nat.lt_of_lt_of_le h1.lt (by decide +kernel)) (by decide); omega
  have HZS := hid (show (ztxt z).size ≤ maxLen by unfold maxLen; omega)
  have HC := hid (cut_neg hz)
  have HTS := hid hts
  subst hn0
  have HD := hid (show dtxt z 0 = ⟨#[45]⟩ ++ txt z.natAbs from by rw [dtxt, if_pos hz]; rfl)
  have hj : ¬ 9223372036854775807 < 1 + (txt z.natAbs).size := by omega
  have B := hid (Below.refl w.heap.size w)
  have HZ := hid h1
  have hb1 := (Below.refl _ _).alloc (Nat.le_refl w.heap.size) (.cells #[.bool s1, .slice p1 n1 c1, .int .i64 ((0 : Nat) : Int)] 119)
  have hx2 := Dbx.new w s1 p1 n1 c1 ((0 : Nat) : Int)
  replace HZ := wl HZ hb1
  replace B := bb B hb1
  have X1 := hid hx2
  have hs3 : (w.alloc (.cells #[.bool s1, .slice p1 n1 c1, .int .i64 ((0 : Nat) : Int)] 119)).heap.size = w.heap.size + 1 := by simp
  clear hb1 hx2
  clear hs3 h h1 hlt hts hz
  go_enter Tryz.func82, Tryz.ntmps82
  obtain ⟨cc4a, cc4b, cc4c⟩ := X1.out.cells
  go_wp2_with fail
  generalize hW : w.alloc (.cells #[.bool s1, .slice p1 n1 c1, .int .i64 ((0 : Nat) : Int)] 119) = W5 at *
  clear hW
  refine (string_whl HZ.out (by decide)).mono ?_
  rintro e w6 ⟨rfl, hb⟩
  replace X1 := dx X1 hb
  replace HZ := wl HZ hb
  replace B := bb B hb
  clear cc4a cc4b cc4c
  clear hb 
  obtain ⟨cc7a, cc7b, cc7c⟩ := X1.out.cells
  go_wp2_with fail
  have HCP := cut_prefix (ztxt z) 45 w6 HZS.out
  rw [HC.out.1, HC.out.2] at HCP
  replace HCP := hid HCP
  refine HCP.out.mono ?_
  rintro e w' ⟨rfl, rfl⟩
  clear HCP
  obtain ⟨cc8a, cc8b, cc8c⟩ := X1.out.cells
  go_wp2_with fail
  go_ret
  exact ⟨by rw [HD.out]; rfl, B.out⟩

set_option maxHeartbeats 1000000 in
theorem decstr_n1 {w : World} {v : Value} {z : Int} {n : Nat} (h : Dcl w v z n 106) (hz : z < 0) (hn0 : 0 < n) (hn : n ≤ 30) :
    Calls Tryz.prog 82 #[v] w fun e w' => e = .returned (.string (dtxt z n)) ∧ Below w.heap.size w w' := by
  obtain ⟨s1, p1, n1, c1, rfl⟩ := h.opened
  have h1 := h.one
  have hlt := size_ztxt_k h1.lt
  have hts : (txt z.natAbs).size ≤ 1100 := by have e := (cut_neg hz).1; have := size_txt_le (k := 1100) (Nat.lt_of_lt_of_le h1.lt (by decide +kernel)) (by decide); omega
  have HZS := hid (show (ztxt z).size ≤ maxLen by unfold maxLen; omega)
  have HC := hid (cut_neg hz)
  have HTS := hid hts
  have HN := hid hn
  have HN0 := hid hn0
  have hn1 : (0 : Int) < (n : Int) := by omega
  have HD := hid (show dtxt z n = ⟨#[45]⟩ ++ dabs z.natAbs n from by rw [dtxt, if_pos hz])
  have hj : ¬ 9223372036854775807 < 1 + (dabs z.natAbs n).size := by have := size_dabs (k := z.natAbs) (n := n) (m := 1100) (Nat.lt_of_lt_of_le h1.lt (by decide +kernel)) (by omega); omega
  have B := hid (Below.refl w.heap.size w)
  have HZ := hid h1
  have hb1 := (Below.refl _ _).alloc (Nat.le_refl w.heap.size) (.cells #[.bool s1, .slice p1 n1 c1, .int .i64 (n : Int)] 119)
  have hx2 := Dbx.new w s1 p1 n1 c1 (n : Int)
  replace HZ := wl HZ hb1
  replace B := bb B hb1
  have X1 := hid hx2
  have hs3 : (w.alloc (.cells #[.bool s1, .slice p1 n1 c1, .int .i64 (n : Int)] 119)).heap.size = w.heap.size + 1 := by simp
  clear hb1 hx2
  clear hs3 h h1 hlt hts hz hn hn0
  go_enter Tryz.func82, Tryz.ntmps82
  obtain ⟨cc4a, cc4b, cc4c⟩ := X1.out.cells
  go_wp2_with fail
  generalize hW : w.alloc (.cells #[.bool s1, .slice p1 n1 c1, .int .i64 (n : Int)] 119) = W5 at *
  clear hW
  refine (string_whl HZ.out (by decide)).mono ?_
  rintro e w6 ⟨rfl, hb⟩
  replace X1 := dx X1 hb
  replace HZ := wl HZ hb
  replace B := bb B hb
  clear cc4a cc4b cc4c
  clear hb 
  obtain ⟨cc7a, cc7b, cc7c⟩ := X1.out.cells
  go_wp2_with fail
  have HCP := cut_prefix (ztxt z) 45 w6 HZS.out
  rw [HC.out.1, HC.out.2] at HCP
  replace HCP := hid HCP
  refine HCP.out.mono ?_
  rintro e w' ⟨rfl, rfl⟩
  clear HCP
  obtain ⟨cc8a, cc8b, cc8c⟩ := X1.out.cells
  go_wp2_with fail
  refine (point_dec z.natAbs n HN0.out HN.out (by have := HTS.out; omega) _).mono ?_
  rintro e w9 ⟨rfl, hb⟩
  replace X1 := dx X1 hb
  replace HZ := wl HZ hb
  replace B := bb B hb
  clear cc7a cc7b cc7c cc8a cc8b cc8c
  clear hb 
  go_wp2_with fail
  go_ret
  exact ⟨by rw [HD.out]; rfl, B.out⟩

set_option maxHeartbeats 1000000 in
theorem decstr_p0 {w : World} {v : Value} {z : Int} {n : Nat} (h : Dcl w v z n 106) (hz : ¬ z < 0) (hn0 : n = 0) :
    Calls Tryz.prog 82 #[v] w fun e w' => e = .returned (.string (dtxt z n)) ∧ Below w.heap.size w w' := by
  obtain ⟨s1, p1, n1, c1, rfl⟩ := h.opened
  have h1 := h.one
  have hlt := size_ztxt_k h1.lt
  have hts : (txt z.natAbs).size ≤ 1100 := by have e := (cut_pos hz).1; have := size_txt_le (k := 1100) (Nat.lt_of_lt_of_le h1.lt (by decide +kernel)) (by decide); omega
  have HZS := hid (show (ztxt z).size ≤ maxLen by unfold maxLen; omega)
  have HC := hid (cut_pos hz)
  have HTS := hid hts
  subst hn0
  have HD := hid (show dtxt z 0 = txt z.natAbs from by rw [dtxt, if_neg hz]; rfl)
  have B := hid (Below.refl w.heap.size w)
  have HZ := hid h1
  have hb1 := (Below.refl _ _).alloc (Nat.le_refl w.heap.size) (.cells #[.bool s1, .slice p1 n1 c1, .int .i64 ((0 : Nat) : Int)] 119)
  have hx2 := Dbx.new w s1 p1 n1 c1 ((0 : Nat) : Int)
  replace HZ := wl HZ hb1
  replace B := bb B hb1
  have X1 := hid hx2
  have hs3 : (w.alloc (.cells #[.bool s1, .slice p1 n1 c1, .int .i64 ((0 : Nat) : Int)] 119)).heap.size = w.heap.size + 1 := by simp
  clear hb1 hx2
  clear hs3 h h1 hlt hts hz
  go_enter Tryz.func82, Tryz.ntmps82
  obtain ⟨cc4a, cc4b, cc4c⟩ := X1.out.cells
  go_wp2_with fail
  generalize hW : w.alloc (.cells #[.bool s1, .slice p1 n1 c1, .int .i64 ((0 : Nat) : Int)] 119) = W5 at *
  clear hW
  refine (string_whl HZ.out (by decide)).mono ?_
  rintro e w6 ⟨rfl, hb⟩
  replace X1 := dx X1 hb
  replace HZ := wl HZ hb
  replace B := bb B hb
  clear cc4a cc4b cc4c
  clear hb 
  obtain ⟨cc7a, cc7b, cc7c⟩ := X1.out.cells
  go_wp2_with fail
  have HCP := cut_prefix (ztxt z) 45 w6 HZS.out
  rw [HC.out.1, HC.out.2] at HCP
  replace HCP := hid HCP
  refine HCP.out.mono ?_
  rintro e w' ⟨rfl, rfl⟩
  clear HCP
  obtain ⟨cc8a, cc8b, cc8c⟩ := X1.out.cells
  go_wp2_with fail
  go_ret
  exact ⟨by rw [HD.out]; rfl, B.out⟩

set_option maxHeartbeats 1000000 in
theorem decstr_p1 {w : World} {v : Value} {z : Int} {n : Nat} (h : Dcl w v z n 106) (hz : ¬ z < 0) (hn0 : 0 < n) (hn : n ≤ 30) :
    Calls Tryz.prog 82 #[v] w fun e w' => e = .returned (.string (dtxt z n)) ∧ Below w.heap.size w w' := by
  obtain ⟨s1, p1, n1, c1, rfl⟩ := h.opened
  have h1 := h.one
  have hlt := size_ztxt_k h1.lt
  have hts : (txt z.natAbs).size ≤ 1100 := by have e := (cut_pos hz).1; have := size_txt_le (k := 1100) (Nat.lt_of_lt_of_le h1.lt (by decide +kernel)) (by decide); omega
  have HZS := hid (show (ztxt z).size ≤ maxLen by unfold maxLen; omega)
  have HC := hid (cut_pos hz)
  have HTS := hid hts
  have HN := hid hn
  have HN0 := hid hn0
  have hn1 : (0 : Int) < (n : Int) := by omega
  have HD := hid (show dtxt z n = dabs z.natAbs n from by rw [dtxt, if_neg hz])
  have B := hid (Below.refl w.heap.size w)
  have HZ := hid h1
  have hb1 := (Below.refl _ _).alloc (Nat.le_refl w.heap.size) (.cells #[.bool s1, .slice p1 n1 c1, .int .i64 (n : Int)] 119)
  have hx2 := Dbx.new w s1 p1 n1 c1 (n : Int)
  replace HZ := wl HZ hb1
  replace B := bb B hb1
  have X1 := hid hx2
  have hs3 : (w.alloc (.cells #[.bool s1, .slice p1 n1 c1, .int .i64 (n : Int)] 119)).heap.size = w.heap.size + 1 := by simp
  clear hb1 hx2
  clear hs3 h h1 hlt hts hz hn hn0
  go_enter Tryz.func82, Tryz.ntmps82
  obtain ⟨cc4a, cc4b, cc4c⟩ := X1.out.cells
  go_wp2_with fail
  generalize hW : w.alloc (.cells #[.bool s1, .slice p1 n1 c1, .int .i64 (n : Int)] 119) = W5 at *
  clear hW
  refine (string_whl HZ.out (by decide)).mono ?_
  rintro e w6 ⟨rfl, hb⟩
  replace X1 := dx X1 hb
  replace HZ := wl HZ hb
  replace B := bb B hb
  clear cc4a cc4b cc4c
  clear hb 
  obtain ⟨cc7a, cc7b, cc7c⟩ := X1.out.cells
  go_wp2_with fail
  have HCP := cut_prefix (ztxt z) 45 w6 HZS.out
  rw [HC.out.1, HC.out.2] at HCP
  replace HCP := hid HCP
  refine HCP.out.mono ?_
  rintro e w' ⟨rfl, rfl⟩
  clear HCP
  obtain ⟨cc8a, cc8b, cc8c⟩ := X1.out.cells
  go_wp2_with fail
  refine (point_dec z.natAbs n HN0.out HN.out (by have := HTS.out; omega) _).mono ?_
  rintro e w9 ⟨rfl, hb⟩
  replace X1 := dx X1 hb
  replace HZ := wl HZ hb
  replace B := bb B hb
  clear cc7a cc7b cc7c cc8a cc8b cc8c
  clear hb 
  go_wp2_with fail
  go_ret
  exact ⟨by rw [HD.out]; rfl, B.out⟩

theorem string_dec {w : World} {v : Value} {z : Int} {n : Nat} (h : Dcl w v z n 106) (hn : n ≤ 30) :
    Calls Tryz.prog 82 #[v] w fun e w' => e = .returned (.string (dtxt z n)) ∧ Below w.heap.size w w' := by
  by_cases hz : z < 0
  · by_cases h0 : n = 0
    · exact decstr_n0 h hz h0
    · exact decstr_n1 h hz (by omega) hn
  · by_cases h0 : n = 0
    · exact decstr_p0 h hz h0
    · exact decstr_p1 h hz (by omega) hn

end Go.Proofs.YtjeeepcnaaadmaaGreatDoor

/-
  PACKAGE dec: Text.
-/
namespace Go.Proofs.YtjeeepcnaaadmaaGreatDoor
open Go.RowKit
open Num
set_option linter.unusedVariables false
set_option maxRecDepth 100000
set_option linter.unusedSimpArgs false

set_option maxHeartbeats 1000000 in
theorem dtext_ok {a : ByteArray} {n : Nat} (h : GoodQ a) (hn : n ≤ 30) (w : World) :
    Calls Tryz.prog 43 #[.string a, .int .i64 (n : Int)] w fun e w' => e = .returned (.tuple #[.string (dtxt (nearu (qnum a) n) n), .nilIface]) ∧ Below w.heap.size w w' := by
  have hne := errv_neq
  have hgd := errv_guard
  have H1 := hid (fun w => dread_ok h hn w)
  have HN := hid hn
  have B := hid (Below.refl w.heap.size w)
  clear  h hn
  go_enter Tryz.func43, Tryz.ntmps43
  go_wp2_with fail
  refine (H1.out _).mono ?_
  rintro e w1 ⟨v, rfl, hv, hb⟩
  obtain ⟨s1a, p1a, n1a, c1a, s1b, p1b, n1b, c1b, rfl⟩ := hv.opened
  obtain ⟨ht1, d1, hu1, hd1⟩ := hv.two
  have HD1 := hid hd1
  replace B := bb B hb
  have HT1 := hid ht1
  have HU1 := hid hu1
  clear hb hv ht1 hu1 hd1 H1
  have hb2 := (Below.refl _ _).alloc (Nat.le_refl w1.heap.size) (.cells #[.bool s1a, .slice p1a n1a c1a, .bool s1b, .slice p1b n1b c1b] 83)
  have hx3 := Nbx.new w1 s1a s1b (.slice p1a n1a c1a) (.slice p1b n1b c1b)
  replace HT1 := wl HT1 hb2
  replace HU1 := wl HU1 hb2
  replace B := bb B hb2
  have XA := hid hx3
  have hs4 : (w1.alloc (.cells #[.bool s1a, .slice p1a n1a c1a, .bool s1b, .slice p1b n1b c1b] 83)).heap.size = w1.heap.size + 1 := by simp
  clear hb2 hx3
  obtain ⟨cc5a, cc5b, cc5c, cc5d⟩ := XA.out.cells
  go_wp2_with fail
  generalize hW : w1.alloc (.cells #[.bool s1a, .slice p1a n1a c1a, .bool s1b, .slice p1b n1b c1b] 83) = W6 at *
  clear hW
  refine (nearest_dec (Rtl.mk2 HT1.out HU1.out HD1.out) HN.out).mono ?_
  rintro e w7 ⟨v, rfl, hv, hb⟩
  have HV := hid hv
  replace XA := nx XA hb
  replace B := bb B hb
  clear cc5a cc5b cc5c cc5d
  clear hb hv
  obtain ⟨cc8a, cc8b, cc8c, cc8d⟩ := XA.out.cells
  go_wp2_with fail
  refine (string_dec HV.out HN.out).mono ?_
  rintro e w9 ⟨rfl, hb⟩
  replace XA := nx XA hb
  replace B := bb B hb
  clear cc8a cc8b cc8c cc8d
  clear hb 
  go_wp2_with fail
  go_ret2
  exact ⟨rfl, B.out⟩

set_option maxHeartbeats 1000000 in
theorem dtext_bad {a : ByteArray} {d k : Int} (h : BadD a d k) (ha : a.size ≤ maxLen) (w : World) :
    Calls Tryz.prog 43 #[.string a, .int .i64 d] w fun e w' => e = .returned (.tuple #[.string ⟨#[]⟩, errno k]) ∧ Below w.heap.size w w' := by
  have hne := errv_neq
  have hgd := errv_guard
  have hkk := errv_some h.ne
  have H1 := hid (fun w => dread_bad h ha w)
  have B := hid (Below.refl w.heap.size w)
  clear  h
  go_enter Tryz.func43, Tryz.ntmps43
  go_wp2_with fail
  refine (H1.out _).mono ?_
  rintro e w1 ⟨rfl, hb⟩
  replace B := bb B hb
  clear hb H1
  have hb2 := (Below.refl _ _).alloc (Nat.le_refl w1.heap.size) (.cells #[.bool false, .slice none 0 0, .bool false, .slice none 0 0] 83)
  have hx3 := Nbx.new w1 false false (.slice none 0 0) (.slice none 0 0)
  replace B := bb B hb2
  have XA := hid hx3
  have hs4 : (w1.alloc (.cells #[.bool false, .slice none 0 0, .bool false, .slice none 0 0] 83)).heap.size = w1.heap.size + 1 := by simp
  clear hb2 hx3
  obtain ⟨cc5a, cc5b, cc5c, cc5d⟩ := XA.out.cells
  go_wp2_with fail
  go_ret2
  exact ⟨rfl, B.out⟩

theorem near_lt {a : ByteArray} (h : GoodQ a) {n : Nat} (hn : n ≤ 30) : (nearu (qnum a) n).natAbs < 10 ^ 131 := by
  rw [nearu_natAbs]
  have h1 := (qnum_lt h).1
  have h2 := pten_le hn
  have h3 : (qnum a).num.natAbs * pten n / (qnum a).den ≤ (qnum a).num.natAbs * pten n := Nat.div_le_self _ _
  have h4 : (qnum a).num.natAbs * pten n ≤ 10 ^ 100 * 1000000000000000000000000000000 := Nat.mul_le_mul (Nat.le_of_lt h1) h2
  have h5 : (10 : Nat) ^ 100 * 1000000000000000000000000000000 + 1 < 10 ^ 131 := by decide +kernel
  have h6 : absu (qnum a) n ≤ (qnum a).num.natAbs * pten n / (qnum a).den + 1 := by
    unfold absu
    simp only []
    split <;> omega
  generalize (10 : Nat) ^ 100 * 1000000000000000000000000000000 = m at *
  generalize (10 : Nat) ^ 131 = l at *
  omega
theorem size_dec {a : ByteArray} (h : GoodQ a) {n : Nat} (hn : n ≤ 30) : (dtxt (nearu (qnum a) n) n).size ≤ 133 := size_dtxt (near_lt h hn) (by omega)
/-- What Text tells. -/
def DTells (a : ByteArray) (d : Int) (s : ByteArray) (k : Int) : Prop :=
  (k = 0 ∧ GoodQ a ∧ ∃ n : Nat, n ≤ 30 ∧ d = (n : Int) ∧ s = dtxt (nearu (qnum a) n) n) ∨ (k ≠ 0 ∧ BadD a d k ∧ s = ⟨#[]⟩)
theorem dtext_any (a : ByteArray) (d : Int) (ha : a.size ≤ maxLen) (w : World) :
    Calls Tryz.prog 43 #[.string a, .int .i64 d] w fun e w' => ∃ s k, e = .returned (.tuple #[.string s, errv k]) ∧ DTells a d s k ∧ s.size ≤ 133 ∧ Below w.heap.size w w' := by
  rcases dec_cases a d with ⟨h, n, hn, rfl⟩ | ⟨k, h⟩
  · refine (dtext_ok h hn w).mono ?_
    rintro e w' ⟨rfl, hb⟩
    exact ⟨_, 0, rfl, .inl ⟨rfl, h, n, hn, rfl, rfl⟩, size_dec h hn, hb⟩
  · refine (dtext_bad h ha w).mono ?_
    rintro e w' ⟨rfl, hb⟩
    exact ⟨_, k, by rw [errv_some h.ne], .inr ⟨h.ne, h, rfl⟩, Nat.zero_le _, hb⟩

end Go.Proofs.YtjeeepcnaaadmaaGreatDoor
