import Derived.Shelf.Strings.Repeat
import Derived.Test.YtjeeepcnaaadmaaBunProofDecTurned13
import Derived.Test.YtjeeepcnaaadmaaBunProofDecTurned9
import Derived.Test.YtjeeepcnaaadmaaBunProofDecTurned11
import Derived.Test.YtjeeepcnaaadmaaBunProofDecTurned12
import Derived.Test.YtjeeepcnaaadmaaBunProofDecTurned14
/- The contract of strings.Repeat at this program, off the library's shelf. -/
namespace Go.Proofs
open Go.Shelf Go.RowKit
def Try.lays105_ren : Go.Shelf.Ren := ⟨fun | 99 => 106 | 105 => 98 | 165 => 107 | 166 => 108 | 169 => 110 | 170 => 109 | 206 => 104 | 212 => 105 | 240 => 118 | 241 => 119 | 263 => 116 | 264 => 117 | 276 => 128 | 277 => 129 | n => n, fun | 0 => 0 | 3 => 3 | 4 => 4 | 5 => 5 | 9 => 9 | 20 => 20 | 37 => 96 | 46 => 115 | 51 => 108 | 53 => 113 | 70 => 121 | 72 => 123 | 75 => 24 | 76 => 125 | 80 => 56 | 109 => 119 | 127 => 135 | 146 => 131 | 148 => 133 | 164 => 141 | n => n, fun | n => n⟩
theorem Try.lays105 : Go.Proofs.Lays.n105 Try.prog Try.lays105_ren := {
  mixed := by kernel_rfl
  f99 := Try.func106.trans (congrArg some (by kernel_rfl))
  f105 := Try.func98.trans (congrArg some (by kernel_rfl))
  f165 := Try.func107.trans (congrArg some (by kernel_rfl))
  f166 := Try.func108.trans (congrArg some (by kernel_rfl))
  f169 := Try.func110.trans (congrArg some (by kernel_rfl))
  f170 := Try.func109.trans (congrArg some (by kernel_rfl))
  f206 := Try.func104.trans (congrArg some (by kernel_rfl))
  f212 := Try.func105.trans (congrArg some (by kernel_rfl))
  f240 := Try.func118.trans (congrArg some (by kernel_rfl))
  f241 := Try.func119.trans (congrArg some (by kernel_rfl))
  f263 := Try.func116.trans (congrArg some (by kernel_rfl))
  f264 := Try.func117.trans (congrArg some (by kernel_rfl))
  f276 := Try.func128.trans (congrArg some (by kernel_rfl))
  f277 := Try.func129.trans (congrArg some (by kernel_rfl))
  t0 := Try.underlying0
  a0 := Try.isAgg0
  z0 := Try.sizeOf0
  v0 := Try.zeroValue0
  t3 := Try.underlying3
  a3 := Try.isAgg3
  z3 := Try.sizeOf3
  v3 := Try.zeroValue3
  t4 := Try.underlying4
  a4 := Try.isAgg4
  z4 := Try.sizeOf4
  v4 := Try.zeroValue4
  t5 := Try.underlying5
  a5 := Try.isAgg5
  z5 := Try.sizeOf5
  v5 := Try.zeroValue5
  t9 := Try.underlying9
  a9 := Try.isAgg9
  z9 := Try.sizeOf9
  v9 := Try.zeroValue9
  t20 := Try.underlying20
  a20 := Try.isAgg20
  z20 := Try.sizeOf20
  v20 := Try.zeroValue20
  t37 := Try.underlying96
  a37 := Try.isAgg96
  z37 := Try.sizeOf96
  v37 := Try.zeroValue96
  t46 := Try.underlying115
  a46 := Try.isAgg115
  z46 := Try.sizeOf115
  v46 := Try.zeroValue115
  t51 := Try.underlying108
  a51 := Try.isAgg108
  z51 := Try.sizeOf108
  v51 := Try.zeroValue108
  t53 := Try.underlying113
  a53 := Try.isAgg113
  z53 := Try.sizeOf113
  v53 := Try.zeroValue113
  t70 := Try.underlying121
  a70 := Try.isAgg121
  z70 := Try.sizeOf121
  v70 := Try.zeroValue121
  t72 := Try.underlying123
  a72 := Try.isAgg123
  z72 := Try.sizeOf123
  v72 := Try.zeroValue123
  t75 := Try.underlying24
  a75 := Try.isAgg24
  z75 := Try.sizeOf24
  v75 := Try.zeroValue24
  t76 := Try.underlying125
  a76 := Try.isAgg125
  z76 := Try.sizeOf125
  v76 := Try.zeroValue125
  t109 := Try.underlying119
  a109 := Try.isAgg119
  z109 := Try.sizeOf119
  v109 := Try.zeroValue119
  t127 := Try.underlying135
  a127 := Try.isAgg135
  z127 := Try.sizeOf135
  v127 := Try.zeroValue135
  t146 := Try.underlying131
  a146 := Try.isAgg131
  z146 := Try.sizeOf131
  v146 := Try.zeroValue131
  t148 := Try.underlying133
  a148 := Try.isAgg133
  z148 := Try.sizeOf133
  v148 := Try.zeroValue133
  t164 := Try.underlying141
  a164 := Try.isAgg141
  z164 := Try.sizeOf141
  v164 := Try.zeroValue141 }
theorem Try.builder_extra105 : Go.Proofs.Builder.Extra Try.prog Try.lays105_ren := {
  sizeBuilder := by kernel_rfl
  liesBuilder := by kernel_rfl
  t5 := Try.underlying5
  a5 := Try.isAgg5
  z5 := Try.sizeOf5
  v5 := Try.zeroValue5
  infoByte := by kernel_rfl
  cellsByte := by kernel_rfl
  sizeByte := by kernel_rfl
  neB5 := by decide }
theorem Try.strings_repeat (s : ByteArray) (c : Nat) (w : World) (hc : c ≤ 9223372036854775807) (hlen : s.size * c ≤ 140737488355328) :
    Calls Try.prog 98 #[.string s, .int .i64 c] w fun e w' => e = .returned (.string ⟨(Lib.repeatL s.data.toList c).toArray⟩) ∧ Below w.heap.size w w' := Any.strings_Repeat Try.lays105 Try.builder_extra105 s c w hc hlen
end Go.Proofs
namespace Go.Proofs.Ytjeeepcnaaadmaa
open Go.RowKit
open Num

/-- So many noughts. -/
def zeros (c : Nat) : ByteArray := ⟨(List.replicate c (48 : UInt8)).toArray⟩
theorem zeros_list (c : Nat) : (zeros c).data.toList = List.replicate c 48 := by simp [zeros]
theorem size_zeros (c : Nat) : (zeros c).size = c := by
  have e : (zeros c).size = (zeros c).data.toList.length := by simp
  rw [e, zeros_list, List.length_replicate]
theorem repeat_zeros (c : Nat) (hc : c ≤ 31) (w : World) :
    Calls Try.prog 98 #[.string ⟨#[48]⟩, .int .i64 (c : Int)] w fun e w' => e = .returned (.string (zeros c)) ∧ Below w.heap.size w w' := by
  have h := Try.strings_repeat ⟨#[48]⟩ c w (by omega) (by show 1 * c ≤ _; omega)
  have e : Lib.repeatL (⟨#[48]⟩ : ByteArray).data.toList c = List.replicate c 48 := by
    have := Lib.repeatL_replicate 48 1 c
    rw [Nat.mul_one] at this
    exact this
  rw [e] at h
  exact h
end Go.Proofs.Ytjeeepcnaaadmaa

/-
  PACKAGE dec: withPoint.
-/
namespace Go.Proofs.Ytjeeepcnaaadmaa
open Go.RowKit
open Num
set_option linter.unusedVariables false
set_option maxRecDepth 100000
set_option linter.unusedSimpArgs false

theorem pad_list (k n : Nat) : (zeros (n + 1 - (txt k).size) ++ txt k).data.toList = zpad (n + 1) (dtext k) := by
  rw [app_list, zeros_list, txt_list, size_txt]; rfl
theorem pad_size (k n : Nat) : (zeros (n + 1 - (txt k).size) ++ txt k).size = max (n + 1) (txt k).size := by
  rw [ByteArray.size_append, size_zeros]; omega
set_option maxHeartbeats 2000000 in
theorem point_dec (k n : Nat) (hn0 : 0 < n) (hn : n ≤ 30) (hk : (txt k).size ≤ 4294967296) (w : World) :
    Calls Try.prog 78 #[.string (txt k), .int .i64 (n : Int)] w fun e w' => e = .returned (.string (dabs k n)) ∧ Below w.heap.size w w' := by
  have HP := hid (point_text (k := k) hn0 _ (pad_list k n))
  have hps := pad_size k n
  have hzs := size_zeros (n + 1 - (txt k).size)
  have HR := hid (fun w => repeat_zeros (n + 1 - (txt k).size) (by omega) w)
  obtain ⟨c, hc⟩ : ∃ c, n + 1 - (txt k).size = c := ⟨_, rfl⟩
  rw [hc] at HP hps hzs HR
  generalize htx : txt k = s at *
  clear htx
  have hj1 : ¬ 9223372036854775807 < (zeros c).size + s.size := by rw [hzs]; omega
  generalize hz : zeros c = z at *
  clear hz
  generalize ht : z ++ s = t at *
  have hts : n + 1 ≤ t.size := by omega
  have htu : t.size ≤ 4294967400 := by omega
  have hm : max (0 : Int) ((n : Int) + 1 - (s.size : Int)) = (c : Int) := by omega
  have HM := hid hm
  obtain ⟨p, hp⟩ : ∃ p : Nat, t.size = p + n := ⟨t.size - n, by omega⟩
  have HT := hid (show (t.size : Int) - (n : Int) = (p : Int) by omega)
  have hpt : p ≤ t.size := by omega
  have hj2 : ¬ 9223372036854775807 < p + 1 := by omega
  have hj3 : ¬ 9223372036854775807 < p + 1 + (t.size - p) := by omega
  rw [show t.size - n = p by omega] at HP
  clear hc hzs hm hps hp
  go_enter Try.func78, Try.ntmps78
  go_wp2_with fail
  rw [HM.out]
  refine (HR.out w).mono ?_
  rintro e w1 ⟨rfl, hb⟩
  have B := hid hb
  clear hb HR
  go_wp2_with fail
  rw [HT.out]
  go_region_held3 (fun w' => True) (trivial) (first | fail)
  replace B := hid (Below.drew B.out)
  go_wp2_with fail
  go_ret
  exact ⟨by rw [HP.out]; rfl, B.out⟩

end Go.Proofs.Ytjeeepcnaaadmaa

/-
  PACKAGE dec: String.
-/
namespace Go.Proofs.Ytjeeepcnaaadmaa
open Go.RowKit
open Num
set_option linter.unusedVariables false
set_option maxRecDepth 100000
set_option linter.unusedSimpArgs false

theorem cut_neg {z : Int} (h : z < 0) : cutZ 45 (ztxt z) = txt z.natAbs ∧ ((ztxt z).data.toList.head? == some 45) = true := by
  have e := ztxt_list z
  rw [if_pos h] at e
  have hh : ((ztxt z).data.toList.head? == some 45) = true := by rw [e]; rfl
  refine ⟨?_, hh⟩
  apply ba_ext
  rw [(tail_cut hh).1, e, txt_list]; rfl
theorem cut_pos {z : Int} (h : ¬ z < 0) : cutZ 45 (ztxt z) = txt z.natAbs ∧ ((ztxt z).data.toList.head? == some 45) = false := by
  have e : ztxt z = txt z.natAbs := by rw [ztxt, if_neg h]
  have hh : ((ztxt z).data.toList.head? == some 45) = false := by
    rw [e, txt_list]
    have hall := dtext_all z.natAbs
    have hne := dtext_ne z.natAbs
    cases hd : dtext z.natAbs with
    | nil => exact absurd hd hne
    | cons a t =>
      rw [hd] at hall
      have ha : isDig a = true := by
        rw [List.all_cons, Bool.and_eq_true] at hall; exact hall.1
      have hn : a ≠ 45 := by
        intro e2
        subst e2
        exact absurd ha (by decide)
      simpa using hn
  exact ⟨by rw [same_cut hh, e], hh⟩

set_option maxHeartbeats 1000000 in
theorem decstr_n0 {w : World} {v : Value} {z : Int} {n : Nat} (h : Dcl w v z n 106) (hz : z < 0) (hn0 : n = 0) :
    Calls Try.prog 56 #[v] w fun e w' => e = .returned (.string (dtxt z n)) ∧ Below w.heap.size w w' := by
  obtain ⟨s1, p1, n1, c1, rfl⟩ := h.opened
  have h1 := h.one
  have hlt := size_ztxt_k h1.lt
  have hts : (txt z.natAbs).size ≤ 1100 := by have e := (cut_neg hz).1; have := size_txt_le (k := 1100) (Nat.lt_of_lt_of_le h1.lt (by decide +kernel)) (by decide); omega
  have HZS := hid (show (ztxt z).size ≤ maxLen by unfold maxLen; omega)
  have HC := hid (cut_neg hz)
  have HTS := hid hts
  subst hn0
  have HD := hid (show dtxt z 0 = ⟨#[45]⟩ ++ txt z.natAbs from by rw [dtxt, if_pos hz]; rfl)
  have hj : ¬ 9223372036854775807 < 1 + (txt z.natAbs).size := by omega
  have B := hid (Below.refl w.heap.size w)
  have HZ := hid h1
  have hb1 := (Below.refl _ _).alloc (Nat.le_refl w.heap.size) (.cells #[.bool s1, .slice p1 n1 c1, .int .i64 ((0 : Nat) : Int)] 80)
  have hx2 := Dbx.new w s1 p1 n1 c1 ((0 : Nat) : Int)
  replace HZ := wl HZ hb1
  replace B := bb B hb1
  have X1 := hid hx2
  have hs3 : (w.alloc (.cells #[.bool s1, .slice p1 n1 c1, .int .i64 ((0 : Nat) : Int)] 80)).heap.size = w.heap.size + 1 := by simp
  clear hb1 hx2
  clear hs3 h h1 hlt hts hz
  go_enter Try.func56, Try.ntmps56
  obtain ⟨cc4a, cc4b, cc4c⟩ := X1.out.cells
  go_wp2_with fail
  generalize hW : w.alloc (.cells #[.bool s1, .slice p1 n1 c1, .int .i64 ((0 : Nat) : Int)] 80) = W5 at *
  clear hW
  refine (string_whl HZ.out (by decide)).mono ?_
  rintro e w6 ⟨rfl, hb⟩
  replace X1 := dx X1 hb
  replace HZ := wl HZ hb
  replace B := bb B hb
  clear cc4a cc4b cc4c
  clear hb 
  obtain ⟨cc7a, cc7b, cc7c⟩ := X1.out.cells
  go_wp2_with fail
  have HCP := cut_prefix (ztxt z) 45 w6 HZS.out
  rw [HC.out.1, HC.out.2] at HCP
  replace HCP := hid HCP
  refine HCP.out.mono ?_
  rintro e w' ⟨rfl, rfl⟩
  clear HCP
  obtain ⟨cc8a, cc8b, cc8c⟩ := X1.out.cells
  go_wp2_with fail
  go_ret
  exact ⟨by rw [HD.out]; rfl, B.out⟩

set_option maxHeartbeats 1000000 in
theorem decstr_n1 {w : World} {v : Value} {z : Int} {n : Nat} (h : Dcl w v z n 106) (hz : z < 0) (hn0 : 0 < n) (hn : n ≤ 30) :
    Calls Try.prog 56 #[v] w fun e w' => e = .returned (.string (dtxt z n)) ∧ Below w.heap.size w w' := by
  obtain ⟨s1, p1, n1, c1, rfl⟩ := h.opened
  have h1 := h.one
  have hlt := size_ztxt_k h1.lt
  have hts : (txt z.natAbs).size ≤ 1100 := by have e := (cut_neg hz).1; have := size_txt_le (k := 1100) (Nat.lt_of_lt_of_le h1.lt (by decide +kernel)) (by decide); omega
  have HZS := hid (show (ztxt z).size ≤ maxLen by unfold maxLen; omega)
  have HC := hid (cut_neg hz)
  have HTS := hid hts
  have HN := hid hn
  have HN0 := hid hn0
  have hn1 : (0 : Int) < (n : Int) := by omega
  have HD := hid (show dtxt z n = ⟨#[45]⟩ ++ dabs z.natAbs n from by rw [dtxt, if_pos hz])
  have hj : ¬ 9223372036854775807 < 1 + (dabs z.natAbs n).size := by have := size_dabs (k := z.natAbs) (n := n) (m := 1100) (Nat.lt_of_lt_of_le h1.lt (by decide +kernel)) (by omega); omega
  have B := hid (Below.refl w.heap.size w)
  have HZ := hid h1
  have hb1 := (Below.refl _ _).alloc (Nat.le_refl w.heap.size) (.cells #[.bool s1, .slice p1 n1 c1, .int .i64 (n : Int)] 80)
  have hx2 := Dbx.new w s1 p1 n1 c1 (n : Int)
  replace HZ := wl HZ hb1
  replace B := bb B hb1
  have X1 := hid hx2
  have hs3 : (w.alloc (.cells #[.bool s1, .slice p1 n1 c1, .int .i64 (n : Int)] 80)).heap.size = w.heap.size + 1 := by simp
  clear hb1 hx2
  clear hs3 h h1 hlt hts hz hn hn0
  go_enter Try.func56, Try.ntmps56
  obtain ⟨cc4a, cc4b, cc4c⟩ := X1.out.cells
  go_wp2_with fail
  generalize hW : w.alloc (.cells #[.bool s1, .slice p1 n1 c1, .int .i64 (n : Int)] 80) = W5 at *
  clear hW
  refine (string_whl HZ.out (by decide)).mono ?_
  rintro e w6 ⟨rfl, hb⟩
  replace X1 := dx X1 hb
  replace HZ := wl HZ hb
  replace B := bb B hb
  clear cc4a cc4b cc4c
  clear hb 
  obtain ⟨cc7a, cc7b, cc7c⟩ := X1.out.cells
  go_wp2_with fail
  have HCP := cut_prefix (ztxt z) 45 w6 HZS.out
  rw [HC.out.1, HC.out.2] at HCP
  replace HCP := hid HCP
  refine HCP.out.mono ?_
  rintro e w' ⟨rfl, rfl⟩
  clear HCP
  obtain ⟨cc8a, cc8b, cc8c⟩ := X1.out.cells
  go_wp2_with fail
  refine (point_dec z.natAbs n HN0.out HN.out (by have := HTS.out; omega) _).mono ?_
  rintro e w9 ⟨rfl, hb⟩
  replace X1 := dx X1 hb
  replace HZ := wl HZ hb
  replace B := bb B hb
  clear cc7a cc7b cc7c cc8a cc8b cc8c
  clear hb 
  go_wp2_with fail
  go_ret
  exact ⟨by rw [HD.out]; rfl, B.out⟩

set_option maxHeartbeats 1000000 in
theorem decstr_p0 {w : World} {v : Value} {z : Int} {n : Nat} (h : Dcl w v z n 106) (hz : ¬ z < 0) (hn0 : n = 0) :
    Calls Try.prog 56 #[v] w fun e w' => e = .returned (.string (dtxt z n)) ∧ Below w.heap.size w w' := by
  obtain ⟨s1, p1, n1, c1, rfl⟩ := h.opened
  have h1 := h.one
  have hlt := size_ztxt_k h1.lt
  have hts : (txt z.natAbs).size ≤ 1100 := by have e := (cut_pos hz).1; have := size_txt_le (k := 1100) (Nat.lt_of_lt_of_le h1.lt (by decide +kernel)) (by decide); omega
  have HZS := hid (show (ztxt z).size ≤ maxLen by unfold maxLen; omega)
  have HC := hid (cut_pos hz)
  have HTS := hid hts
  subst hn0
  have HD := hid (show dtxt z 0 = txt z.natAbs from by rw [dtxt, if_neg hz]; rfl)
  have B := hid (Below.refl w.heap.size w)
  have HZ := hid h1
  have hb1 := (Below.refl _ _).alloc (Nat.le_refl w.heap.size) (.cells #[.bool s1, .slice p1 n1 c1, .int .i64 ((0 : Nat) : Int)] 80)
  have hx2 := Dbx.new w s1 p1 n1 c1 ((0 : Nat) : Int)
  replace HZ := wl HZ hb1
  replace B := bb B hb1
  have X1 := hid hx2
  have hs3 : (w.alloc (.cells #[.bool s1, .slice p1 n1 c1, .int .i64 ((0 : Nat) : Int)] 80)).heap.size = w.heap.size + 1 := by simp
  clear hb1 hx2
  clear hs3 h h1 hlt hts hz
  go_enter Try.func56, Try.ntmps56
  obtain ⟨cc4a, cc4b, cc4c⟩ := X1.out.cells
  go_wp2_with fail
  generalize hW : w.alloc (.cells #[.bool s1, .slice p1 n1 c1, .int .i64 ((0 : Nat) : Int)] 80) = W5 at *
  clear hW
  refine (string_whl HZ.out (by decide)).mono ?_
  rintro e w6 ⟨rfl, hb⟩
  replace X1 := dx X1 hb
  replace HZ := wl HZ hb
  replace B := bb B hb
  clear cc4a cc4b cc4c
  clear hb 
  obtain ⟨cc7a, cc7b, cc7c⟩ := X1.out.cells
  go_wp2_with fail
  have HCP := cut_prefix (ztxt z) 45 w6 HZS.out
  rw [HC.out.1, HC.out.2] at HCP
  replace HCP := hid HCP
  refine HCP.out.mono ?_
  rintro e w' ⟨rfl, rfl⟩
  clear HCP
  obtain ⟨cc8a, cc8b, cc8c⟩ := X1.out.cells
  go_wp2_with fail
  go_ret
  exact ⟨by rw [HD.out]; rfl, B.out⟩

set_option maxHeartbeats 1000000 in
theorem decstr_p1 {w : World} {v : Value} {z : Int} {n : Nat} (h : Dcl w v z n 106) (hz : ¬ z < 0) (hn0 : 0 < n) (hn : n ≤ 30) :
    Calls Try.prog 56 #[v] w fun e w' => e = .returned (.string (dtxt z n)) ∧ Below w.heap.size w w' := by
  obtain ⟨s1, p1, n1, c1, rfl⟩ := h.opened
  have h1 := h.one
  have hlt := size_ztxt_k h1.lt
  have hts : (txt z.natAbs).size ≤ 1100 := by have e := (cut_pos hz).1; have := size_txt_le (k := 1100) (Nat.lt_of_lt_of_le h1.lt (by decide +kernel)) (by decide); omega
  have HZS := hid (show (ztxt z).size ≤ maxLen by unfold maxLen; omega)
  have HC := hid (cut_pos hz)
  have HTS := hid hts
  have HN := hid hn
  have HN0 := hid hn0
  have hn1 : (0 : Int) < (n : Int) := by omega
  have HD := hid (show dtxt z n = dabs z.natAbs n from by rw [dtxt, if_neg hz])
  have B := hid (Below.refl w.heap.size w)
  have HZ := hid h1
  have hb1 := (Below.refl _ _).alloc (Nat.le_refl w.heap.size) (.cells #[.bool s1, .slice p1 n1 c1, .int .i64 (n : Int)] 80)
  have hx2 := Dbx.new w s1 p1 n1 c1 (n : Int)
  replace HZ := wl HZ hb1
  replace B := bb B hb1
  have X1 := hid hx2
  have hs3 : (w.alloc (.cells #[.bool s1, .slice p1 n1 c1, .int .i64 (n : Int)] 80)).heap.size = w.heap.size + 1 := by simp
  clear hb1 hx2
  clear hs3 h h1 hlt hts hz hn hn0
  go_enter Try.func56, Try.ntmps56
  obtain ⟨cc4a, cc4b, cc4c⟩ := X1.out.cells
  go_wp2_with fail
  generalize hW : w.alloc (.cells #[.bool s1, .slice p1 n1 c1, .int .i64 (n : Int)] 80) = W5 at *
  clear hW
  refine (string_whl HZ.out (by decide)).mono ?_
  rintro e w6 ⟨rfl, hb⟩
  replace X1 := dx X1 hb
  replace HZ := wl HZ hb
  replace B := bb B hb
  clear cc4a cc4b cc4c
  clear hb 
  obtain ⟨cc7a, cc7b, cc7c⟩ := X1.out.cells
  go_wp2_with fail
  have HCP := cut_prefix (ztxt z) 45 w6 HZS.out
  rw [HC.out.1, HC.out.2] at HCP
  replace HCP := hid HCP
  refine HCP.out.mono ?_
  rintro e w' ⟨rfl, rfl⟩
  clear HCP
  obtain ⟨cc8a, cc8b, cc8c⟩ := X1.out.cells
  go_wp2_with fail
  refine (point_dec z.natAbs n HN0.out HN.out (by have := HTS.out; omega) _).mono ?_
  rintro e w9 ⟨rfl, hb⟩
  replace X1 := dx X1 hb
  replace HZ := wl HZ hb
  replace B := bb B hb
  clear cc7a cc7b cc7c cc8a cc8b cc8c
  clear hb 
  go_wp2_with fail
  go_ret
  exact ⟨by rw [HD.out]; rfl, B.out⟩

theorem string_dec {w : World} {v : Value} {z : Int} {n : Nat} (h : Dcl w v z n 106) (hn : n ≤ 30) :
    Calls Try.prog 56 #[v] w fun e w' => e = .returned (.string (dtxt z n)) ∧ Below w.heap.size w w' := by
  by_cases hz : z < 0
  · by_cases h0 : n = 0
    · exact decstr_n0 h hz h0
    · exact decstr_n1 h hz (by omega) hn
  · by_cases h0 : n = 0
    · exact decstr_p0 h hz h0
    · exact decstr_p1 h hz (by omega) hn

end Go.Proofs.Ytjeeepcnaaadmaa

/-
  PACKAGE dec: Text.
-/
namespace Go.Proofs.Ytjeeepcnaaadmaa
open Go.RowKit
open Num
set_option linter.unusedVariables false
set_option maxRecDepth 100000
set_option linter.unusedSimpArgs false

set_option maxHeartbeats 1000000 in
theorem dtext_ok {a : ByteArray} {n : Nat} (h : GoodQ a) (hn : n ≤ 30) (w : World) :
    Calls Try.prog 30 #[.string a, .int .i64 (n : Int)] w fun e w' => e = .returned (.tuple #[.string (dtxt (nearu (qnum a) n) n), .nilIface]) ∧ Below w.heap.size w w' := by
  have hne := errv_neq
  have hgd := errv_guard
  have H1 := hid (fun w => dread_ok h hn w)
  have HN := hid hn
  have B := hid (Below.refl w.heap.size w)
  clear  h hn
  go_enter Try.func30, Try.ntmps30
  go_wp2_with fail
  refine (H1.out _).mono ?_
  rintro e w1 ⟨v, rfl, hv, hb⟩
  obtain ⟨s1a, p1a, n1a, c1a, s1b, p1b, n1b, c1b, rfl⟩ := hv.opened
  obtain ⟨ht1, d1, hu1, hd1⟩ := hv.two
  have HD1 := hid hd1
  replace B := bb B hb
  have HT1 := hid ht1
  have HU1 := hid hu1
  clear hb hv ht1 hu1 hd1 H1
  have hb2 := (Below.refl _ _).alloc (Nat.le_refl w1.heap.size) (.cells #[.bool s1a, .slice p1a n1a c1a, .bool s1b, .slice p1b n1b c1b] 51)
  have hx3 := Nbx.new w1 s1a s1b (.slice p1a n1a c1a) (.slice p1b n1b c1b)
  replace HT1 := wl HT1 hb2
  replace HU1 := wl HU1 hb2
  replace B := bb B hb2
  have XA := hid hx3
  have hs4 : (w1.alloc (.cells #[.bool s1a, .slice p1a n1a c1a, .bool s1b, .slice p1b n1b c1b] 51)).heap.size = w1.heap.size + 1 := by simp
  clear hb2 hx3
  obtain ⟨cc5a, cc5b, cc5c, cc5d⟩ := XA.out.cells
  go_wp2_with fail
  generalize hW : w1.alloc (.cells #[.bool s1a, .slice p1a n1a c1a, .bool s1b, .slice p1b n1b c1b] 51) = W6 at *
  clear hW
  refine (nearest_dec (Rtl.mk2 HT1.out HU1.out HD1.out) HN.out).mono ?_
  rintro e w7 ⟨v, rfl, hv, hb⟩
  have HV := hid hv
  replace XA := nx XA hb
  replace B := bb B hb
  clear cc5a cc5b cc5c cc5d
  clear hb hv
  obtain ⟨cc8a, cc8b, cc8c, cc8d⟩ := XA.out.cells
  go_wp2_with fail
  refine (string_dec HV.out HN.out).mono ?_
  rintro e w9 ⟨rfl, hb⟩
  replace XA := nx XA hb
  replace B := bb B hb
  clear cc8a cc8b cc8c cc8d
  clear hb 
  go_wp2_with fail
  go_ret2
  exact ⟨rfl, B.out⟩

set_option maxHeartbeats 1000000 in
theorem dtext_bad {a : ByteArray} {d k : Int} (h : BadD a d k) (ha : a.size ≤ maxLen) (w : World) :
    Calls Try.prog 30 #[.string a, .int .i64 d] w fun e w' => e = .returned (.tuple #[.string ⟨#[]⟩, errno k]) ∧ Below w.heap.size w w' := by
  have hne := errv_neq
  have hgd := errv_guard
  have hkk := errv_some h.ne
  have H1 := hid (fun w => dread_bad h ha w)
  have B := hid (Below.refl w.heap.size w)
  clear  h
  go_enter Try.func30, Try.ntmps30
  go_wp2_with fail
  refine (H1.out _).mono ?_
  rintro e w1 ⟨rfl, hb⟩
  replace B := bb B hb
  clear hb H1
  have hb2 := (Below.refl _ _).alloc (Nat.le_refl w1.heap.size) (.cells #[.bool false, .slice none 0 0, .bool false, .slice none 0 0] 51)
  have hx3 := Nbx.new w1 false false (.slice none 0 0) (.slice none 0 0)
  replace B := bb B hb2
  have XA := hid hx3
  have hs4 : (w1.alloc (.cells #[.bool false, .slice none 0 0, .bool false, .slice none 0 0] 51)).heap.size = w1.heap.size + 1 := by simp
  clear hb2 hx3
  obtain ⟨cc5a, cc5b, cc5c, cc5d⟩ := XA.out.cells
  go_wp2_with fail
  go_ret2
  exact ⟨rfl, B.out⟩

theorem near_lt {a : ByteArray} (h : GoodQ a) {n : Nat} (hn : n ≤ 30) : (nearu (qnum a) n).natAbs < 10 ^ 131 := by
  rw [nearu_natAbs]
  have h1 := (qnum_lt h).1
  have h2 := pten_le hn
  have h3 : (qnum a).num.natAbs * pten n / (qnum a).den ≤ (qnum a).num.natAbs * pten n := Nat.div_le_self _ _
  have h4 : (qnum a).num.natAbs * pten n ≤ 10 ^ 100 * 1000000000000000000000000000000 := Nat.mul_le_mul (Nat.le_of_lt h1) h2
  have h5 : (10 : Nat) ^ 100 * 1000000000000000000000000000000 + 1 < 10 ^ 131 := by decide +kernel
  have h6 : absu (qnum a) n ≤ (qnum a).num.natAbs * pten n / (qnum a).den + 1 := by
    unfold absu
    simp only []
    split <;> omega
  generalize (10 : Nat) ^ 100 * 1000000000000000000000000000000 = m at *
  generalize (10 : Nat) ^ 131 = l at *
  omega
theorem size_dec {a : ByteArray} (h : GoodQ a) {n : Nat} (hn : n ≤ 30) : (dtxt (nearu (qnum a) n) n).size ≤ 133 := size_dtxt (near_lt h hn) (by omega)
/-- What Text tells. -/
def DTells (a : ByteArray) (d : Int) (s : ByteArray) (k : Int) : Prop :=
  (k = 0 ∧ GoodQ a ∧ ∃ n : Nat, n ≤ 30 ∧ d = (n : Int) ∧ s = dtxt (nearu (qnum a) n) n) ∨ (k ≠ 0 ∧ BadD a d k ∧ s = ⟨#[]⟩)
theorem dtext_any (a : ByteArray) (d : Int) (ha : a.size ≤ maxLen) (w : World) :
    Calls Try.prog 30 #[.string a, .int .i64 d] w fun e w' => ∃ s k, e = .returned (.tuple #[.string s, errv k]) ∧ DTells a d s k ∧ s.size ≤ 133 ∧ Below w.heap.size w w' := by
  rcases dec_cases a d with ⟨h, n, hn, rfl⟩ | ⟨k, h⟩
  · refine (dtext_ok h hn w).mono ?_
    rintro e w' ⟨rfl, hb⟩
    exact ⟨_, 0, rfl, .inl ⟨rfl, h, n, hn, rfl, rfl⟩, size_dec h hn, hb⟩
  · refine (dtext_bad h ha w).mono ?_
    rintro e w' ⟨rfl, hb⟩
    exact ⟨_, k, by rw [errv_some h.ne], .inr ⟨h.ne, h, rfl⟩, Nat.zero_le _, hb⟩

end Go.Proofs.Ytjeeepcnaaadmaa

/-
  THE LAW DecTurned's WALK.
-/
namespace Go.Proofs.Ytjeeepcnaaadmaa
open Go.RowKit
open Num
set_option linter.unusedVariables false
set_option maxRecDepth 100000
set_option linter.unusedSimpArgs false

theorem qnum_turn {a b : ByteArray} (h : b = qtxt (qnum a * qnum ⟨#[45, 49]⟩)) : qnum b = -qnum a := by
  rw [h, qnum_qtxt, qnum_neg]; grind
theorem size_turn {a : ByteArray} (h : GoodQ a) : (qtxt (qnum a * qnum ⟨#[45, 49]⟩)).size ≤ maxLen := size_mul h good_neg
/-- What is told of a bound turned. -/
theorem mul_turn {l x : ByteArray} {z : Int} {n : Nat} {k : Int} (h : QTells (· * ·) l ⟨#[45, 49]⟩ x k) (hk : k = 0) (hl : l = qtxt (unq z n)) : x = qtxt (unq (-z) n) := by
  obtain ⟨_, _, rfl⟩ := h.yes hk
  rw [hl, qnum_qtxt, qnum_neg, unq_neg]
  congr 1
  grind
theorem bad_any {a : ByteArray} (h : ¬ GoodQ a) (d : Int) : ∃ k, BadD a d k := by
  rcases goodQ_or_bad a with h2 | ⟨k, h2⟩
  · exact absurd h2 h
  · exact ⟨k, .inl h2⟩
theorem minus_ne (m : ByteArray) : (⟨#[45]⟩ : ByteArray) ++ m ≠ m := by
  intro e
  have := congrArg ByteArray.size e
  rw [ByteArray.size_append] at this
  have h1 : (⟨#[45]⟩ : ByteArray).size = 1 := rfl
  omega

theorem dtxt_both (z : Int) (n : Nat) : (dtxt z n = dabs z.natAbs n ∧ dtxt (-z) n = dabs z.natAbs n) ∨ (dtxt z n = ⟨#[45]⟩ ++ dabs z.natAbs n ∧ dtxt (-z) n = dabs z.natAbs n) ∨ (dtxt z n = dabs z.natAbs n ∧ dtxt (-z) n = ⟨#[45]⟩ ++ dabs z.natAbs n) := by
  unfold dtxt
  rw [Int.natAbs_neg]
  rcases Int.lt_trichotomy z 0 with h | h | h
  · right; left; rw [if_pos h, if_neg (by omega)]; exact ⟨rfl, rfl⟩
  · left; subst h; exact ⟨rfl, rfl⟩
  · right; right; rw [if_neg (by omega), if_pos (by omega)]; exact ⟨rfl, rfl⟩

set_option maxHeartbeats 4000000 in
theorem dturned_bad {a : ByteArray} {d k : Int} (hB : BadD a d k) (ha : a.size ≤ maxLen) (w : World) :
    Calls Try.prog 10 #[.string a, .int .i64 d] w fun e w' => e = .returned (.bool true) ∧ Below w.heap.size w w' := by
  have hkk := errv_some hB.ne
  have hfk : (k != 0) = true := by simpa using hB.ne
  have hne := errv_neq
  have heq := errv_eql
  have hgd := errv_guard
  have hn : (⟨#[45, 49]⟩ : ByteArray).size ≤ maxLen := by decide
  have HB := hid hB
  clear hB
  have B := hid (Below.refl w.heap.size w)
  go_enter Try.func10, Try.ntmps10
  go_wp2_with fail
  refine (dtext_bad HB.out ha w).mono ?_
  rintro e w1 ⟨rfl, hb⟩
  replace B := bb B hb
  clear hb 
  go_wp2_with fail
  refine (qmul_any a ⟨#[45, 49]⟩ ha hn w1).mono ?_
  rintro e w2 ⟨b, k2, rfl, _, zb, hb⟩
  replace B := bb B hb
  clear hb 
  go_wp2_with fail
  refine (dtext_any b d zb w2).mono ?_
  rintro e w3 ⟨t, k3, rfl, _, _, hb⟩
  replace B := bb B hb
  clear hb 
  go_wp2_with fail
  refine (darnd_bad HB.out ha w3).mono ?_
  rintro e w4 ⟨rfl, hb⟩
  replace B := bb B hb
  clear hb 
  have hb5 := (Below.refl _ _).alloc (Nat.le_refl w4.heap.size) (.cells #[.string ⟨#[]⟩, .string ⟨#[]⟩] 42)
  have hx6 := Vbx.new w4 ⟨#[]⟩ ⟨#[]⟩
  replace B := bb B hb5
  have XI := hid hx6
  have hs7 : (w4.alloc (.cells #[.string ⟨#[]⟩, .string ⟨#[]⟩] 42)).heap.size = w4.heap.size + 1 := by simp
  clear hb5 hx6
  obtain ⟨cc8a, cc8b⟩ := XI.out.both
  go_wp2_with fail
  generalize hW : w4.alloc (.cells #[.string ⟨#[]⟩, .string ⟨#[]⟩] 42) = W9 at *
  clear hW
  refine (darnd_any b d zb W9).mono ?_
  rintro e w10 ⟨l, h, k5, rfl, _, _, _, hb⟩
  replace XI := vx XI hb
  replace B := bb B hb
  clear cc8a cc8b
  clear hb 
  have hb11 := (Below.refl _ _).alloc (Nat.le_refl w10.heap.size) (.cells #[.string l, .string h] 42)
  have hx12 := Vbx.new w10 l h
  have L0 := hid XI.out.lt
  replace XI := vx XI hb11
  replace B := bb B hb11
  have XK := hid hx12
  have hs13 : (w10.alloc (.cells #[.string l, .string h] 42)).heap.size = w10.heap.size + 1 := by simp
  clear hb11 hx12
  obtain ⟨cc14a, cc14b⟩ := XI.out.both
  obtain ⟨cc15a, cc15b⟩ := XK.out.both
  go_wp2_with fail
  generalize hW : w10.alloc (.cells #[.string l, .string h] 42) = W16 at *
  clear hW
  refine (half_true W16).mono ?_
  rintro e w17 ⟨rfl, hb⟩
  replace XI := vx XI hb
  replace XK := vx XK hb
  replace B := bb B hb
  clear cc14a cc14b cc15a cc15b
  clear hb 
  obtain ⟨cc18a, cc18b⟩ := XI.out.both
  obtain ⟨cc19a, cc19b⟩ := XK.out.both
  go_wp2_with fail
  go_ret
  exact ⟨rfl, B.out⟩

set_option maxHeartbeats 4000000 in
theorem dturned_okbad {a : ByteArray} {n : Nat} {k : Int} (hg : GoodQ a) (hn : n ≤ 30) (hB : BadD (qtxt (qnum a * qnum ⟨#[45, 49]⟩)) (n : Int) k) (w : World) :
    Calls Try.prog 10 #[.string a, .int .i64 (n : Int)] w fun e w' => e = .returned (.bool true) ∧ Below w.heap.size w w' := by
  have hne := errv_neq
  have heq := errv_eql
  have hgd := errv_guard
  have hkk := errv_some hB.ne
  have hfk : (k != 0) = true := by simpa using hB.ne
  have zb := size_turn hg
  have HG := hid hg
  have HN := hid hn
  have HM := hid (fun w => qmul_good hg good_neg w)
  have HB := hid hB
  clear hg hn hB
  generalize qtxt (qnum a * qnum ⟨#[45, 49]⟩) = b at *
  have B := hid (Below.refl w.heap.size w)
  go_enter Try.func10, Try.ntmps10
  go_wp2_with fail
  refine (dtext_ok HG.out HN.out w).mono ?_
  rintro e w1 ⟨rfl, hb⟩
  replace B := bb B hb
  clear hb 
  go_wp2_with fail
  refine (HM.out w1).mono ?_
  rintro e w2 ⟨rfl, hb⟩
  replace B := bb B hb
  clear hb 
  go_wp2_with fail
  refine (dtext_bad HB.out zb w2).mono ?_
  rintro e w3 ⟨rfl, hb⟩
  replace B := bb B hb
  clear hb 
  go_wp2_with fail
  refine (darnd_ok HG.out HN.out w3).mono ?_
  rintro e w4 ⟨rfl, hb⟩
  replace B := bb B hb
  clear hb 
  have hb5 := (Below.refl _ _).alloc (Nat.le_refl w4.heap.size) (.cells #[.string (qtxt (unq (lowu (qnum a) n) n)), .string (qtxt (unq (highu (qnum a) n) n))] 42)
  have hx6 := Vbx.new w4 (qtxt (unq (lowu (qnum a) n) n)) (qtxt (unq (highu (qnum a) n) n))
  replace B := bb B hb5
  have XI := hid hx6
  have hs7 : (w4.alloc (.cells #[.string (qtxt (unq (lowu (qnum a) n) n)), .string (qtxt (unq (highu (qnum a) n) n))] 42)).heap.size = w4.heap.size + 1 := by simp
  clear hb5 hx6
  obtain ⟨cc8a, cc8b⟩ := XI.out.both
  go_wp2_with fail
  generalize hW : w4.alloc (.cells #[.string (qtxt (unq (lowu (qnum a) n) n)), .string (qtxt (unq (highu (qnum a) n) n))] 42) = W9 at *
  clear hW
  refine (darnd_bad HB.out zb W9).mono ?_
  rintro e w10 ⟨rfl, hb⟩
  replace XI := vx XI hb
  replace B := bb B hb
  clear cc8a cc8b
  clear hb 
  have hb11 := (Below.refl _ _).alloc (Nat.le_refl w10.heap.size) (.cells #[.string ⟨#[]⟩, .string ⟨#[]⟩] 42)
  have hx12 := Vbx.new w10 ⟨#[]⟩ ⟨#[]⟩
  have L0 := hid XI.out.lt
  replace XI := vx XI hb11
  replace B := bb B hb11
  have XK := hid hx12
  have hs13 : (w10.alloc (.cells #[.string ⟨#[]⟩, .string ⟨#[]⟩] 42)).heap.size = w10.heap.size + 1 := by simp
  clear hb11 hx12
  obtain ⟨cc14a, cc14b⟩ := XI.out.both
  obtain ⟨cc15a, cc15b⟩ := XK.out.both
  go_wp2_with fail
  generalize hW : w10.alloc (.cells #[.string ⟨#[]⟩, .string ⟨#[]⟩] 42) = W16 at *
  clear hW
  refine (half_true W16).mono ?_
  rintro e w17 ⟨rfl, hb⟩
  replace XI := vx XI hb
  replace XK := vx XK hb
  replace B := bb B hb
  clear cc14a cc14b cc15a cc15b
  clear hb 
  obtain ⟨cc18a, cc18b⟩ := XI.out.both
  obtain ⟨cc19a, cc19b⟩ := XK.out.both
  go_wp2_with fail
  go_ret
  exact ⟨rfl, B.out⟩

set_option maxHeartbeats 16000000 in
theorem dturned_okok {a : ByteArray} {n : Nat} (hg : GoodQ a) (hn : n ≤ 30) (hb0 : GoodQ (qtxt (qnum a * qnum ⟨#[45, 49]⟩))) (w : World) :
    Calls Try.prog 10 #[.string a, .int .i64 (n : Int)] w fun e w' => e = .returned (.bool true) ∧ Below w.heap.size w w' := by
  have hne := errv_neq
  have heq := errv_eql
  have hgd := errv_guard
  have zb := size_turn hg
  have hq := qnum_turn (a := a) rfl
  have hz := near_lt hg hn
  have hu := units_lt hg hn
  have zl : (qtxt (unq (lowu (qnum a) n) n)).size ≤ maxLen := Nat.le_trans (size_unq hu.1 hn) (by decide)
  have zh : (qtxt (unq (highu (qnum a) n) n)).size ≤ maxLen := Nat.le_trans (size_unq hu.2 hn) (by decide)
  have hm := size_dabs (k := (nearu (qnum a) n).natAbs) (n := n) (m := 131) hz (by omega)
  have hmn : (⟨#[45, 49]⟩ : ByteArray).size ≤ maxLen := by decide
  have HM := hid (fun w => qmul_good hg good_neg w)
  have H1 := hid (fun w => dtext_ok hg hn w)
  have H2 := fun w => dtext_ok hb0 hn w
  have H3 := hid (fun w => darnd_ok hg hn w)
  have H4 := fun w => darnd_ok hb0 hn w
  rw [hq, neg_near] at H2
  rw [hq, (neg_units _ _).1, neg_high] at H4
  replace H2 := hid H2
  replace H4 := hid H4
  have HX := hid (fun (x : ByteArray) (k : Int) (h : QTells (· * ·) (qtxt (unq (lowu (qnum a) n) n)) ⟨#[45, 49]⟩ x k) (hk : k = 0) => mul_turn h hk rfl)
  have HY := hid (fun (x : ByteArray) (k : Int) (h : QTells (· * ·) (qtxt (unq (highu (qnum a) n) n)) ⟨#[45, 49]⟩ x k) (hk : k = 0) => mul_turn h hk rfl)
  clear hg hn hb0 hq hz hu
  generalize qtxt (qnum a * qnum ⟨#[45, 49]⟩) = b at *
  generalize qtxt (unq (-lowu (qnum a) n) n) = nl at *
  generalize qtxt (unq (-highu (qnum a) n) n) = nh at *
  generalize qtxt (unq (lowu (qnum a) n) n) = l at *
  generalize qtxt (unq (highu (qnum a) n) n) = h at *
  have hs : (dtxt (nearu (qnum a) n) n = dabs (nearu (qnum a) n).natAbs n ∧ dtxt (-nearu (qnum a) n) n = dabs (nearu (qnum a) n).natAbs n) ∨ (dtxt (nearu (qnum a) n) n = ⟨#[45]⟩ ++ dabs (nearu (qnum a) n).natAbs n ∧ dtxt (-nearu (qnum a) n) n = dabs (nearu (qnum a) n).natAbs n) ∨ (dtxt (nearu (qnum a) n) n = dabs (nearu (qnum a) n).natAbs n ∧ dtxt (-nearu (qnum a) n) n = ⟨#[45]⟩ ++ dabs (nearu (qnum a) n).natAbs n) := dtxt_both _ _
  generalize dtxt (nearu (qnum a) n) n = s at *
  generalize dtxt (-nearu (qnum a) n) n = t at *
  generalize dabs (nearu (qnum a) n).natAbs n = m at *
  have hj : ¬ 9223372036854775807 < 1 + m.size := by omega
  have hmm := minus_ne m
  have hms : ((⟨#[45]⟩ : ByteArray) ++ m).size = 1 + m.size := by rw [ByteArray.size_append]; rfl
  generalize hp : (⟨#[45]⟩ : ByteArray) ++ m = p at *
  have hj2 : ¬ 9223372036854775807 < 1 + p.size := by omega
  obtain ⟨e1, e2⟩ := toList_ne hmm
  obtain ⟨e3, e4⟩ := toList_ne (Ne.symm hmm)
  have hmq : m ≠ (⟨#[45]⟩ : ByteArray) ++ p := by
    intro e
    have h1 := congrArg ByteArray.size e
    rw [ByteArray.size_append] at h1
    have h2 : (⟨#[45]⟩ : ByteArray).size = 1 := rfl
    omega
  obtain ⟨e5, e6⟩ := toList_ne hmq
  clear hmq
  have HS := hid hs
  clear hs hmm hms hm
  have B := hid (Below.refl w.heap.size w)
  go_enter Try.func10, Try.ntmps10
  go_wp2_with fail
  refine (H1.out w).mono ?_
  rintro e w1 ⟨rfl, hb⟩
  replace B := bb B hb
  clear hb 
  go_wp2_with fail
  refine (HM.out w1).mono ?_
  rintro e w2 ⟨rfl, hb⟩
  replace B := bb B hb
  clear hb 
  go_wp2_with fail
  refine (H2.out w2).mono ?_
  rintro e w3 ⟨rfl, hb⟩
  replace B := bb B hb
  clear hb 
  go_wp2_with fail
  refine (H3.out w3).mono ?_
  rintro e w4 ⟨rfl, hb⟩
  replace B := bb B hb
  clear hb 
  have hb5 := (Below.refl _ _).alloc (Nat.le_refl w4.heap.size) (.cells #[.string l, .string h] 42)
  have hx6 := Vbx.new w4 l h
  replace B := bb B hb5
  have XI := hid hx6
  have hs7 : (w4.alloc (.cells #[.string l, .string h] 42)).heap.size = w4.heap.size + 1 := by simp
  clear hb5 hx6
  obtain ⟨cc8a, cc8b⟩ := XI.out.both
  go_wp2_with fail
  generalize hW : w4.alloc (.cells #[.string l, .string h] 42) = W9 at *
  clear hW
  refine (H4.out W9).mono ?_
  rintro e w10 ⟨rfl, hb⟩
  replace XI := vx XI hb
  replace B := bb B hb
  clear cc8a cc8b
  clear hb 
  have hb11 := (Below.refl _ _).alloc (Nat.le_refl w10.heap.size) (.cells #[.string nh, .string nl] 42)
  have hx12 := Vbx.new w10 nh nl
  have L0 := hid XI.out.lt
  replace XI := vx XI hb11
  replace B := bb B hb11
  have XK := hid hx12
  have hs13 : (w10.alloc (.cells #[.string nh, .string nl] 42)).heap.size = w10.heap.size + 1 := by simp
  clear hb11 hx12
  obtain ⟨cc14a, cc14b⟩ := XI.out.both
  obtain ⟨cc15a, cc15b⟩ := XK.out.both
  go_wp2_with fail
  generalize hW : w10.alloc (.cells #[.string nh, .string nl] 42) = W16 at *
  clear hW
  refine (half_true W16).mono ?_
  rintro e w17 ⟨rfl, hb⟩
  replace XI := vx XI hb
  replace XK := vx XK hb
  replace B := bb B hb
  clear cc14a cc14b cc15a cc15b
  clear hb 
  obtain ⟨cc18a, cc18b⟩ := XI.out.both
  obtain ⟨cc19a, cc19b⟩ := XK.out.both
  go_wp2_with fail
  refine (qmul_any l ⟨#[45, 49]⟩ zl hmn w17).mono ?_
  rintro e w20 ⟨x, k6, rfl, t6, _, hb⟩
  have T6 := hid t6
  replace XI := vx XI hb
  replace XK := vx XK hb
  replace B := bb B hb
  clear cc18a cc18b cc19a cc19b
  clear hb t6
  obtain ⟨cc21a, cc21b⟩ := XI.out.both
  obtain ⟨cc22a, cc22b⟩ := XK.out.both
  go_wp2_with fail
  refine (qmul_any h ⟨#[45, 49]⟩ zh hmn w20).mono ?_
  rintro e w23 ⟨y, k7, rfl, t7, _, hb⟩
  have T7 := hid t7
  replace XI := vx XI hb
  replace XK := vx XK hb
  replace B := bb B hb
  clear cc21a cc21b cc22a cc22b
  clear hb t7
  obtain ⟨cc24a, cc24b⟩ := XI.out.both
  obtain ⟨cc25a, cc25b⟩ := XK.out.both
  have C6 : (k6 = 0 ∧ x = nl) ∨ ((k6 != 0) = true) := by
    by_cases hk : k6 = 0
    · exact .inl ⟨hk, HX.out _ _ T6.out hk⟩
    · exact .inr (by simpa using hk)
  have C7 : (k7 = 0 ∧ y = nh) ∨ ((k7 != 0) = true) := by
    by_cases hk : k7 = 0
    · exact .inl ⟨hk, HY.out _ _ T7.out hk⟩
    · exact .inr (by simpa using hk)
  clear T6 T7 HX HY H1 H2 H3 H4 HM
  obtain ⟨x1, x2⟩ := XK.out.both
  rcases C6 with ⟨rfl, rfl⟩ | c6 <;> rcases C7 with ⟨rfl, rfl⟩ | c7 <;> rcases HS.out with ⟨rfl, rfl⟩ | ⟨rfl, rfl⟩ | ⟨rfl, rfl⟩
  all_goals
    clear HS
    go_wp2_with fail
    go_ret
    exact ⟨rfl, B.out⟩

theorem dturned_walk (a : ByteArray) (d : Int) (ha : a.size ≤ maxLen) (w : World) :
    Calls Try.prog 10 #[.string a, .int .i64 d] w fun e w' => e = .returned (.bool true) ∧ Below w.heap.size w w' := by
  rcases dec_cases a d with ⟨h, n, hn, rfl⟩ | ⟨k, h⟩
  · by_cases hb : GoodQ (qtxt (qnum a * qnum ⟨#[45, 49]⟩))
    · exact dturned_okok h hn hb w
    · obtain ⟨k, hb⟩ := bad_any hb (n : Int)
      exact dturned_okbad h hn hb w
  · exact dturned_bad h ha w

end Go.Proofs.Ytjeeepcnaaadmaa

/-
  The law DecTurned of package abacistlaw6: whatever texts come in, the call returns true, and they read behind it as they did before. No condition.
-/
namespace Go.Proofs.Ytjeeepcnaaadmaa.decTurned
open Go.ChangeShapes Go.WideShapes Go.ChangeAt Go.RowKit
open Go.ChangeMaps (open_string shut_string)
set_option linter.unusedVariables false

theorem own : ownKnob Try.prog.godebug = none := by kernel_rfl

set_option maxRecDepth 100000 in
theorem lifted (os : Os) (started : os.Started) (H : Type) (enc : TypeId × Value → H) :
    ReturnsInHanded {} Try.checked os 10 .any (Rows.decTurnedSpec.pre6 enc Try.prog Try.f10 Rows.decTurnedRow.domain false) (Rows.decTurnedSpec.post enc Try.prog Try.f10 false true false false) := by
  refine returnsInHanded_of_change (C := Try.checked) own started (by kernel_rfl) Try.func10
    (ChangeSpec.witness6 (enc := enc) (C := Try.checked) false ⟨#[], #[.string ByteArray.empty, .int .i64 0], []⟩ 8 (by kernel_rfl) (by kernel_rfl) (by kernel_rfl) (by kernel_rfl)) ?_
  intro W base args ds gs before hval0 hW hcnd _
  have hval : ∀ (j : Nat) t v, Try.f10.params[j]? = some t → args[j]? = some v → Value.okWide Try.prog W .any base t v := hval0
  have hW' := hW
  obtain ⟨p, q, hA0, hV, rfl, hfz, hnd⟩ := hW
  have hA : DataW.TrodAll enc Try.prog W 0 (fun _ => true) true Try.f10.params.toList args.toList ds p := hA0
  rw [Try.params10] at hA hval
  obtain ⟨v0, vs0, d0, ds0, p0, q0, hargs, rfl, rfl, h0, r0⟩ := trodAll_cons hA
  obtain ⟨v1, vs1, d1, ds1, p1, q1, rfl, rfl, rfl, h1, r1⟩ := trodAll_cons r0
  obtain ⟨rfl, rfl, rfl⟩ := trodAll_nil r1
  obtain rfl : args = #[v0, v1] := by cases args; simp_all
  obtain ⟨rfl, rfl⟩ := trodVars_none hV
  obtain ⟨a0, rfl, rfl, rfl, w0⟩ := open_string Try.underlying9 (hval 0 9 v0 rfl rfl) h0
  obtain ⟨a1, rfl, rfl, rfl, w1⟩ := open_int Try.underlying3 (hval 1 3 v1 rfl rfl) h1
  clear hA0 hval0
  simp only [List.append_nil] at hW'
  refine (dturned_walk a0 a1 w0 W).mono fun e W' ⟨he, hg⟩ => ?_
  subst he
  exact ⟨_, rfl, post_plain hW' (fun _ _ _ => (trodAll_cons_mk (shut_bool Try.underlying4 _) trodAll_mk0)) (fun sp => (trodAll_cons_mk (shut_string Try.underlying9 w0) (trodAll_cons_mk (shut_int Try.underlying3 w1) trodAll_mk0))) (fun _ => rfl)
    hg (ok_one (by kernel_rfl) rfl (okWide_bool_mk Try.underlying4 _))⟩

/-- The law DecTurned: every input. -/
theorem proved : Rows.DecTurnedSaid :=
  OpenClaim.holds_of_wide 10 Try.f10 rfl rfl rfl rfl rfl rfl rfl ⟨rfl, rfl, rfl, rfl, rfl⟩ rfl rfl rfl rfl rfl (by kernel_rfl) Try.func10 (by kernel_rfl)
    (of_decide_eq_true (by kernel_rfl)) (by unfold Func.isWrapper; first | (rw [if_pos (by decide +kernel)]; kernel_rfl) | (rw [if_neg (by decide +kernel)]; exact ⟨rfl, rfl⟩))
    (fun os started H enc _ => lifted os started H enc)
#print axioms proved
end Go.Proofs.Ytjeeepcnaaadmaa.decTurned
