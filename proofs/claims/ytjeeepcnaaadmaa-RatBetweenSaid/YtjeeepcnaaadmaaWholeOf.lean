/-
  PACKAGE whole: TEXTS: Parse, read.
-/
import Derived.Test.YtjeeepcnaaadmaaWhole2
namespace Go.Proofs.Ytjeeepcnaaadmaa
open Go.RowKit
open Num
set_option linter.unusedVariables false
set_option maxRecDepth 100000
set_option linter.unusedSimpArgs false

theorem extract_one (s : ByteArray) : (s.extract 0 1).toList = s.data.toList.take 1 := by
  rw [ByteArray.toList_eq, ByteArray.data_extract, Array.toList_extract, List.extract]
  simp

set_option maxHeartbeats 400000 in
theorem hasPrefix_one (s : ByteArray) (c : UInt8) (w : World) :
    Calls Try.prog 104 #[.string s, .string ⟨#[c]⟩] w fun e w' => e = .returned (.bool (s.data.toList.head? == some c)) ∧ w = w' := by
  have h1 : (⟨#[c]⟩ : ByteArray).size = 1 := rfl
  have hl : s.data.toList.length = s.size := rfl
  by_cases h0 : (1 : Int) ≤ (s.size : Int)
  · have hx : ((s.extract 0 1).toList == [c]) = (s.data.toList.head? == some c) := by
      rw [extract_one]
      cases hd : s.data.toList with
      | nil => rw [hd] at hl; simp at hl; omega
      | cons a l => simp
    have HX := hid hx
    clear hx hl
    go_enter Try.func104, Try.ntmps104
    go_wp2_with fail
    go_ret
    exact ⟨ret_bool HX.out, rfl⟩
  · have h0' : (s.size : Int) < 1 := by omega
    have hx : (s.data.toList.head? == some c) = false := by
      cases hd : s.data.toList with
      | nil => rfl
      | cons a l => rw [hd] at hl; simp at hl; omega
    have HX := hid hx
    clear hx hl h0
    go_enter Try.func104, Try.ntmps104
    go_wp2_with fail
    go_ret
    exact ⟨ret_bool HX.out.symm, rfl⟩

/-- What is left of a text behind a sign, if it has one. -/
def cutZ (c : UInt8) (s : ByteArray) : ByteArray := if s.data.toList.head? == some c then s.extract 1 s.size else s

set_option maxHeartbeats 400000 in
theorem cut_lite (s : ByteArray) (c : UInt8) (w : World) (hs : s.size ≤ maxLen) :
    Calls Try.prog 97 #[.string s, .string ⟨#[c]⟩] w fun e w' => e = .returned (.tuple #[.string (cutZ c s), .bool (s.data.toList.head? == some c)]) ∧ w = w' := by
  have h1 : (⟨#[c]⟩ : ByteArray).size = 1 := rfl
  have hl : s.data.toList.length = s.size := rfl
  unfold maxLen at hs
  have HP := hid (hasPrefix_one s c w)
  cases hb : (s.data.toList.head? == some c)
  · have HC := hid (show cutZ c s = s by rw [cutZ, hb]; rfl)
    rw [hb] at HP
    clear hb hl
    go_enter Try.func97, Try.ntmps97
    go_wp2_with fail
    refine HP.out.mono ?_
    rintro e w' ⟨rfl, rfl⟩
    go_wp2_with fail
    go_ret2
    rw [HC.out]
    exact ⟨rfl, rfl⟩
  · have HC := hid (show cutZ c s = s.extract 1 s.size by rw [cutZ, hb]; rfl)
    have h2 : (1 : Int) ≤ (s.size : Int) := by
      cases hd : s.data.toList with
      | nil => rw [hd] at hb; simp at hb
      | cons a l => rw [hd] at hl; simp at hl; omega
    rw [hb] at HP
    clear hb hl
    go_enter Try.func97, Try.ntmps97
    go_wp2_with fail
    refine HP.out.mono ?_
    rintro e w' ⟨rfl, rfl⟩
    go_wp2_with fail
    go_ret2
    rw [HC.out]
    exact ⟨rfl, rfl⟩

set_option maxHeartbeats 400000 in
theorem cut_prefix (s : ByteArray) (c : UInt8) (w : World) (hs : s.size ≤ maxLen) :
    Calls Try.prog 77 #[.string s, .string ⟨#[c]⟩] w fun e w' => e = .returned (.tuple #[.string (cutZ c s), .bool (s.data.toList.head? == some c)]) ∧ w = w' := by
  have HP := hid (cut_lite s c w hs)
  clear hs
  go_enter Try.func77, Try.ntmps77
  go_wp2_with fail
  refine HP.out.mono ?_
  rintro e w' ⟨rfl, rfl⟩
  go_wp2_with fail
  go_ret2
  exact ⟨rfl, rfl⟩

/-- Is a text one of an integer? -/
def isWhl (l : List UInt8) : Bool := if l.head? == some 45 then isNat l.tail && (dval l.tail != 0) else isNat l
/-- The integer of a text. -/
def whlOf (l : List UInt8) : Int := if l.head? == some 45 then -(dval l.tail : Int) else dval l

theorem tail_cut {s : ByteArray} (h : (s.data.toList.head? == some 45) = true) : (cutZ 45 s).data.toList = s.data.toList.tail ∧ (cutZ 45 s).size + 1 = s.size := by
  rw [cutZ, h]
  refine ⟨by rw [if_pos rfl, extract_end, List.drop_one], ?_⟩
  rw [if_pos rfl, size_extract_end]
  have hl : s.data.toList.length = s.size := rfl
  cases hd : s.data.toList with
  | nil => rw [hd] at h; simp at h
  | cons a l => rw [hd] at hl; simp at hl; omega
theorem same_cut {s : ByteArray} (h : (s.data.toList.head? == some 45) = false) : cutZ 45 s = s := by
  rw [cutZ, h]; rfl

theorem res_cell_tmp {fn : Func} {t t' : Tmp} {tmps : Array Value} {w : World} {g : Nat} {s : Bool} {sv u : Value} (hf : fn.results = #[.cell t 49, .tmp t']) (ht : tmps.getD t undef = .pointer (some ⟨g, 0, none⟩)) (hu : tmps.getD t' undef = u) (h2 : Box w g s sv) :
    (results fn tmps).run Try.prog w = .ok (.tuple #[.agg #[.bool s, sv], u]) w := by
  have h1 := at_addr (P := Try.prog) (w := w) ht
  have h3 := load_whl h2
  simp only [Array.getD_eq_getD_getElem?] at h1 hu
  simp [results, hf, Sem.run_bind, h1, h3, hu]

set_option maxHeartbeats 1000000 in
theorem zparse_no (s : ByteArray) (w : World) (hs : s.size ≤ 1099511627776) (hn : isWhl s.data.toList = false) :
    Calls Try.prog 68 #[.string s] w fun e w' => e = .returned (.tuple #[.agg #[.bool false, .slice none 0 0], errno 1]) ∧ Below w.heap.size w w' := by
  obtain ⟨x0, bw, sz⟩ := boxes1 w false (.slice none 0 0) ⟨_, _, _, rfl⟩
  have HC := hid (fun w => cut_prefix s 45 w (by unfold maxLen; omega))
  have X0 := hid x0
  have BW := hid bw
  cases hb : (s.data.toList.head? == some 45)
  · have hc := same_cut hb
    have h2 : isNat s.data.toList = false := by
      rw [isWhl, hb] at hn; simpa using hn
    have HP := hid (fun w => parse_no s w (by unfold maxLen; omega) h2)
    rw [hc, hb] at HC
    clear hb hc h2 hn x0 bw sz
    go_enter Try.func68, Try.ntmps68
    go_wp2_with fail
    refine (HC.out _).mono ?_
    rintro e w1 ⟨rfl, rfl⟩
    go_wp2_with fail
    refine (HP.out _).mono ?_
    rintro e w1 ⟨rfl, rfl⟩
    go_wp2_with fail
    refine bodyPost_ret (res_cell_tmp rfl rfl rfl X0.out) rfl ?_
    exact ⟨rfl, BW.out⟩
  · obtain ⟨hc1, hc2⟩ := tail_cut hb
    rw [hb] at HC
    by_cases h2 : isNat s.data.toList.tail = true
    · have h3 : dval s.data.toList.tail = 0 := by
        rw [isWhl, hb] at hn
        simpa [h2] using hn
      have HP := hid (fun w => parse_trim (cutZ 45 s) w (by omega) (by rw [hc1]; exact h2))
      have H3 := hid (show dval (cutZ 45 s).data.toList = 0 by rw [hc1]; exact h3)
      clear hb hc1 hc2 h2 hn h3 x0 bw sz
      go_enter Try.func68, Try.ntmps68
      go_wp2_with fail
      refine (HC.out _).mono ?_
      rintro e w1 ⟨rfl, rfl⟩
      go_wp2_with fail
      refine (HP.out _).mono ?_
      rintro e w1 ⟨v, xs, rfl, hO, hv, hl, ht, hb⟩
      have h4 : xs = [] := ht.zero_iff.1 (by rw [hv, H3.out])
      subst h4
      obtain ⟨p, c, rfl, _⟩ := lim_parts hO.lim
      have x0' := X0.out.below hb X0.out.lt
      obtain ⟨c0, f0, c1, f1⟩ := x0'.stores
      have X1 := hid x0'
      have B1 := hid (BW.out.trans (hb.mono BW.out.size))
      clear hO hv hl ht hb x0' HP
      go_wp2_with fail
      refine bodyPost_ret (res_cell_tmp rfl rfl rfl ((X1.out.set0 _).set1 ⟨_, _, _, rfl⟩)) rfl ?_
      exact ⟨rfl, (X1.out.last B1.out (Nat.le_refl _) false none 0 0).2.1⟩
    · have h2' : isNat (cutZ 45 s).data.toList = false := by rw [hc1]; simpa using h2
      have HP := hid (fun w => parse_no (cutZ 45 s) w (by unfold maxLen; omega) h2')
      clear hb hc1 hc2 h2 hn h2' x0 bw sz
      go_enter Try.func68, Try.ntmps68
      go_wp2_with fail
      refine (HC.out _).mono ?_
      rintro e w1 ⟨rfl, rfl⟩
      go_wp2_with fail
      refine (HP.out _).mono ?_
      rintro e w1 ⟨rfl, rfl⟩
      go_wp2_with fail
      refine bodyPost_ret (res_cell_tmp rfl rfl rfl X0.out) rfl ?_
      exact ⟨rfl, BW.out⟩

set_option maxHeartbeats 1000000 in
theorem zparse_yes (s : ByteArray) (w : World) (hs : s.size ≤ 1099511627776) (hn : isWhl s.data.toList = true) :
    Calls Try.prog 68 #[.string s] w fun e w' => ∃ v, e = .returned (.tuple #[v, .nilIface]) ∧ Whl w' v (whlOf s.data.toList) s.size ∧ Below w.heap.size w w' := by
  obtain ⟨x0, bw, sz⟩ := boxes1 w false (.slice none 0 0) ⟨_, _, _, rfl⟩
  have HC := hid (fun w => cut_prefix s 45 w (by unfold maxLen; omega))
  have X0 := hid x0
  have BW := hid bw
  cases hb : (s.data.toList.head? == some 45)
  · have hc := same_cut hb
    have h2 : isNat s.data.toList = true := by
      rw [isWhl, hb] at hn; simpa using hn
    have HP := hid (fun w => parse_trim s w hs h2)
    have HW := hid (show whlOf s.data.toList = (dval s.data.toList : Int) by rw [whlOf, hb]; rfl)
    rw [hc, hb] at HC
    clear hb hc h2 hn x0 bw sz
    go_enter Try.func68, Try.ntmps68
    go_wp2_with fail
    refine (HC.out _).mono ?_
    rintro e w1 ⟨rfl, rfl⟩
    go_wp2_with fail
    refine (HP.out _).mono ?_
    rintro e w1 ⟨v, xs, rfl, hO, hv, hl, ht, hb⟩
    obtain ⟨p, n, c, rfl⟩ := hO.lim.slice
    have x0' := X0.out.below hb X0.out.lt
    obtain ⟨c0, f0, c1, f1⟩ := x0'.stores
    have X1 := hid x0'
    have B1 := hid (BW.out.trans (hb.mono BW.out.size))
    have HV := hid (show Whl w1 (.agg #[.bool false, .slice p n c]) (whlOf s.data.toList) s.size from ⟨false, _, xs, rfl, hO.lim, ht, hl, fun e => by simp at e, by rw [HW.out, hv]; rfl⟩)
    clear hO hv hl ht hb x0' HP
    go_wp2_with fail
    obtain ⟨r1, r2, r3⟩ := X1.out.last B1.out (Nat.le_refl _) false p n c
    refine bodyPost_ret (res_cell_tmp rfl rfl rfl r1) rfl ?_
    exact ⟨_, rfl, r3 HV.out, r2⟩
  · obtain ⟨hc1, hc2⟩ := tail_cut hb
    rw [hb] at HC
    have h2 : isNat s.data.toList.tail = true ∧ dval s.data.toList.tail ≠ 0 := by
      rw [isWhl, hb] at hn
      simpa using hn
    have HP := hid (fun w => parse_trim (cutZ 45 s) w (by omega) (by rw [hc1]; exact h2.1))
    have H3 := hid (show dval (cutZ 45 s).data.toList ≠ 0 by rw [hc1]; exact h2.2)
    have HW := hid (show whlOf s.data.toList = -(dval (cutZ 45 s).data.toList : Int) by rw [hc1, whlOf, hb]; rfl)
    have H4 := hid hc2
    clear hb hc1 hc2 h2 hn x0 bw sz
    go_enter Try.func68, Try.ntmps68
    go_wp2_with fail
    refine (HC.out _).mono ?_
    rintro e w1 ⟨rfl, rfl⟩
    go_wp2_with fail
    refine (HP.out _).mono ?_
    rintro e w1 ⟨v, xs, rfl, hO, hv, hl, ht, hb⟩
    have hn0 : ∃ n, xs.length = n ∧ (n : Int) ≠ 0 := by
      refine ⟨_, rfl, ?_⟩
      have h1 := H3.out
      rw [← hv] at h1
      cases xs with
      | nil => simp [val] at h1
      | cons => simp; omega
    obtain ⟨n, hn, hn0⟩ := hn0
    obtain ⟨p, c, rfl, _⟩ := lim_parts hO.lim
    rw [hn] at *
    have x0' := X0.out.below hb X0.out.lt
    obtain ⟨c0, f0, c1, f1⟩ := x0'.stores
    have X1 := hid x0'
    have B1 := hid (BW.out.trans (hb.mono BW.out.size))
    have HV := hid (show Whl w1 (.agg #[.bool true, .slice p n c]) (whlOf s.data.toList) s.size from ⟨true, _, xs, rfl, hO.lim, ht, by have := H4.out; omega, fun e => by rw [hv]; exact H3.out, by rw [HW.out, hv]; rfl⟩)
    clear hO hv hl ht hb x0' HP hn
    go_wp2_with fail
    obtain ⟨r1, r2, r3⟩ := X1.out.last B1.out (Nat.le_refl _) true p n c
    refine bodyPost_ret (res_cell_tmp rfl rfl rfl r1) rfl ?_
    exact ⟨_, rfl, r3 HV.out, r2⟩

end Go.Proofs.Ytjeeepcnaaadmaa

