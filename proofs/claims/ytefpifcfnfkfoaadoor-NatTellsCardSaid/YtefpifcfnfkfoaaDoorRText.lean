import Derived.Test.YtefpifcfnfkfoaaDoorRSmall
import Derived.Test.YtefpifcfnfkfoaaDoorDec
namespace Go.Proofs.YtefpifcfnfkfoaaDoor
open Go.RowKit
open Num (dg dg_lt dg_ge dg_zeros dg_take dg_drop dg_set_self dg_set_ne tl tlen tl_zero tl_skip tl_stop tl_le tlen_le trimL length_trimL tl_top drop_dg isDig isNat dval dtext dch toNat_dig isDig_dig)
open Num4
set_option linter.unusedVariables false
set_option linter.unusedSimpArgs false

/-- Four digits of a number below 10000. -/
def t4 (n : Nat) : List UInt8 := [dch (n / 1000), dch (n / 100 % 10), dch (n / 10 % 10), dch (n % 10)]
def txt4 (n : Nat) : ByteArray := ⟨(t4 n).toArray⟩

theorem dval_t4 {n : Nat} (h : n < 10000) : dval (t4 n) = n := by
  simp only [t4, dval, List.foldl_cons, List.foldl_nil]
  rw [toNat_dig (by omega), toNat_dig (by omega), toNat_dig (by omega), toNat_dig (by omega)]
  omega
theorem all_t4 {n : Nat} (h : n < 10000) : (t4 n).all isDig = true := by
  simp only [t4, List.all_cons, List.all_nil]
  rw [isDig_dig (by omega), isDig_dig (by omega), isDig_dig (by omega), isDig_dig (by omega)]
  rfl
theorem length_t4 (n : Nat) : (t4 n).length = 4 := rfl

set_option maxHeartbeats 1000000 in
set_option maxRecDepth 100000 in
theorem four_lim (w : World) (n : Nat) (hn : n < 10000) :
    Calls Tryd.prog 23 #[.int .i64 n] w fun e w' => e = .returned (.string (txt4 n)) ∧ Below w.heap.size w w' := by
  have hcv : (convert 64 9 (.slice (some ⟨w.heap.size, 0, none⟩) 4 4)).run Tryd.prog (w.alloc (.cells #[.int .u8 (48 + (n : Int) / 1000), .int .u8 (48 + (n : Int) / 100 % 10), .int .u8 (48 + (n : Int) / 10 % 10), .int .u8 (48 + (n : Int) % 10)] 5)) =
      .ok (.string (txt4 n)) (w.alloc (.cells #[.int .u8 (48 + (n : Int) / 1000), .int .u8 (48 + (n : Int) / 100 % 10), .int .u8 (48 + (n : Int) / 10 % 10), .int .u8 (48 + (n : Int) % 10)] 5)) := by
    refine run_convert_bytes_back _ _ _ _ ⟨w.heap.size, 0, none⟩ 4 (t4 n) Tryd.underlying64 Tryd.underlying5 Tryd.underlying9 (fun j hj => ?_)
    have hj4 : j < 4 := hj
    have e : ((⟨w.heap.size, 0, none⟩ : Addr).add j) = ⟨w.heap.size, j, none⟩ := by unfold Addr.add; split <;> simp_all
    rw [e]
    have k1 := toNat_dig (n := n / 1000) (by omega)
    have k2 := toNat_dig (n := n / 100 % 10) (by omega)
    have k3 := toNat_dig (n := n / 10 % 10) (by omega)
    have k4 := toNat_dig (n := n % 10) (by omega)
    match j, hj4 with
    | 0, _ => simp [t4, k1]
    | 1, _ => simp [t4, k2]
    | 2, _ => simp [t4, k3]
    | 3, _ => simp [t4, k4]
  go_enter Tryd.func23, Tryd.ntmps23
  go_wp2_with fail
  go_ret
  exact ⟨rfl, (Below.refl _ _).alloc (Nat.le_refl _) _⟩

/-- The digits of limbs, the greatest one first. -/
def rt4 : List Nat → List UInt8
  | [] => []
  | x :: xs => rt4 xs ++ t4 x
theorem dval_rt4 {xs : List Nat} (h : Fits xs) : dval (rt4 xs) = val xs := by
  induction xs with
  | nil => rfl
  | cons x xs ih =>
    rw [rt4, Num.dval_append, ih h.cons.2, dval_t4 h.cons.1, length_t4, val_cons, B_eq]
    omega
theorem all_rt4 {xs : List Nat} (h : Fits xs) : (rt4 xs).all isDig = true := by
  induction xs with
  | nil => rfl
  | cons x xs ih => rw [rt4, List.all_append, ih h.cons.2, all_t4 h.cons.1]; rfl
theorem length_rt4 (xs : List Nat) : (rt4 xs).length = 4 * xs.length := by
  induction xs with
  | nil => rfl
  | cons x xs ih => rw [rt4, List.length_append, ih, length_t4, List.length_cons]; omega

theorem str_cons4 (t : ByteArray) (h : 0 < t.size) : t.data.toList = t[0] :: t.data.toList.drop 1 := by
  have h1 : 0 < t.data.toList.length := by simpa using h
  have h2 := List.drop_eq_getElem_cons h1
  rw [List.drop_zero] at h2
  exact h2
theorem extract_one4 (t : ByteArray) : (t.extract 1 t.size).data.toList = t.data.toList.drop 1 := by
  rw [ByteArray.data_extract, Array.toList_extract, List.extract]
  rw [List.take_of_length_le]
  simp
theorem dval_lead {b : UInt8} {l : List UInt8} (h : (b.toNat : Int) = 48) : dval (b :: l) = dval l := by
  have e := Num.dval_append [b] l
  rw [List.singleton_append] at e
  rw [e]
  have : dval [b] = 0 := by simp [dval]; omega
  rw [this]; omega
theorem ret_str4 {s t : ByteArray} (h : s = t) : Ending.returned (.string s) = Ending.returned (.string t) := by rw [h]
theorem strip_end {t : ByteArray} {n : Nat} {b : UInt8} {l : List UInt8} (hc : t.data.toList = b :: l) (hb : ¬ (b.toNat : Int) = 48) (hd : dval t.data.toList = n) (ha : t.data.toList.all isDig = true) : t = ⟨(dtext n).toArray⟩ := by
  have h1 : isNat t.data.toList = true := by
    rw [Num.isNat_rest (by rw [hc]; simp) (.inl (by
      rw [hc]
      intro e
      simp only [List.head?_cons, Option.some.injEq] at e
      rw [e] at hb
      exact hb rfl))]
    exact ha
  have h2 := Num.dtext_dval h1
  rw [hd] at h2
  rw [h2]
def lenS : Value → Nat | .string s => s.size | _ => 0

set_option maxHeartbeats 2000000 in
set_option maxRecDepth 100000 in
theorem rtext_lim {w : World} {v : Value} {xs : List Nat} (h : LimR w v xs) (hn : xs.length ≤ 1099511627776) :
    Calls Tryd.prog 9 #[v] w fun e w' => e = .returned (.string ⟨(dtext (val xs)).toArray⟩) ∧ Below w.heap.size w w' := by
  obtain ⟨p, c, rfl, hfx, hc, hm, ha⟩ := limR_parts h
  have HA := hid (AddrR.at' ha rfl hc)
  clear ha h
  obtain ⟨n, hN⟩ : ∃ n, xs.length = n := ⟨_, rfl⟩
  rw [hN] at hc hn HA ⊢
  have HN := hid hN
  clear hN
  unfold maxLen at hm
  go_enter Tryd.func9, Tryd.ntmps9
  go_wp2_with fail
  go_loopw [3, 4] (fun s i wr => ∃ (t : ByteArray) (k : Nat), k ≤ n ∧ s = .string t ∧ i = .int .i64 ((k : Int) - 1) ∧ Hid (t.data.toList = rt4 (xs.drop k)) ∧ Hid (Below w.heap.size w wr)) (fun _ i _ => (intOf i + 1).toNat)
  case atStart => exact ⟨⟨#[]⟩, n, Nat.le_refl _, rfl, by go_num, hid (by rw [List.drop_of_length_le (by rw [HN.out]; exact Nat.le_refl _)]; rfl), Below.refl _ _⟩
  case round =>
    obtain ⟨t, k0, hk, rfl, rfl, ht, hbw⟩ := hrel
    rcases Nat.eq_zero_or_pos k0 with rfl | hk1
    · have h1 := ht.out
      rw [List.drop_zero] at h1
      have HS0 := hid (show t.size ≤ 4 * n by
        have h2 : t.data.toList.length = t.size := rfl
        rw [h1, length_rt4, HN.out] at h2; omega)
      have HD0 := hid (show dval t.data.toList = val xs by rw [h1, dval_rt4 hfx])
      have HA0 := hid (show t.data.toList.all isDig = true by rw [h1, all_rt4 hfx])
      clear h1 ht
      go_wp2_with fail
      go_loop [3] (fun s => ∃ t : ByteArray, s = .string t ∧ Hid (t.size ≤ 4 * n) ∧ Hid (dval t.data.toList = val xs) ∧ Hid (t.data.toList.all isDig = true)) (fun s => lenS s)
      case atStart => exact ⟨t, rfl, HS0, HD0, HA0⟩
      case round =>
        clear HS0 HD0 HA0
        obtain ⟨t, rfl, HS, HD, HAL⟩ := hrel
        have hts := HS.out
        have htl : t.toList = t.data.toList := ByteArray.toList_eq t
        by_cases h0 : t.size = 0
        · have he : t.data.toList = [] := List.length_eq_zero_iff.1 (by simpa using h0)
          have hn : t.toList = [] := htl.trans he
          have hz : val xs = 0 := by rw [← HD.out, he]; rfl
          have HZ := hid hz
          have hp : ¬ 0 < t.size := by omega
          clear he htl h0 hz
          go_wp2_with fail
          go_ret
          exact ⟨ret_str4 (by rw [HZ.out, Num.dtext_zero]), hbw.out⟩
        · have hpos : 0 < t.size := by omega
          have hne0 : t.data.toList ≠ [] := by intro e; have h2 : t.size = 0 := congrArg List.length e; omega
          have hne : ¬ t.toList = [] := by rw [htl]; exact hne0
          have hie : t.toList.isEmpty = false := by simpa using hne
          have HC := hid (str_cons4 t hpos)
          have HN0 := hid hne0
          clear hne0 htl h0
          by_cases h48 : (t[0].toNat : Int) = 48
          · go_wp2_with fail
            go_round
            case rel =>
              refine ⟨t.extract 1 t.size, rfl, hid ?_, hid ?_, hid ?_⟩
              · rw [ByteArray.size_extract]; omega
              · rw [extract_one4, ← HD.out, HC.out, List.drop_one, List.tail_cons, dval_lead h48]
              · rw [extract_one4]; exact Num.all_drop HAL.out 1
            case measure => simp [lenS]; omega
          · go_wp2_with fail
            go_ret
            exact ⟨ret_str4 (strip_end HC.out h48 HD.out HAL.out), hbw.out⟩
    · obtain ⟨k, rfl⟩ : ∃ k, k0 = k + 1 := ⟨k0 - 1, by omega⟩
      obtain ⟨b, o, rfl, hb1, cx⟩ := HA.out k (by omega)
      rw [← (hbw.out).cell (by exact hb1)] at cx
      have bx := hfx k
      have HF := hid (four_lim wr (dg xs k) bx)
      have hs4 : (txt4 (dg xs k)).size = 4 := rfl
      have hts : t.size ≤ 4398046511104 := by
        have h2 : t.data.toList.length = t.size := rfl
        rw [ht.out, length_rt4, List.length_drop, HN.out] at h2; omega
      go_wp2_with fail
      refine HF.out.mono ?_
      rintro e w2 ⟨rfl, hb2⟩
      have HB2 := hid (hbw.out.trans (hb2.mono hbw.out.size))
      clear hb2 HF
      go_wp2_with fail
      go_roundw
      case rel =>
        refine ⟨t ++ txt4 (dg xs k), k, by omega, rfl, by go_num, hid ?_, HB2⟩
        rw [drop_dg (l := xs) (by rw [HN.out]; omega), rt4, ← ht.out, ByteArray.data_append, Array.toList_append]
        rfl
      case measure => simp [intOf]

end Go.Proofs.YtefpifcfnfkfoaaDoor
