import Derived.Test.YtokojbgpboccnaaGreatBunProofSturmMoved1
/-
  POLYNOMIALS: Gauss's lemma, and how long those can be that go into one: by their values (Kronecker). Nothing of a program.
-/
namespace Go.Proofs.YtokojbgpboccnaaGreat
set_option linter.unusedVariables false
/-! ### Primes -/
def Prm (p : Nat) : Prop := 2 ≤ p ∧ ∀ d, d ∣ p → d = 1 ∨ d = p
theorem prm_ex : ∀ n : Nat, 2 ≤ n → ∃ p, Prm p ∧ p ∣ n := by
  intro n
  induction n using Nat.strongRecOn with
  | ind n ih =>
    intro h
    by_cases hd : ∃ d, d ∣ n ∧ d ≠ 1 ∧ d ≠ n
    · obtain ⟨d, h1, h2, h3⟩ := hd
      have h4 := Nat.le_of_dvd (by omega) h1
      have h5 : d ≠ 0 := by rintro rfl; have := Nat.eq_zero_of_zero_dvd h1; omega
      obtain ⟨p, hp, hpd⟩ := ih d (by omega) (by omega)
      exact ⟨p, hp, Nat.dvd_trans hpd h1⟩
    · refine ⟨n, ⟨h, fun d hdn => ?_⟩, Nat.dvd_refl n⟩
      apply Classical.byContradiction
      intro hc
      exact hd ⟨d, hdn, fun e => hc (.inl e), fun e => hc (.inr e)⟩
theorem Prm.mul {p : Nat} (h : Prm p) {a b : Int} (hd : (p : Int) ∣ a * b) : (p : Int) ∣ a ∨ (p : Int) ∣ b := by
  have h1 : p ∣ a.natAbs * b.natAbs := by rw [← Int.natAbs_mul]; exact Int.ofNat_dvd_left.1 hd
  rcases h.2 (Nat.gcd p a.natAbs) (Nat.gcd_dvd_left _ _) with e | e
  · exact .inr (Int.ofNat_dvd_left.2 (Nat.Coprime.dvd_of_dvd_mul_left e h1))
  · exact .inl (Int.ofNat_dvd_left.2 (by rw [← e]; exact Nat.gcd_dvd_right _ _))
/-! ### Products of integral ones -/
def zsum (f : Nat → Int) : Nat → Int
  | 0 => 0
  | n + 1 => zsum f n + f n
theorem zsum_congr {f g : Nat → Int} {n : Nat} (h : ∀ k, k < n → f k = g k) : zsum f n = zsum g n := by
  induction n with
  | zero => rfl
  | succ n ih => show zsum f n + f n = zsum g n + g n; rw [ih fun k hk => h k (by omega), h n (by omega)]
theorem zsum_mul (c : Int) (f : Nat → Int) (n : Nat) : zsum (fun k => c * f k) n = c * zsum f n := by
  induction n with
  | zero => show (0 : Int) = c * 0; omega
  | succ n ih => show zsum _ n + c * f n = c * (zsum f n + f n); rw [ih]; grind
/-- All but one of the summands are so often something. -/
theorem zsum_one {p : Int} {f : Nat → Int} {i : Nat} : ∀ n, i < n → (∀ k, k < n → k ≠ i → p ∣ f k) → p ∣ zsum f n → p ∣ f i := by
  intro n
  induction n with
  | zero => intro h; omega
  | succ n ih =>
    intro hi hk hd
    change p ∣ zsum f n + f n at hd
    by_cases e : i = n
    · subst e
      have h0 : p ∣ zsum f i := by
        clear hd ih
        have : ∀ m, m ≤ i → p ∣ zsum f m := by
          intro m
          induction m with
          | zero => intro _; exact Int.dvd_zero _
          | succ m ihm => intro hm; exact Int.dvd_add (ihm (by omega)) (hk m (by omega) (by omega))
        exact this i (Nat.le_refl _)
      exact (Int.dvd_iff_dvd_of_dvd_add hd).1 h0
    · have h1 := hk n (by omega) (by omega)
      have h2 : p ∣ zsum f n := (Int.dvd_iff_dvd_of_dvd_add hd).2 h1
      exact ih (by omega) (fun k hk' => hk k (by omega)) h2
def icv (u v : Nat → Int) (t : Nat) : Int := zsum (fun a => u a * v (t - a)) (t + 1)
theorem least {P : Nat → Prop} (h : ∃ n, P n) : ∃ n, P n ∧ ∀ m, m < n → ¬ P m := by
  obtain ⟨n, hn⟩ := h
  induction n using Nat.strongRecOn with
  | ind n ih =>
    by_cases hm : ∃ m, m < n ∧ P m
    · obtain ⟨m, h1, h2⟩ := hm
      exact ih m h1 h2
    · exact ⟨n, hn, fun m h1 h2 => hm ⟨m, h1, h2⟩⟩
theorem prm_icv {p : Nat} (hp : Prm p) {u v : Nat → Int} (h : ∀ t, (p : Int) ∣ icv u v t) : (∀ i, (p : Int) ∣ u i) ∨ ∀ i, (p : Int) ∣ v i := by
  apply Classical.byContradiction
  intro hc
  have h1 : ∃ i, ¬ (p : Int) ∣ u i := Classical.byContradiction fun e => hc (.inl fun i => Classical.byContradiction fun e2 => e ⟨i, e2⟩)
  have h2 : ∃ i, ¬ (p : Int) ∣ v i := Classical.byContradiction fun e => hc (.inr fun i => Classical.byContradiction fun e2 => e ⟨i, e2⟩)
  obtain ⟨i, hi, li⟩ := least h1
  obtain ⟨j, hj, lj⟩ := least h2
  have h3 : (p : Int) ∣ u i * v (i + j - i) := zsum_one (i := i) (f := fun a => u a * v (i + j - a)) (i + j + 1) (by omega) (fun k hk hne => ?_) (h (i + j))
  · rw [Nat.add_sub_cancel_left] at h3
    rcases hp.mul h3 with e | e
    · exact hi e
    · exact hj e
  · by_cases hk2 : k < i
    · exact Int.dvd_mul_of_dvd_left (Classical.byContradiction fun e => li k hk2 e)
    · exact Int.dvd_mul_of_dvd_right (Classical.byContradiction fun e => lj (i + j - k) (by omega) e)
/-- GAUSS: what has integral multiples as divisors has integral divisors. -/
theorem gauss_int : ∀ N : Nat, 1 ≤ N → ∀ u v f : Nat → Int, (∀ t, (N : Int) * f t = icv u v t) → ∃ (s t : Int) (u' v' : Nat → Int), s ≠ 0 ∧ t ≠ 0 ∧ (∀ i, u i = s * u' i) ∧ (∀ i, v i = t * v' i) ∧ ∀ i, f i = icv u' v' i := by
  intro N
  induction N using Nat.strongRecOn with
  | ind N ih =>
    intro hN u v f hf
    by_cases h1 : N = 1
    · subst h1
      exact ⟨1, 1, u, v, by decide, by decide, fun i => by omega, fun i => by omega, fun i => by rw [← hf]; omega⟩
    · obtain ⟨p, hp, M, rfl⟩ := prm_ex N (by omega)
      have hM : M ≠ 0 := by rintro rfl; omega
      have hp2 := hp.1
      have hlt : M < p * M := by have := Nat.mul_le_mul_right M hp2; omega
      have hp0 : (p : Int) ≠ 0 := by omega
      rcases prm_icv hp (u := u) (v := v) (fun t => by rw [← hf, Int.natCast_mul, Int.mul_assoc]; exact Int.dvd_mul_right _ _) with h | h
      · have hu : ∀ i, u i = p * (u i / p) := fun i => (Int.mul_ediv_cancel' (h i)).symm
        obtain ⟨s, t, u', v', h3, h4, h5, h6, h7⟩ := ih M hlt (by omega) (fun i => u i / p) v f (fun t => by
          have h8 := hf t
          have h9 : icv u v t = p * icv (fun i => u i / p) v t := by
            unfold icv
            rw [← zsum_mul]
            exact zsum_congr fun k _ => by rw [← Int.mul_assoc, ← hu]
          rw [h9, Int.natCast_mul, Int.mul_assoc] at h8
          exact Int.eq_of_mul_eq_mul_left hp0 h8)
        refine ⟨p * s, t, u', v', Int.mul_ne_zero hp0 h3, h4, fun i => ?_, h6, h7⟩
        have h8 := h5 i
        rw [hu i, h8, Int.mul_assoc]
      · have hu : ∀ i, v i = p * (v i / p) := fun i => (Int.mul_ediv_cancel' (h i)).symm
        obtain ⟨s, t, u', v', h3, h4, h5, h6, h7⟩ := ih M hlt (by omega) u (fun i => v i / p) f (fun t => by
          have h8 := hf t
          have h9 : icv u v t = p * icv u (fun i => v i / p) t := by
            unfold icv
            rw [← zsum_mul]
            exact zsum_congr fun k _ => by
              have := hu (t - k)
              generalize v (t - k) / p = y at *
              rw [this]; grind
          rw [h9, Int.natCast_mul, Int.mul_assoc] at h8
          exact Int.eq_of_mul_eq_mul_left hp0 h8)
        refine ⟨s, p * t, u', v', h3, Int.mul_ne_zero hp0 h4, h5, fun i => ?_, h7⟩
        have h8 := h6 i
        rw [hu i, h8, Int.mul_assoc]
/-! ### Bounds by values -/
def zc (l : List Int) (i : Nat) : Int := l[i]?.getD 0
def zev : List Int → Int → Int
  | [], _ => 0
  | c :: l, x => c + x * zev l x
def zsy : List Int → Int → List Int
  | [], _ => []
  | [_], _ => []
  | _ :: b :: l, a => zev (b :: l) a :: zsy (b :: l) a
theorem zsy_len : ∀ (l : List Int) (a : Int), (zsy l a).length = l.length - 1
  | [], _ => rfl
  | [_], _ => rfl
  | c :: b :: l, a => by
    show (zsy (b :: l) a).length + 1 = _
    rw [zsy_len (b :: l) a]; simp
theorem zsy_ev : ∀ (l : List Int) (a x : Int), zev l x = zev l a + (x - a) * zev (zsy l a) x
  | [], a, x => by show (0 : Int) = 0 + (x - a) * 0; omega
  | [c], a, x => by show c + x * 0 = (c + a * 0) + (x - a) * 0; omega
  | c :: b :: l, a, x => by
    show c + x * zev (b :: l) x = (c + a * zev (b :: l) a) + (x - a) * (zev (b :: l) a + x * zev (zsy (b :: l) a) x)
    rw [zsy_ev (b :: l) a x]
    generalize zev (b :: l) a = y
    generalize zev (zsy (b :: l) a) x = z
    grind
theorem zc_cons (c : Int) (l : List Int) (i : Nat) : zc (c :: l) (i + 1) = zc l i := by simp [zc]
theorem zc_head (c : Int) (l : List Int) : zc (c :: l) 0 = c := by simp [zc]
theorem zc_nil (i : Nat) : zc [] i = 0 := by simp [zc]
theorem zsy_zc : ∀ (l : List Int) (a : Int), zc l 0 = zev l a - a * zc (zsy l a) 0 ∧ ∀ i, zc l (i + 1) = zc (zsy l a) i - a * zc (zsy l a) (i + 1)
  | [], a => ⟨by show zc [] 0 = 0 - a * zc [] 0; rw [zc_nil]; omega, fun i => by show zc [] (i + 1) = zc [] i - a * zc [] (i + 1); rw [zc_nil, zc_nil]; omega⟩
  | [c], a => ⟨by show zc [c] 0 = (c + a * 0) - a * zc [] 0; rw [zc_nil, zc_head]; omega, fun i => by show zc [c] (i + 1) = zc [] i - a * zc [] (i + 1); rw [zc_nil, zc_nil, zc_cons, zc_nil]; omega⟩
  | c :: b :: l, a => by
    obtain ⟨h0, h1⟩ := zsy_zc (b :: l) a
    refine ⟨?_, fun i => ?_⟩
    · show zc (c :: b :: l) 0 = (c + a * zev (b :: l) a) - a * zc (zev (b :: l) a :: zsy (b :: l) a) 0
      rw [zc_head, zc_head]; omega
    · show zc (c :: b :: l) (i + 1) = zc (zev (b :: l) a :: zsy (b :: l) a) i - a * zc (zev (b :: l) a :: zsy (b :: l) a) (i + 1)
      rw [zc_cons c (b :: l) i, zc_cons _ (zsy (b :: l) a) i]
      cases i with
      | zero => rw [zc_head _ (zsy (b :: l) a), h0]
      | succ i => rw [zc_cons _ (zsy (b :: l) a) i, h1]
theorem bnd : ∀ (n : Nat) (l : List Int) (pts : List Nat) (M : Nat), l.length ≤ n → pts.Nodup → n ≤ pts.length → (∀ a ∈ pts, a ≤ 16 ∧ (zev l a).natAbs ≤ M) → ∀ i, (zc l i).natAbs ≤ 36 ^ n * M := by
  intro n
  induction n with
  | zero =>
    intro l pts M hl _ _ _ i
    obtain rfl := List.length_eq_zero_iff.1 (show l.length = 0 by omega)
    rw [zc_nil]; exact Nat.zero_le _
  | succ n ih =>
    intro l pts M hl hd hp h
    match pts, hp with
    | a :: ps, hp =>
      obtain ⟨ha, hva⟩ := h a (by simp)
      have hnd := List.nodup_cons.1 hd
      have h1 := ih (zsy l a) ps (2 * M) (by rw [zsy_len]; omega) hnd.2 (by simp at hp; omega) fun b hb => by
        obtain ⟨hb1, hb2⟩ := h b (by simp [hb])
        refine ⟨hb1, ?_⟩
        have hne : b ≠ a := by rintro rfl; exact hnd.1 hb
        have h2 := zsy_ev l a b
        have h3 : (((b : Int) - a) * zev (zsy l a) b).natAbs ≤ 2 * M := by
          have : ((b : Int) - a) * zev (zsy l a) b = zev l b - zev l a := by omega
          rw [this]; omega
        rw [Int.natAbs_mul] at h3
        have h4 : 1 ≤ ((b : Int) - a).natAbs := by omega
        have h5 := Nat.mul_le_mul_right (zev (zsy l a) b).natAbs h4
        omega
      obtain ⟨k0, k1⟩ := zsy_zc l a
      have e : 36 ^ (n + 1) * M = 36 * (36 ^ n * M) := by rw [Nat.pow_succ]; grind
      have e2 : 36 ^ n * (2 * M) = 2 * (36 ^ n * M) := by grind
      have e3 : M ≤ 36 ^ n * M := Nat.le_mul_of_pos_left M (Nat.pow_pos (by decide))
      have hm : ∀ j, ((a : Int) * zc (zsy l a) j).natAbs ≤ 16 * (2 * (36 ^ n * M)) := fun j => by
        rw [Int.natAbs_mul]
        have := h1 j
        rw [e2] at this
        exact Nat.mul_le_mul (by omega) this
      intro i
      rw [e]
      cases i with
      | zero => have := hm 0; rw [k0]; omega
      | succ i => have := hm (i + 1); have h6 := h1 i; rw [e2] at h6; rw [k1]; omega
/-- A number is nought only so often: of any so many numbers below a bound, it is not nought at all of them. -/
theorem pts_ex : ∀ (n : Nat) (l : List Rat) (k : Nat), l.length ≤ n + 1 → (∃ i, co l i ≠ 0) → ∃ pts : List Nat, pts.Nodup ∧ k ≤ pts.length ∧ ∀ a ∈ pts, a < n + k ∧ pv l (a : Rat) ≠ 0 := by
  intro n
  induction n with
  | zero =>
    intro l k hl hne
    obtain ⟨i, hi⟩ := hne
    match l, hl with
    | [], _ => exact absurd (co_nil i) hi
    | [c], _ =>
      have hc : c ≠ 0 := by
        rintro rfl
        apply hi
        cases i with
        | zero => rw [co_zero]
        | succ i => rw [co_succ, co_nil]
      exact ⟨List.range k, List.nodup_range, by simp, fun a ha => ⟨by have := List.mem_range.1 ha; omega, by rw [pv_one]; exact hc⟩⟩
  | succ n ih =>
    intro l k hl hne
    by_cases h : ∀ a, a < k → pv l ((a : Nat) : Rat) ≠ 0
    · exact ⟨List.range k, List.nodup_range, by simp, fun a ha => ⟨by have := List.mem_range.1 ha; omega, h a (List.mem_range.1 ha)⟩⟩
    · have h1 : ∃ a, a < k ∧ pv l ((a : Nat) : Rat) = 0 := Classical.byContradiction fun e => h fun a ha e2 => e ⟨a, ha, e2⟩
      obtain ⟨a, ha, h0⟩ := h1
      have hs : ∀ x, pv l x = (x - (a : Rat)) * pv (syn l a) x := fun x => by rw [syn_pv l a x, h0]; grind
      have hne2 : ∃ i, co (syn l (a : Rat)) i ≠ 0 := by
        apply Classical.byContradiction
        intro e
        have h2 : ∀ i, co (syn l (a : Rat)) i = 0 := fun i => Classical.byContradiction fun e2 => e ⟨i, e2⟩
        obtain ⟨i, hi⟩ := hne
        apply hi
        have h3 := co_of_pv (l := l) (m := []) (fun x => by rw [hs, pv_zero h2]; show _ = (0 : Rat); grind) i
        rw [h3, co_nil]
      obtain ⟨pts, p1, p2, p3⟩ := ih (syn l a) (k + 1) (by rw [syn_len]; omega) hne2
      refine ⟨pts.erase a, p1.erase a, ?_, fun b hb => ?_⟩
      · have := List.length_erase (a := a) (l := pts)
        split at this <;> omega
      · have hb1 := List.mem_of_mem_erase hb
        obtain ⟨q1, q2⟩ := p3 b hb1
        refine ⟨by omega, ?_⟩
        rw [hs]
        have hne3 : b ≠ a := by
          rintro rfl
          exact (List.Nodup.mem_erase_iff p1).1 hb |>.1 rfl
        intro e
        rcases Rat.mul_eq_zero.1 e with e | e
        · have : (b : Rat) = (a : Rat) := by grind
          exact hne3 (by exact_mod_cast this)
        · exact q2 e
theorem cden : ∀ l : List Rat, ∃ a : Int, a ≠ 0 ∧ ∀ i, ∃ z : Int, co l i * (a : Rat) = (z : Rat)
  | [] => ⟨1, by decide, fun i => ⟨0, by rw [co_nil]; show (0 : Rat) * _ = 0; grind⟩⟩
  | c :: l => by
    obtain ⟨a, h1, h2⟩ := cden l
    have h3 : (c.den : Int) ≠ 0 := by have := c.den_pos; omega
    have h4 : c * ((c.den : Int) : Rat) = (c.num : Rat) := by
      have h5 := Rat.num_divInt_den c
      have h7 : (((c.den : Int)) : Rat) ≠ 0 := by exact_mod_cast h3
      rw [Rat.divInt_eq_div] at h5
      have h9 : (c.num : Rat) / ((c.den : Int) : Rat) * ((c.den : Int) : Rat) = (c.num : Rat) := Rat.div_mul_cancel h7
      rw [h5] at h9
      exact h9
    refine ⟨(c.den : Int) * a, Int.mul_ne_zero h3 h1, fun i => ?_⟩
    cases i with
    | zero => exact ⟨c.num * a, by rw [co_zero, Rat.intCast_mul, Rat.intCast_mul, ← h4]; grind⟩
    | succ i =>
      obtain ⟨z, hz⟩ := h2 i
      exact ⟨(c.den : Int) * z, by rw [co_succ, Rat.intCast_mul, Rat.intCast_mul, ← hz]; grind⟩
theorem zsum_cast (f : Nat → Int) : ∀ n, ((zsum f n : Int) : Rat) = sumN (fun k => (f k : Rat)) n
  | 0 => rfl
  | n + 1 => by
    show ((zsum f n + f n : Int) : Rat) = sumN _ n + (f n : Rat)
    rw [Rat.intCast_add, zsum_cast f n]
/-- So many whole coefficients, as a list. -/
def zlf (n : Nat) (f : Nat → Int) : List Int := (List.range n).map f
theorem zc_zlf {n : Nat} {f : Nat → Int} (h : ∀ i, n ≤ i → f i = 0) (i : Nat) : zc (zlf n f) i = f i := by
  unfold zc zlf
  by_cases hi : i < n
  · simp [hi]
  · rw [List.getElem?_eq_none (by simp; omega), h i (by omega)]; rfl
theorem zlf_len (n : Nat) (f : Nat → Int) : (zlf n f).length = n := by simp [zlf]
def zq (l : List Int) : List Rat := l.map (fun z : Int => (z : Rat))
theorem co_zq (l : List Int) (i : Nat) : co (zq l) i = ((zc l i : Int) : Rat) := by
  unfold co zc zq
  rw [List.getElem?_map]
  cases l[i]? <;> rfl
theorem pv_zq : ∀ (l : List Int) (x : Int), pv (zq l) (x : Rat) = ((zev l x : Int) : Rat)
  | [], x => rfl
  | c :: l, x => by
    show (c : Rat) + (x : Rat) * pv (zq l) x = ((c + x * zev l x : Int) : Rat)
    rw [pv_zq l x, Rat.intCast_add, Rat.intCast_mul]
theorem zev_le : ∀ (l : List Int) (a M : Nat), a ≤ 16 → (∀ i, (zc l i).natAbs ≤ M) → (zev l a).natAbs ≤ 17 ^ l.length * M
  | [], a, M, _, _ => Nat.zero_le _
  | c :: l, a, M, ha, h => by
    have h1 := zev_le l a M ha fun i => by have := h (i + 1); rwa [zc_cons] at this
    have h0 := h 0
    rw [zc_head] at h0
    show (c + (a : Int) * zev l a).natAbs ≤ 17 ^ (l.length + 1) * M
    have h2 : ((a : Int) * zev l a).natAbs ≤ 16 * (17 ^ l.length * M) := by rw [Int.natAbs_mul]; exact Nat.mul_le_mul (by omega) h1
    have e : 17 ^ (l.length + 1) * M = 17 * (17 ^ l.length * M) := by rw [Nat.pow_succ]; grind
    have e3 : M ≤ 17 ^ l.length * M := Nat.le_mul_of_pos_left M (Nat.pow_pos (by decide))
    rw [e]
    omega
theorem rat_mul_ne {a b : Rat} (h : a ≠ 0) (h2 : b ≠ 0) : a * b ≠ 0 := fun e => by
  rcases Rat.mul_eq_zero.1 e with e | e
  · exact h e
  · exact h2 e
/-- What is monic and goes into one of nine coefficients is not much longer, over one denominator. -/
theorem dv_bound {d p : List Rat} {M : Nat} (hd : Mnc d) (hp : Trm p) (h0 : p ≠ []) (hdv : Dv d p) (hl : p.length ≤ 9) {D : Int} (hD : D ≠ 0) (h : ∀ i, ∃ z : Int, z.natAbs ≤ M ∧ co p i * (D : Rat) = (z : Rat)) :
    ∃ E : Int, E ≠ 0 ∧ E.natAbs ≤ 36 ^ 9 * (17 ^ 9 * M) ∧ ∀ i, ∃ z : Int, z.natAbs ≤ 36 ^ 9 * (17 ^ 9 * M) ∧ co d i * (E : Rat) = (z : Rat) := by
  obtain ⟨k, hk, e⟩ := hdv.eq hp
  have hdl := hdv.len hd.trm hp h0
  obtain ⟨a, ha, hU⟩ := cden d
  obtain ⟨b, hb, hV⟩ := cden k
  have hDr : (D : Rat) ≠ 0 := by exact_mod_cast hD
  have har : (a : Rat) ≠ 0 := by exact_mod_cast ha
  have hbr : (b : Rat) ≠ 0 := by exact_mod_cast hb
  let U := fun i => (hU i).choose
  let V := fun i => (hV i).choose
  let F := fun i => (h i).choose
  have hU : ∀ i, co d i * (a : Rat) = (U i : Rat) := fun i => (hU i).choose_spec
  have hV : ∀ i, co k i * (b : Rat) = (V i : Rat) := fun i => (hV i).choose_spec
  have hF : ∀ i, (F i).natAbs ≤ M ∧ co p i * (D : Rat) = (F i : Rat) := fun i => (h i).choose_spec
  clear_value U V F
  have hab : a * b ≠ 0 := Int.mul_ne_zero ha hb
  have hcv : ∀ t, a * b * F t = D * icv V U t := by
    intro t
    have h1 : ((a * b * F t : Int) : Rat) = ((D * icv V U t : Int) : Rat) := by
      rw [Rat.intCast_mul, Rat.intCast_mul, Rat.intCast_mul, ← (hF t).2, e, co_mulp]
      unfold icv cnv
      rw [zsum_cast]
      have h2 : sumN (fun j => ((V j * U (t - j) : Int) : Rat)) (t + 1) = (b : Rat) * (a : Rat) * sumN (fun j => co k j * co d (t - j)) (t + 1) := by
        generalize t + 1 = n
        clear hF h e
        induction n with
        | zero => show (0 : Rat) = _ * 0; grind
        | succ n ih =>
          show sumN _ n + ((V n * U (t - n) : Int) : Rat) = _ * (sumN _ n + co k n * co d (t - n))
          rw [ih, Rat.intCast_mul, ← hU, ← hV]; grind
      rw [h2]; grind
    exact_mod_cast h1
  have hN : ((a * b).natAbs : Int) = a * b * (a * b).sign := by rw [Int.mul_sign_self]
  have hs : (a * b).sign ≠ 0 := fun e => hab (Int.sign_eq_zero_iff_zero.1 e)
  obtain ⟨s, t, u', v', s0, t0, hu', hv', hf⟩ := gauss_int (a * b).natAbs (by omega) (fun i => (a * b).sign * D * V i) U F (fun t => by
    have h1 : icv (fun i => (a * b).sign * D * V i) U t = (a * b).sign * D * icv V U t := by
      unfold icv
      rw [← zsum_mul]
      exact zsum_congr fun j _ => by rw [Int.mul_assoc]
    rw [h1, hN, Int.mul_assoc (a * b).sign, ← hcv]; grind)
  -- the divisor
  have hts : (t : Rat) ≠ 0 := by exact_mod_cast t0
  have htop : co d (d.length - 1) = 1 := hd.2
  have hat : a = t * v' (d.length - 1) := by
    have h1 := hU (d.length - 1)
    rw [htop, hv'] at h1
    have h2 : (a : Rat) = ((t * v' (d.length - 1) : Int) : Rat) := by rw [← h1]; grind
    exact_mod_cast h2
  have hE : v' (d.length - 1) ≠ 0 := by
    intro e
    rw [e] at hat
    exact ha (by rw [hat]; omega)
  have hdE : ∀ i, co d i * ((v' (d.length - 1) : Int) : Rat) = (v' i : Rat) := by
    intro i
    have h1 := hU i
    rw [hv', hat, Rat.intCast_mul, Rat.intCast_mul] at h1
    generalize ((v' (d.length - 1) : Int) : Rat) = y at *
    have h2 : (t : Rat) * (co d i * y) = (t : Rat) * (v' i : Rat) := by grind
    have h3 := congrArg (fun z => (t : Rat)⁻¹ * z) h2
    simp only [← Rat.mul_assoc, Rat.inv_mul_cancel _ hts, Rat.one_mul] at h3
    exact h3
  have v0 : ∀ i, d.length ≤ i → v' i = 0 := by
    intro i hi
    have h1 := hdE i
    rw [co_ge hi] at h1
    have h2 : ((v' i : Int) : Rat) = ((0 : Int) : Rat) := by rw [← h1]; show (0 : Rat) * _ = 0; grind
    exact_mod_cast h2
  have u0 : ∀ i, k.length ≤ i → u' i = 0 := by
    intro i hi
    have h1 := hV i
    rw [co_ge hi] at h1
    have h2 : ((V i : Int) : Rat) = ((0 : Int) : Rat) := by rw [← h1]; show (0 : Rat) * _ = 0; grind
    have h3 : V i = 0 := by exact_mod_cast h2
    have h4 := hu' i
    rw [h3] at h4
    rcases Int.mul_eq_zero.1 (show s * u' i = 0 by rw [← h4]; omega) with h5 | h5
    · exact absurd h5 s0
    · exact h5
  have F0 : ∀ i, p.length ≤ i → F i = 0 := by
    intro i hi
    have h1 := (hF i).2
    rw [co_ge hi] at h1
    have h2 : ((F i : Int) : Rat) = ((0 : Int) : Rat) := by rw [← h1]; show (0 : Rat) * _ = 0; grind
    exact_mod_cast h2
  have hmul : ∀ x : Int, zev (zlf p.length F) x = zev (zlf k.length u') x * zev (zlf d.length v') x := by
    intro x
    have h1 : pv (zq (zlf p.length F)) x = pv (mulr (zq (zlf k.length u')) (zq (zlf d.length v'))) x := by
      refine pv_congr (fun i => ?_) x
      rw [co_zq, zc_zlf F0, co_mulr, hf]
      unfold icv cnv
      rw [zsum_cast]
      refine sumN_congr fun j _ => ?_
      rw [co_zq, co_zq, zc_zlf u0, zc_zlf v0, Rat.intCast_mul]
    rw [pv_mulr, pv_zq, pv_zq, pv_zq, ← Rat.intCast_mul] at h1
    exact_mod_cast h1
  have hpF : ∀ x : Int, ((zev (zlf p.length F) x : Int) : Rat) = (D : Rat) * pv p x := by
    intro x
    rw [← pv_zq, ← pv_psc]
    exact pv_congr (fun i => by rw [co_zq, zc_zlf F0, co_psc, ← (hF i).2]; grind) x
  obtain ⟨pts, q1, q2, q3⟩ := pts_ex 8 p 9 (by omega) ⟨p.length - 1, trm_last hp h0⟩
  have hb := bnd 9 (zlf d.length v') pts (17 ^ 9 * M) (by rw [zlf_len]; omega) q1 q2 (fun x hx => by
    obtain ⟨r1, r2⟩ := q3 x hx
    refine ⟨by omega, ?_⟩
    have h1 := hmul x
    have h2 := zev_le (zlf p.length F) x M (by omega) (fun i => by rw [zc_zlf F0]; exact (hF i).1)
    rw [zlf_len] at h2
    have h3 : 17 ^ p.length * M ≤ 17 ^ 9 * M := Nat.mul_le_mul_right M (Nat.pow_le_pow_right (by decide) hl)
    have h4 : zev (zlf k.length u') x ≠ 0 := by
      intro e
      rw [e, Int.zero_mul] at h1
      have h5 := hpF x
      rw [h1] at h5
      have h6 : (D : Rat) * pv p ((x : Nat) : Rat) = 0 := h5.symm
      exact rat_mul_ne hDr r2 h6
    rw [h1, Int.natAbs_mul] at h2
    have h5 : 1 ≤ (zev (zlf k.length u') x).natAbs := by omega
    have h6 := Nat.mul_le_mul_right (zev (zlf d.length v') x).natAbs h5
    omega)
  refine ⟨v' (d.length - 1), hE, ?_, fun i => ⟨v' i, ?_, hdE i⟩⟩
  · have := hb (d.length - 1)
    rwa [zc_zlf v0] at this
  · have := hb i
    rwa [zc_zlf v0] at this
end Go.Proofs.YtokojbgpboccnaaGreat

/-
  SUBRESULTANTS: why the divisions of Knuth's algorithm C (4.6.1) leave nothing. Nothing of a program.
-/
namespace Go.Proofs.YtokojbgpboccnaaGreat
set_option linter.unusedVariables false
/-! ### Determinants, along the first column -/
abbrev SVec := Nat → Int
def slap {α : Type} (f : α → Int) : List α → (List α → Int) → Int
  | [], _ => 0
  | a :: t, F => f a * F t - slap f t (fun r => F (a :: r))
def sdt : List Nat → List SVec → Int
  | [], l => if l = [] then 1 else 0
  | c :: cs, l => slap (fun r => r c) l (sdt cs)
def scmb (c : Int) (a : SVec) (d : Int) (b : SVec) : SVec := fun k => c * a k + d * b k
/-- Linear in each row. -/
def SMl (F : List SVec → Int) : Prop := ∀ pre post a b c d, F (pre ++ scmb c a d b :: post) = c * F (pre ++ a :: post) + d * F (pre ++ b :: post)
/-- Nought, where a row stands beside itself. -/
def SAlt (F : List SVec → Int) : Prop := ∀ pre post a, F (pre ++ a :: a :: post) = 0
theorem slap_lin {α : Type} (f : α → Int) (c d : Int) : ∀ (l : List α) (G H : List α → Int), slap f l (fun r => c * G r + d * H r) = c * slap f l G + d * slap f l H
  | [], G, H => by simp [slap]
  | a :: t, G, H => by
    show f a * (c * G t + d * H t) - slap f t (fun r => c * G (a :: r) + d * H (a :: r)) = c * (f a * G t - slap f t _) + d * (f a * H t - slap f t _)
    rw [slap_lin f c d t (fun r => G (a :: r)) (fun r => H (a :: r))]
    grind
theorem slap_zeroF {α : Type} (f : α → Int) : ∀ (l : List α), slap f l (fun _ => 0) = 0
  | [] => rfl
  | a :: t => by show f a * 0 - slap f t (fun _ => 0) = 0; rw [slap_zeroF f t]; grind
theorem sml_tail {F : List SVec → Int} (h : SMl F) (a : SVec) : SMl (fun r => F (a :: r)) := fun pre post x y c d => h (a :: pre) post x y c d
theorem salt_tail {F : List SVec → Int} (h : SAlt F) (a : SVec) : SAlt (fun r => F (a :: r)) := fun pre post x => h (a :: pre) post x
theorem sml_lap (k : Nat) : ∀ (pre : List SVec) (F : List SVec → Int), SMl F → ∀ post a b c d, slap (fun r => r k) (pre ++ scmb c a d b :: post) F = c * slap (fun r => r k) (pre ++ a :: post) F + d * slap (fun r => r k) (pre ++ b :: post) F
  | [], F, h, post, a, b, c, d => by
    show (c * a k + d * b k) * F post - slap _ post (fun r => F (scmb c a d b :: r)) = c * (a k * F post - slap _ post _) + d * (b k * F post - slap _ post _)
    have e : (fun r => F (scmb c a d b :: r)) = fun r => c * F (a :: r) + d * F (b :: r) := by funext r; exact h [] r a b c d
    rw [e, slap_lin]
    grind
  | x :: pre, F, h, post, a, b, c, d => by
    show x k * F (pre ++ scmb c a d b :: post) - slap _ (pre ++ scmb c a d b :: post) _ = c * (x k * F (pre ++ a :: post) - slap _ (pre ++ a :: post) _) + d * (x k * F (pre ++ b :: post) - slap _ (pre ++ b :: post) _)
    rw [sml_lap k pre _ (sml_tail h x), h]
    grind
theorem salt_lap (k : Nat) : ∀ (pre : List SVec) (F : List SVec → Int), SAlt F → ∀ post a, slap (fun r => r k) (pre ++ a :: a :: post) F = 0
  | [], F, h, post, a => by
    show a k * F (a :: post) - (a k * F (a :: post) - slap _ post (fun r => F (a :: a :: r))) = 0
    have e : (fun r => F (a :: a :: r)) = fun _ => 0 := by funext r; exact h [] r a
    rw [e, slap_zeroF]
    grind
  | x :: pre, F, h, post, a => by
    show x k * F (pre ++ a :: a :: post) - slap _ (pre ++ a :: a :: post) _ = 0
    rw [salt_lap k pre _ (salt_tail h x), h]
    grind
theorem sml_dt : ∀ cs, SMl (sdt cs)
  | [] => fun pre post a b c d => by simp [sdt]
  | k :: cs => fun pre post a b c d => sml_lap k pre _ (sml_dt cs) post a b c d
theorem salt_dt : ∀ cs, SAlt (sdt cs)
  | [] => fun pre post a => by simp [sdt]
  | k :: cs => fun pre post a => salt_lap k pre _ (salt_dt cs) post a
theorem slap_zero {α : Type} (f : α → Int) : ∀ (l : List α) (F : List α → Int), (∀ a ∈ l, f a = 0) → slap f l F = 0
  | [], F, _ => rfl
  | a :: t, F, h => by
    show f a * F t - slap f t _ = 0
    rw [h a (by simp), slap_zero f t _ fun b hb => h b (by simp [hb])]
    grind
/-- A column that only the first row has. -/
theorem sdt_first {c : Nat} {cs : List Nat} {a : SVec} {t : List SVec} (h : ∀ r ∈ t, r c = 0) : sdt (c :: cs) (a :: t) = a c * sdt cs t := by
  show a c * sdt cs t - slap _ t _ = _
  rw [slap_zero _ t _ h]
  grind
theorem sswap {F : List SVec → Int} (hm : SMl F) (ha : SAlt F) (pre post : List SVec) (a b : SVec) : F (pre ++ a :: b :: post) = - F (pre ++ b :: a :: post) := by
  have h := ha pre post (scmb 1 a 1 b)
  rw [hm, show pre ++ a :: scmb 1 a 1 b :: post = (pre ++ [a]) ++ scmb 1 a 1 b :: post by simp, show pre ++ b :: scmb 1 a 1 b :: post = (pre ++ [b]) ++ scmb 1 a 1 b :: post by simp, hm, hm] at h
  simp only [List.append_assoc, List.cons_append, List.nil_append] at h
  rw [ha pre post a, ha pre post b] at h
  grind
theorem smove {F : List SVec → Int} (hm : SMl F) (ha : SAlt F) (a : SVec) : ∀ (v pre post : List SVec), (F (pre ++ a :: (v ++ post))).natAbs = (F (pre ++ (v ++ a :: post))).natAbs
  | [], pre, post => rfl
  | b :: v, pre, post => by
    rw [List.cons_append, sswap hm ha, Int.natAbs_neg]
    have h := smove hm ha a v (pre ++ [b]) post
    rw [show (pre ++ [b]) ++ a :: (v ++ post) = pre ++ b :: a :: (v ++ post) by simp, show (pre ++ [b]) ++ (v ++ a :: post) = pre ++ (b :: v ++ a :: post) by simp] at h
    rw [h]
theorem sblocks {F : List SVec → Int} (hm : SMl F) (ha : SAlt F) : ∀ (u v post : List SVec), (F (u ++ (v ++ post))).natAbs = (F (v ++ (u ++ post))).natAbs
  | [], v, post => rfl
  | a :: u, v, post => by
    have h : (F (a :: (u ++ (v ++ post)))).natAbs = (F (a :: (v ++ (u ++ post)))).natAbs := sblocks (F := fun r => F (a :: r)) (sml_tail hm a) (salt_tail ha a) u v post
    rw [List.cons_append, h]
    have h2 := smove hm ha a v [] (u ++ post)
    rw [List.nil_append, List.nil_append] at h2
    rw [h2, List.cons_append]
theorem stwice {F : List SVec → Int} (hm : SMl F) (ha : SAlt F) {pre : List SVec} {b : SVec} (hb : b ∈ pre) (post : List SVec) : F (pre ++ b :: post) = 0 := by
  obtain ⟨u, w, rfl⟩ := List.append_of_mem hb
  have h := smove hm ha b w u (b :: post)
  rw [show u ++ b :: (w ++ b :: post) = (u ++ b :: w) ++ b :: post by simp] at h
  have h2 := smove hm ha b (w ++ [b]) u post
  have h3 := sswap hm ha (u ++ w) post b b
  rw [show u ++ (w ++ b :: b :: post) = (u ++ w) ++ b :: b :: post by simp, ha] at h
  exact Int.natAbs_eq_zero.1 h
/-- A row, times a number, and with another one that stands before it. -/
theorem srowop {F : List SVec → Int} (hm : SMl F) (ha : SAlt F) {pre : List SVec} {b : SVec} (hb : b ∈ pre) (post : List SVec) (a : SVec) (c d : Int) : F (pre ++ scmb c a d b :: post) = c * F (pre ++ a :: post) := by
  rw [hm, stwice hm ha hb]; grind
/-! ### Shifted rows -/
def ssh (i : Nat) (p : SVec) : SVec := fun k => if k < i then 0 else p (k - i)
def ssr (p : SVec) : Nat → List SVec
  | 0 => []
  | n + 1 => ssh n p :: ssr p n
theorem smem_sr (p : SVec) : ∀ {n i : Nat}, i < n → ssh i p ∈ ssr p n
  | n + 1, i, h => by
    by_cases e : i = n
    · rw [e]; simp [ssr]
    · simp [ssr, smem_sr p (n := n) (i := i) (by omega)]
theorem sof_mem_sr (p : SVec) : ∀ {n : Nat} {r : SVec}, r ∈ ssr p n → ∃ i, i < n ∧ r = ssh i p
  | 0, r, h => by simp [ssr] at h
  | n + 1, r, h => by
    rcases List.mem_cons.1 h with h | h
    · exact ⟨n, by omega, h⟩
    · obtain ⟨i, h1, h2⟩ := sof_mem_sr p h
      exact ⟨i, by omega, h2⟩
/-- One step of a division without fractions. -/
theorem ssh_step (i s : Nat) (l t : Int) (p q : SVec) : ssh i (scmb l p t (ssh s q)) = scmb l (ssh i p) t (ssh (i + s) q) := by
  funext k
  simp only [ssh, scmb]
  by_cases h : k < i
  · rw [if_pos h, if_pos h, if_pos (by omega)]; grind
  · rw [if_neg h, if_neg h]
    by_cases h2 : k - i < s
    · rw [if_pos h2, if_pos (by omega)]
    · rw [if_neg h2, if_neg (by omega), show k - (i + s) = k - i - s by omega]
theorem srows_step {F : List SVec → Int} (hm : SMl F) (ha : SAlt F) (q p : SVec) (l t : Int) (s a : Nat) : ∀ (b : Nat) (u : List SVec), b + s ≤ a → F (ssr q a ++ (u ++ ssr (scmb l p t (ssh s q)) b)) = l ^ b * F (ssr q a ++ (u ++ ssr p b))
  | 0, u, _ => by rw [Int.pow_zero, Int.one_mul]; rfl
  | b + 1, u, h => by
    show F (ssr q a ++ (u ++ ssh b (scmb l p t (ssh s q)) :: ssr (scmb l p t (ssh s q)) b)) = _
    rw [ssh_step, ← List.append_assoc, srowop hm ha (by have := smem_sr q (n := a) (i := b + s) (by omega); simp [this])]
    have h2 := srows_step hm ha q p l t s a b (u ++ [ssh b p]) (by omega)
    simp only [List.append_assoc, List.cons_append, List.nil_append] at h2
    rw [List.append_assoc, h2, Int.pow_succ]
    show l * (l ^ b * F (ssr q a ++ (u ++ ssh b p :: ssr p b))) = l ^ b * l * F (ssr q a ++ (u ++ ssh b p :: ssr p b))
    grind
/-- Some steps of a division without fractions, none farther than s: what is left. -/
inductive SRed (q : SVec) (l : Int) (s : Nat) : Nat → SVec → SVec → Prop
  | nil (p : SVec) : SRed q l s 0 p p
  | step {e : Nat} {p r : SVec} (t : Int) (i : Nat) : i ≤ s → SRed q l s e (scmb l p t (ssh i q)) r → SRed q l s (e + 1) p r
theorem sred_rows {F : List SVec → Int} (hm : SMl F) (ha : SAlt F) {q : SVec} {l : Int} {s a b : Nat} (hb : b + s ≤ a) {e : Nat} {p r : SVec} (h : SRed q l s e p r) : F (ssr q a ++ ssr r b) = l ^ (e * b) * F (ssr q a ++ ssr p b) := by
  induction h with
  | nil p => rw [Nat.zero_mul, Int.pow_zero, Int.one_mul]
  | step t i hi h ih =>
    rename_i e p r
    have h1 := srows_step hm ha q p l t i a b [] (by omega)
    rw [List.nil_append, List.nil_append] at h1
    rw [ih, h1, Nat.succ_mul, Int.pow_add]
    grind
/-! ### The columns -/
def scd (s : Nat) : Nat → List Nat
  | 0 => []
  | n + 1 => (s + n) :: scd s n
/-- The first rows have their last coefficients, one after the other. -/
theorem speel {q r : SVec} {n j b : Nat} {k : Nat} (hq : ∀ i, n < i → q i = 0) (hb : j + b = n) : ∀ (d a : Nat), (∀ i, j + a < i → r i = 0) → sdt (scd (j + 1) (d + a + b - 1) ++ [k]) (ssr q (d + a) ++ ssr r b) = q n ^ d * sdt (scd (j + 1) (a + b - 1) ++ [k]) (ssr q a ++ ssr r b) ∨ a + b = 0
  | 0, a, h => .inl (by rw [Int.pow_zero, Int.one_mul, Nat.zero_add])
  | d + 1, a, h => by
    by_cases h0 : a + b = 0
    · exact .inr h0
    refine .inl ?_
    rcases speel (k := k) hq hb d a h with h1 | h1
    · have e1 : d + 1 + a + b - 1 = (d + a + b - 1) + 1 := by omega
      have e2 : d + 1 + a = (d + a) + 1 := by omega
      rw [e1, e2]
      show sdt ((j + 1 + (d + a + b - 1)) :: (scd (j + 1) (d + a + b - 1) ++ [k])) (ssh (d + a) q :: (ssr q (d + a) ++ ssr r b)) = _
      rw [sdt_first, h1, Int.pow_succ]
      · have e3 : ssh (d + a) q (j + 1 + (d + a + b - 1)) = q n := by
          unfold ssh
          rw [if_neg (by omega), show j + 1 + (d + a + b - 1) - (d + a) = n by omega]
        rw [e3]
        grind
      · intro x hx
        rcases List.mem_append.1 hx with hx | hx
        · obtain ⟨i, hi, rfl⟩ := sof_mem_sr q hx
          unfold ssh
          rw [if_neg (by omega)]
          exact hq _ (by omega)
        · obtain ⟨i, hi, rfl⟩ := sof_mem_sr r hx
          unfold ssh
          rw [if_neg (by omega)]
          exact h _ (by omega)
    · exact absurd h1 h0
/-- A subresultant's coefficient: of a and b rows. -/
def SRs (p q : SVec) (a b j k : Nat) : Int := sdt (scd (j + 1) (a + b - 1) ++ [k]) (ssr q a ++ ssr p b)
/-- One round: of the one that divides, and what is left. -/
theorem srs_next {p q r : SVec} {l : Int} {m n d j k e : Nat} (hq : ∀ i, n < i → q i = 0) (hl : q n = l) (hmn : n ≤ m) (hr : SRed q l (m - n) e p r) (hd : ∀ i, d < i → r i = 0) (hdn : d < n) (hj : j ≤ d) :
    (l ^ (e * (n - j)) * SRs p q (m - j) (n - j) j k).natAbs = (l ^ (m - d) * SRs q r (n - j) (d - j) j k).natAbs := by
  unfold SRs
  have h1 := sred_rows (F := sdt (scd (j + 1) (m - j + (n - j) - 1) ++ [k])) (sml_dt _) (salt_dt _) (q := q) (a := m - j) (b := n - j) (by omega) hr
  rw [← h1]
  have h2 := speel (q := q) (r := r) (n := n) (j := j) (b := n - j) (k := k) hq (by omega) (m - d) (d - j) (fun i hi => hd i (by omega))
  rcases h2 with h2 | h2
  · rw [show m - d + (d - j) = m - j by omega] at h2
    rw [h2, hl, Int.natAbs_mul, Int.natAbs_mul]
    have h3 := sblocks (F := sdt (scd (j + 1) (d - j + (n - j) - 1) ++ [k])) (sml_dt _) (salt_dt _) (ssr q (d - j)) (ssr r (n - j)) []
    rw [List.append_nil, List.append_nil] at h3
    rw [h3, show d - j + (n - j) = n - j + (d - j) by omega]
  · omega
theorem ssh_zero (p : SVec) : ssh 0 p = p := by funext k; rfl
/-- The first one of a round is what is left itself. -/
theorem srs_left {p q r : SVec} {l : Int} {m n k : Nat} (hq : ∀ i, n < i → q i = 0) (hl : q n = l) (h0 : l ≠ 0) (hn : 1 ≤ n) (hmn : n ≤ m) (hr : SRed q l (m - n) (m - n + 1) p r) (hd : ∀ i, n ≤ i → r i = 0) :
    (SRs p q (m - (n - 1)) (n - (n - 1)) (n - 1) k).natAbs = (r k).natAbs := by
  unfold SRs
  have e1 : n - (n - 1) = 1 := by omega
  have e2 : m - (n - 1) = m - n + 1 := by omega
  rw [e1, e2]
  have h1 := sred_rows (F := sdt (scd (n - 1 + 1) (m - n + 1 + 1 - 1) ++ [k])) (sml_dt _) (salt_dt _) (q := q) (a := m - n + 1) (b := 1) (by omega) hr
  have h2 := speel (q := q) (r := r) (n := n) (j := n - 1) (b := 1) (k := k) hq (by omega) (m - n + 1) 0 (fun i hi => hd i (by omega))
  rcases h2 with h2 | h2
  · rw [Nat.add_zero] at h2
    rw [h2, hl] at h1
    have e3 : sdt (scd (n - 1 + 1) (0 + 1 - 1) ++ [k]) (ssr q 0 ++ ssr r 1) = r k := by
      show sdt [k] [ssh 0 r] = r k
      rw [ssh_zero]
      show r k * 1 - 0 = r k
      omega
    rw [e3, Nat.mul_one] at h1
    have h3 : l ^ (m - n + 1) ≠ 0 := Int.pow_ne_zero h0
    have h4 := Int.eq_of_mul_eq_mul_left h3 h1
    rw [← h4]
  · omega
/-- Of the second one alone: its last coefficient, so often. -/
theorem srs_last {p q : SVec} {l : Int} {m n : Nat} (hq : ∀ i, n < i → q i = 0) (hl : q n = l) (hmn : n < m) : SRs p q (m - n) (n - n) n n = l ^ (m - n) := by
  unfold SRs
  rw [Nat.sub_self]
  have h2 := speel (q := q) (r := fun _ => 0) (n := n) (j := n) (b := 0) (k := n) hq (by omega) (m - n - 1) 1 (fun _ _ => rfl)
  have e : m - n - 1 + 1 = m - n := by omega
  rw [e] at h2
  rcases h2 with h2 | h2
  · have e3 : sdt (scd (n + 1) (1 + 0 - 1) ++ [n]) (ssr q 1 ++ ssr (fun _ => 0) 0) = q n := by
      show sdt [n] [ssh 0 q] = q n
      rw [ssh_zero]
      show q n * 1 - 0 = q n
      omega
    rw [e3, hl, ← Int.pow_succ, show (m - n - 1).succ = m - n from e] at h2
    exact h2
  · omega
theorem srs_scale {q c : SVec} {β : Int} (a b j k : Nat) : SRs q (fun i => β * c i) a b j k = β ^ a * SRs q c a b j k := by
  unfold SRs
  generalize scd (j + 1) (a + b - 1) ++ [k] = cs
  suffices h : ∀ (a : Nat) (pre post : List SVec), sdt cs (pre ++ (ssr (fun i => β * c i) a ++ post)) = β ^ a * sdt cs (pre ++ (ssr c a ++ post)) by exact h a [] _
  intro a
  induction a with
  | zero => intro pre post; rw [Int.pow_zero, Int.one_mul]; rfl
  | succ a ih =>
    intro pre post
    have e : ssh a (fun i => β * c i) = scmb β (ssh a c) 0 (ssh a c) := by
      funext k
      simp only [ssh, scmb]
      by_cases h : k < a
      · rw [if_pos h, if_pos h]; grind
      · rw [if_neg h, if_neg h]; grind
    show sdt cs (pre ++ ssh a (fun i => β * c i) :: (ssr (fun i => β * c i) a ++ post)) = _
    rw [e, sml_dt]
    have h1 := ih (pre ++ [ssh a c]) post
    simp only [List.append_assoc, List.cons_append, List.nil_append] at h1
    rw [h1, Int.pow_succ]
    show _ = β ^ a * β * sdt cs (pre ++ ssh a c :: (ssr c a ++ post))
    grind
/-! ### What goes into all of them -/
/-- Of a round: the number before, and the scale, so often, go into the subresultants. -/
def SInv (g h : Int) (p q : SVec) (m n : Nat) : Prop := ∀ j k, j ≤ n → j < m → g ^ (n - j) * h ^ (m - j - 1) ∣ SRs p q (m - j) (n - j) j k
theorem sone_pow (n : Nat) : (1 : Int) ^ n = 1 := by
  induction n with
  | zero => rfl
  | succ n ih => rw [Int.pow_succ, ih]; rfl
theorem SInv.start (p q : SVec) (m n : Nat) : SInv 1 1 p q m n := fun j k _ _ => by rw [sone_pow, sone_pow]; exact Int.one_dvd _
theorem SInv.rest {g h l : Int} {p q r : SVec} {m n : Nat} (hi : SInv g h p q m n) (hq : ∀ i, n < i → q i = 0) (hl : q n = l) (h0 : l ≠ 0) (hn : 1 ≤ n) (hmn : n ≤ m) (hr : SRed q l (m - n) (m - n + 1) p r) (hd : ∀ i, n ≤ i → r i = 0) (k : Nat) : g * h ^ (m - n) ∣ r k := by
  have h1 := hi (n - 1) k (by omega) (by omega)
  rw [show n - (n - 1) = 1 by omega, show m - (n - 1) - 1 = m - n by omega] at h1
  have h2 := srs_left (k := k) hq hl h0 hn hmn hr hd
  rw [show n - (n - 1) = 1 by omega] at h2
  rw [Int.pow_one] at h1
  exact Int.natAbs_dvd_natAbs.1 (h2 ▸ Int.natAbs_dvd_natAbs.2 h1)
theorem SInv.scale {g h l : Int} {p q : SVec} {m n : Nat} (hi : SInv g h p q m n) (hq : ∀ i, n < i → q i = 0) (hl : q n = l) (hmn : n < m) : h ^ (m - n - 1) ∣ l ^ (m - n) := by
  have h1 := hi n n (Nat.le_refl _) hmn
  rw [srs_last hq hl hmn, Nat.sub_self, Int.pow_zero, Int.one_mul] at h1
  exact h1
theorem sexps {g h l h' : Int} {m n d j : Nat} (hj : j ≤ d) (hd : d < n) (hmn : n ≤ m) (he : m = n → h' = h) (hs : n < m → h' * h ^ (m - n - 1) = l ^ (m - n)) :
    l ^ (m - d) * (g * h ^ (m - n)) ^ (n - j) * (l ^ (d - j) * h' ^ (n - j - 1)) = l ^ ((m - n + 1) * (n - j)) * (g ^ (n - j) * h ^ (m - j - 1)) := by
  obtain ⟨u, hu⟩ : ∃ u, n - j = u + 1 := ⟨n - j - 1, by omega⟩
  rw [hu, Nat.add_sub_cancel, Int.mul_pow, ← Int.pow_mul]
  have e0 : l ^ (m - d) * l ^ (d - j) = l ^ (m - j) := by rw [← Int.pow_add, show m - d + (d - j) = m - j by omega]
  rcases Nat.eq_or_lt_of_le hmn with hm | hm
  · have e1 : m - n = 0 := by omega
    rw [he hm.symm, e1, show m - j - 1 = u by omega, Nat.zero_mul, Nat.zero_add, Nat.one_mul, Int.pow_zero]
    rw [show m - j = u + 1 by omega] at e0
    rw [← e0]
    grind
  · obtain ⟨v, hv⟩ : ∃ v, m - n = v + 1 := ⟨m - n - 1, by omega⟩
    have h1 := hs hm
    rw [show m - n - 1 = v by omega, hv] at h1
    rw [hv, show m - j - 1 = u + v + 1 by omega]
    have e1 : h ^ ((v + 1) * (u + 1)) = h ^ (v * u) * h ^ (u + v + 1) := by rw [← Int.pow_add]; congr 1; rw [Nat.add_mul, Nat.mul_add]; omega
    have e2 : h' ^ u * h ^ (v * u) = l ^ ((v + 1) * u) := by rw [show h ^ (v * u) = (h ^ v) ^ u from Int.pow_mul, ← Int.mul_pow, h1, ← Int.pow_mul]
    have e3 : l ^ (m - j) * l ^ ((v + 1) * u) = l ^ ((v + 1 + 1) * (u + 1)) := by
      rw [← Int.pow_add]; congr 1; rw [Nat.add_mul (v + 1), Nat.mul_add (v + 1)]; omega
    rw [e1, ← e3, ← e2, ← e0]
    grind
theorem spow_ne {a : Int} (h : a ≠ 0) (n : Nat) : a ^ n ≠ 0 := Int.pow_ne_zero h
theorem SInv.next {g h l h' : Int} {p q r c : SVec} {m n d : Nat} (hi : SInv g h p q m n) (hg : g ≠ 0) (hh : h ≠ 0) (hq : ∀ i, n < i → q i = 0) (hl : q n = l) (h0 : l ≠ 0) (hmn : n ≤ m) (hr : SRed q l (m - n) (m - n + 1) p r)
    (hc : ∀ i, r i = g * h ^ (m - n) * c i) (hd : ∀ i, d < i → c i = 0) (hdn : d < n) (he : m = n → h' = h) (hs : n < m → h' * h ^ (m - n - 1) = l ^ (m - n)) : SInv l h' q c n d := by
  intro j k hj hjn
  obtain ⟨s, h1⟩ := hi j k (by omega) (by omega)
  have hr0 : ∀ i, d < i → r i = 0 := fun i h => by rw [hc, hd i h]; grind
  have h2 := srs_next (k := k) hq hl hmn hr hr0 hdn hj
  have e : r = fun i => g * h ^ (m - n) * c i := funext hc
  rw [h1, e, srs_scale] at h2
  have h3 := sexps (g := g) (h := h) (l := l) (h' := h') hj hdn hmn he hs
  have hK : l ^ (m - d) * (g * h ^ (m - n)) ^ (n - j) ≠ 0 := by
    intro e
    rcases Int.mul_eq_zero.1 e with e | e
    · exact spow_ne h0 _ e
    · refine spow_ne (fun e => ?_) _ e
      rcases Int.mul_eq_zero.1 e with e | e
      · exact hg e
      · exact spow_ne hh _ e
  have h4 : (l ^ (m - d) * (g * h ^ (m - n)) ^ (n - j)).natAbs * (l ^ (d - j) * h' ^ (n - j - 1) * s).natAbs = (l ^ (m - d) * (g * h ^ (m - n)) ^ (n - j)).natAbs * (SRs q c (n - j) (d - j) j k).natAbs := by
    rw [← Int.natAbs_mul, ← Int.natAbs_mul, ← Int.mul_assoc (l ^ (m - d) * (g * h ^ (m - n)) ^ (n - j)), h3, Int.mul_assoc (l ^ (m - d)), ← h2, Int.mul_assoc (l ^ _)]
  have h5 := Nat.eq_of_mul_eq_mul_left (by omega) h4
  rw [Int.natAbs_mul] at h5
  exact Int.natAbs_dvd_natAbs.1 ⟨_, h5.symm⟩
end Go.Proofs.YtokojbgpboccnaaGreat

/-
  POLYNOMIALS WITH WHOLE COEFFICIENTS: a round of Euclid's by subresultants. Nothing of a program.
-/
namespace Go.Proofs.YtokojbgpboccnaaGreat
set_option linter.unusedVariables false
theorem SRed.snoc {q : SVec} {l : Int} {s : Nat} {e : Nat} {p r : SVec} (h : SRed q l s e p r) (t : Int) (i : Nat) (hi : i ≤ s) : SRed q l s (e + 1) p (scmb l r t (ssh i q)) := by
  induction h with
  | nil p => exact .step t i hi (.nil _)
  | step t' i' hi' h ih => exact .step t' i' hi' ih
theorem zsum_add (f g : Nat → Int) : ∀ n, zsum (fun k => f k + g k) n = zsum f n + zsum g n
  | 0 => rfl
  | n + 1 => by show zsum _ n + (f n + g n) = (zsum f n + f n) + (zsum g n + g n); rw [zsum_add f g n]; omega
theorem zsum_nil {f : Nat → Int} : ∀ n, (∀ k, k < n → f k = 0) → zsum f n = 0
  | 0, _ => rfl
  | n + 1, h => by show zsum f n + f n = 0; rw [zsum_nil n fun k hk => h k (by omega), h n (by omega)]; rfl
theorem zsum_single {f : Nat → Int} {i : Nat} : ∀ n, i < n → (∀ k, k < n → k ≠ i → f k = 0) → zsum f n = f i
  | 0, h, _ => by omega
  | n + 1, h, hk => by
    show zsum f n + f n = f i
    by_cases e : i = n
    · subst e
      rw [zsum_nil i fun k h1 => hk k (by omega) (by omega)]; omega
    · rw [zsum_single n (by omega) fun k h1 h2 => hk k (by omega) h2, hk n (by omega) (by omega)]; omega
/-- What a division without fractions took away. -/
theorem SRed.quo {q : SVec} {l : Int} {s : Nat} {e : Nat} {p r : SVec} (h : SRed q l s e p r) : ∃ y : SVec, (∀ i, s < i → y i = 0) ∧ ∀ k, l ^ e * p k = icv y q k + r k := by
  induction h with
  | nil p => exact ⟨fun _ => 0, fun _ _ => rfl, fun k => by
      have : icv (fun _ => 0) q k = 0 := zsum_nil _ fun j _ => Int.zero_mul _
      rw [this, Int.pow_zero]; omega⟩
  | step t i hi h ih =>
    rename_i e p r
    obtain ⟨y, h1, h2⟩ := ih
    refine ⟨fun j => y j + (if j = i then - (l ^ e * t) else 0), fun j hj => by show y j + (if j = i then _ else _) = 0; rw [h1 j hj, if_neg (by omega)]; rfl, fun k => ?_⟩
    have h3 : icv (fun j => y j + (if j = i then - (l ^ e * t) else 0)) q k = icv y q k + - (l ^ e * t) * ssh i q k := by
      unfold icv
      have h4 : (fun a => (y a + if a = i then -(l ^ e * t) else 0) * q (k - a)) = fun a => y a * q (k - a) + (if a = i then -(l ^ e * t) else 0) * q (k - a) := by funext a; rw [Int.add_mul]
      rw [h4, zsum_add]
      congr 1
      by_cases hk : i ≤ k
      · rw [zsum_single (i := i) (k + 1) (by omega) fun j _ hj => by rw [if_neg hj]; omega, if_pos rfl]
        simp only [ssh]
        rw [if_neg (by omega)]
      · rw [zsum_nil (k + 1) fun j hj => by rw [if_neg (by omega)]; omega]
        simp only [ssh]
        rw [if_pos (by omega)]; omega
    have h5 := h2 k
    rw [h3, Int.pow_succ]
    simp only [scmb] at h5
    grind
def Ztr (l : List Int) : Prop := l = [] ∨ zc l (l.length - 1) ≠ 0
theorem zq_len (l : List Int) : (zq l).length = l.length := by simp [zq]
theorem Ztr.trm {l : List Int} (h : Ztr l) : Trm (zq l) := by
  refine trm_of_last ?_
  rcases h with rfl | h
  · exact .inl rfl
  · refine .inr ?_
    rw [zq_len, co_zq]
    exact_mod_cast h
theorem zq_ne {l : List Int} (h : l ≠ []) : zq l ≠ [] := fun e => h (List.length_eq_zero_iff.1 (by rw [← zq_len, e]; rfl))
theorem zc_ge {l : List Int} {i : Nat} (h : l.length ≤ i) : zc l i = 0 := by simp [zc, h]
theorem Ztr.top {l : List Int} (h : Ztr l) (h0 : l ≠ []) : zc l (l.length - 1) ≠ 0 := by
  rcases h with h | h
  · exact absurd h h0
  · exact h
/-- A round: what is left, with the scale out of it. -/
theorem ig_next {p q c : List Int} {r : SVec} {g h : Int} (hp : Ztr p) (hq : Ztr q) (h0 : q ≠ []) (hle : q.length ≤ p.length) (hg : g ≠ 0) (hh : h ≠ 0)
    (hr : SRed (zc q) (zc q (q.length - 1)) (p.length - q.length) (p.length - q.length + 1) (zc p) r) (hc : ∀ i, r i = g * h ^ (p.length - q.length) * zc c i) (ht : Ztr c) :
    gcdp (zq p) (zq q) = gcdp (zq q) (zq c) := by
  obtain ⟨y, hy, e⟩ := hr.quo
  generalize hl : zc q (q.length - 1) = l at *
  have hl0 : l ≠ 0 := by rw [← hl]; exact hq.top h0
  generalize p.length - q.length = d at *
  have hK : g * h ^ d ≠ 0 := Int.mul_ne_zero hg (spow_ne hh d)
  have hKr : ((g * h ^ d : Int) : Rat) ≠ 0 := by exact_mod_cast hK
  have hLr : ((l ^ (d + 1) : Int) : Rat) ≠ 0 := by exact_mod_cast spow_ne hl0 (d + 1)
  have hx : ∀ x, ((l ^ (d + 1) : Int) : Rat) * pv (zq p) x = pv (zq (zlf (d + 1) y)) x * pv (zq q) x + ((g * h ^ d : Int) : Rat) * pv (zq c) x := by
    intro x
    rw [← pv_psc _ (zq p), ← pv_psc _ (zq c), ← pv_mulr, ← pv_padd]
    refine pv_congr (fun i => ?_) x
    rw [co_psc, co_padd, co_psc, co_mulr, co_zq, co_zq, ← Rat.intCast_mul, e, hc, Rat.intCast_add, Rat.intCast_mul]
    congr 1
    unfold icv cnv
    rw [zsum_cast]
    refine sumN_congr fun j _ => ?_
    rw [co_zq, co_zq, zc_zlf fun i hi => hy i (by omega), Rat.intCast_mul]
  have hi := rat_inv hLr
  have hi2 := rat_inv hKr
  refine gcdp_next (y := psc (1 / ((l ^ (d + 1) : Int) : Rat)) (zq (zlf (d + 1) y))) (r := psc (1 / ((l ^ (d + 1) : Int) : Rat) * ((g * h ^ d : Int) : Rat)) (zq c)) (c := 1 / ((g * h ^ d : Int) : Rat) * ((l ^ (d + 1) : Int) : Rat)) hp.trm hq.trm (zq_ne h0) (fun x => ?_) ht.trm ?_ (fun x => ?_)
  · rw [pv_psc, pv_psc]
    have := hx x
    generalize ((l ^ (d + 1) : Int) : Rat) = L at *
    generalize ((g * h ^ d : Int) : Rat) = K at *
    generalize 1 / L = L' at *
    have h2 : L' * (L * pv (zq p) x) = L' * (pv (zq (zlf (d + 1) y)) x * pv (zq q) x + K * pv (zq c) x) := by rw [this]
    grind
  · intro e
    rcases Rat.mul_eq_zero.1 e with e | e
    · rw [e] at hi2
      exact absurd hi2 (by rw [Rat.zero_mul]; decide)
    · exact hLr e
  · rw [pv_psc]
    generalize ((l ^ (d + 1) : Int) : Rat) = L at *
    generalize ((g * h ^ d : Int) : Rat) = K at *
    generalize 1 / L = L' at *
    generalize 1 / K = K' at *
    have : K' * L * (L' * K * pv (zq c) x) = (K' * K) * (L' * L) * pv (zq c) x := by grind
    rw [this, hi, hi2]; grind
/-- What is left can be divided. -/
theorem ig_rest {p q : List Int} {r : SVec} {g h : Int} (hi : SInv g h (zc p) (zc q) (p.length - 1) (q.length - 1)) (hq : Ztr q) (h0 : q ≠ []) (hle : q.length ≤ p.length)
    (hr : SRed (zc q) (zc q (q.length - 1)) (p.length - q.length) (p.length - q.length + 1) (zc p) r) (hd : ∀ i, q.length - 1 ≤ i → r i = 0) (k : Nat) : g * h ^ (p.length - q.length) ∣ r k := by
  have hlen := List.length_pos_iff.2 h0
  by_cases h1 : q.length = 1
  · rw [hd k (by omega)]
    exact Int.dvd_zero _
  · have e : p.length - 1 - (q.length - 1) = p.length - q.length := by omega
    have h2 := hi.rest (r := r) (l := zc q (q.length - 1)) (fun i hi => zc_ge (by omega)) rfl (hq.top h0) (by omega) (by omega) (by rw [e]; exact hr) hd k
    rwa [e] at h2
theorem ig_scale {p q : List Int} {g h : Int} (hi : SInv g h (zc p) (zc q) (p.length - 1) (q.length - 1)) (h0 : q ≠ []) (hlt : q.length < p.length) : h ^ (p.length - q.length - 1) ∣ zc q (q.length - 1) ^ (p.length - q.length) := by
  have hlen := List.length_pos_iff.2 h0
  have e : p.length - 1 - (q.length - 1) = p.length - q.length := by omega
  have h2 := hi.scale (l := zc q (q.length - 1)) (fun i hi => zc_ge (by omega)) rfl (by omega)
  rwa [e] at h2
theorem ig_inv {p q c : List Int} {r : SVec} {g h h' : Int} (hi : SInv g h (zc p) (zc q) (p.length - 1) (q.length - 1)) (hq : Ztr q) (h0 : q ≠ []) (hle : q.length ≤ p.length) (hg : g ≠ 0) (hh : h ≠ 0)
    (hr : SRed (zc q) (zc q (q.length - 1)) (p.length - q.length) (p.length - q.length + 1) (zc p) r) (hc : ∀ i, r i = g * h ^ (p.length - q.length) * zc c i) (hcl : c.length < q.length) (hc0 : c ≠ [])
    (he : p.length = q.length → h' = h) (hs : q.length < p.length → h' * h ^ (p.length - q.length - 1) = zc q (q.length - 1) ^ (p.length - q.length)) :
    SInv (zc q (q.length - 1)) h' (zc q) (zc c) (q.length - 1) (c.length - 1) := by
  have hlen := List.length_pos_iff.2 hc0
  have e : p.length - 1 - (q.length - 1) = p.length - q.length := by omega
  refine hi.next (r := r) (l := zc q (q.length - 1)) hg hh (fun i hi => zc_ge (by omega)) rfl (hq.top h0) (by omega) (by rw [e]; exact hr) (fun i => by rw [e]; exact hc i) (fun i hi => zc_ge (by omega)) (by omega) (fun h => he (by omega)) (fun h => ?_)
  rw [e]
  exact hs (by omega)
/-- The next scale is not nought. -/
theorem scale_ne {h h' l : Int} {d : Nat} (hl : l ≠ 0) (hs : h' * h ^ (d - 1) = l ^ d) : h' ≠ 0 := fun e => by
  rw [e, Int.zero_mul] at hs
  exact spow_ne hl d hs.symm
end Go.Proofs.YtokojbgpboccnaaGreat
