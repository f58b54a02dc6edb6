/- Plain: no right code costs less than the one that is built. -/
import Derived.Test.YtbjbjbpgmojcbaaCodeRows
namespace Go.Proofs.Ytbjbjbpgmojcbaa.Cd

theorem tot_congr {g h : Nat → Int} : ∀ k, (∀ i, i < k → g i = h i) → tot g k = tot h k := by
  intro k
  induction k with
  | zero => intro _; rfl
  | succ k ih => intro e; rw [tot, tot, ih (fun i hi => e i (by omega)), e k (by omega)]
theorem tot_chg {g h : Nat → Int} {p : Nat} : ∀ k, p < k → (∀ i, i < k → i ≠ p → g i = h i) → tot g k + h p = tot h k + g p := by
  intro k
  induction k with
  | zero => intro h; omega
  | succ k ih =>
    intro hp e
    rw [tot, tot]
    by_cases hk : p = k
    · subst hk
      rw [tot_congr p (fun i hi => e i (by omega) (by omega))]
      omega
    · have h1 := ih (by omega) (fun i hi => e i (by omega))
      have h2 := e k (by omega) (by omega)
      omega
theorem tot_chg2 {g h : Nat → Int} {p q k : Nat} (hp : p < k) (hq : q < k) (hne : p ≠ q) (e : ∀ i, i < k → i ≠ p → i ≠ q → g i = h i) : tot g k + h p + h q = tot h k + g p + g q := by
  have h1 : tot g k + upd g p (h p) p = tot (upd g p (h p)) k + g p := tot_chg k hp (fun i _ hi => (upd_other g _ hi).symm)
  have h2 : tot (upd g p (h p)) k + h q = tot h k + upd g p (h p) q := tot_chg k hq (fun i hi h9 => by
    by_cases h8 : i = p
    · subst h8; exact upd_same _ _ _
    · rw [upd_other _ _ h8]; exact e i hi h8 h9)
  rw [upd_same] at h1
  rw [upd_other _ _ (fun e => hne e.symm)] at h2
  omega
theorem tot_dvd {g : Nat → Int} {d : Int} : ∀ k, (∀ i, i < k → d ∣ g i) → d ∣ tot g k := by
  intro k
  induction k with
  | zero => intro _; exact ⟨0, by simp [tot]⟩
  | succ k ih => intro h; rw [tot]; exact Int.dvd_add (ih (fun i hi => h i (by omega))) (h k (by omega))

/-- The greatest of those that are meant. -/
theorem has_max (R : Nat → Nat) (P : Nat → Prop) : ∀ k, (∃ i, i < k ∧ P i) → ∃ a, a < k ∧ P a ∧ ∀ i, i < k → P i → R i ≤ R a := by
  intro k
  induction k with
  | zero => rintro ⟨i, h, _⟩; omega
  | succ k ih =>
    rintro ⟨i, hi, hP⟩
    by_cases h : ∃ i, i < k ∧ P i
    · obtain ⟨a, ha, hPa, hm⟩ := ih h
      by_cases hk : P k ∧ R a < R k
      · refine ⟨k, by omega, hk.1, fun j hj hPj => ?_⟩
        by_cases e : j = k
        · subst e; exact Nat.le_refl _
        · have := hm j (by omega) hPj; omega
      · refine ⟨a, by omega, hPa, fun j hj hPj => ?_⟩
        by_cases e : j = k
        · subst e
          have h9 : ¬ R a < R j := fun h8 => hk ⟨hPj, h8⟩
          omega
        · exact hm j (by omega) hPj
    · obtain rfl : i = k := by
        by_cases e : i = k
        · exact e
        · exact absurd ⟨i, by omega, hP⟩ h
      refine ⟨i, by omega, hP, fun j hj hPj => ?_⟩
      by_cases e : j = i
      · subst e; exact Nat.le_refl _
      · exact absurd ⟨j, by omega, hPj⟩ h

/-- What lengths take of all, of the signs that weigh; and what they cost. -/
def kr (W : Nat → Int) (R : Nat → Nat) (M : Nat) (i : Nat) : Int := if W i = 0 then 0 else 2 ^ (M - R i)
def cs (W : Nat → Int) (R : Nat → Nat) (i : Nat) : Int := W i * (R i : Int)
def updN (f : Nat → Nat) (k v : Nat) : Nat → Nat := fun i => if i = k then v else f i
theorem updN_same (f : Nat → Nat) (k v : Nat) : updN f k v k = v := by simp [updN]
theorem updN_other (f : Nat → Nat) {k i : Nat} (v : Nat) (h : i ≠ k) : updN f k v i = f i := by simp [updN, h]
theorem kr_ge (W : Nat → Int) (R : Nat → Nat) (M i : Nat) : 0 ≤ kr W R M i := by
  unfold kr
  split
  · exact Int.le_refl _
  · have := pow_pos (M - R i); omega
theorem kr_pos {W : Nat → Int} {R : Nat → Nat} {M i : Nat} (h : W i ≠ 0) : kr W R M i = 2 ^ (M - R i) := by rw [kr, if_neg h]

/-- Right lengths for what weighs. -/
structure Fit (W : Nat → Int) (M : Nat) (R : Nat → Nat) : Prop where
  le : ∀ i, i < 16 → W i ≠ 0 → R i ≤ M
  sum : tot (kr W R M) 16 ≤ 2 ^ M

theorem two_pow (a b : Nat) : (2 : Int) ^ (a + b) = 2 ^ a * 2 ^ b := Int.pow_add ..

/-- Two have the greatest length. -/
theorem fit_two {W : Nat → Int} {M : Nat} {R : Nat → Nat} (hW : ∀ i, i < 16 → 0 ≤ W i) (h : Fit W M R) {p q : Nat} (hp : p < 16) (hq : q < 16) (hne : p ≠ q) (np : W p ≠ 0) (nq : W q ≠ 0) :
    ∃ R1 y a b, Fit W M R1 ∧ tot (cs W R1) 16 ≤ tot (cs W R) 16 ∧ a < 16 ∧ b < 16 ∧ a ≠ b ∧ W a ≠ 0 ∧ W b ≠ 0 ∧ R1 a = y ∧ R1 b = y ∧ ∀ i, i < 16 → W i ≠ 0 → R1 i ≤ y := by
  obtain ⟨a, ha, na, ma⟩ := has_max R (fun i => W i ≠ 0) 16 ⟨p, hp, np⟩
  obtain ⟨b, hb, nb, mb⟩ := has_max R (fun i => W i ≠ 0 ∧ i ≠ a) 16 (by
    by_cases e : p = a
    · exact ⟨q, hq, nq, by omega⟩
    · exact ⟨p, hp, np, e⟩)
  have hyM := h.le b hb nb.1
  have hxM := h.le a ha na
  refine ⟨updN R a (R b), R b, a, b, ⟨?_, ?_⟩, ?_, ha, hb, fun e => nb.2 e.symm, na, nb.1, updN_same _ _ _, updN_other _ _ nb.2, ?_⟩
  · intro i hi ni
    by_cases e : i = a
    · subst e; rw [updN_same]; exact hyM
    · rw [updN_other _ _ e]; exact h.le i hi ni
  · -- what is left has room
    have c1 := tot_chg (g := kr W (updN R a (R b)) M) (h := upd (kr W R M) a 0) (p := a) 16 ha (fun i _ e => by rw [upd_other _ _ e, kr, kr, updN_other _ _ e])
    have c2 := tot_chg (g := kr W R M) (h := upd (kr W R M) a 0) (p := a) 16 ha (fun i _ e => by rw [upd_other _ _ e])
    rw [upd_same] at c1 c2
    rw [kr_pos (R := updN R a (R b)) na, updN_same] at c1
    rw [kr_pos na] at c2
    have hd : (2 : Int) ^ (M - R b) ∣ tot (upd (kr W R M) a 0) 16 := tot_dvd 16 (fun i hi => by
      by_cases e : i = a
      · subst e; rw [upd_same]; exact ⟨0, by simp⟩
      · rw [upd_other _ _ e, kr]
        split
        · exact ⟨0, by simp⟩
        · rename_i ni
          have := mb i hi ⟨ni, e⟩
          exact ⟨2 ^ (R b - R i), by rw [← two_pow]; congr 1; omega⟩)
    obtain ⟨j, hj⟩ := hd
    have hs := h.sum
    have h1 := pow_pos (M - R a)
    have h2 := pow_pos (M - R b)
    have hM : (2 : Int) ^ M = 2 ^ (M - R b) * 2 ^ R b := by rw [← two_pow]; congr 1; omega
    generalize (2 : Int) ^ (M - R b) = u at *
    generalize (2 : Int) ^ R b = v at *
    have hlt : u * j < u * v := by omega
    have hjv : j < v := Int.lt_of_mul_lt_mul_left hlt (by omega)
    have h3 : u * (j + 1) ≤ u * v := Int.mul_le_mul_of_nonneg_left (by omega) (by omega)
    rw [Int.mul_add, Int.mul_one] at h3
    omega
  · have c1 := tot_chg (g := cs W (updN R a (R b))) (h := cs W R) (p := a) 16 ha (fun i _ e => by rw [cs, cs, updN_other _ _ e])
    have h1 : cs W (updN R a (R b)) a ≤ cs W R a := by
      unfold cs
      rw [updN_same]
      exact Int.mul_le_mul_of_nonneg_left (by have := ma b hb nb.1; omega) (hW a ha)
    omega
  · intro i hi ni
    by_cases e : i = a
    · subst e; rw [updN_same]; exact Nat.le_refl _
    · rw [updN_other _ _ e]; exact mb i hi ⟨ni, e⟩

/-- Two lengths changed for one another. -/
theorem fit_swap {W : Nat → Int} {M : Nat} {R : Nat → Nat} (h : Fit W M R) {p a : Nat} (hp : p < 16) (ha : a < 16) (hne : p ≠ a) (np : W p ≠ 0) (na : W a ≠ 0) (hw : W p ≤ W a) (hr : R p ≤ R a) :
    Fit W M (updN (updN R p (R a)) a (R p)) ∧ tot (cs W (updN (updN R p (R a)) a (R p))) 16 ≤ tot (cs W R) 16 := by
  have ep : updN (updN R p (R a)) a (R p) p = R a := by rw [updN_other _ _ hne, updN_same]
  have ea : updN (updN R p (R a)) a (R p) a = R p := updN_same _ _ _
  have eo : ∀ i, i ≠ p → i ≠ a → updN (updN R p (R a)) a (R p) i = R i := fun i h1 h2 => by rw [updN_other _ _ h2, updN_other _ _ h1]
  generalize updN (updN R p (R a)) a (R p) = R1 at *
  refine ⟨⟨fun i hi ni => ?_, ?_⟩, ?_⟩
  · by_cases e1 : i = p
    · subst e1; rw [ep]; exact h.le a ha na
    · by_cases e2 : i = a
      · subst e2; rw [ea]; exact h.le p hp np
      · rw [eo i e1 e2]; exact h.le i hi ni
  · have c := tot_chg2 (g := kr W R1 M) (h := kr W R M) hp ha hne (fun i _ h1 h2 => by rw [kr, kr, eo i h1 h2])
    rw [kr_pos np, kr_pos na, kr_pos np, kr_pos na, ep, ea] at c
    have := h.sum
    omega
  · have c := tot_chg2 (g := cs W R1) (h := cs W R) hp ha hne (fun i _ h1 h2 => by rw [cs, cs, eo i h1 h2])
    unfold cs at c ⊢
    rw [ep, ea] at c
    have h1 : 0 ≤ (W a - W p) * ((R a : Int) - (R p : Int)) := Int.mul_nonneg (by omega) (by omega)
    rw [Int.sub_mul, Int.mul_sub, Int.mul_sub] at h1
    omega

/-- The two that weigh least have one length, the greatest. -/
theorem fit_deep {W : Nat → Int} {M : Nat} {R : Nat → Nat} (hW : ∀ i, i < 16 → 0 ≤ W i) (h : Fit W M R) {p q : Nat} (hp : p < 16) (hq : q < 16) (hne : p ≠ q) (np : W p ≠ 0) (nq : W q ≠ 0)
    (lp : ∀ i, i < 16 → W i ≠ 0 → W p ≤ W i) (lq : ∀ i, i < 16 → W i ≠ 0 → i ≠ p → W q ≤ W i) :
    ∃ R1 y, Fit W M R1 ∧ tot (cs W R1) 16 ≤ tot (cs W R) 16 ∧ R1 p = y ∧ R1 q = y := by
  obtain ⟨R1, y, a, b, f1, c1, ha, hb, hab, na, nb, ea, eb, mx⟩ := fit_two hW h hp hq hne np nq
  have s1 : ∃ R2 b, Fit W M R2 ∧ tot (cs W R2) 16 ≤ tot (cs W R1) 16 ∧ R2 p = y ∧ b < 16 ∧ b ≠ p ∧ W b ≠ 0 ∧ R2 b = y ∧ ∀ i, i < 16 → W i ≠ 0 → R2 i ≤ y := by
    by_cases e : R1 p = y
    · by_cases e2 : b = p
      · exact ⟨R1, a, f1, Int.le_refl _, e, ha, by omega, na, ea, mx⟩
      · exact ⟨R1, b, f1, Int.le_refl _, e, hb, e2, nb, eb, mx⟩
    · have hpa : p ≠ a := fun h => e (by rw [h]; exact ea)
      have hpb : b ≠ p := fun h => e (by rw [← h]; exact eb)
      obtain ⟨f2, c2⟩ := fit_swap f1 hp ha hpa np na (lp a ha na) (by rw [ea]; exact mx p hp np)
      refine ⟨_, b, f2, c2, by rw [updN_other _ _ hpa, updN_same, ea], hb, hpb, nb, by rw [updN_other _ _ (fun e => hab e.symm), updN_other _ _ hpb]; exact eb, fun i hi ni => ?_⟩
      by_cases e1 : i = a
      · subst e1; rw [updN_same]; exact mx p hp np
      · rw [updN_other _ _ e1]
        by_cases e2 : i = p
        · subst e2; rw [updN_same, ea]; exact Nat.le_refl _
        · rw [updN_other _ _ e2]; exact mx i hi ni
  obtain ⟨R2, b, f2, c2, ep, hb, hbp, nb, eb, mx⟩ := s1
  by_cases e : R2 q = y
  · exact ⟨R2, y, f2, by omega, ep, e⟩
  · have hqb : q ≠ b := fun h => e (by rw [h]; exact eb)
    obtain ⟨f3, c3⟩ := fit_swap f2 hq hb hqb nq nb (lq b hb nb hbp) (by rw [eb]; exact mx q hq nq)
    exact ⟨_, y, f3, by omega, by rw [updN_other _ _ (fun e => hbp e.symm), updN_other _ _ hne]; exact ep, by rw [updN_other _ _ hqb, updN_same]; exact eb⟩

theorem rW_at {W : Nat → Int} {p q : Nat} (hne : p ≠ q) : rW W p q (min p q) = W p + W q ∧ rW W p q (max p q) = 0 ∧ ∀ i, i ≠ p → i ≠ q → rW W p q i = W i := by
  refine ⟨upd_same _ _ _, ?_, fun i h1 h2 => ?_⟩
  · unfold rW
    rw [upd_other _ _ (by omega)]
    by_cases h : p ≤ q
    · rw [show max p q = q by omega, upd_same]
    · rw [show max p q = p by omega, upd_other _ _ (by omega), upd_same]
  · unfold rW
    rw [upd_other _ _ (by omega), upd_other _ _ h2, upd_other _ _ h1]

/-- A sum over p and q told by the lesser and the greater. -/
theorem tot_mm {g h : Nat → Int} {p q : Nat} (hp : p < 16) (hq : q < 16) (hne : p ≠ q) (e : ∀ i, i < 16 → i ≠ p → i ≠ q → g i = h i) : tot g 16 + h (min p q) + h (max p q) = tot h 16 + g p + g q := by
  have c := tot_chg2 hp hq hne e
  by_cases h9 : p ≤ q
  · rw [show min p q = p by omega, show max p q = q by omega]; omega
  · rw [show min p q = q by omega, show max p q = p by omega]; omega

/-- The two become one. -/
theorem fit_merge {W : Nat → Int} {M : Nat} {R : Nat → Nat} (hW : ∀ i, i < 16 → 0 ≤ W i) (h : Fit W M R) {p q y : Nat} (hp : p < 16) (hq : q < 16) (hne : p ≠ q) (np : W p ≠ 0) (nq : W q ≠ 0) (ep : R p = y) (eq : R q = y) :
    Fit (rW W p q) M (updN R (min p q) (y - 1)) ∧ tot (cs (rW W p q) (updN R (min p q) (y - 1))) 16 + W p + W q = tot (cs W R) 16 := by
  obtain ⟨w1, w2, w3⟩ := rW_at (W := W) hne
  have hyM := h.le p hp np
  rw [ep] at hyM
  have hWp := hW p hp
  have hWq := hW q hq
  have nn : ¬ rW W p q (min p q) = 0 := by rw [w1]; omega
  have hmm : max p q ≠ min p q := by omega
  have hy : 1 ≤ y := by
    rcases Nat.eq_zero_or_pos y with h0 | h0
    · exfalso
      have c := tot_chg2 (g := upd (upd (kr W R M) p 0) q 0) (h := kr W R M) hp hq hne (fun i _ h1 h2 => by rw [upd_other _ _ h2, upd_other _ _ h1])
      have g0 := tot_ge (W := upd (upd (kr W R M) p 0) q 0) 16 (fun i _ => by
        unfold upd
        split
        · exact Int.le_refl _
        · split
          · exact Int.le_refl _
          · exact kr_ge _ _ _ _)
      rw [upd_same, upd_other _ _ hne, upd_same, kr_pos np, kr_pos nq, ep, eq, h0] at c
      have h1 := pow_pos M
      have hs := h.sum
      rw [show M - 0 = M from rfl] at c
      omega
    · exact h0
  refine ⟨⟨fun i hi ni => ?_, ?_⟩, ?_⟩
  · by_cases e1 : i = min p q
    · rw [e1, updN_same]; omega
    · rw [updN_other _ _ e1]
      by_cases e2 : i = max p q
      · exact absurd (by rw [e2]; exact w2) ni
      · rw [w3 i (by omega) (by omega)] at ni
        exact h.le i hi ni
  · have c := tot_mm (g := kr W R M) (h := kr (rW W p q) (updN R (min p q) (y - 1)) M) hp hq hne (fun i _ h1 h2 => by rw [kr, kr, w3 i h1 h2, updN_other _ _ (by omega)])
    rw [kr_pos np, kr_pos nq, ep, eq, kr_pos nn, updN_same] at c
    have e0 : kr (rW W p q) (updN R (min p q) (y - 1)) M (max p q) = 0 := by rw [kr, if_pos w2]
    have e1 : (2 : Int) ^ (M - (y - 1)) = 2 ^ (M - y) + 2 ^ (M - y) := by
      rw [show M - (y - 1) = (M - y) + 1 by omega, Int.pow_succ]; omega
    have := h.sum
    omega
  · have c := tot_mm (g := cs W R) (h := cs (rW W p q) (updN R (min p q) (y - 1))) hp hq hne (fun i _ h1 h2 => by rw [cs, cs, w3 i h1 h2, updN_other _ _ (by omega)])
    have e0 : cs (rW W p q) (updN R (min p q) (y - 1)) (max p q) = 0 := by rw [cs, w2, Int.zero_mul]
    have e1 : cs (rW W p q) (updN R (min p q) (y - 1)) (min p q) + W p + W q = cs W R p + cs W R q := by
      unfold cs
      rw [w1, updN_same, ep, eq, show ((y - 1 : Nat) : Int) = (y : Int) - 1 by omega, ← Int.add_mul, Int.mul_sub]
      omega
    omega

/-- How deep a tree's signs lie in the end. -/
def hd : Nat → (Nat → Int) → Nat → Nat
  | 0, _ => fun _ => 0
  | n + 1, W => if (lt2 W 16).2 = -1 then fun _ => 0 else fun i => if i = (lt2 W 16).1.toNat ∨ i = (lt2 W 16).2.toNat then hd n (rW W (lt2 W 16).1.toNat (lt2 W 16).2.toNat) (min (lt2 W 16).1.toNat (lt2 W 16).2.toNat) + 1 else hd n (rW W (lt2 W 16).1.toNat (lt2 W 16).2.toNat) i
theorem hd_end {n : Nat} {W : Nat → Int} (h : (lt2 W 16).2 = -1) : hd n W = fun _ => 0 := by
  cases n with
  | zero => rfl
  | succ n => rw [hd, if_pos h]
theorem hd_next {n : Nat} {W : Nat → Int} {p q : Nat} (h : lt2 W 16 = ((p : Int), (q : Int))) : hd (n + 1) W = fun i => if i = p ∨ i = q then hd n (rW W p q) (min p q) + 1 else hd n (rW W p q) i := by
  rw [hd, h, if_neg (by simp only; omega)]
  rfl
theorem bldR_hd : ∀ n (W T L : Nat → Int), (∀ i, 0 ≤ T i) → ∀ i, bldR n W T L i = L i + (hd n W (T i).toNat : Int) := by
  intro n
  induction n with
  | zero => intro W T L _ i; rw [bldR, hd]; simp
  | succ n ih =>
    intro W T L hT i
    by_cases h : (lt2 W 16).2 = -1
    · rw [bldR_end h, hd_end h]; simp
    · obtain ⟨p, q, hpq, hp, hq, hne, np, nq⟩ := lt2_two h
      rw [bldR_next hpq, hd_next hpq, ih _ _ _ (fun j => by unfold rT; split; omega; exact hT j)]
      have := hT i
      unfold rT rL
      by_cases e : T i = p ∨ T i = q
      · rw [if_pos e, if_pos e]
        simp only [Int.toNat_natCast]
        rw [if_pos (by omega)]
        push_cast
        omega
      · rw [if_neg e, if_neg e]
        simp only
        rw [if_neg (by omega)]

/-- The first is the lightest, the second the lightest of the others. -/
theorem lt2_min (W : Nat → Int) : ∀ k, (∀ i, i < k → W i ≠ 0 → (lt2 W k).1 ≠ -1 ∧ W (lt2 W k).1.toNat ≤ W i) ∧ (∀ i, i < k → W i ≠ 0 → (i : Int) ≠ (lt2 W k).1 → (lt2 W k).2 ≠ -1 ∧ W (lt2 W k).2.toNat ≤ W i) := by
  intro k
  induction k with
  | zero => exact ⟨fun i h => by omega, fun i h => by omega⟩
  | succ k ih =>
    obtain ⟨i1, i2⟩ := ih
    have hs := lt2_sg W k
    rw [lt2, ltS]
    generalize lt2 W k = P at *
    obtain ⟨A, B⟩ := P
    simp only at *
    by_cases h0 : W k = 0
    · rw [if_pos h0]
      refine ⟨fun i hi ni => i1 i ?_ ni, fun i hi ni => i2 i ?_ ni⟩ <;> (by_cases e : i = k; (subst e; exact absurd h0 ni); omega)
    · rw [if_neg h0]
      by_cases h1 : A = -1 ∨ W k < W A.toNat
      · rw [if_pos h1]
        simp only [Int.toNat_natCast]
        refine ⟨fun i hi ni => ⟨by omega, ?_⟩, fun i hi ni ne => ?_⟩
        · by_cases e : i = k
          · subst e; exact Int.le_refl _
          · have := i1 i (by omega) ni; omega
        · exact i1 i (by omega) ni
      · rw [if_neg h1]
        by_cases h2 : B = -1 ∨ W k < W B.toNat
        · rw [if_pos h2]
          simp only [Int.toNat_natCast]
          refine ⟨fun i hi ni => ?_, fun i hi ni ne => ⟨by omega, ?_⟩⟩
          · by_cases e : i = k
            · subst e; omega
            · exact i1 i (by omega) ni
          · by_cases e : i = k
            · subst e; exact Int.le_refl _
            · have := i2 i (by omega) ni ne; omega
        · rw [if_neg h2]
          simp only
          refine ⟨fun i hi ni => ?_, fun i hi ni ne => ?_⟩
          · by_cases e : i = k
            · subst e; omega
            · exact i1 i (by omega) ni
          · by_cases e : i = k
            · subst e; omega
            · exact i2 i (by omega) ni ne

/-- NO RIGHT LENGTHS COST LESS. -/
theorem hd_best : ∀ n (W : Nat → Int), (∀ i, i < 16 → 0 ≤ W i) → cnt W 16 ≤ n → ∀ M R, Fit W M R → tot (cs W (hd n W)) 16 ≤ tot (cs W R) 16 := by
  intro n
  induction n with
  | zero =>
    intro W hW hc M R _
    rw [hd, tot_congr (h := fun _ => 0) 16 (fun i _ => by simp [cs])]
    have h1 : tot (fun _ => (0 : Int)) 16 = 0 := by simp [tot]
    rw [h1]
    exact tot_ge 16 (fun i hi => Int.mul_nonneg (hW i hi) (by omega))
  | succ n ih =>
    intro W hW hc M R hF
    by_cases h : (lt2 W 16).2 = -1
    · rw [hd_end h, tot_congr (h := fun _ => 0) 16 (fun i _ => by simp [cs])]
      have h1 : tot (fun _ => (0 : Int)) 16 = 0 := by simp [tot]
      rw [h1]
      exact tot_ge 16 (fun i hi => Int.mul_nonneg (hW i hi) (by omega))
    · obtain ⟨p, q, hpq, hp, hq, hne, np, nq⟩ := lt2_two h
      obtain ⟨m1, m2⟩ := lt2_min W 16
      rw [hpq] at m1 m2
      simp only [Int.toNat_natCast] at m1 m2
      obtain ⟨R1, y, f1, c1, ep, eq⟩ := fit_deep hW hF hp hq hne np nq (fun i hi ni => (m1 i hi ni).2) (fun i hi ni e => (m2 i hi ni (by omega)).2)
      obtain ⟨f2, c2⟩ := fit_merge hW f1 hp hq hne np nq ep eq
      have c3 := (rW_cnt hW hp hq hne np nq).1
      have c4 := ih (rW W p q) (rW_pos hW hp hq) (by omega) M _ f2
      obtain ⟨w1, w2, w3⟩ := rW_at (W := W) hne
      rw [hd_next hpq]
      have c5 := tot_mm (g := cs W (fun i => if i = p ∨ i = q then hd n (rW W p q) (min p q) + 1 else hd n (rW W p q) i)) (h := cs (rW W p q) (hd n (rW W p q))) hp hq hne (fun i _ h1 h2 => by
        rw [cs, cs, w3 i h1 h2, if_neg (by omega)])
      have e0 : cs (rW W p q) (hd n (rW W p q)) (max p q) = 0 := by rw [cs, w2, Int.zero_mul]
      have e1 : cs (rW W p q) (hd n (rW W p q)) (min p q) + W p + W q = cs W (fun i => if i = p ∨ i = q then hd n (rW W p q) (min p q) + 1 else hd n (rW W p q) i) p + cs W (fun i => if i = p ∨ i = q then hd n (rW W p q) (min p q) + 1 else hd n (rW W p q) i) q := by
        simp only [cs, true_or, or_true, if_true]
        rw [w1]
        push_cast
        rw [Int.add_mul, Int.mul_add, Int.mul_add]
        omega
      omega

/-- What is made is right: it takes all, nothing is too deep, and what weighs nothing has no word. -/
theorem hd_fit : ∀ n (W : Nat → Int), (∀ i, i < 16 → 0 ≤ W i) → cnt W 16 ≤ n → (∀ i, hd n W i + 1 ≤ cnt W 16 ∨ hd n W i = 0) ∧ (∀ i, i < 16 → W i = 0 → hd n W i = 0) ∧ (∀ M, 15 ≤ M → 1 ≤ cnt W 16 → tot (kr W (hd n W) M) 16 = 2 ^ M) := by
  intro n
  induction n with
  | zero =>
    intro W hW hc
    rw [hd]
    exact ⟨fun i => .inr rfl, fun i _ _ => rfl, fun M _ h => by omega⟩
  | succ n ih =>
    intro W hW hc
    by_cases h : (lt2 W 16).2 = -1
    · rw [hd_end h]
      refine ⟨fun i => .inr rfl, fun i _ _ => rfl, fun M _ h1 => ?_⟩
      -- one alone
      obtain ⟨m1, m2⟩ := lt2_min W 16
      have alone : ∀ i, i < 16 → W i ≠ 0 → (i : Int) = (lt2 W 16).1 := fun i hi ni => by
        by_cases e : (i : Int) = (lt2 W 16).1
        · exact e
        · exact absurd h (m2 i hi ni e).1
      obtain ⟨i, hi, ni⟩ : ∃ i, i < 16 ∧ W i ≠ 0 := by
        have : ∀ k, 1 ≤ cnt W k → ∃ i, i < k ∧ W i ≠ 0 := by
          intro k
          induction k with
          | zero => intro h; simp [cnt] at h
          | succ k ih =>
            intro h
            rw [cnt] at h
            by_cases e : W k = 0
            · rw [if_pos e] at h
              obtain ⟨i, hi, ni⟩ := ih (by omega)
              exact ⟨i, by omega, ni⟩
            · exact ⟨k, by omega, e⟩
        exact this 16 h1
      have c := tot_chg (g := kr W (fun _ => 0) M) (h := fun _ => 0) (p := i) 16 hi (fun j hj ne => by
        rw [kr]
        by_cases e : W j = 0
        · rw [if_pos e]
        · exfalso
          have a1 := alone j hj e
          have a2 := alone i hi ni
          omega)
      rw [kr_pos ni] at c
      have z : tot (fun _ => (0 : Int)) 16 = 0 := by simp [tot]
      simp only [Nat.sub_zero] at c
      omega
    · obtain ⟨p, q, hpq, hp, hq, hne, np, nq⟩ := lt2_two h
      obtain ⟨c3, _, c2⟩ := rW_cnt hW hp hq hne np nq
      obtain ⟨i1, i2, i3⟩ := ih (rW W p q) (rW_pos hW hp hq) (by omega)
      obtain ⟨w1, w2, w3⟩ := rW_at (W := W) hne
      rw [hd_next hpq]
      refine ⟨fun i => ?_, fun i hi h0 => ?_, fun M hM _ => ?_⟩
      · simp only
        by_cases e : i = p ∨ i = q
        · rw [if_pos e]
          have := i1 (min p q)
          omega
        · rw [if_neg e]
          have := i1 i
          omega
      · simp only
        have e1 : i ≠ p := fun e => np (by rw [← e]; exact h0)
        have e2 : i ≠ q := fun e => nq (by rw [← e]; exact h0)
        rw [if_neg (by omega)]
        exact i2 i hi (by rw [w3 i e1 e2]; exact h0)
      · have c := tot_mm (g := kr W (fun i => if i = p ∨ i = q then hd n (rW W p q) (min p q) + 1 else hd n (rW W p q) i) M) (h := kr (rW W p q) (hd n (rW W p q)) M) hp hq hne (fun i _ h1 h2 => by
          simp only [kr]
          rw [w3 i h1 h2, if_neg (show ¬ (i = p ∨ i = q) by omega)])
        have hWp := hW p hp
        have hWq := hW q hq
        have nn : ¬ rW W p q (min p q) = 0 := by rw [w1]; omega
        rw [kr_pos np, kr_pos nq, kr_pos nn] at c
        have e0 : kr (rW W p q) (hd n (rW W p q)) M (max p q) = 0 := by rw [kr, if_pos w2]
        simp only [true_or, or_true, if_true] at c
        have hb := i1 (min p q)
        have hc16 := cnt_le W 16
        have e1 : (2 : Int) ^ (M - hd n (rW W p q) (min p q)) = 2 ^ (M - (hd n (rW W p q) (min p q) + 1)) + 2 ^ (M - (hd n (rW W p q) (min p q) + 1)) := by
          rw [show M - hd n (rW W p q) (min p q) = (M - (hd n (rW W p q) (min p q) + 1)) + 1 by omega, Int.pow_succ]
          omega
        have := i3 M hM (by omega)
        omega

theorem cst_tot {f c : Nat → Int} : ∀ k, (∀ i, i < k → ¬ (0 < c i ∧ f i = 0)) → cst f c k = some (tot (fun i => c i * f i) k) := by
  intro k
  induction k with
  | zero => intro _; rfl
  | succ k ih =>
    intro h
    rw [cst, ih (fun i hi => h i (by omega))]
    simp only
    rw [if_neg (h k (by omega)), tot]
theorem cst_inv {f c : Nat → Int} : ∀ k n, cst f c k = some n → (∀ i, i < k → ¬ (0 < c i ∧ f i = 0)) ∧ n = tot (fun i => c i * f i) k := by
  intro k
  induction k with
  | zero => intro n h; simp [cst] at h; exact ⟨fun i h => by omega, by rw [← h]; rfl⟩
  | succ k ih =>
    intro n h
    rw [cst] at h
    cases hq : cst f c k with
    | none => rw [hq] at h; simp at h
    | some m =>
      rw [hq] at h
      simp only at h
      split at h
      · simp at h
      · rename_i h9
        simp only [Option.some.injEq] at h
        obtain ⟨h1, h2⟩ := ih m hq
        refine ⟨fun i hi => ?_, by rw [tot, ← h2, ← h]⟩
        by_cases e : i = k
        · subst e; exact h9
        · exact h1 i (by omega)
theorem sm_tot (f : Nat → Int) : ∀ k, sm f k = tot (fun i => wt (f i)) k := by
  intro k
  induction k with
  | zero => rfl
  | succ k ih => rw [sm, tot, ih]
theorem tot_le_tot {g h : Nat → Int} : ∀ k, (∀ i, i < k → g i ≤ h i) → tot g k ≤ tot h k := by
  intro k
  induction k with
  | zero => intro _; exact Int.le_refl _
  | succ k ih => intro e; rw [tot, tot]; have := e k (by omega); have := ih (fun i hi => e i (by omega)); omega

/-- A right code in which all that count have words. -/
theorem rival_fit {r c : Nat → Int} (hr : chk r = 0) (hn : ∀ i, i < 16 → ¬ (0 < c i ∧ r i = 0)) (hc : ∀ i, i < 16 → 0 ≤ c i) : Fit c 15 (fun i => (r i).toNat) := by
  obtain ⟨h1, _, h3⟩ := chk_zero hr
  refine ⟨fun i hi _ => by have := h1 i hi; omega, ?_⟩
  rw [sm_tot] at h3
  refine Int.le_trans (tot_le_tot 16 (fun i hi => ?_)) (show tot (fun i => wt (r i)) 16 ≤ 2 ^ 15 from h3)
  have h4 := h1 i hi
  have h5 := hc i hi
  have h6 := hn i hi
  rw [kr]
  split
  · exact (wt_b h4.1 h4.2).1
  · rw [wt_pos (by omega)]
    refine pow_le_of ?_
    omega

/-- What Build tells is right, and no right code costs less. -/
theorem bld_best (c : Nat → Int) (h : (bld c).2 = 0) : chk (bld c).1 = 0 ∧ (cost (bld c).1 c).2 = 0 ∧ ∀ r, (cost r c).2 = 0 → (cost (bld c).1 c).1 ≤ (cost r c).1 := by
  have hin : InR c 2048 16 := by
    by_cases h1 : InR c 2048 16
    · exact h1
    · rw [bld, if_pos h1] at h; simp at h
  have hfst : (lt2 c 16).1 ≠ -1 := by
    intro h1
    rw [bld, if_neg (fun h => h hin), if_pos h1] at h
    simp at h
  have hc : ∀ i, i < 16 → 0 ≤ c i := fun i hi => (hin i hi).1
  have rest : ∀ (L : Nat → Int), chk L = 0 → (∀ i, i < 16 → ¬ (0 < c i ∧ L i = 0)) → (∀ r, chk r = 0 → (∀ i, i < 16 → ¬ (0 < c i ∧ r i = 0)) → tot (fun i => c i * L i) 16 ≤ tot (fun i => c i * r i) 16) →
      chk L = 0 ∧ (cost L c).2 = 0 ∧ ∀ r, (cost r c).2 = 0 → (cost L c).1 ≤ (cost r c).1 := by
    intro L h1 h2 h3
    have e1 : cost L c = (tot (fun i => c i * L i) 16, 0) := by
      rw [cost, if_neg (fun h => h h1), if_neg (fun h => h hin), cst_tot 16 h2]
    refine ⟨h1, by rw [e1], fun r hr => ?_⟩
    rw [e1]
    unfold cost at hr ⊢
    by_cases r1 : chk r = 0
    · rw [if_neg (fun h => h r1), if_neg (fun h => h hin)] at hr ⊢
      cases hq : cst r c 16 with
      | none => rw [hq] at hr; simp at hr
      | some m =>
        obtain ⟨a1, a2⟩ := cst_inv 16 m hq
        simp only
        rw [a2]
        exact h3 r r1 a1
    · rw [if_pos r1] at hr
      simp only at hr
      exact absurd hr r1
  have hmn := lt2_min c 16
  by_cases hsec : (lt2 c 16).2 = -1
  · -- one sign alone
    have e : (bld c).1 = upd (fun _ => 0) (lt2 c 16).1.toNat 1 := by rw [bld, if_neg (fun h => h hin), if_neg hfst, if_pos hsec]
    rw [e]
    obtain ⟨s1, _⟩ := lt2_sg c 16
    rcases s1 with s1 | ⟨p, e1, hp, np⟩
    · exact absurd s1 hfst
    rw [e1, Int.toNat_natCast]
    have alone : ∀ i, i < 16 → c i ≠ 0 → i = p := fun i hi ni => by
      by_cases e : (i : Int) = (lt2 c 16).1
      · omega
      · exact absurd hsec (hmn.2 i hi ni e).1
    have hsm : sm (upd (fun _ => 0) p 1) 16 = 16384 := by
      rw [sm_tot]
      have cc := tot_chg (g := fun i => wt (upd (fun _ => 0) p 1 i)) (h := fun _ => 0) (p := p) 16 hp (fun j hj ne => by rw [upd_other _ _ ne]; exact wt_zero (by omega))
      simp only at cc
      rw [upd_same, wt_pos (by omega)] at cc
      have z : tot (fun _ => (0 : Int)) 16 = 0 := by simp [tot]
      have z2 : (2 : Int) ^ (15 - (1 : Int)).toNat = 16384 := by decide
      omega
    refine rest _ (chk_ok (fun i hi => ?_) (by omega)) (fun i hi h9 => ?_) (fun r r1 r2 => ?_)
    · by_cases e9 : i = p
      · rw [e9, upd_same]; omega
      · rw [upd_other _ _ e9]; omega
    · have := alone i hi (by omega)
      subst this
      rw [upd_same] at h9
      omega
    · refine tot_le_tot 16 (fun i hi => ?_)
      have h5 := hc i hi
      have h4 := (chk_zero r1).1 i hi
      by_cases e : c i = 0
      · rw [e]; omega
      · have e2 := alone i hi e
        subst e2
        rw [upd_same]
        have := r2 i hi
        exact Int.mul_le_mul_of_nonneg_left (by omega) h5
  · have e : (bld c).1 = bldR 16 c (fun i => i) (fun _ => 0) := by rw [bld, if_neg (fun h => h hin), if_neg hfst, if_neg hsec]
    have e2 : ∀ i, (bld c).1 i = (hd 16 c i : Int) := fun i => by rw [e, bldR_hd 16 c _ _ (fun i => by omega)]; simp
    obtain ⟨p, q, hpq, hp, hq, hne, np, nq⟩ := lt2_two hsec
    obtain ⟨c3, _, c2⟩ := rW_cnt hc hp hq hne np nq
    obtain ⟨f1, f2, f3⟩ := hd_fit 16 c hc (cnt_le c 16)
    have f4 := f3 15 (Nat.le_refl _) (by omega)
    have c16 := cnt_le c 16
    have hb : ∀ i, hd 16 c i ≤ 15 := fun i => by have := f1 i; omega
    -- what weighs has a word
    have hw : ∀ i, i < 16 → c i ≠ 0 → 1 ≤ hd 16 c i := fun i hi ni => by
      rcases Nat.eq_zero_or_pos (hd 16 c i) with h0 | h0
      · exfalso
        obtain ⟨j, hj, nj, hij⟩ : ∃ j, j < 16 ∧ c j ≠ 0 ∧ i ≠ j := by
          by_cases e : i = p
          · exact ⟨q, hq, nq, by omega⟩
          · exact ⟨p, hp, np, e⟩
        have cc := tot_chg2 (g := upd (upd (kr c (hd 16 c) 15) i 0) j 0) (h := kr c (hd 16 c) 15) hi hj hij (fun k _ h1 h2 => by rw [upd_other _ _ h2, upd_other _ _ h1])
        have g0 := tot_ge (W := upd (upd (kr c (hd 16 c) 15) i 0) j 0) 16 (fun k _ => by
          unfold upd
          split
          · exact Int.le_refl _
          · split
            · exact Int.le_refl _
            · exact kr_ge _ _ _ _)
        rw [upd_same, upd_other _ _ hij, upd_same, kr_pos ni, kr_pos nj, h0] at cc
        have := pow_pos (15 - hd 16 c j)
        rw [show 15 - 0 = 15 from rfl] at cc
        omega
      · exact h0
    have hsm : sm (bld c).1 16 = 32768 := by
      rw [sm_tot, tot_congr (h := kr c (hd 16 c) 15) 16 (fun i hi => ?_), f4]
      · rfl
      · rw [e2 i, kr]
        by_cases ni : c i = 0
        · rw [if_pos ni, f2 i hi ni]
          exact wt_zero (by omega)
        · have := hw i hi ni
          have h15 := hb i
          rw [if_neg ni, wt_pos (by omega)]
          congr 1
          omega
    refine rest _ (chk_ok (fun i hi => ?_) (by omega)) (fun i hi h9 => ?_) (fun r r1 r2 => ?_)
    · rw [e2 i]; have := hb i; omega
    · rw [e2 i] at h9
      have := hw i hi (by omega)
      omega
    · have b := hd_best 16 c hc (cnt_le c 16) 15 _ (rival_fit r1 r2 hc)
      rw [tot_congr (h := cs c (hd 16 c)) 16 (fun i hi => by rw [cs, e2 i])]
      refine Int.le_trans b (Int.le_of_eq (tot_congr 16 (fun i hi => ?_)))
      have h4 := (chk_zero r1).1 i hi
      rw [cs, Int.toNat_of_nonneg h4.1]
end Go.Proofs.Ytbjbjbpgmojcbaa.Cd
