/- Plain facts on codes (no program): what chapter 3 asks of lengths and counts. -/
namespace Go.Proofs.Ytbjbjbpgmojcbaa.Cd

/-- The first k numbers lie in 0 .. hi. -/
def InR (f : Nat → Int) (hi : Int) (k : Nat) : Prop := ∀ i, i < k → 0 ≤ f i ∧ f i ≤ hi
instance (f : Nat → Int) (hi : Int) (k : Nat) : Decidable (InR f hi k) := inferInstanceAs (Decidable (∀ i, i < k → 0 ≤ f i ∧ f i ≤ hi))
theorem InR.succ {f : Nat → Int} {hi : Int} {k : Nat} (h : InR f hi k) (h1 : 0 ≤ f k) (h2 : f k ≤ hi) : InR f hi (k + 1) := fun i hlt => by
  rcases Nat.lt_succ_iff_lt_or_eq.1 hlt with h3 | rfl
  · exact h i h3
  · exact ⟨h1, h2⟩
theorem not_InR {f : Nat → Int} {hi : Int} {k n : Nat} (hk : k < n) (h : f k < 0 ∨ hi < f k) : ¬ InR f hi n := fun h9 => by have := h9 k hk; omega

/-- What a word of so many bits takes of all (32768). -/
def wt (x : Int) : Int := if 0 < x then 2 ^ (15 - x).toNat else 0
def sm (f : Nat → Int) : Nat → Int
  | 0 => 0
  | k + 1 => sm f k + wt (f k)

theorem pow_le_of {a b : Nat} (h : a ≤ b) : (2 : Int) ^ a ≤ 2 ^ b := by
  have := Nat.pow_le_pow_right (show 0 < 2 by omega) h
  exact_mod_cast this
theorem pow_pos (a : Nat) : (1 : Int) ≤ 2 ^ a := by
  have : 0 < 2 ^ a := Nat.pow_pos (by omega)
  exact_mod_cast this
theorem wt_pos {x : Int} (h : 0 < x) : wt x = 2 ^ (15 - x).toNat := by rw [wt, if_pos h]
theorem wt_zero {x : Int} (h : ¬ 0 < x) : wt x = 0 := by rw [wt, if_neg h]
theorem wt_b {x : Int} (h0 : 0 ≤ x) (h1 : x ≤ 15) : 0 ≤ wt x ∧ wt x ≤ 16384 := by
  unfold wt
  split
  · have h2 : (2 : Int) ^ (15 - x).toNat ≤ 2 ^ 14 := pow_le_of (by omega)
    have h3 := pow_pos (15 - x).toNat
    omega
  · omega
theorem sm_b {f : Nat → Int} : ∀ k, InR f 15 k → 0 ≤ sm f k ∧ sm f k ≤ 16384 * k := by
  intro k
  induction k with
  | zero => intro _; simp [sm]
  | succ k ih =>
    intro h
    have h1 := ih (fun i hi => h i (by omega))
    have h2 := h k (by omega)
    have h3 := wt_b h2.1 h2.2
    rw [sm]
    omega

/-- Are there words? -/
def used (f : Nat → Int) : Nat → Bool
  | 0 => false
  | k + 1 => used f k || decide (0 < f k)
theorem sm_used {f : Nat → Int} : ∀ k, InR f 15 k → (sm f k = 0 ↔ used f k = false) := by
  intro k
  induction k with
  | zero => intro _; simp [sm, used]
  | succ k ih =>
    intro h
    have h0 : InR f 15 k := fun i hi => h i (by omega)
    have h1 := ih h0
    have h2 := h k (by omega)
    have h3 := sm_b k h0
    rw [sm, used]
    by_cases hp : 0 < f k
    · rw [wt_pos hp]
      have := pow_pos (15 - f k).toNat
      simp [hp]
      omega
    · rw [wt_zero hp]
      simp [hp, h1]

/-- The lengths' error, 0: none. -/
def chk (f : Nat → Int) : Int := if InR f 15 16 then (if sm f 16 = 0 ∨ 32768 < sm f 16 then 1 else 0) else 3
theorem chk_bad {f : Nat → Int} {k : Nat} (hk : k < 16) (h : f k < 0 ∨ 15 < f k) : chk f = 3 := by rw [chk, if_neg (not_InR hk h)]
theorem chk_form {f : Nat → Int} (h : InR f 15 16) (h1 : sm f 16 = 0 ∨ 32768 < sm f 16) : chk f = 1 := by rw [chk, if_pos h, if_pos h1]
theorem chk_ok {f : Nat → Int} (h : InR f 15 16) (h1 : ¬ (sm f 16 = 0 ∨ 32768 < sm f 16)) : chk f = 0 := by rw [chk, if_pos h, if_neg h1]
theorem chk_zero {f : Nat → Int} (h : chk f = 0) : InR f 15 16 ∧ sm f 16 ≠ 0 ∧ sm f 16 ≤ 32768 := by
  unfold chk at h
  by_cases h1 : InR f 15 16
  · rw [if_pos h1] at h
    by_cases h2 : sm f 16 = 0 ∨ 32768 < sm f 16
    · rw [if_pos h2] at h; omega
    · exact ⟨h1, by omega, by omega⟩
  · rw [if_neg h1] at h; omega

/-- What the first k signs cost; none where one that counts has no word. -/
def cst (f c : Nat → Int) : Nat → Option Int
  | 0 => some 0
  | k + 1 => match cst f c k with
    | none => none
    | some n => if 0 < c k ∧ f k = 0 then none else some (n + c k * f k)
theorem cst_none {f c : Nat → Int} {k : Nat} (h : cst f c k = none) : ∀ j, cst f c (k + j) = none := by
  intro j
  induction j with
  | zero => exact h
  | succ j ih => rw [← Nat.add_assoc, cst, ih]
theorem cst_b {f c : Nat → Int} : ∀ k, InR f 15 k → InR c 2048 k → ∀ n, cst f c k = some n → 0 ≤ n ∧ n ≤ 30720 * k := by
  intro k
  induction k with
  | zero => intro _ _ n h; simp [cst] at h; omega
  | succ k ih =>
    intro hf hc n h
    rw [cst] at h
    cases hq : cst f c k with
    | none => rw [hq] at h; simp at h
    | some m =>
      rw [hq] at h
      simp only at h
      split at h
      · simp at h
      · simp only [Option.some.injEq] at h
        have h1 := ih (fun i hi => hf i (by omega)) (fun i hi => hc i (by omega)) m hq
        have h2 := hf k (by omega)
        have h3 := hc k (by omega)
        have h4 : 0 ≤ c k * f k := Int.mul_nonneg h3.1 h2.1
        have h5 : c k * f k ≤ 2048 * 15 := Int.mul_le_mul h3.2 h2.2 h2.1 (by omega)
        omega

/-- What Cost tells. -/
def cost (f c : Nat → Int) : Int × Int :=
  if chk f ≠ 0 then (0, chk f) else if ¬ InR c 2048 16 then (0, 3) else match cst f c 16 with | none => (0, 5) | some n => (n, 0)
end Go.Proofs.Ytbjbjbpgmojcbaa.Cd
