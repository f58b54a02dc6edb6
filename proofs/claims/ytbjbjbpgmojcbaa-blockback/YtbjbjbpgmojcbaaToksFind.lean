/- Plain facts on finding copies (no program): how many bytes are the same from two places on. -/
namespace Go.Proofs.Ytbjbjbpgmojcbaa.Tk

/-- How many bytes, at most m, are the same from two places on. -/
def alk (l : List UInt8) : Nat → Nat → Nat → Nat
  | _, _, 0 => 0
  | a, b, m + 1 => if l[a]? = l[b]? then alk l (a + 1) (b + 1) m + 1 else 0

theorem alk_le (l : List UInt8) : ∀ (m a b : Nat), alk l a b m ≤ m := by
  intro m
  induction m with
  | zero => intro a b; simp [alk]
  | succ m ih =>
    intro a b
    rw [alk]
    split
    · have := ih (a + 1) (b + 1); omega
    · omega

theorem alk_eq (l : List UInt8) : ∀ (m a b n : Nat), n ≤ m → (∀ j, j < n → l[a + j]? = l[b + j]?) → (n = m ∨ l[a + n]? ≠ l[b + n]?) → alk l a b m = n := by
  intro m
  induction m with
  | zero => intro a b n h1 _ _; simp [alk]; omega
  | succ m ih =>
    intro a b n h1 h2 h3
    rw [alk]
    cases n with
    | zero =>
      rcases h3 with h | h
      · omega
      · rw [if_neg (by simpa using h)]
    | succ n =>
      have h0 := h2 0 (by omega)
      rw [if_pos (by simpa using h0), ih (a + 1) (b + 1) n (by omega)]
      · intro j hj
        have := h2 (j + 1) (by omega)
        rwa [show a + (j + 1) = a + 1 + j by omega, show b + (j + 1) = b + 1 + j by omega] at this
      · rcases h3 with h | h
        · left; omega
        · right
          rwa [show a + (n + 1) = a + 1 + n by omega, show b + (n + 1) = b + 1 + n by omega] at h

theorem alk_same (l : List UInt8) : ∀ (m a b j : Nat), j < alk l a b m → l[a + j]? = l[b + j]? := by
  intro m
  induction m with
  | zero => intro a b j h; simp [alk] at h
  | succ m ih =>
    intro a b j h
    rw [alk] at h
    split at h
    · rename_i he
      cases j with
      | zero => simpa using he
      | succ j =>
        have := ih (a + 1) (b + 1) j (by omega)
        rwa [show a + (j + 1) = a + 1 + j by omega, show b + (j + 1) = b + 1 + j by omega]
    · omega
end Go.Proofs.Ytbjbjbpgmojcbaa.Tk
