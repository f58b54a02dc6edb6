/- Plain facts on copies (no program): what chapter 2 calls right toks, and what they make. -/
namespace Go.Proofs.Ytbjbjbpgmojcbaa.Tk

/-- A tok. -/
structure T where
  lit : ByteArray
  far : Int
  len : Int

/-- n bytes more, each the one that stands so far ahead. -/
def copy (far : Nat) : Nat → List UInt8 → List UInt8
  | 0, s => s
  | n + 1, s => copy far n (s ++ [s.getD (s.length - far) 0])

theorem copy_length (far : Nat) : ∀ (n : Nat) (s : List UInt8), (copy far n s).length = s.length + n := by
  intro n
  induction n with
  | zero => intro s; rfl
  | succ n ih => intro s; rw [copy, ih]; simp; omega

/-- One more round, at the end. -/
theorem copy_succ (far : Nat) : ∀ (n : Nat) (s : List UInt8), copy far (n + 1) s = copy far n s ++ [(copy far n s).getD ((copy far n s).length - far) 0] := by
  intro n
  induction n with
  | zero => intro s; rfl
  | succ n ih => intro s; rw [copy, ih]; rfl

/-- A tok behind what was made (d: how long the dictionary is; s: the dictionary and what was made; p: a Lit stands right ahead): its error, 0: none. -/
def err (d : Nat) (s : List UInt8) (p : Bool) (t : T) : Int :=
  if t.lit.size ≠ 0 then
    if t.far ≠ 0 ∨ t.len ≠ 0 ∨ p = true then 1
    else if 512 < (s.length : Int) - d + t.lit.size then 2 else 0
  else if ¬ (3 ≤ t.len ∧ t.len ≤ 64 ∧ 1 ≤ t.far ∧ t.far ≤ s.length) then 1
  else if 512 < (s.length : Int) - d + t.len then 2 else 0

/-- What it makes. -/
def make (s : List UInt8) (t : T) : List UInt8 :=
  if t.lit.size ≠ 0 then s ++ t.lit.data.toList else copy t.far.toNat t.len.toNat s

/-- Toks, one by one: the error (0: none), and what was made, dictionary and all. -/
def run (d : Nat) : List UInt8 → Bool → List T → Int × List UInt8
  | s, _, [] => (0, s)
  | s, p, t :: l => if err d s p t ≠ 0 then (err d s p t, []) else run d (make s t) (decide (t.lit.size ≠ 0)) l

theorem run_bad {d : Nat} {s : List UInt8} {p : Bool} {t : T} {l : List T} (h : err d s p t ≠ 0) : run d s p (t :: l) = (err d s p t, []) := by simp [run, h]
theorem run_good {d : Nat} {s : List UInt8} {p : Bool} {t : T} {l : List T} (h : err d s p t = 0) : run d s p (t :: l) = run d (make s t) (decide (t.lit.size ≠ 0)) l := by simp [run, h]

/-- A right tok makes at most 512 bytes with what was made, and leaves the dictionary as it is. -/
theorem make_ok {d : Nat} {s : List UInt8} {p : Bool} {t : T} (h : err d s p t = 0) : (make s t).length = s.length + t.lit.size + t.len.toNat ∧ 0 ≤ t.len ∧ (t.lit.size = 0 → 1 ≤ t.far ∧ t.far ≤ s.length ∧ 3 ≤ t.len ∧ t.len ≤ 64) ∧ (t.lit.size ≠ 0 → t.far = 0 ∧ t.len = 0) ∧ ((s.length : Int) - d + t.lit.size + t.len ≤ 512) := by
  unfold err at h
  unfold make
  by_cases h0 : t.lit.size ≠ 0
  · rw [if_pos h0] at h
    rw [if_pos h0]
    by_cases h1 : t.far ≠ 0 ∨ t.len ≠ 0 ∨ p = true
    · rw [if_pos h1] at h; omega
    · rw [if_neg h1] at h
      by_cases h2 : 512 < (s.length : Int) - d + t.lit.size
      · rw [if_pos h2] at h; omega
      · have hf : t.far = 0 := by
          by_cases e : t.far = 0
          · exact e
          · exact absurd (Or.inl e) h1
        have hl : t.len = 0 := by
          by_cases e : t.len = 0
          · exact e
          · exact absurd (Or.inr (Or.inl e)) h1
        refine ⟨?_, by omega, fun e => absurd e h0, fun _ => ⟨hf, hl⟩, by omega⟩
        simp [hl]
  · rw [if_neg h0] at h
    rw [if_neg h0]
    by_cases h1 : 3 ≤ t.len ∧ t.len ≤ 64 ∧ 1 ≤ t.far ∧ t.far ≤ s.length
    · rw [if_neg (by simpa using h1)] at h
      by_cases h2 : 512 < (s.length : Int) - d + t.len
      · rw [if_pos h2] at h; omega
      · refine ⟨?_, by omega, fun _ => by omega, fun e => absurd e h0, by omega⟩
        rw [copy_length]
        omega
    · rw [if_pos h1] at h; omega

theorem err_012 (d : Nat) (s : List UInt8) (p : Bool) (t : T) : err d s p t = 0 ∨ err d s p t = 1 ∨ err d s p t = 2 := by
  unfold err
  split
  · split
    · exact Or.inr (Or.inl rfl)
    · split
      · exact Or.inr (Or.inr rfl)
      · exact Or.inl rfl
  · split
    · exact Or.inr (Or.inl rfl)
    · split
      · exact Or.inr (Or.inr rfl)
      · exact Or.inl rfl

theorem run_012 (d : Nat) : ∀ (l : List T) (s : List UInt8) (p : Bool), (run d s p l).1 = 0 ∨ (run d s p l).1 = 1 ∨ (run d s p l).1 = 2 := by
  intro l
  induction l with
  | nil => intro s p; exact Or.inl rfl
  | cons t l ih =>
    intro s p
    by_cases h : err d s p t = 0
    · rw [run_good h]; exact ih _ _
    · rw [run_bad h]; exact err_012 d s p t
end Go.Proofs.Ytbjbjbpgmojcbaa.Tk
