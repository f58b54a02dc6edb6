/- The document's own training: plain words beside its walk. -/
import Derived.Test.YtbjbjbpgmojcbabTrainCounted
namespace Go.Proofs.Ytbjbjbpgmojcbab
open Go.RowKit Go.Maps
namespace Tr
/-- How often a piece was met at the first j places. -/
def snK (t q : ByteArray) : Nat → Nat
  | 0 => 0
  | j + 1 => snK t q j + (if pc t j = q then 1 else 0)
theorem snK_le (t q : ByteArray) : ∀ j, snK t q j ≤ j
  | 0 => Nat.le_refl _
  | j + 1 => by have := snK_le t q j; rw [snK]; split <;> omega
theorem snK_zero {t q : ByteArray} (hq : q.size = 4) : ∀ {j : Nat}, j ≤ t.size - 3 → (snK t q j = 0 ↔ stK q t j = false)
  | 0, _ => by simp [snK, stK]
  | j + 1, h => by
    have ih := snK_zero (t := t) hq (j := j) (by omega)
    rw [snK, stK, Bool.or_eq_false_iff, ← ih, decide_eq_false_iff_not, hq]
    constructor
    · intro h9
      refine ⟨by omega, ?_⟩
      rintro ⟨_, e⟩
      rw [if_pos (show pc t j = q from e)] at h9; omega
    · rintro ⟨h1, h2⟩
      rw [if_neg (show ¬ pc t j = q from fun e => h2 ⟨by omega, e⟩)]; omega
theorem snK_own (t : ByteArray) (j : Nat) : snK t (pc t j) (j + 1) = snK t (pc t j) j + 1 := by rw [snK, if_pos rfl]
theorem snK_other {t q : ByteArray} {j : Nat} (h : q ≠ pc t j) : snK t q (j + 1) = snK t q j := by rw [snK, if_neg (fun e => h e.symm)]; rfl
theorem CM.below {w w' : World} {b n : Nat} {f : ByteArray → Nat} (h : CM w b n f) (hb : Below w.heap.size w w') : CM w' b n f := by
  obtain ⟨D, h1, h2⟩ := h
  refine ⟨D, ?_, h2⟩
  have hlt := h1.lt
  obtain ⟨es, cl, h3, h4⟩ := h1
  exact ⟨es, cl, by rw [hb.block b hlt]; exact h3, h4⟩
theorem CM.kept' {w w' : World} {b n : Nat} {f : ByteArray → Nat} {row : Option Nat} (h : CM w b n f) (hg : w.grownBy w' row) (hne : some b ≠ row) : CM w' b n f := by
  obtain ⟨D, h1, h2⟩ := h
  exact ⟨D, h1.kept hg hne, h2⟩
theorem CM.at_f {f : ByteArray → Nat} {D : DataW Unit} (h3 : ∀ q : ByteArray, q.size = 4 → D.atKey (kl q) (i64 0) = i64 (f q)) (p : ByteArray) (hp : p.size = 4) (c : Int) (h9 : D.atKey (kl p) (.lit (.int .i64 0)) = .lit (.int .i64 c)) : c = (f p : Int) := by
  have h8 := h9.symm.trans (h3 p hp)
  simpa [i64] using h8
/- The best piece, step by step. -/
theorem bs_yes {xs : List ByteArray} {d P B : ByteArray} {C : Nat} (h : C < ct xs P ∨ (ct xs P = C ∧ 1 < ct xs P ∧ bl P B = true)) (hs : st P d = false) : bs xs d (B, C) P = (P, ct xs P) := by
  rw [bs, if_pos]
  rw [hs]
  rcases h with h | ⟨h1, h2, h3⟩
  · simp [h]
  · rw [h3]; simp [h1]; omega
theorem bs_no {xs : List ByteArray} {d P B : ByteArray} {C : Nat} (h : ¬ (C < ct xs P ∨ (ct xs P = C ∧ 1 < ct xs P ∧ bl P B = true)) ∨ st P d = true) : bs xs d (B, C) P = (B, C) := by
  rw [bs, if_neg]
  intro h9
  simp only [Bool.and_eq_true, Bool.or_eq_true, decide_eq_true_iff, Bool.not_eq_true', beq_iff_eq] at h9
  rcases h with h | h
  · apply h
    rcases h9.1 with h8 | h8
    · exact .inl h8
    · exact .inr ⟨h8.1.1, h8.1.2, h8.2⟩
  · rw [h] at h9; cases h9.2
theorem bs_size {xs : List ByteArray} {d : ByteArray} {a : ByteArray × Nat} {P : ByteArray} (ha : a.1.size ≤ 4) (hP : P.size ≤ 4) : (bs xs d a P).1.size ≤ 4 := by
  rw [bs]; split
  · exact hP
  · exact ha
theorem bs_le {xs : List ByteArray} {d : ByteArray} {a : ByteArray × Nat} {P : ByteArray} (ha : a.2 ≤ 100) (hP : ct xs P ≤ 100) : (bs xs d a P).2 ≤ 100 := by
  rw [bs]; split
  · exact hP
  · exact ha
theorem best_four (xs : List ByteArray) (d : ByteArray) : (best xs d).size = 0 ∨ (best xs d).size = 4 := by
  rcases best_spec xs d with ⟨h, _⟩ | ⟨h, _⟩
  · left; rw [h]; rfl
  · exact .inr h
/-- How many bytes a text has. -/
def bsz : Value → Nat
  | .string b => b.size
  | _ => 0
theorem not_empty {b : ByteArray} (h : 0 < b.size) : b.toList.isEmpty = false := by
  rw [ByteArray.toList_eq, List.isEmpty_eq_false_iff]
  intro e
  have := congrArg List.length e
  simp at this
  rw [this] at h
  exact absurd h (by decide)
theorem size_zero {b : ByteArray} (h : b.size = 0) : b = ⟨#[]⟩ := by
  cases b with | mk d => congr; exact Array.eq_empty_of_size_eq_zero h
end Tr
end Go.Proofs.Ytbjbjbpgmojcbab
