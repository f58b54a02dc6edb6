/- Chapter 5 in plain words: the first place of a piece, and the counts as the texts are gone through. -/
import Derived.Test.YtbjbjbpgmojcbabTrainPlain
namespace Go.Proofs.Ytbjbjbpgmojcbab
namespace Tr
theorem occ_iff (t p : ByteArray) (hp : 0 < p.size) (j : Nat) : Lib.occAt t.data.toList p.data.toList j = true ↔ j + p.size ≤ t.size ∧ t.extract j (j + p.size) = p := by
  have hl : p.data.toList.length = p.size := by simp
  have ht : t.data.toList.length = t.size := by simp
  have he : (t.extract j (j + p.size)).data.toList = (t.data.toList.drop j).take p.size := by
    rw [ByteArray.data_extract, Array.toList_extract, List.extract_eq_take_drop]; congr 1; omega
  rw [Lib.occAt, List.isPrefixOf_iff_prefix, List.prefix_iff_eq_take, hl]
  constructor
  · intro h
    have h2 := congrArg List.length h
    rw [List.length_take, List.length_drop, hl, ht] at h2
    refine ⟨by omega, ?_⟩
    apply toList_same
    rw [ByteArray.toList_eq, ByteArray.toList_eq, he]; exact h.symm
  · rintro ⟨_, h⟩
    rw [← he, h]
theorem index_iff (t p : ByteArray) (hp : 0 < p.size) (i : Nat) (hi : i + p.size ≤ t.size) (h : t.extract i (i + p.size) = p) : decide (Lib.index t.data.toList p.data.toList = (i : Int)) = !stK p t i := by
  have ht : t.data.toList.length = t.size := by simp
  have ho := (occ_iff t p hp i).2 ⟨hi, h⟩
  rcases Lib.index_spec t.data.toList p.data.toList with ⟨h1, h2⟩ | ⟨k, h1, h2, h3, h4⟩
  · have := h2 i (by omega); rw [ho] at this; cases this
  · cases hs : stK p t i with
    | true =>
      obtain ⟨j, hj, hj2⟩ := stK_iff.1 hs
      have hk : k ≤ j := by
        apply Nat.le_of_not_lt; intro hlt
        have := h4 j hlt; rw [(occ_iff t p hp j).2 hj2] at this; cases this
      rw [h1]; exact decide_eq_false (by omega)
    | false =>
      have hk : ¬ k < i := fun hlt => by
        have := stK_iff.2 ⟨k, hlt, (occ_iff t p hp k).1 h3⟩
        rw [hs] at this; cases this
      have hk2 : ¬ i < k := fun hlt => by have := h4 i hlt; rw [ho] at this; cases this
      rw [h1]; exact decide_eq_true (by omega)
theorem contains_is (t p : ByteArray) (hp : 0 < p.size) : Lib.contains t.data.toList p.data.toList = st p t := by
  have ht : t.data.toList.length = t.size := by simp
  unfold Lib.contains
  rcases Lib.index_spec t.data.toList p.data.toList with ⟨h1, h2⟩ | ⟨k, h1, h2, h3, h4⟩
  · rw [h1]
    cases hs : st p t with
    | false => rfl
    | true =>
      obtain ⟨j, hj, hj2⟩ := st_iff.1 hs
      have := h2 j (by omega); rw [(occ_iff t p hp j).2 ⟨hj, hj2⟩] at this; cases this
  · rw [h1, st_iff.2 ⟨k, (occ_iff t p hp k).1 h3⟩]; exact decide_eq_true (by omega)
/-- The counts behind the first k texts and the first i places of the next one. -/
def cn (xs : List ByteArray) (k i : Nat) (q : ByteArray) : Nat := ctK xs q k + (if stK q (xa xs k) i = true then 1 else 0)
theorem cn_zero (xs : List ByteArray) (k : Nat) (q : ByteArray) : cn xs k 0 q = ctK xs q k := by simp [cn, stK]
theorem cn_end {xs : List ByteArray} {k i : Nat} {q : ByteArray} (hq : q.size = 4) (hi : (xa xs k).size ≤ i + 3) : cn xs k i q = ctK xs q (k + 1) := by
  rw [cn, ctK, st]
  by_cases h : i ≤ (xa xs k).size + 1
  · have := stK_end (p := q) (t := xa xs k) (k := i) (by omega) ((xa xs k).size + 1 - i)
    rw [show i + ((xa xs k).size + 1 - i) = (xa xs k).size + 1 by omega] at this
    rw [this]
  · have := stK_end (p := q) (t := xa xs k) (k := (xa xs k).size + 1) (by omega) (i - ((xa xs k).size + 1))
    rw [show (xa xs k).size + 1 + (i - ((xa xs k).size + 1)) = i by omega] at this
    rw [this]
theorem stK_same {q t : ByteArray} {i : Nat} (hq : q.size = 4) (hne : q ≠ pc t i) : stK q t (i + 1) = stK q t i := by
  rw [stK, decide_eq_false, Bool.or_false]
  rintro ⟨_, h⟩
  rw [hq] at h
  exact hne h.symm
theorem cn_other {xs : List ByteArray} {k i : Nat} {q : ByteArray} (hq : q.size = 4) (hne : q ≠ pc (xa xs k) i) : cn xs k (i + 1) q = cn xs k i q := by
  rw [cn, cn, stK_same hq hne]
theorem cn_old {xs : List ByteArray} {k i : Nat} (h : stK (pc (xa xs k) i) (xa xs k) i = true) {q : ByteArray} (hq : q.size = 4) : cn xs k (i + 1) q = cn xs k i q := by
  by_cases hne : q = pc (xa xs k) i
  · subst hne; rw [cn, cn, h, stK, h, Bool.true_or]
  · exact cn_other hq hne
theorem cn_new {xs : List ByteArray} {k i : Nat} (hi : i < (xa xs k).size - 3) (h : stK (pc (xa xs k) i) (xa xs k) i = false) : cn xs k (i + 1) (pc (xa xs k) i) = cn xs k i (pc (xa xs k) i) + 1 := by
  have h4 := pc_size hi
  have : stK (pc (xa xs k) i) (xa xs k) (i + 1) = true := stK_iff.2 ⟨i, by omega, by omega, by rw [h4]; rfl⟩
  rw [cn, cn, h, this]; simp
theorem cn_le (xs : List ByteArray) (k i : Nat) (q : ByteArray) : cn xs k i q ≤ k + 1 := by
  have := ctK_le xs q k
  rw [cn]; split <;> omega
end Tr
end Go.Proofs.Ytbjbjbpgmojcbab
