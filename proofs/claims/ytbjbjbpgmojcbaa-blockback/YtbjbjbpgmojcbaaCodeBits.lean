/- Plain facts on bits laid into bytes; and a row of bytes of the call's own, stored into. -/
import Derived.Test.YtbjbjbpgmojcbaaCodeWords
import Derived.Test.YtbjbjbpgmojcbaaOwn8
import Derived.Laws.BitsLemmas
namespace Go.Proofs.Ytbjbjbpgmojcbaa
open Go.RowKit

namespace Cd
/-- A word's bits, the highest first. -/
def wb (word : Int) : Nat → List Bool
  | 0 => []
  | k + 1 => decide (word / 2 ^ k % 2 = 1) :: wb word k
theorem wb_len (word : Int) : ∀ k, (wb word k).length = k := by
  intro k
  induction k with
  | zero => rfl
  | succ k ih => simp [wb, ih]
def bv (b : Bool) : Nat := if b then 1 else 0
theorem bv_le (b : Bool) : bv b ≤ 1 := by cases b <;> decide
/-- The bit at a place, 0 behind the last. -/
def bq (bs : List Bool) (i : Nat) : Nat := bv (bs.getD i false)
theorem bq_le (bs : List Bool) (i : Nat) : bq bs i ≤ 1 := bv_le _
theorem bq_old (bs : List Bool) (b : Bool) {i : Nat} (h : i < bs.length) : bq (bs ++ [b]) i = bq bs i := by
  simp [bq, List.getD_eq_getElem?_getD, List.getElem?_append_left h]
theorem bq_new (bs : List Bool) (b : Bool) : bq (bs ++ [b]) bs.length = bv b := by
  simp [bq, List.getD_eq_getElem?_getD]
theorem bq_far (bs : List Bool) {i : Nat} (h : bs.length ≤ i) : bq bs i = 0 := by
  simp [bq, List.getD_eq_getElem?_getD, List.getElem?_eq_none h, bv]
/-- The byte at a place. -/
def byt (bs : List Bool) (j : Nat) : Nat := bq bs (8 * j) * 128 + bq bs (8 * j + 1) * 64 + bq bs (8 * j + 2) * 32 + bq bs (8 * j + 3) * 16 + bq bs (8 * j + 4) * 8 + bq bs (8 * j + 5) * 4 + bq bs (8 * j + 6) * 2 + bq bs (8 * j + 7)
theorem byt_lt (bs : List Bool) (j : Nat) : byt bs j < 256 := by
  have h0 := bq_le bs (8 * j)
  have h1 := bq_le bs (8 * j + 1)
  have h2 := bq_le bs (8 * j + 2)
  have h3 := bq_le bs (8 * j + 3)
  have h4 := bq_le bs (8 * j + 4)
  have h5 := bq_le bs (8 * j + 5)
  have h6 := bq_le bs (8 * j + 6)
  have h7 := bq_le bs (8 * j + 7)
  unfold byt
  omega
theorem byt_far (bs : List Bool) {j : Nat} (h : bs.length ≤ 8 * j) : byt bs j = 0 := by
  unfold byt
  rw [bq_far bs (by omega), bq_far bs (by omega), bq_far bs (by omega), bq_far bs (by omega), bq_far bs (by omega), bq_far bs (by omega), bq_far bs (by omega), bq_far bs (by omega)]
theorem byt_old (bs : List Bool) (b : Bool) {j : Nat} (h : 8 * j + 7 < bs.length) : byt (bs ++ [b]) j = byt bs j := by
  unfold byt
  rw [bq_old bs b (by omega), bq_old bs b (by omega), bq_old bs b (by omega), bq_old bs b (by omega), bq_old bs b (by omega), bq_old bs b (by omega), bq_old bs b (by omega), bq_old bs b (by omega)]
theorem bq_add (bs : List Bool) (b : Bool) (i : Nat) : bq (bs ++ [b]) i = bq bs i + (if i = bs.length then bv b else 0) := by
  by_cases h : i < bs.length
  · rw [bq_old bs b h, if_neg (by omega)]
    omega
  · by_cases h1 : i = bs.length
    · subst h1
      rw [bq_new, if_pos rfl, bq_far bs (Nat.le_refl _)]
      omega
    · rw [if_neg h1, bq_far (bs ++ [b]) (by simp; omega), bq_far bs (by omega)]
/-- One bit more. -/
theorem byt_new (bs : List Bool) (b : Bool) (j r : Nat) (hr : r < 8) (hn : bs.length = 8 * j + r) : byt (bs ++ [b]) j = byt bs j + bv b * 2 ^ (7 - r) ∧ byt bs j % 2 ^ (8 - r) = 0 := by
  have hb := bv_le b
  unfold byt
  simp only [bq_add]
  rw [hn]
  obtain rfl | rfl | rfl | rfl | rfl | rfl | rfl | rfl : r = 0 ∨ r = 1 ∨ r = 2 ∨ r = 3 ∨ r = 4 ∨ r = 5 ∨ r = 6 ∨ r = 7 := by omega
  all_goals
    have f0 := bq_le bs (8 * j)
    have f1 := bq_le bs (8 * j + 1)
    have f2 := bq_le bs (8 * j + 2)
    have f3 := bq_le bs (8 * j + 3)
    have f4 := bq_le bs (8 * j + 4)
    have f5 := bq_le bs (8 * j + 5)
    have f6 := bq_le bs (8 * j + 6)
    have z : ∀ i, bs.length ≤ i → bq bs i = 0 := fun i h => bq_far bs h
    have z0 := z (8 * j)
    have z1 := z (8 * j + 1)
    have z2 := z (8 * j + 2)
    have z3 := z (8 * j + 3)
    have z4 := z (8 * j + 4)
    have z5 := z (8 * j + 5)
    have z6 := z (8 * j + 6)
    have z7 := z (8 * j + 7)
    constructor
    · repeat (first | rw [if_pos (by omega)] | rw [if_neg (by omega)])
      omega
    · omega
/-- Bits as bytes; what is left of the last is 0. -/
def pk (bs : List Bool) : List UInt8 := (List.range ((bs.length + 7) / 8)).map fun j => UInt8.ofNat (byt bs j)
theorem pk_len (bs : List Bool) : (pk bs).length = (bs.length + 7) / 8 := by simp [pk]
theorem pk_at (bs : List Bool) {j : Nat} (h : j < (bs.length + 7) / 8) : (pk bs)[j]? = some (UInt8.ofNat (byt bs j)) := by simp [pk, h]
/-- The bytes with room for one bit more. -/
def pk1 (bs : List Bool) : List UInt8 := if bs.length % 8 = 0 then pk bs ++ [0] else pk bs
theorem pk1_len (bs : List Bool) : (pk1 bs).length = bs.length / 8 + 1 := by
  unfold pk1
  split
  · rw [List.length_append, pk_len]
    simp
    omega
  · rw [pk_len]
    omega
theorem pk1_at (bs : List Bool) {j : Nat} (h : j < bs.length / 8 + 1) : (pk1 bs)[j]? = some (UInt8.ofNat (byt bs j)) := by
  unfold pk1
  split
  · rename_i h0
    by_cases hj : j < bs.length / 8
    · rw [List.getElem?_append_left (by rw [pk_len]; omega), pk_at bs (by omega)]
    · rw [List.getElem?_append_right (by rw [pk_len]; omega), pk_len, byt_far bs (by omega), show j - (bs.length + 7) / 8 = 0 by omega]
      rfl
  · rw [pk_at bs (by omega)]
theorem pk_snoc (bs : List Bool) (b : Bool) : pk (bs ++ [b]) = (pk1 bs).set (bs.length / 8) (UInt8.ofNat (byt bs (bs.length / 8) + bv b * 2 ^ (7 - bs.length % 8))) := by
  have hn : bs.length = 8 * (bs.length / 8) + bs.length % 8 := by omega
  have hb := byt_new bs b (bs.length / 8) (bs.length % 8) (by omega) hn
  apply List.ext_getElem?
  intro i
  have hl : ((bs ++ [b]).length + 7) / 8 = bs.length / 8 + 1 := by simp; omega
  by_cases hi : i < bs.length / 8 + 1
  · rw [pk_at _ (by omega), List.getElem?_set]
    by_cases h1 : bs.length / 8 = i
    · rw [if_pos h1, if_pos (by rw [pk1_len]; omega), ← h1, hb.1]
    · rw [if_neg h1, pk1_at bs hi, byt_old bs b (by omega)]
  · rw [List.getElem?_eq_none (by rw [pk_len]; omega), List.getElem?_eq_none (by rw [List.length_set, pk1_len]; omega)]
end Cd

/-- The bit that is put: what the operations make of it. -/
theorem bit_form {word : Int} {K : Int} {k : Nat} (h0 : 0 ≤ word) (h1 : word ≤ 1048576) (hK : K = k) : bits BinOp.and IntKind.i64 (word / 2 ^ K.toNat) 1 % 256 = (Cd.bv (decide (word / 2 ^ k % 2 = 1)) : Nat) := by
  subst hK
  rw [Int.toNat_natCast]
  have hp := Cd.pow_pos k
  have h2 : 0 ≤ word / 2 ^ k := Int.ediv_nonneg h0 (by omega)
  have h3 : word / 2 ^ k ≤ word := Int.ediv_le_self _ h0
  have h := bits_mask .i64 63 (by decide) (fun n a b => by rw [IntKind.wrap_i64]; omega) 1 (by decide) (word / 2 ^ k) h2 (by omega)
  have e : ((2 : Int) ^ 1 - 1) = 1 := by decide
  have e2 : ((2 : Int) ^ 1) = 2 := by decide
  rw [e, e2] at h
  rw [h]
  generalize word / 2 ^ k = x at *
  by_cases hx : x % 2 = 1
  · simp [hx, Cd.bv]
  · have : x % 2 = 0 := by omega
    simp [this, Cd.bv]
/-- The byte with it. -/
theorem byte_form {x r : Nat} {b : Bool} (hr : r < 8) (hx : x < 256) (hm : x % 2 ^ (8 - r) = 0) : bits BinOp.or IntKind.u8 (x : Int) ((Cd.bv b : Nat) * 2 ^ (7 - r) % 256) = ((x + Cd.bv b * 2 ^ (7 - r) : Nat) : Int) ∧ x + Cd.bv b * 2 ^ (7 - r) < 256 := by
  have hb := Cd.bv_le b
  have hlt : Cd.bv b * 2 ^ (7 - r) < 2 ^ (8 - r) := by
    have h1 : 2 ^ (8 - r) = 2 * 2 ^ (7 - r) := by rw [show 8 - r = (7 - r) + 1 by omega, Nat.pow_succ]; omega
    have h2 : 0 < 2 ^ (7 - r) := Nat.pow_pos (by omega)
    rcases Nat.le_one_iff_eq_zero_or_eq_one.1 hb with h | h <;> rw [h] <;> omega
  have hle : 2 ^ (8 - r) ≤ 2 ^ 8 := Nat.pow_le_pow_right (by omega) (by omega)
  have hsum : x + Cd.bv b * 2 ^ (7 - r) < 256 := by
    have hd : 2 ^ (8 - r) ∣ 256 := by
      refine ⟨2 ^ r, ?_⟩
      rw [← Nat.pow_add, show 8 - r + r = 8 by omega]
    obtain ⟨q, hq⟩ := hd
    have hxq : x = 2 ^ (8 - r) * (x / 2 ^ (8 - r)) := by have := Nat.div_add_mod x (2 ^ (8 - r)); omega
    have hlt2 : x / 2 ^ (8 - r) < q := by
      apply Nat.lt_of_mul_lt_mul_left (a := 2 ^ (8 - r))
      omega
    have : 2 ^ (8 - r) * (x / 2 ^ (8 - r) + 1) ≤ 2 ^ (8 - r) * q := Nat.mul_le_mul_left _ hlt2
    rw [Nat.mul_add, Nat.mul_one] at this
    omega
  refine ⟨?_, hsum⟩
  have e : ((Cd.bv b : Nat) : Int) * 2 ^ (7 - r) % 256 = ((Cd.bv b * 2 ^ (7 - r) : Nat) : Int) := by
    have : ((Cd.bv b : Nat) : Int) * 2 ^ (7 - r) = ((Cd.bv b * 2 ^ (7 - r) : Nat) : Int) := by push_cast; rfl
    rw [this]
    have : 2 ^ (8 - r) ≤ 256 := hle
    omega
  rw [e]
  have h := (bits_nat .u8 8 (by decide) wraps_u8 x (Cd.bv b * 2 ^ (7 - r)) (by omega) (by omega)).2
  rw [h]
  have hxq : x = 2 ^ (8 - r) * (x / 2 ^ (8 - r)) := by have := Nat.div_add_mod x (2 ^ (8 - r)); omega
  have h2 := Nat.two_pow_add_eq_or_of_lt hlt (x / 2 ^ (8 - r))
  rw [← hxq] at h2
  rw [← h2]

/-- A row of bytes, written out. -/
theorem row_form {w : World} {B : Nat} {v : Value} {l : List UInt8} (h : w.ownsRow B 5 1 v l.length (bcs l)) (hl : l ≠ []) : ∃ g cap, v = .slice (some ⟨g, 0, none⟩) l.length cap ∧ B ≤ g ∧ g < w.heap.size ∧
    (∀ j b, l[j]? = some b → w.cell? ⟨g, j, none⟩ = some (.int .u8 (b.toNat : Int))) ∧ (∀ j, w.frozen? ⟨g, j, none⟩ = false) ∧
    (∀ j b, j < l.length → (w.setCell ⟨g, j, none⟩ (.int .u8 (UInt8.toNat b : Int))).ownsRow B 5 1 v (l.set j b).length (bcs (l.set j b))) := by
  have hlen := h.1
  rcases h.2 with ⟨_, h0⟩ | ⟨g, cap, cur, rfl, hb, hg, hnc, hcm, hcs, htk⟩
  · exact absurd (List.eq_nil_of_length_eq_zero h0) hl
  · rw [Nat.mul_one] at htk hcs
    refine ⟨g, cap, rfl, hb, (Array.getElem?_eq_some_iff.1 hg).1, ?_, fun j => by simp [World.frozen?, hg], ?_⟩
    · intro j b hj
      have hj2 : j < l.length := (List.getElem?_eq_some_iff.1 hj).1
      rw [cell_of_row w g j cur _ _ hg]
      have : (cur.toList.take l.length)[j]? = some (.int .u8 (b.toNat : Int)) := by
        rw [htk]
        simp [bcs, hj]
      rw [List.getElem?_take, if_pos hj2] at this
      simpa using this
    · intro j b hj
      have hg2 : (w.setCell ⟨g, j, none⟩ (.int .u8 (b.toNat : Int))).heap[g]? = some (.cells (cur.setIfInBounds j (.int .u8 (b.toNat : Int))) 5 (0, 0)) := by
        show (w.heap.modify g _)[g]? = _
        rw [Array.getElem?_modify, if_pos rfl, hg]
        rfl
      refine ⟨by rw [bcs_length]; omega, .inr ⟨g, cap, _, by rw [List.length_set], hb, hg2, by rw [List.length_set]; exact hnc, hcm, by simp; omega, ?_⟩⟩
      rw [List.length_set, Nat.mul_one, Array.toList_setIfInBounds, List.take_set, htk]
      simp [bcs]

/-- The bits that are written so far, in block gb. -/
def BitsAt (w : World) (gb : Nat) (bs : List Bool) : Prop := gb < w.heap.size ∧ ∃ v, w.heap[gb]? = some (.cells #[v, .int .i64 (bs.length : Nat)] 97 (0, 0)) ∧ w.ownsRow (gb + 1) 5 1 v (Cd.pk bs).length (bcs (Cd.pk bs))
end Go.Proofs.Ytbjbjbpgmojcbaa
