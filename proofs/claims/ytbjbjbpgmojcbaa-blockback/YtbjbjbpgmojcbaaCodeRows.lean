/- Rows of sixteen numbers that the call itself made: stores into them. -/
import Derived.Test.YtbjbjbpgmojcbaaCodeLight
namespace Go.Proofs.Ytbjbjbpgmojcbaa
open Go.RowKit

/-- One number turned. -/
def upd (f : Nat → Int) (k : Nat) (v : Int) : Nat → Int := fun i => if i = k then v else f i
theorem upd_same (f : Nat → Int) (k : Nat) (v : Int) : upd f k v k = v := by simp [upd]
theorem upd_other (f : Nat → Int) {k i : Nat} (v : Int) (h : i ≠ k) : upd f k v i = f i := by simp [upd, h]
theorem arr_congr {f g : Nat → Int} (h : ∀ i, i < 16 → f i = g i) : arr f = arr g := by
  unfold arr
  congr 1
  apply List.map_congr_left
  intro i hi
  rw [h i (List.mem_range.1 hi)]
theorem arr_upd (f : Nat → Int) (k : Nat) (v : Int) : (arr f).setIfInBounds k (.int .i64 v) = arr (upd f k v) := by
  apply Array.ext_getElem?
  intro i
  rw [Array.getElem?_setIfInBounds, arr_size]
  by_cases hi : i < 16
  · rw [arr_at _ i hi, arr_at _ i hi]
    by_cases h : k = i
    · subst h
      simp [upd, hi]
    · have h' : ¬ i = k := fun e => h e.symm
      simp [upd, h, h']
  · have h1 : (arr f)[i]? = none := by rw [Array.getElem?_eq_none]; rw [arr_size]; omega
    have h2 : (arr (upd f k v))[i]? = none := by rw [Array.getElem?_eq_none]; rw [arr_size]; omega
    rw [h1, h2]
    split
    · rename_i h; subst h; simp [hi]
    · rfl
theorem arr_zero : (#[.int .i64 0, .int .i64 0, .int .i64 0, .int .i64 0, .int .i64 0, .int .i64 0, .int .i64 0, .int .i64 0, .int .i64 0, .int .i64 0, .int .i64 0, .int .i64 0, .int .i64 0, .int .i64 0, .int .i64 0, .int .i64 0] : Array Value) = arr (fun _ => 0) := rfl
theorem arr_one (f : Nat → Int) : (arr f).all (·.oneCell') = true := by
  rw [Array.all_eq_true_iff_forall_mem]
  intro v hv
  simp [arr] at hv
  obtain ⟨i, _, rfl⟩ := hv
  rfl

theorem RowAt.set {w : World} {g : Nat} {f : Nat → Int} (h : RowAt w g f) (k : Nat) (v : Int) : RowAt (w.setCell ⟨g, k, none⟩ (.int .i64 v)) g (upd f k v) := by
  refine ⟨by have := h.1; simpa [World.setCell] using this, ?_⟩
  show (w.heap.modify g _)[g]? = _
  rw [Array.getElem?_modify, if_pos rfl, h.2]
  simp only [Option.map_some, Option.isSome_none, Bool.false_eq_true, if_false]
  rw [arr_upd]
theorem RowAt.setFar {w : World} {g : Nat} {f : Nat → Int} (h : RowAt w g f) {q : Nat} (hq : q ≠ g) (k : Nat) (v : Value) : RowAt (w.setCell ⟨q, k, none⟩ v) g f := by
  refine ⟨by have := h.1; simpa [World.setCell] using this, ?_⟩
  show (w.heap.modify q _)[g]? = _
  rw [Array.getElem?_modify, if_neg hq, h.2]
theorem RowAt.setRow {w : World} {g : Nat} {f : Nat → Int} (h : RowAt w g f) (f' : Nat → Int) : RowAt (w.setRow g (arr f')) g f' := by
  refine ⟨by have := h.1; simpa [World.setRow] using this, ?_⟩
  show (w.heap.modify g _)[g]? = _
  rw [Array.getElem?_modify, if_pos rfl, h.2]
  rfl
theorem RowAt.setRowFar {w : World} {g : Nat} {f : Nat → Int} (h : RowAt w g f) {q : Nat} (hq : q ≠ g) (c : Array Value) : RowAt (w.setRow q c) g f := by
  refine ⟨by have := h.1; simpa [World.setRow] using this, ?_⟩
  show (w.heap.modify q _)[g]? = _
  rw [Array.getElem?_modify, if_neg hq, h.2]
theorem below_setRow {B : Nat} {a w : World} (h : Below B a w) {g : Nat} (hg : B ≤ g) (c : Array Value) : Below B a (w.setRow g c) := by
  refine ⟨h.os, h.tape, h.output, by have := h.size; simpa [World.setRow] using this, fun k hk => ?_⟩
  show (w.heap.modify g _)[k]? = _
  rw [Array.getElem?_modify, if_neg (by omega), h.block k hk]
theorem RowAt.frozen {w : World} {g : Nat} {f : Nat → Int} (h : RowAt w g f) (k : Nat) : w.frozen? ⟨g, k, none⟩ = false := by
  simp [World.frozen?, h.2]
theorem setRow_size (w : World) (g : Nat) (c : Array Value) : (w.setRow g c).heap.size = w.heap.size := by simp [World.setRow]
theorem RowAt.congr {w : World} {g : Nat} {f f' : Nat → Int} (h : RowAt w g f) (hf : ∀ i, i < 16 → f i = f' i) : RowAt w g f' := ⟨h.1, by rw [h.2, arr_congr hf]⟩

namespace Cd
/-- One round of making: weights, trees, lengths. -/
def rW (W : Nat → Int) (p q : Nat) : Nat → Int := upd (upd (upd W p 0) q 0) (min p q) (W p + W q)
def rT (T : Nat → Int) (p q : Nat) : Nat → Int := fun i => if T i = p ∨ T i = q then (min p q : Nat) else T i
def rL (T L : Nat → Int) (p q : Nat) : Nat → Int := fun i => if T i = p ∨ T i = q then L i + 1 else L i
/-- All rounds, with fuel. -/
def bldR : Nat → (Nat → Int) → (Nat → Int) → (Nat → Int) → (Nat → Int)
  | 0, _, _, L => L
  | n + 1, W, T, L => if (lt2 W 16).2 = -1 then L else bldR n (rW W (lt2 W 16).1.toNat (lt2 W 16).2.toNat) (rT T (lt2 W 16).1.toNat (lt2 W 16).2.toNat) (rL T L (lt2 W 16).1.toNat (lt2 W 16).2.toNat)
/-- What Build tells. -/
def bld (c : Nat → Int) : (Nat → Int) × Int :=
  if ¬ InR c 2048 16 then (fun _ => 0, 3) else if (lt2 c 16).1 = -1 then (fun _ => 0, 5) else if (lt2 c 16).2 = -1 then (upd (fun _ => 0) (lt2 c 16).1.toNat 1, 0) else (bldR 16 c (fun i => i) (fun _ => 0), 0)

/-- How many weigh something. -/
def cnt (W : Nat → Int) : Nat → Nat
  | 0 => 0
  | k + 1 => cnt W k + (if W k = 0 then 0 else 1)
/-- All that is weighed. -/
def tot (W : Nat → Int) : Nat → Int
  | 0 => 0
  | k + 1 => tot W k + W k
theorem cnt_far {W : Nat → Int} {p : Nat} {v : Int} : ∀ k, k ≤ p → cnt (upd W p v) k = cnt W k := by
  intro k
  induction k with
  | zero => intro _; rfl
  | succ k ih => intro h; rw [cnt, cnt, ih (by omega), upd_other _ _ (by omega)]
theorem tot_far {W : Nat → Int} {p : Nat} {v : Int} : ∀ k, k ≤ p → tot (upd W p v) k = tot W k := by
  intro k
  induction k with
  | zero => intro _; rfl
  | succ k ih => intro h; rw [tot, tot, ih (by omega), upd_other _ _ (by omega)]
theorem cnt_upd {W : Nat → Int} {p : Nat} {v : Int} : ∀ k, p < k → cnt (upd W p v) k + (if W p = 0 then 0 else 1) = cnt W k + (if v = 0 then 0 else 1) := by
  intro k
  induction k with
  | zero => intro h; omega
  | succ k ih =>
    intro h
    rw [cnt, cnt]
    by_cases hk : p = k
    · subst hk
      rw [cnt_far p (Nat.le_refl _), upd_same]
      omega
    · have := ih (by omega)
      rw [upd_other _ _ (by omega)]
      omega
theorem tot_upd {W : Nat → Int} {p : Nat} {v : Int} : ∀ k, p < k → tot (upd W p v) k + W p = tot W k + v := by
  intro k
  induction k with
  | zero => intro h; omega
  | succ k ih =>
    intro h
    rw [tot, tot]
    by_cases hk : p = k
    · subst hk
      rw [tot_far p (Nat.le_refl _), upd_same]
      omega
    · have := ih (by omega)
      rw [upd_other _ _ (by omega)]
      omega
theorem tot_ge {W : Nat → Int} : ∀ k, (∀ i, i < k → 0 ≤ W i) → 0 ≤ tot W k := by
  intro k
  induction k with
  | zero => intro _; exact Int.le_refl _
  | succ k ih => intro h; rw [tot]; have := h k (by omega); have := ih (fun i hi => h i (by omega)); omega
theorem tot_two {W : Nat → Int} {p q : Nat} (h : ∀ i, i < 16 → 0 ≤ W i) (hp : p < 16) (hq : q < 16) (hne : p ≠ q) : W p + W q ≤ tot W 16 := by
  have h1 := tot_upd (W := W) (p := p) (v := 0) 16 hp
  have h2 := tot_upd (W := upd W p 0) (p := q) (v := 0) 16 hq
  rw [upd_other _ _ (fun e => hne e.symm)] at h2
  have h3 := tot_ge (W := upd (upd W p 0) q 0) 16 (fun i hi => by unfold upd; split; omega; split; omega; exact h i hi)
  omega
theorem cnt_le (W : Nat → Int) : ∀ k, cnt W k ≤ k := by
  intro k
  induction k with
  | zero => exact Nat.le_refl _
  | succ k ih => rw [cnt]; split <;> omega
theorem tot_le {W : Nat → Int} : ∀ k, InR W 2048 k → tot W k ≤ 2048 * k := by
  intro k
  induction k with
  | zero => intro _; simp [tot]
  | succ k ih => intro h; rw [tot]; have := h k (by omega); have := ih (fun i hi => h i (by omega)); omega
theorem bldR_end {n : Nat} {W T L : Nat → Int} (h : (lt2 W 16).2 = -1) : bldR n W T L = L := by
  cases n with
  | zero => rfl
  | succ n => rw [bldR, if_pos h]
theorem bldR_next {n : Nat} {W T L : Nat → Int} {p q : Nat} (h : lt2 W 16 = ((p : Int), (q : Int))) : bldR (n + 1) W T L = bldR n (rW W p q) (rT T p q) (rL T L p q) := by
  rw [bldR, h, if_neg (by simp only; omega)]
  rfl
theorem rL_b {T L : Nat → Int} {p q n : Nat} (h : ∀ i, 0 ≤ L i ∧ L i + (n + 1 : Nat) ≤ 16) : ∀ i, 0 ≤ rL T L p q i ∧ rL T L p q i + (n : Nat) ≤ 16 := by
  intro i
  have := h i
  unfold rL
  split <;> omega
theorem lt2_ne (W : Nat → Int) : ∀ k, (lt2 W k).1 = (lt2 W k).2 → (lt2 W k).1 = -1 := by
  intro k
  induction k with
  | zero => intro _; rfl
  | succ k ih =>
    have hs := lt2_sg W k
    have far : ∀ a, Sg W k a → a ≠ (k : Int) := by
      intro a h e
      rcases h with h | ⟨p, h1, h2, _⟩ <;> omega
    rw [lt2, ltS]
    by_cases h0 : W k = 0
    · rw [if_pos h0]; exact ih
    · rw [if_neg h0]
      split
      · intro h; exact absurd h.symm (far _ hs.1)
      · split
        · intro h; exact absurd h (far _ hs.1)
        · exact ih
/-- Where there is a second there are two. -/
theorem lt2_two {W : Nat → Int} (h : (lt2 W 16).2 ≠ -1) : ∃ p q : Nat, lt2 W 16 = ((p : Int), (q : Int)) ∧ p < 16 ∧ q < 16 ∧ p ≠ q ∧ W p ≠ 0 ∧ W q ≠ 0 := by
  have first : ∀ k, (lt2 W k).1 = -1 → (lt2 W k).2 = -1 := by
    intro k
    induction k with
    | zero => intro _; rfl
    | succ k ih =>
      rw [lt2, ltS]
      by_cases h0 : W k = 0
      · rw [if_pos h0]; exact ih
      · rw [if_neg h0]
        split
        · intro h9; simp only at h9; omega
        · rename_i h9
          split
          · intro h8; exact absurd (Or.inl h8) h9
          · intro h8; exact absurd (Or.inl h8) h9
  obtain ⟨s1, s2⟩ := lt2_sg W 16
  rcases s2 with s2 | ⟨q, e2, hq, n2⟩
  · exact absurd s2 h
  rcases s1 with s1 | ⟨p, e1, hp, n1⟩
  · exact absurd (first 16 s1) h
  refine ⟨p, q, by rw [← e1, ← e2], hp, hq, ?_, n1, n2⟩
  intro e
  have := lt2_ne W 16 (by rw [e1, e2, e])
  omega
theorem rW_pos {W : Nat → Int} {p q : Nat} (h : ∀ i, i < 16 → 0 ≤ W i) (hp : p < 16) (hq : q < 16) : ∀ i, i < 16 → 0 ≤ rW W p q i := by
  intro i hi
  have h1 := h p hp
  have h2 := h q hq
  have h3 := h i hi
  unfold rW upd
  split
  · omega
  · split
    · omega
    · split
      · omega
      · exact h3
theorem rW_cnt {W : Nat → Int} {p q : Nat} (h : ∀ i, i < 16 → 0 ≤ W i) (hp : p < 16) (hq : q < 16) (hne : p ≠ q) (n1 : W p ≠ 0) (n2 : W q ≠ 0) : cnt (rW W p q) 16 + 1 = cnt W 16 ∧ tot (rW W p q) 16 = tot W 16 ∧ 2 ≤ cnt W 16 := by
  have h1 := h p hp
  have h2 := h q hq
  have c1 := cnt_upd (W := W) (p := p) (v := 0) 16 hp
  have c2 := cnt_upd (W := upd W p 0) (p := q) (v := 0) 16 hq
  have c3 := cnt_upd (W := upd (upd W p 0) q 0) (p := min p q) (v := W p + W q) 16 (by omega)
  have t1 := tot_upd (W := W) (p := p) (v := 0) 16 hp
  have t2 := tot_upd (W := upd W p 0) (p := q) (v := 0) 16 hq
  have t3 := tot_upd (W := upd (upd W p 0) q 0) (p := min p q) (v := W p + W q) 16 (by omega)
  have z : upd (upd W p 0) q 0 (min p q) = 0 := by
    unfold upd
    split
    · rfl
    · rename_i h9
      rw [if_pos]
      omega
  have hn : ¬ W p + W q = 0 := by omega
  rw [upd_other _ _ (fun e => hne e.symm)] at c2 t2
  rw [z] at c3 t3
  simp only [if_neg n1, if_neg n2, if_neg hn, if_true] at c1 c2 c3
  unfold rW
  refine ⟨?_, ?_, ?_⟩ <;> omega
end Cd
end Go.Proofs.Ytbjbjbpgmojcbaa
