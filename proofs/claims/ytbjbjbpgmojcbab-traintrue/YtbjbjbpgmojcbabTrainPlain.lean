/- Chapter 5 in plain words: where a piece stands, in how many texts, the dictionary that is trained. -/
import Derived.Lib.IndexMore
import Derived.Lib.Bytealg
import GoSem.Op.String
namespace Go.Proofs.Ytbjbjbpgmojcbab
namespace Tr
def xa (xs : List ByteArray) (i : Nat) : ByteArray := xs.getD i ⟨#[]⟩
/-- Whether p stands in t at one of the first k places. -/
def stK (p t : ByteArray) : Nat → Bool
  | 0 => false
  | k + 1 => stK p t k || decide (k + p.size ≤ t.size ∧ t.extract k (k + p.size) = p)
def st (p t : ByteArray) : Bool := stK p t (t.size + 1)
theorem stK_true {p t : ByteArray} {k : Nat} (h : stK p t k = true) : ∀ j, stK p t (k + j) = true := by
  intro j
  induction j with
  | zero => exact h
  | succ j ih => rw [← Nat.add_assoc, stK, ih, Bool.true_or]
theorem stK_end {p t : ByteArray} {k : Nat} (hk : t.size < k + p.size) : ∀ j, stK p t (k + j) = stK p t k := by
  intro j
  induction j with
  | zero => rfl
  | succ j ih => rw [← Nat.add_assoc, stK, ih, decide_eq_false (by omega), Bool.or_false]
/-- In how many of the first k texts. -/
def ctK (xs : List ByteArray) (p : ByteArray) : Nat → Nat
  | 0 => 0
  | k + 1 => ctK xs p k + (if st p (xa xs k) = true then 1 else 0)
theorem ctK_le (xs : List ByteArray) (p : ByteArray) : ∀ k, ctK xs p k ≤ k := by
  intro k
  induction k with
  | zero => exact Nat.le_refl _
  | succ k ih => rw [ctK]; split <;> omega
def ct (xs : List ByteArray) (p : ByteArray) : Nat := ctK xs p xs.length

/- Where it stands. -/
theorem stK_iff {p t : ByteArray} {k : Nat} : stK p t k = true ↔ ∃ i, i < k ∧ i + p.size ≤ t.size ∧ t.extract i (i + p.size) = p := by
  induction k with
  | zero => simp [stK]
  | succ k ih =>
    rw [stK, Bool.or_eq_true, ih, decide_eq_true_iff]
    constructor
    · rintro (⟨i, h1, h2⟩ | h)
      · exact ⟨i, by omega, h2⟩
      · exact ⟨k, by omega, h⟩
    · rintro ⟨i, h1, h2⟩
      by_cases h : i = k
      · subst h; exact .inr h2
      · exact .inl ⟨i, by omega, h2⟩
theorem st_iff {p t : ByteArray} : st p t = true ↔ ∃ i, i + p.size ≤ t.size ∧ t.extract i (i + p.size) = p := by
  rw [st, stK_iff]
  constructor
  · rintro ⟨i, _, h⟩; exact ⟨i, h⟩
  · rintro ⟨i, h⟩; exact ⟨i, by omega, h⟩
theorem st_append {p b d : ByteArray} (h : st p d = true) : st p (b ++ d) = true := by
  obtain ⟨i, h1, h2⟩ := st_iff.1 h
  refine st_iff.2 ⟨b.size + i, by rw [ByteArray.size_append]; omega, ?_⟩
  rw [Nat.add_assoc, ByteArray.extract_append_size_add]; exact h2
theorem st_own (b d : ByteArray) : st b (b ++ d) = true :=
  st_iff.2 ⟨0, by rw [ByteArray.size_append]; omega, ByteArray.extract_append_eq_left (by omega)⟩
theorem ctK_pos {xs : List ByteArray} {p : ByteArray} : ∀ {k : Nat}, 1 ≤ ctK xs p k → ∃ i, i < k ∧ st p (xa xs i) = true
  | 0, h => by simp [ctK] at h
  | k + 1, h => by
    rw [ctK] at h
    by_cases hs : st p (xa xs k) = true
    · exact ⟨k, by omega, hs⟩
    · rw [if_neg hs] at h
      obtain ⟨i, h1, h2⟩ := ctK_pos (k := k) (by omega)
      exact ⟨i, by omega, h2⟩

/- The order of bytes. -/
def bl (a b : ByteArray) : Bool := Op.bytesLess a.toList b.toList
theorem bll_eq : ∀ (x y : List UInt8), Op.bytesLess x y = decide (x < y)
  | [], [] => by simp [Op.bytesLess]
  | _ :: _, [] => by simp [Op.bytesLess]
  | [], _ :: _ => by simp [Op.bytesLess]
  | a :: x, b :: y => by
    rw [Op.bytesLess, bll_eq x y]
    simp only [List.cons_lt_cons_iff]
    by_cases h1 : a < b <;> by_cases h2 : a = b <;> by_cases h3 : x < y <;> simp [h1, h2, h3]
theorem toList_same {a b : ByteArray} (h : a.toList = b.toList) : a = b := by
  rw [ByteArray.toList_eq, ByteArray.toList_eq] at h
  cases a; cases b
  simpa using h
theorem bl_irr (a : ByteArray) : bl a a = false := by rw [bl, bll_eq]; exact decide_eq_false (List.lt_irrefl _)
theorem bl_trans {a b c : ByteArray} (h1 : bl a b = true) (h2 : bl b c = true) : bl a c = true := by
  rw [bl, bll_eq, decide_eq_true_iff] at *
  exact List.lt_trans h1 h2
theorem bl_total {a b : ByteArray} (h1 : bl a b = false) (h2 : bl b a = false) : a = b := by
  rw [bl, bll_eq, decide_eq_false_iff_not] at *
  exact toList_same (List.le_antisymm h2 h1)
theorem cmpB_neg : ∀ (x y : List UInt8), decide (Lib.compareBytes x y < 0) = decide (x < y)
  | [], [] => by simp [Lib.compareBytes]
  | _ :: _, [] => by simp [Lib.compareBytes]
  | [], _ :: _ => by simp [Lib.compareBytes]
  | a :: x, b :: y => by
    rw [Lib.compareBytes]
    simp only [List.cons_lt_cons_iff]
    have ih := cmpB_neg x y
    by_cases h1 : a < b
    · simp [h1]
    · by_cases h2 : b < a
      · have h3 : a ≠ b := by rintro rfl; exact h1 h2
        simp [h1, h2, h3]
      · have h3 : a = b := UInt8.le_antisymm (UInt8.not_lt.1 h2) (UInt8.not_lt.1 h1)
        subst h3
        simpa [List.lt_irrefl] using ih
theorem cmpB_bl (a b : ByteArray) : decide (Lib.compareBytes a.data.toList b.data.toList < 0) = bl a b := by
  rw [cmpB_neg, bl, bll_eq, ByteArray.toList_eq, ByteArray.toList_eq]

/- The order of pieces: falling counts, and of one count rising bytes. -/
def lt (xs : List ByteArray) (a b : ByteArray) : Bool := decide (ct xs b < ct xs a) || (ct xs a == ct xs b && bl a b)
theorem lt_irr (xs : List ByteArray) (a : ByteArray) : lt xs a a = false := by simp [lt, bl_irr]
theorem lt_trans {xs : List ByteArray} {a b c : ByteArray} (h1 : lt xs a b = true) (h2 : lt xs b c = true) : lt xs a c = true := by
  simp only [lt, Bool.or_eq_true, decide_eq_true_iff, Bool.and_eq_true, beq_iff_eq] at *
  rcases h1 with h1 | ⟨e1, h1⟩ <;> rcases h2 with h2 | ⟨e2, h2⟩
  · left; omega
  · left; omega
  · left; omega
  · right; exact ⟨by omega, bl_trans h1 h2⟩
theorem lt_asymm {xs : List ByteArray} {a b : ByteArray} (h1 : lt xs a b = true) : lt xs b a = false := by
  cases h : lt xs b a with
  | false => rfl
  | true => have := lt_trans h1 h; rw [lt_irr] at this; cases this
theorem lt_total {xs : List ByteArray} {a b : ByteArray} (h1 : lt xs a b = false) (h2 : lt xs b a = false) : a = b := by
  simp only [lt, Bool.or_eq_false_iff, decide_eq_false_iff_not, Bool.and_eq_false_iff] at h1 h2
  have e : ct xs a = ct xs b := by omega
  refine bl_total ?_ ?_
  · rcases h1.2 with h | h
    · simp [e] at h
    · exact h
  · rcases h2.2 with h | h
    · simp [e] at h
    · exact h
theorem lt_ntrans {xs : List ByteArray} {a b c : ByteArray} (h1 : lt xs a b = false) (h2 : lt xs b c = false) : lt xs a c = false := by
  cases h : lt xs a c with
  | false => rfl
  | true =>
    cases hb : lt xs b a with
    | true => rw [lt_trans hb h] at h2; cases h2
    | false => rw [lt_total h1 hb, h2] at h; cases h

/- The best piece that does not stand in d yet: as the document has it. -/
def pc (t : ByteArray) (k : Nat) : ByteArray := t.extract k (k + 4)
def bs (xs : List ByteArray) (d : ByteArray) (a : ByteArray × Nat) (p : ByteArray) : ByteArray × Nat :=
  if (decide (a.2 < ct xs p) || (ct xs p == a.2 && decide (1 < ct xs p) && bl p a.1)) && !st p d then (p, ct xs p) else a
def bsR (xs : List ByteArray) (d t : ByteArray) (a : ByteArray × Nat) : Nat → ByteArray × Nat
  | 0 => a
  | k + 1 => bs xs d (bsR xs d t a k) (pc t k)
def bsT (xs : List ByteArray) (d : ByteArray) : Nat → ByteArray × Nat
  | 0 => (⟨#[]⟩, 1)
  | i + 1 => bsR xs d (xa xs i) (bsT xs d i) ((xa xs i).size - 3)
def best (xs : List ByteArray) (d : ByteArray) : ByteArray := (bsT xs d xs.length).1
def tro (xs : List ByteArray) (size : Nat) : Nat → ByteArray → ByteArray
  | 0, d => d
  | f + 1, d => if d.size + 4 ≤ size then (if (best xs d).size = 0 then d else tro xs size f (best xs d ++ d)) else d
def trn (xs : List ByteArray) (size : Nat) : ByteArray := tro xs size 65 ⟨#[]⟩

def ok (xs : List ByteArray) (d p : ByteArray) : Prop := 2 ≤ ct xs p ∧ st p d = false
/-- a is the best of those that S has. -/
def Inv (xs : List ByteArray) (d : ByteArray) (S : ByteArray → Prop) (a : ByteArray × Nat) : Prop :=
  (a = (⟨#[]⟩, 1) ∧ ∀ p, S p → ¬ ok xs d p) ∨ (S a.1 ∧ ok xs d a.1 ∧ a.2 = ct xs a.1 ∧ ∀ p, S p → ok xs d p → p = a.1 ∨ lt xs a.1 p = true)
theorem Inv.step {xs : List ByteArray} {d : ByteArray} {S : ByteArray → Prop} {a : ByteArray × Nat} (h : Inv xs d S a) (p : ByteArray) : Inv xs d (fun q => S q ∨ q = p) (bs xs d a p) := by
  unfold bs
  rcases h with ⟨rfl, h⟩ | ⟨h1, h2, h3, h4⟩
  · split
    · rename_i hc
      simp only [Bool.and_eq_true, Bool.or_eq_true, decide_eq_true_iff, Bool.not_eq_true', beq_iff_eq] at hc
      right
      refine ⟨.inr rfl, ⟨by show 2 ≤ ct xs p; omega, hc.2⟩, rfl, ?_⟩
      rintro q (hq | hq) hk
      · exact absurd hk (h q hq)
      · exact .inl hq
    · rename_i hc
      left
      refine ⟨rfl, ?_⟩
      rintro q (hq | rfl) ⟨k1, k2⟩
      · exact h q hq ⟨k1, k2⟩
      · apply hc
        simp [k2]; left; omega
  · split
    · rename_i hc
      simp only [Bool.and_eq_true, Bool.or_eq_true, decide_eq_true_iff, Bool.not_eq_true', beq_iff_eq] at hc
      right
      have hlt : lt xs p a.1 = true := by
        simp only [lt, Bool.or_eq_true, decide_eq_true_iff, Bool.and_eq_true, beq_iff_eq]
        rcases hc.1 with hc | hc
        · left; omega
        · right; exact ⟨by omega, hc.2⟩
      refine ⟨.inr rfl, ⟨by have := h2.1; show 2 ≤ ct xs p; omega, hc.2⟩, rfl, ?_⟩
      rintro q (hq | hq) hk
      · right
        rcases h4 q hq hk with rfl | h5
        · exact hlt
        · exact lt_trans hlt h5
      · exact .inl hq
    · rename_i hc
      right
      refine ⟨.inl h1, h2, h3, ?_⟩
      rintro q (hq | rfl) hk
      · exact h4 q hq hk
      · cases h5 : lt xs a.1 q with
        | true => exact .inr rfl
        | false =>
          left
          refine lt_total ?_ h5
          cases h6 : lt xs q a.1 with
          | false => rfl
          | true =>
            exfalso; apply hc
            simp only [lt, Bool.or_eq_true, decide_eq_true_iff, Bool.and_eq_true, beq_iff_eq] at h6
            have := hk.1
            rcases h6 with h6 | h6
            · simp [hk.2]; left; omega
            · simp [hk.2]; right; exact ⟨⟨by omega, by omega⟩, h6.2⟩
theorem Inv.mono {xs : List ByteArray} {d : ByteArray} {S T : ByteArray → Prop} {a : ByteArray × Nat} (h : Inv xs d S a) (hST : ∀ p, S p ↔ T p) : Inv xs d T a := by
  rw [show S = T from funext fun p => propext (hST p)] at h; exact h
theorem bsR_inv {xs : List ByteArray} {d t : ByteArray} {S : ByteArray → Prop} {a : ByteArray × Nat} (h : Inv xs d S a) : ∀ k, Inv xs d (fun p => S p ∨ ∃ i, i < k ∧ p = pc t i) (bsR xs d t a k)
  | 0 => h.mono fun p => by simp
  | k + 1 => ((bsR_inv h k).step (pc t k)).mono fun p => by
    constructor
    · rintro ((h | ⟨i, h1, h2⟩) | rfl)
      · exact .inl h
      · exact .inr ⟨i, by omega, h2⟩
      · exact .inr ⟨k, by omega, rfl⟩
    · rintro (h | ⟨i, h1, h2⟩)
      · exact .inl (.inl h)
      · by_cases e : i = k
        · subst e; exact .inr h2
        · exact .inl (.inr ⟨i, by omega, h2⟩)
theorem bsT_inv {xs : List ByteArray} {d : ByteArray} : ∀ k, Inv xs d (fun p => ∃ j, j < k ∧ ∃ i, i < (xa xs j).size - 3 ∧ p = pc (xa xs j) i) (bsT xs d k)
  | 0 => .inl ⟨rfl, by rintro p ⟨j, h, _⟩; omega⟩
  | k + 1 => (bsR_inv (bsT_inv k) _).mono fun p => by
    constructor
    · rintro (⟨j, h1, h2⟩ | h)
      · exact ⟨j, by omega, h2⟩
      · exact ⟨k, by omega, h⟩
    · rintro ⟨j, h1, h2⟩
      by_cases e : j = k
      · subst e; exact .inr h2
      · exact .inl ⟨j, by omega, h2⟩
theorem pc_size {t : ByteArray} {i : Nat} (h : i < t.size - 3) : (pc t i).size = 4 := by rw [pc, ByteArray.size_extract]; omega
/-- Whatever stands in a text is one of the pieces that are looked at. -/
theorem seen {xs : List ByteArray} {p : ByteArray} (h4 : p.size = 4) (h : 1 ≤ ct xs p) : ∃ j, j < xs.length ∧ ∃ i, i < (xa xs j).size - 3 ∧ p = pc (xa xs j) i := by
  obtain ⟨j, h1, h2⟩ := ctK_pos h
  obtain ⟨i, h3, h5⟩ := st_iff.1 h2
  rw [h4] at h3 h5
  exact ⟨j, h1, i, by omega, h5.symm⟩
/-- What the best piece is. -/
theorem best_spec (xs : List ByteArray) (d : ByteArray) :
    ((best xs d) = ⟨#[]⟩ ∧ ∀ p, p.size = 4 → ¬ ok xs d p) ∨ ((best xs d).size = 4 ∧ ok xs d (best xs d) ∧ ∀ p, p.size = 4 → ok xs d p → p = best xs d ∨ lt xs (best xs d) p = true) := by
  rcases bsT_inv (xs := xs) (d := d) xs.length with ⟨h1, h2⟩ | ⟨⟨j, h1, i, h2, h3⟩, h4, h5, h6⟩
  · left
    refine ⟨by rw [best, h1], fun p hp hk => h2 p (seen hp (by have := hk.1; omega)) hk⟩
  · right
    refine ⟨by rw [best, h3]; exact pc_size h2, h4, fun p hp hk => h6 p (seen hp (by have := hk.1; omega)) hk⟩
theorem best_none {xs : List ByteArray} {d : ByteArray} (h : ∀ p, p.size = 4 → ¬ ok xs d p) : (best xs d).size = 0 := by
  rcases best_spec xs d with ⟨h1, _⟩ | ⟨h1, h2, _⟩
  · rw [h1]; rfl
  · exact absurd h2 (h _ h1)
theorem best_is {xs : List ByteArray} {d b : ByteArray} (h4 : b.size = 4) (hb : ok xs d b) (h : ∀ p, p.size = 4 → ok xs d p → p = b ∨ lt xs b p = true) : best xs d = b := by
  rcases best_spec xs d with ⟨_, h2⟩ | ⟨h1, h2, h3⟩
  · exact absurd hb (h2 b h4)
  · rcases h _ h1 h2 with h5 | h5
    · exact h5
    · rcases h3 _ h4 hb with h6 | h6
      · exact h6.symm
      · rw [lt_asymm h5] at h6; cases h6
/-- The pieces, ranked. -/
def Rk (xs L : List ByteArray) : Prop := L.Pairwise (fun a b => lt xs a b = true) ∧ ∀ p, p ∈ L ↔ p.size = 4 ∧ 2 ≤ ct xs p
theorem rk_first {xs L : List ByteArray} {d : ByteArray} (h : Rk xs L) {i : Nat} (hi : i < L.length) (hs : st L[i] d = false) (ha : ∀ k, (hk : k < i) → st (L[k]'(by omega)) d = true) : best xs d = L[i] := by
  have hm := (h.2 L[i]).1 (List.getElem_mem hi)
  refine best_is hm.1 ⟨hm.2, hs⟩ fun p hp hk => ?_
  obtain ⟨k, hk1, rfl⟩ := List.mem_iff_getElem.1 ((h.2 p).2 ⟨hp, hk.1⟩)
  by_cases e1 : k < i
  · have := ha k e1; rw [hk.2] at this; cases this
  · by_cases e2 : k = i
    · subst e2; exact .inl rfl
    · exact .inr (List.pairwise_iff_getElem.1 h.1 i k hi hk1 (by omega))
theorem rk_none {xs L : List ByteArray} {d : ByteArray} (h : Rk xs L) (ha : ∀ k, (hk : k < L.length) → st L[k] d = true) : (best xs d).size = 0 := by
  refine best_none fun p hp hk => ?_
  obtain ⟨k, hk1, rfl⟩ := List.mem_iff_getElem.1 ((h.2 p).2 ⟨hp, hk.1⟩)
  have := ha k hk1; rw [hk.2] at this; cases this

/- What is true of the dictionary. -/
structure Good (xs : List ByteArray) (size : Nat) (d : ByteArray) : Prop where
  four : d.size % 4 = 0
  most : d.size ≤ size
  twice : ∀ x, x < d.size / 4 → 2 ≤ ct xs (d.extract (4 * x) (4 * x + 4))
  apart : ∀ x y, x < d.size / 4 → y < d.size / 4 → x ≠ y → d.extract (4 * x) (4 * x + 4) ≠ d.extract (4 * y) (4 * y + 4)
theorem ext_zero {b d : ByteArray} (hb : b.size = 4) : (b ++ d).extract (4 * 0) (4 * 0 + 4) = b := ByteArray.extract_append_eq_left (by omega)
theorem ext_succ {b d : ByteArray} (hb : b.size = 4) (x : Nat) : (b ++ d).extract (4 * (x + 1)) (4 * (x + 1) + 4) = d.extract (4 * x) (4 * x + 4) := by
  rw [show 4 * (x + 1) + 4 = b.size + (4 * x + 4) by omega, show 4 * (x + 1) = b.size + 4 * x by omega, ByteArray.extract_append_size_add]
theorem Good.step {xs : List ByteArray} {size : Nat} {b d : ByteArray} (h : Good xs size d) (hb : b.size = 4) (hk : ok xs d b) (hs : d.size + 4 ≤ size) : Good xs size (b ++ d) := by
  have e : (b ++ d).size = d.size + 4 := by rw [ByteArray.size_append]; omega
  have h0 := h.four
  have hd : (d.size + 4) / 4 = d.size / 4 + 1 := by omega
  have hne : ∀ x, x < d.size / 4 → b ≠ d.extract (4 * x) (4 * x + 4) := by
    intro x hx he
    have : st b d = true := st_iff.2 ⟨4 * x, by omega, by rw [hb]; exact he.symm⟩
    rw [hk.2] at this; cases this
  refine ⟨by omega, by omega, ?_, ?_⟩
  · rw [e, hd]
    intro x hx
    cases x with
    | zero => rw [ext_zero hb]; exact hk.1
    | succ x => rw [ext_succ hb]; exact h.twice x (by omega)
  · rw [e, hd]
    intro x y hx hy hxy
    cases x with
    | zero =>
      cases y with
      | zero => omega
      | succ y => rw [ext_zero hb, ext_succ hb]; exact hne y (by omega)
    | succ x =>
      cases y with
      | zero => rw [ext_zero hb, ext_succ hb]; exact (hne x (by omega)).symm
      | succ y => rw [ext_succ hb, ext_succ hb]; exact h.apart x y (by omega) (by omega) (by omega)
theorem tro_good {xs : List ByteArray} {size : Nat} : ∀ f {d : ByteArray}, Good xs size d → Good xs size (tro xs size f d)
  | 0, d, h => h
  | f + 1, d, h => by
    rw [tro]
    split
    · rename_i hs
      split
      · exact h
      · rename_i hz
        rcases best_spec xs d with ⟨h1, _⟩ | ⟨h1, h2, _⟩
        · rw [h1] at hz; exact absurd rfl hz
        · exact tro_good f (h.step h1 h2 hs)
    · exact h
theorem trn_good (xs : List ByteArray) (size : Nat) : Good xs size (trn xs size) :=
  tro_good 65 ⟨rfl, Nat.zero_le _, fun x hx => absurd hx (by show ¬ x < 0 / 4; omega), fun x _ hx => absurd hx (by show ¬ x < 0 / 4; omega)⟩
theorem tro_step {xs : List ByteArray} {size f : Nat} {d : ByteArray} (hs : d.size + 4 ≤ size) (hb : (best xs d).size = 4) : tro xs size (f + 1) d = tro xs size f (best xs d ++ d) := by
  rw [tro, if_pos hs, if_neg (by omega)]
theorem tro_none {xs : List ByteArray} {size f : Nat} {d : ByteArray} (hb : (best xs d).size = 0) : tro xs size f d = d := by
  cases f with
  | zero => rfl
  | succ f => rw [tro, if_pos hb]; split <;> rfl
theorem tro_full {xs : List ByteArray} {size f : Nat} {d : ByteArray} (hs : size < d.size + 4) : tro xs size f d = d := by
  cases f with
  | zero => rfl
  | succ f => rw [tro, if_neg (by omega)]
end Tr
end Go.Proofs.Ytbjbjbpgmojcbab
