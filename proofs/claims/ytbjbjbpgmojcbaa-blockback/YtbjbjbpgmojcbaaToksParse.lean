/- Plain facts on parsing (no program): the longest copy, the nearest of several; the toks of a text. -/
import Derived.Test.YtbjbjbpgmojcbaaToksFind
import Derived.Test.YtbjbjbpgmojcbaaToksMath
namespace Go.Proofs.Ytbjbjbpgmojcbaa.Tk

/-- Three bytes from a place on. -/
def win (l : List UInt8) (i : Nat) : List UInt8 := (l.drop i).take 3
/-- Where, below r, three bytes stand. -/
def plc (l k : List UInt8) (r : Nat) : List Nat := (List.range r).filter (fun p => win l p == k)

theorem plc_succ (l k : List UInt8) (r : Nat) : plc l k (r + 1) = plc l k r ++ (if win l r = k then [r] else []) := by
  unfold plc
  rw [List.range_succ, List.filter_append]
  congr 1
  by_cases h : win l r = k
  · simp [h]
  · simp [h]
theorem plc_lt {l k : List UInt8} {r p : Nat} (h : p ∈ plc l k r) : p < r := by
  unfold plc at h
  exact List.mem_range.1 (List.mem_filter.1 h).1
theorem plc_len (l k : List UInt8) (r : Nat) : (plc l k r).length ≤ r := by
  unfold plc
  exact Nat.le_trans (List.length_filter_le _ _) (by simp)

/-- One place more: (far, how many). -/
def stp (l : List UInt8) (a m : Nat) (b : Nat × Nat) (p : Nat) : Nat × Nat := if b.2 < alk l p a m then (a - p, alk l p a m) else b

theorem stp_full {l : List UInt8} {a m : Nat} {b : Nat × Nat} (h : m ≤ b.2) (p : Nat) : stp l a m b p = b := by
  unfold stp
  have := alk_le l m p a
  rw [if_neg (by omega)]
theorem over_full {l : List UInt8} {a m : Nat} {b : Nat × Nat} (h : m ≤ b.2) : ∀ L : List Nat, L.foldl (stp l a m) b = b := by
  intro L
  induction L with
  | nil => rfl
  | cons p L ih => rw [List.foldl_cons, stp_full h, ih]

theorem alk_ge (l : List UInt8) : ∀ (m a b n : Nat), n ≤ m → (∀ j, j < n → l[a + j]? = l[b + j]?) → n ≤ alk l a b m := by
  intro m
  induction m with
  | zero => intro a b n h _; omega
  | succ m ih =>
    intro a b n h hj
    cases n with
    | zero => omega
    | succ n =>
      rw [alk, if_pos (by simpa using hj 0 (by omega))]
      have := ih (a + 1) (b + 1) n (by omega) (fun j h2 => by
        have := hj (j + 1) (by omega)
        rwa [show a + (j + 1) = a + 1 + j by omega, show b + (j + 1) = b + 1 + j by omega] at this)
      omega

theorem win_at (l : List UInt8) (i j : Nat) : (win l i)[j]? = if j < 3 then l[i + j]? else none := by
  unfold win
  rw [List.getElem?_take]
  split
  · rw [List.getElem?_drop]
  · rfl
theorem win_iff {l : List UInt8} {p a m : Nat} (hm : 3 ≤ m) : win l p = win l a ↔ 3 ≤ alk l p a m := by
  constructor
  · intro h
    refine alk_ge l m p a 3 hm (fun j hj => ?_)
    have h1 := win_at l p j
    have h2 := win_at l a j
    rw [if_pos hj] at h1 h2
    rw [← h1, ← h2, h]
  · intro h
    apply List.ext_getElem?
    intro j
    rw [win_at, win_at]
    split
    · exact alk_same l m p a j (by omega)
    · rfl

/-- The places with the same three bytes are enough. -/
theorem over_filter (l : List UInt8) (a m : Nat) (hm : 3 ≤ m) : ∀ (L : List Nat) (b b' : Nat × Nat), ((b.2 < 3 ∧ b' = (0, 0)) ∨ (3 ≤ b.2 ∧ b' = b)) →
    (((L.foldl (stp l a m) b).2 < 3 ∧ (L.filter (fun p => win l p == win l a)).foldl (stp l a m) b' = (0, 0)) ∨ (3 ≤ (L.foldl (stp l a m) b).2 ∧ (L.filter (fun p => win l p == win l a)).foldl (stp l a m) b' = L.foldl (stp l a m) b)) := by
  intro L
  induction L with
  | nil => intro b b' h; simpa using h
  | cons p L ih =>
    intro b b' h
    rw [List.foldl_cons, List.filter_cons]
    by_cases hw : win l p = win l a
    · have hk := (win_iff (l := l) (p := p) (a := a) hm).1 hw
      rw [if_pos (by simpa using hw), List.foldl_cons]
      apply ih
      rcases h with ⟨h1, rfl⟩ | ⟨h1, rfl⟩
      · right
        unfold stp
        rw [if_pos (by omega), if_pos (by simp; omega)]
        exact ⟨hk, rfl⟩
      · right
        refine ⟨?_, rfl⟩
        unfold stp
        split
        · exact hk
        · exact h1
    · have hk : ¬ 3 ≤ alk l p a m := fun e => hw ((win_iff hm).2 e)
      rw [if_neg (by simpa using hw)]
      apply ih
      rcases h with ⟨h1, rfl⟩ | ⟨h1, rfl⟩
      · left
        refine ⟨?_, rfl⟩
        unfold stp
        split
        · show alk l p a m < 3; omega
        · exact h1
      · right
        unfold stp
        rw [if_neg (by omega)]
        exact ⟨h1, rfl⟩

/-- How many bytes a copy may have, at a place. -/
def most (l : List UInt8) (a : Nat) : Nat := min 64 (l.length - a)
/-- All Fars tried, the nearest first: (far, how many). -/
def bst (l : List UInt8) (a : Nat) : Nat × Nat := (List.range a).reverse.foldl (stp l a (most l a)) (0, 0)
/-- Those tried that have the same three bytes; none, where there are no three. -/
def lng (l : List UInt8) (a : Nat) : Nat × Nat := if most l a < 3 then (0, 0) else (plc l (win l a) a).reverse.foldl (stp l a (most l a)) (0, 0)

theorem over_le (l : List UInt8) (a m : Nat) : ∀ (L : List Nat) (b : Nat × Nat), (∀ p ∈ L, p < a) → b.2 ≤ m → (b = (0, 0) ∨ (1 ≤ b.1 ∧ b.1 ≤ a ∧ 1 ≤ b.2 ∧ b.2 = alk l (a - b.1) a m)) →
    (L.foldl (stp l a m) b).2 ≤ m ∧ (L.foldl (stp l a m) b = (0, 0) ∨ (1 ≤ (L.foldl (stp l a m) b).1 ∧ (L.foldl (stp l a m) b).1 ≤ a ∧ 1 ≤ (L.foldl (stp l a m) b).2 ∧ (L.foldl (stp l a m) b).2 = alk l (a - (L.foldl (stp l a m) b).1) a m)) := by
  intro L
  induction L with
  | nil => intro b _ h1 h2; exact ⟨h1, h2⟩
  | cons p L ih =>
    intro b hL h1 h2
    have hp := hL p (by simp)
    rw [List.foldl_cons]
    apply ih _ (fun q hq => hL q (by simp [hq]))
    · unfold stp
      split
      · exact alk_le l m p a
      · exact h1
    · unfold stp
      split
      · right
        rename_i h
        refine ⟨by simp; omega, by simp, by simp; omega, ?_⟩
        show alk l p a m = alk l (a - (a - p)) a m
        rw [show a - (a - p) = p by omega]
      · exact h2

theorem bst_ok (l : List UInt8) (a : Nat) : (bst l a).2 ≤ most l a ∧ (bst l a = (0, 0) ∨ (1 ≤ (bst l a).1 ∧ (bst l a).1 ≤ a ∧ 1 ≤ (bst l a).2 ∧ (bst l a).2 = alk l (a - (bst l a).1) a (most l a))) := by
  unfold bst
  exact over_le l a _ _ _ (fun p hp => by simpa using hp) (by simp) (Or.inl rfl)

theorem lng_bst (l : List UInt8) (a : Nat) : ((bst l a).2 < 3 ∧ lng l a = (0, 0)) ∨ (3 ≤ (bst l a).2 ∧ lng l a = bst l a) := by
  have hb := (bst_ok l a).1
  unfold lng
  by_cases h : most l a < 3
  · rw [if_pos h]
    left
    exact ⟨by omega, rfl⟩
  · rw [if_neg h]
    unfold plc bst
    rw [← List.filter_reverse]
    exact over_filter l a _ (by omega) _ _ _ (Or.inl ⟨by simp, rfl⟩)

/-- A Lit of the bytes from .. to. -/
def lay (s : ByteArray) (f a : Nat) : List T := if f < a then [⟨s.extract f a, 0, 0⟩] else []

/-- The toks from a place on; from f on bytes are not laid yet. -/
def prs (s : ByteArray) : Nat → Nat → Nat → List T
  | 0, a, f => lay s f a
  | n + 1, a, f => if a < s.size then (if (bst s.data.toList a).2 < 3 then prs s n (a + 1) f else lay s f a ++ ⟨⟨#[]⟩, ((bst s.data.toList a).1 : Nat), ((bst s.data.toList a).2 : Nat)⟩ :: prs s n (a + (bst s.data.toList a).2) (a + (bst s.data.toList a).2)) else lay s f a

theorem prs_fuel (s : ByteArray) : ∀ (n k a f : Nat), s.size - a ≤ n → s.size - a ≤ k → prs s n a f = prs s k a f := by
  intro n
  induction n with
  | zero =>
    intro k a f h _
    cases k with
    | zero => rfl
    | succ k => rw [prs, prs, if_neg (by omega)]
  | succ n ih =>
    intro k a f h1 h2
    cases k with
    | zero => rw [prs, prs, if_neg (by omega)]
    | succ k =>
      rw [prs, prs]
      by_cases ha : a < s.size
      · rw [if_pos ha, if_pos ha]
        by_cases hb : (bst s.data.toList a).2 < 3
        · rw [if_pos hb, if_pos hb, ih k (a + 1) f (by omega) (by omega)]
        · rw [if_neg hb, if_neg hb, ih k _ _ (by omega) (by omega)]
      · rw [if_neg ha, if_neg ha]

def P (s : ByteArray) (a f : Nat) : List T := prs s (s.size - a) a f

theorem P_end {s : ByteArray} {a f : Nat} (h : s.size ≤ a) : P s a f = lay s f a := by
  unfold P
  rw [show s.size - a = 0 by omega, prs]
theorem P_lit {s : ByteArray} {a f : Nat} (h : a < s.size) (hb : (bst s.data.toList a).2 < 3) : P s a f = P s (a + 1) f := by
  unfold P
  rw [show s.size - a = (s.size - (a + 1)) + 1 by omega, prs, if_pos h, if_pos hb]
theorem P_copy {s : ByteArray} {a f : Nat} (h : a < s.size) (hb : ¬ (bst s.data.toList a).2 < 3) : P s a f = lay s f a ++ ⟨⟨#[]⟩, ((bst s.data.toList a).1 : Nat), ((bst s.data.toList a).2 : Nat)⟩ :: P s (a + (bst s.data.toList a).2) (a + (bst s.data.toList a).2) := by
  unfold P
  rw [show s.size - a = (s.size - (a + 1)) + 1 by omega, prs, if_pos h, if_neg hb]
  rw [prs_fuel s (s.size - (a + 1)) (s.size - (a + (bst s.data.toList a).2)) _ _ (by omega) (by omega)]
end Go.Proofs.Ytbjbjbpgmojcbaa.Tk
