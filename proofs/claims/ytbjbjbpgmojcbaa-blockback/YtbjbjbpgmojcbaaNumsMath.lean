/- Plain facts on numbers as bytes (lists of bytes alone, no program): what chapter 1 calls the bytes of a number, what a text begins with, and the sum. Conditions: none beside those that each fact bears. -/
namespace Go.Proofs.Ytbjbjbpgmojcbaa.Nm

/-- The bytes of a number, with fuel (five are enough for every number that may be). -/
def nbGo : Nat → Nat → List UInt8
  | 0, n => [UInt8.ofNat n]
  | f + 1, n => if n < 128 then [UInt8.ofNat n] else UInt8.ofNat (128 + n % 128) :: nbGo f (n / 128)

/-- The bytes of a number. -/
def nb (n : Nat) : List UInt8 := nbGo n n

theorem nbGo_fuel : ∀ (f g n : Nat), n ≤ f → n ≤ g → nbGo f n = nbGo g n := by
  intro f
  induction f with
  | zero =>
    intro g n hf hg
    have : n = 0 := by omega
    subst this
    cases g <;> simp [nbGo]
  | succ f ih =>
    intro g n hf hg
    cases g with
    | zero =>
      have : n = 0 := by omega
      subst this
      simp [nbGo]
    | succ g =>
      simp only [nbGo]
      by_cases h : n < 128
      · simp [h]
      · simp only [h, if_false]
        rw [ih g (n / 128) (by omega) (by omega)]

theorem nb_lt {n : Nat} (h : n < 128) : nb n = [UInt8.ofNat n] := by
  unfold nb
  cases n with
  | zero => rfl
  | succ n => simp [nbGo, h]

theorem nb_ge {n : Nat} (h : 128 ≤ n) : nb n = UInt8.ofNat (128 + n % 128) :: nb (n / 128) := by
  unfold nb
  obtain ⟨m, rfl⟩ : ∃ m, n = m + 1 := ⟨n - 1, by omega⟩
  rw [nbGo, if_neg (by omega), nbGo_fuel m ((m + 1) / 128) ((m + 1) / 128) (by omega) (by omega)]

theorem nb_ne (n : Nat) : nb n ≠ [] := by
  by_cases h : n < 128
  · rw [nb_lt h]; simp
  · rw [nb_ge (by omega)]; simp

/-- A number below 128^k has at most k bytes. -/
theorem nb_len_le : ∀ (k n : Nat), n < 128 ^ (k + 1) → (nb n).length ≤ k + 1 := by
  intro k
  induction k with
  | zero => intro n h; rw [nb_lt (by simpa using h)]; simp
  | succ k ih =>
    intro n h
    by_cases h2 : n < 128
    · rw [nb_lt h2]; simp
    · rw [nb_ge (by omega), List.length_cons]
      have := ih (n / 128) (by
        rw [Nat.pow_succ] at h
        exact (Nat.div_lt_iff_lt_mul (by omega)).2 h)
      omega

theorem nb_len5 (n : Nat) (h : n ≤ 2147483647) : (nb n).length ≤ 5 := nb_len_le 4 n (by omega)

theorem nb_len_pos (n : Nat) : 1 ≤ (nb n).length := by
  have := nb_ne n
  cases h : nb n with
  | nil => exact absurd h this
  | cons a l => simp

/-- What the parts of some bytes come to. -/
def val : List UInt8 → Nat
  | [] => 0
  | b :: t => b.toNat % 128 + 128 * val t

theorem val_snoc (p : List UInt8) (b : UInt8) : val (p ++ [b]) = val p + b.toNat % 128 * 128 ^ p.length := by
  induction p with
  | nil => simp [val]
  | cons a p ih =>
    simp only [List.cons_append, val, ih, List.length_cons, Nat.pow_succ, Nat.mul_add]
    rw [show b.toNat % 128 * (128 ^ p.length * 128) = 128 * (b.toNat % 128 * 128 ^ p.length) by
      rw [← Nat.mul_assoc, Nat.mul_comm]]
    omega

theorem val_lt (p : List UInt8) : val p < 128 ^ p.length := by
  induction p with
  | nil => simp [val]
  | cons a p ih =>
    simp only [val, List.length_cons, Nat.pow_succ]
    have : a.toNat % 128 < 128 := Nat.mod_lt _ (by omega)
    omega

/-- The bytes up to the first one below 128, if there is one among the first k. -/
def pre : Nat → List UInt8 → Option (List UInt8)
  | 0, _ => none
  | _ + 1, [] => none
  | k + 1, b :: t => if b.toNat < 128 then some [b] else (pre k t).map (b :: ·)

theorem pre_none : ∀ (k : Nat) (l : List UInt8), (∀ j, j < k → ∀ b, l[j]? = some b → 128 ≤ b.toNat) → pre k l = none := by
  intro k
  induction k with
  | zero => intro l _; cases l <;> rfl
  | succ k ih =>
    intro l h
    cases l with
    | nil => rfl
    | cons b t =>
      have hb := h 0 (by omega) b rfl
      rw [pre, if_neg (by omega), ih t (fun j hj c hc => h (j + 1) (by omega) c (by simpa using hc))]
      rfl

theorem pre_some : ∀ (k i : Nat) (l : List UInt8) (b : UInt8), i < k → l[i]? = some b → b.toNat < 128 →
    (∀ j, j < i → ∀ c, l[j]? = some c → 128 ≤ c.toNat) → pre k l = some (l.take (i + 1)) := by
  intro k
  induction k with
  | zero => intro i l b h; omega
  | succ k ih =>
    intro i l b hi hb hlt h
    cases l with
    | nil => simp at hb
    | cons c t =>
      cases i with
      | zero =>
        simp at hb
        subst hb
        simp [pre, hlt]
      | succ i =>
        have hc := h 0 (by omega) c rfl
        rw [pre, if_neg (by omega), ih i t b (by omega) (by simpa using hb) hlt (fun j hj d hd => h (j + 1) (by omega) d (by simpa using hd))]
        rfl

/-- The number with whose bytes a text begins, and how many bytes it has. -/
def from_ (l : List UInt8) : Option (Nat × Nat) :=
  match pre 5 l with
  | none => none
  | some p => if val p ≤ 2147483647 ∧ nb (val p) = p then some (val p, p.length) else none

/-- The last of the bytes is a 0 that could be spared. -/
def spare (p : List UInt8) : Prop := 1 < p.length ∧ p.getLast? = some 0

theorem pre_shape : ∀ (k : Nat) (l p : List UInt8), pre k l = some p →
    ∃ q b, p = q ++ [b] ∧ b.toNat < 128 ∧ (∀ c ∈ q, 128 ≤ c.toNat) ∧ l = p ++ l.drop p.length ∧ p.length ≤ k := by
  intro k
  induction k with
  | zero => intro l p h; simp [pre] at h
  | succ k ih =>
    intro l p h
    cases l with
    | nil => simp [pre] at h
    | cons b t =>
      by_cases hb : b.toNat < 128
      · simp [pre, hb] at h
        subst h
        exact ⟨[], b, rfl, hb, by simp, by simp, by simp⟩
      · rw [pre, if_neg hb] at h
        cases hp : pre k t with
        | none => rw [hp] at h; simp at h
        | some p' =>
          rw [hp] at h
          simp at h
          subst h
          obtain ⟨q, c, rfl, h1, h2, h3, h4⟩ := ih t p' hp
          refine ⟨b :: q, c, by simp, h1, ?_, ?_, ?_⟩
          · intro d hd
            rcases List.mem_cons.1 hd with rfl | hd
            · omega
            · exact h2 d hd
          · simp only [List.cons_append, List.length_cons, List.drop_succ_cons]
            rw [← h3]
          · simp only [List.length_cons]; omega

theorem u8_ofNat_toNat (b : UInt8) : UInt8.ofNat b.toNat = b := by simp

theorem u8_part (b : UInt8) (h : 128 ≤ b.toNat) : UInt8.ofNat (128 + b.toNat % 128) = b := by
  have h2 := b.toNat_lt
  have : 128 + b.toNat % 128 = b.toNat := by omega
  rw [this, u8_ofNat_toNat]

/-- Parts and one last byte below 128 are the bytes of what they come to, unless the last one could be spared. -/
theorem nb_val : ∀ (q : List UInt8) (b : UInt8), b.toNat < 128 → (∀ c ∈ q, 128 ≤ c.toNat) → (q = [] ∨ b ≠ 0) → nb (val (q ++ [b])) = q ++ [b] := by
  intro q
  induction q with
  | nil =>
    intro b hb _ _
    simp only [List.nil_append, val, Nat.mul_zero, Nat.add_zero]
    rw [Nat.mod_eq_of_lt hb, nb_lt hb, u8_ofNat_toNat]
  | cons c q ih =>
    intro b hb hq h0
    have hb0 : b ≠ 0 := by
      rcases h0 with h0 | h0
      · simp at h0
      · exact h0
    have hc := hq c (by simp)
    have ih' := ih b hb (fun d hd => hq d (by simp [hd])) (Or.inr hb0)
    have hpos : 1 ≤ val (q ++ [b]) := by
      rw [val_snoc]
      have : 1 ≤ b.toNat % 128 := by
        rw [Nat.mod_eq_of_lt hb]
        rcases Nat.eq_zero_or_pos b.toNat with h | h
        · exact absurd (by simpa using congrArg UInt8.ofNat h) hb0
        · exact h
      have h2 : 1 ≤ 128 ^ q.length := Nat.pow_pos (by omega)
      have := Nat.mul_le_mul this h2
      omega
    simp only [List.cons_append, val]
    rw [nb_ge (by omega)]
    rw [show (c.toNat % 128 + 128 * val (q ++ [b])) % 128 = c.toNat % 128 by omega,
      show (c.toNat % 128 + 128 * val (q ++ [b])) / 128 = val (q ++ [b]) by omega, u8_part c hc, ih']

theorem nb_last_ne : ∀ (f n : Nat), n ≤ f → 128 ≤ n → ∃ q b, nb n = q ++ [b] ∧ b ≠ 0 := by
  intro f
  induction f with
  | zero => intro n h1 h2; omega
  | succ f ih =>
    intro n h1 h2
    rw [nb_ge h2]
    by_cases h : n / 128 < 128
    · rw [nb_lt h]
      refine ⟨[UInt8.ofNat (128 + n % 128)], UInt8.ofNat (n / 128), rfl, ?_⟩
      intro e
      have := congrArg UInt8.toNat e
      simp at this
      omega
    · obtain ⟨q, b, hq, hb⟩ := ih (n / 128) (by omega) (by omega)
      exact ⟨UInt8.ofNat (128 + n % 128) :: q, b, by rw [hq]; rfl, hb⟩

theorem nb_spare (q : List UInt8) (h : q ≠ []) (n : Nat) : nb n ≠ q ++ [0] := by
  intro e
  by_cases hn : n < 128
  · rw [nb_lt hn] at e
    have := congrArg List.length e
    simp at this
    exact h this
  · obtain ⟨q', b, hq, hb⟩ := nb_last_ne n n (Nat.le_refl _) (by omega)
    rw [hq] at e
    have := List.append_inj' e rfl
    simp at this
    exact hb this.2

/-- What the bytes of a number come to. -/
theorem val_nb : ∀ (f n : Nat), n ≤ f → val (nb n) = n := by
  intro f
  induction f with
  | zero =>
    intro n h
    have : n = 0 := by omega
    subst this
    rw [nb_lt (by omega)]; simp [val]
  | succ f ih =>
    intro n h
    by_cases hn : n < 128
    · rw [nb_lt hn]
      simp only [val, UInt8.toNat_ofNat']
      omega
    · rw [nb_ge (by omega)]
      simp only [val, UInt8.toNat_ofNat']
      rw [ih (n / 128) (by omega)]
      omega

theorem pre_nb : ∀ (k n : Nat) (r : List UInt8), (nb n).length ≤ k → pre k (nb n ++ r) = some (nb n) := by
  intro k
  induction k with
  | zero => intro n r h; have := nb_len_pos n; omega
  | succ k ih =>
    intro n r h
    by_cases hn : n < 128
    · rw [nb_lt hn]
      simp only [List.cons_append, List.nil_append, pre, UInt8.toNat_ofNat']
      rw [if_pos (by omega)]
    · rw [nb_ge (by omega)] at h ⊢
      simp only [List.length_cons] at h
      simp only [List.cons_append, pre, UInt8.toNat_ofNat']
      rw [if_neg (by omega), ih (n / 128) r (by omega)]
      rfl

/-- TAKE OF PUT, WITH WHATEVER BEHIND, IS THE NUMBER. -/
theorem from_nb (n : Nat) (r : List UInt8) (h : n ≤ 2147483647) : from_ (nb n ++ r) = some (n, (nb n).length) := by
  unfold from_
  rw [pre_nb 5 n r (nb_len5 n h)]
  simp only [val_nb n n (Nat.le_refl _)]
  simp [h]

/-- What is taken is what was put. -/
theorem nb_from {l : List UInt8} {n k : Nat} (h : from_ l = some (n, k)) : n ≤ 2147483647 ∧ nb n = l.take k ∧ k ≤ l.length ∧ 1 ≤ k ∧ k ≤ 5 := by
  unfold from_ at h
  cases hp : pre 5 l with
  | none => rw [hp] at h; simp at h
  | some p =>
    rw [hp] at h
    simp only at h
    by_cases hc : val p ≤ 2147483647 ∧ nb (val p) = p
    · rw [if_pos hc] at h
      simp only [Option.some.injEq, Prod.mk.injEq] at h
      obtain ⟨rfl, rfl⟩ := h
      obtain ⟨q, b, hqb, _, _, h3, h4⟩ := pre_shape 5 l p hp
      refine ⟨hc.1, ?_, ?_, ?_, h4⟩
      · rw [hc.2]
        conv => rhs; rw [h3]
        simp
      · rw [h3]; simp
      · rw [hqb]; simp
    · rw [if_neg hc] at h; simp at h

/-- The same by the code's own test. -/
theorem from_of (l : List UInt8) (i : Nat) (b : UInt8) (hi : i < 5) (hb : l[i]? = some b) (hlt : b.toNat < 128)
    (h : ∀ j, j < i → ∀ c, l[j]? = some c → 128 ≤ c.toNat) :
    from_ l = if (b = 0 ∧ 0 < i) ∨ 2147483647 < val (l.take (i + 1)) then none else some (val (l.take (i + 1)), i + 1) := by
  have hp := pre_some 5 i l b hi hb hlt h
  have hil : i < l.length := by
    rcases Nat.lt_or_ge i l.length with h | h
    · exact h
    · rw [List.getElem?_eq_none h] at hb; simp at hb
  have ht : l.take (i + 1) = l.take i ++ [b] := by
    rw [List.take_succ_eq_append_getElem hil]
    congr 1
    rw [List.getElem?_eq_getElem hil] at hb
    simpa using hb
  have hlen : (l.take (i + 1)).length = i + 1 := by simp; omega
  unfold from_
  rw [hp]
  simp only
  by_cases hv : 2147483647 < val (l.take (i + 1))
  · rw [if_neg (by omega), if_pos (Or.inr hv)]
  · by_cases hs : b = 0 ∧ 0 < i
    · rw [if_pos (Or.inl hs), if_neg]
      intro hc
      have h2 := hc.2
      rw [ht, hs.1] at h2
      exact nb_spare (l.take i) (by intro e; have := congrArg List.length e; rw [List.length_take, List.length_nil] at this; omega) _ h2
    · have hn : ¬((b = 0 ∧ 0 < i) ∨ 2147483647 < val (l.take (i + 1))) := by
        rintro (h | h)
        · exact hs h
        · exact hv h
      rw [if_neg hn, if_pos, hlen]
      refine ⟨by omega, ?_⟩
      rw [ht]
      refine nb_val (l.take i) b hlt ?_ ?_
      · intro c hc
        obtain ⟨j, hj, rfl⟩ := List.getElem_of_mem hc
        have hj2 : j < i := by simp at hj; omega
        refine h j hj2 _ ?_
        rw [List.getElem_take]
        exact List.getElem?_eq_getElem _
      · by_cases hi0 : i = 0
        · left; subst hi0; simp
        · right; intro e; exact hs ⟨e, by omega⟩

theorem from_of2 (l : List UInt8) (i : Nat) (b : UInt8) (hi : i < 5) (hb : l[i]? = some b) (hlt : b.toNat < 128)
    (h : ∀ j, j < i → ∀ c, l[j]? = some c → 128 ≤ c.toNat) :
    from_ l = if val (l.take (i + 1)) ≤ 2147483647 ∧ nb (val (l.take (i + 1))) = l.take (i + 1) then some (val (l.take (i + 1)), i + 1) else none := by
  have hil : i < l.length := by
    rcases Nat.lt_or_ge i l.length with h | h
    · exact h
    · rw [List.getElem?_eq_none h] at hb; simp at hb
  have hlen : (l.take (i + 1)).length = i + 1 := by simp; omega
  unfold from_
  rw [pre_some 5 i l b hi hb hlt h]
  simp only [hlen]

theorem from_none (l : List UInt8) (h : ∀ j, j < 5 → ∀ b, l[j]? = some b → 128 ≤ b.toNat) : from_ l = none := by
  unfold from_
  rw [pre_none 5 l h]

theorem ba_app (a b : List UInt8) : (⟨a.toArray⟩ : ByteArray) ++ ⟨b.toArray⟩ = ⟨(a ++ b).toArray⟩ := by
  apply ByteArray.ext
  simp

theorem ba_list (s : ByteArray) : (⟨s.data.toList.toArray⟩ : ByteArray) = s := by
  apply ByteArray.ext
  simp

theorem ext_le {s : ByteArray} {a b X : Nat} (h : s.size ≤ X) : (s.extract a b).size ≤ X := by simp; omega

theorem appd (a b : ByteArray) : (a ++ b).data.toList = a.data.toList ++ b.data.toList := by simp
theorem apps (a b : ByteArray) : (a ++ b).size = a.size + b.size := by simp

theorem ba_ext {a b : ByteArray} (h : a.data.toList = b.data.toList) : a = b := by
  apply ByteArray.ext
  exact Array.toList_inj.1 h

theorem at_list (s : ByteArray) (k : Nat) (h : k < s.size) : s.data.toList[k]? = some s[k] := by
  rw [List.getElem?_eq_getElem (by simpa using h)]
  rfl

theorem val_take (s : ByteArray) (k : Nat) (h : k < s.size) : val (s.data.toList.take (k + 1)) = val (s.data.toList.take k) + s[k].toNat % 128 * 2 ^ (7 * k) := by
  have hl : k < s.data.toList.length := by simpa using h
  rw [List.take_succ_eq_append_getElem hl, val_snoc, List.length_take, Nat.min_eq_left (by omega), Nat.pow_mul]
  rfl

/-- The number with whose bytes s begins (0, if with none). -/
def num (s : ByteArray) : Nat := match from_ s.data.toList with | none => 0 | some x => x.1
/-- How many bytes it has (0, if s begins with none). -/
def size (s : ByteArray) : Nat := match from_ s.data.toList with | none => 0 | some x => x.2

/-- What is behind it. -/
def rest (s : ByteArray) : ByteArray := match from_ s.data.toList with | none => ⟨#[]⟩ | some x => s.extract x.2 s.size
/-- Does s begin with a number? -/
def is (s : ByteArray) : Bool := (from_ s.data.toList).isSome
theorem rest_none {s : ByteArray} (h : from_ s.data.toList = none) : rest s = ⟨#[]⟩ ∧ is s = false := by simp [rest, is, h]
theorem rest_some {s : ByteArray} {n k : Nat} (h : from_ s.data.toList = some (n, k)) : rest s = s.extract k s.size ∧ is s = true := by simp [rest, is, h]

theorem num_none {s : ByteArray} (h : from_ s.data.toList = none) : num s = 0 ∧ size s = 0 := by simp [num, size, h]
theorem num_some {s : ByteArray} {n k : Nat} (h : from_ s.data.toList = some (n, k)) : num s = n ∧ size s = k := by simp [num, size, h]

/-- The sum of all bytes, each times its place. -/
def sumGo : Nat → List UInt8 → Nat → Nat
  | _, [], a => a
  | i, b :: t, a => sumGo (i + 1) t ((a + b.toNat * ((i + 1) % 65536)) % 65536)

end Go.Proofs.Ytbjbjbpgmojcbaa.Nm
