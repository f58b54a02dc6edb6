/- Plain facts on toks as bytes: what they are read as, and that nothing else is. -/
import Derived.Test.YtbjbjbpgmojcbaaNumsMath
import Derived.Test.YtbjbjbpgmojcbaaToksMath
import Derived.Lib.Strings
namespace Go.Proofs.Ytbjbjbpgmojcbaa.Tk
open Go.Proofs.Ytbjbjbpgmojcbaa

/-- One tok off the bytes: the tok and how many bytes it has. -/
def one (s : ByteArray) : Option (T × Nat) :=
  match Nm.from_ s.data.toList with
  | none => none
  | some x =>
    if x.1 % 2 = 1 then
      match Nm.from_ (s.extract x.2 s.size).data.toList with
      | none => none
      | some y => some (⟨⟨#[]⟩, y.1, (x.1 / 2 : Nat)⟩, x.2 + y.2)
    else if s.size - x.2 < x.1 / 2 then none else some (⟨s.extract x.2 (x.2 + x.1 / 2), 0, 0⟩, x.2 + x.1 / 2)

theorem ext_data (s : ByteArray) (a b : Nat) : (s.extract a b).data.toList = (s.data.toList.drop a).take (b - a) := Lib.extract_data s a b
theorem ext_end (s : ByteArray) (a : Nat) : (s.extract a s.size).data.toList = s.data.toList.drop a := by
  rw [ext_data, List.take_of_length_le]
  rw [List.length_drop]
  simp
theorem ext_size (s : ByteArray) (a : Nat) : (s.extract a s.size).size = s.size - a := by simp

theorem one_pos {s : ByteArray} {t : T} {k : Nat} (h : one s = some (t, k)) : 1 ≤ k ∧ k ≤ s.size := by
  unfold one at h
  cases hf : Nm.from_ s.data.toList with
  | none => rw [hf] at h; simp at h
  | some x =>
    rw [hf] at h
    have hb := Nm.nb_from (n := x.1) (k := x.2) hf
    have hk : x.2 ≤ s.size := by simpa using hb.2.2.1
    simp only at h
    by_cases ho : x.1 % 2 = 1
    · rw [if_pos ho] at h
      cases hg : Nm.from_ (s.extract x.2 s.size).data.toList with
      | none => rw [hg] at h; simp at h
      | some y =>
        rw [hg] at h
        have hb2 := Nm.nb_from (n := y.1) (k := y.2) hg
        rw [ext_end] at hb2
        simp only [Option.some.injEq, Prod.mk.injEq] at h
        have h3 := hb2.2.2.1
        rw [List.length_drop] at h3
        have h4 : s.data.toList.length = s.size := by simp
        omega
    · rw [if_neg ho] at h
      by_cases hl : s.size - x.2 < x.1 / 2
      · rw [if_pos hl] at h; simp at h
      · rw [if_neg hl] at h
        simp only [Option.some.injEq, Prod.mk.injEq] at h
        omega

/-- All toks off the bytes, with fuel. -/
def dec : Nat → ByteArray → Option (List T)
  | 0, s => if s.size = 0 then some [] else none
  | f + 1, s => if s.size = 0 then some [] else
    match one s with
    | none => none
    | some (t, k) => (dec f (s.extract k s.size)).map (t :: ·)

theorem dec_nil (f : Nat) {s : ByteArray} (h : s.size = 0) : dec f s = some [] := by cases f <;> simp [dec, h]

theorem dec_fuel : ∀ (f g : Nat) (s : ByteArray), s.size ≤ f → s.size ≤ g → dec f s = dec g s := by
  intro f
  induction f with
  | zero =>
    intro g s h1 h2
    rw [dec_nil _ (by omega), dec_nil _ (by omega)]
  | succ f ih =>
    intro g s h1 h2
    by_cases h0 : s.size = 0
    · rw [dec_nil _ h0, dec_nil _ h0]
    · cases g with
      | zero => omega
      | succ g =>
        simp only [dec, h0, if_false]
        cases ho : one s with
        | none => rfl
        | some x =>
          obtain ⟨t, k⟩ := x
          have hp := one_pos ho
          simp only
          rw [ih g (s.extract k s.size) (by rw [ext_size]; omega) (by rw [ext_size]; omega)]

/-- All toks off the bytes. -/
def D (s : ByteArray) : Option (List T) := dec s.size s
theorem D_nil {s : ByteArray} (h : s.size = 0) : D s = some [] := dec_nil _ h
theorem D_none {s : ByteArray} (h0 : s.size ≠ 0) (h : one s = none) : D s = none := by
  unfold D
  obtain ⟨n, hn⟩ : ∃ n, s.size = n + 1 := ⟨s.size - 1, by omega⟩
  rw [hn, dec, if_neg (by omega), h]
theorem D_some {s : ByteArray} {t : T} {k : Nat} (h : one s = some (t, k)) : D s = (D (s.extract k s.size)).map (t :: ·) := by
  have hp := one_pos h
  unfold D
  obtain ⟨n, hn⟩ : ∃ n, s.size = n + 1 := ⟨s.size - 1, by omega⟩
  have e : dec s.size s = dec (n + 1) s := by rw [hn]
  rw [e, dec, if_neg (by omega), h]
  simp only
  rw [dec_fuel n (s.extract k s.size).size (s.extract k s.size) (by rw [ext_size]; omega) (Nat.le_refl _)]

/-- Toks that are right make at least a byte each, and at most 512. -/
theorem run_len (d : Nat) : ∀ (l : List T) (s : List UInt8) (p : Bool) (s1 : List UInt8), d ≤ s.length → s.length ≤ d + 512 → run d s p l = (0, s1) → s.length + l.length ≤ s1.length ∧ s1.length ≤ d + 512 := by
  intro l
  induction l with
  | nil => intro s p s1 h1 h2 h; simp [run] at h; subst h; simp; exact h2
  | cons t l ih =>
    intro s p s1 h1 h2 h
    have he : err d s p t = 0 := by
      by_cases e : err d s p t = 0
      · exact e
      · rw [run_bad e] at h
        simp only [Prod.mk.injEq] at h
        exact absurd h.1 e
    rw [run_good he] at h
    have hm := make_ok he
    have h3 := hm.2.2.2.2
    have h5 : 1 ≤ t.lit.size + t.len.toNat := by
      by_cases h0 : t.lit.size = 0
      · have := hm.2.2.1 h0; omega
      · omega
    have := ih (make s t) _ s1 (by omega) (by omega) h
    simp only [List.length_cons]
    omega
end Go.Proofs.Ytbjbjbpgmojcbaa.Tk
