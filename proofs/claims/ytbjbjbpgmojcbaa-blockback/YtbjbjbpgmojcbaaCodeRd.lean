/- What code.Read tells (plain). -/
import Derived.Test.YtbjbjbpgmojcbaaCodeEnded
namespace Go.Proofs.Ytbjbjbpgmojcbaa.Cd

theorem sgn_le {f ws : Nat → Int} {b : ByteArray} : ∀ (m : Nat) (n word : Int) (a : Nat), a ≤ 8 * b.size → (sgn f ws b m n word a).2 ≤ 8 * b.size := by
  intro m
  induction m with
  | zero => intro n word a h; exact h
  | succ m ih =>
    intro n word a h
    by_cases h0 : 8 * b.size ≤ a
    · rw [sgn_end h0]; exact h
    · cases h1 : fnd f ws n (2 * word + bitAt b a) with
      | none => rw [sgn_none h0 h1]; exact ih _ _ _ (by omega)
      | some s => rw [sgn_some h0 h1]; show a + 1 ≤ _; omega
/-- One sign off the bits, from bit a on. -/
def s15 (f : Nat → Int) (b : ByteArray) (a : Nat) : Int × Nat := sgn f (wds f) b 15 1 0 a
/-- The first k bytes, and where the next one begins. -/
def rdK (f : Nat → Int) (b : ByteArray) : Nat → Option (List UInt8 × Nat)
  | 0 => some ([], 0)
  | k + 1 => match rdK f b k with
    | none => none
    | some (o, a) => if (s15 f b a).1 = -1 ∨ (s15 f b (s15 f b a).2).1 = -1 then none else some (o ++ [UInt8.ofNat ((s15 f b a).1 * 16 + (s15 f b (s15 f b a).2).1).toNat], (s15 f b (s15 f b a).2).2)
theorem rdK_none {f : Nat → Int} {b : ByteArray} {k : Nat} (h : rdK f b k = none) : ∀ j, rdK f b (k + j) = none := by
  intro j
  induction j with
  | zero => exact h
  | succ j ih => rw [← Nat.add_assoc, rdK, ih]
theorem rdK_next {f : Nat → Int} {b : ByteArray} {k a a1 a2 : Nat} {o : List UInt8} {x y : Int} (h : rdK f b k = some (o, a)) (h1 : s15 f b a = (x, a1)) (h2 : s15 f b a1 = (y, a2)) (hx : ¬ (x = -1 ∨ y = -1)) : rdK f b (k + 1) = some (o ++ [UInt8.ofNat (x * 16 + y).toNat], a2) := by
  rw [rdK, h]
  simp only [h1, h2]
  rw [if_neg hx]
theorem rdK_stop {f : Nat → Int} {b : ByteArray} {k n a a1 a2 : Nat} {o : List UInt8} {x y : Int} (hk : k < n) (h : rdK f b k = some (o, a)) (h1 : s15 f b a = (x, a1)) (h2 : s15 f b a1 = (y, a2)) (hx : x = -1 ∨ y = -1) : rdK f b n = none := by
  have : rdK f b (k + 1) = none := by
    rw [rdK, h]
    simp only [h1, h2]
    rw [if_pos hx]
  have h2 := rdK_none this (n - (k + 1))
  rwa [show k + 1 + (n - (k + 1)) = n by omega] at h2
/-- What Read tells. -/
def rd (f : Nat → Int) (b : ByteArray) (n : Int) : ByteArray × Int :=
  if chk f ≠ 0 then (⟨#[]⟩, chk f) else if n < 0 ∨ 1024 < n then (⟨#[]⟩, 3) else match rdK f b n.toNat with
    | none => (⟨#[]⟩, 1)
    | some (o, a) => if end_ b a = true then (⟨o.toArray⟩, 0) else (⟨#[]⟩, 1)

theorem rd_none {f : Nat → Int} {b : ByteArray} {n : Int} (hc : chk f = 0) (hn : ¬ (n < 0 ∨ 1024 < n)) (h : rdK f b n.toNat = none) : rd f b n = (⟨#[]⟩, 1) := by
  rw [rd, if_neg (fun h => h hc), if_neg hn, h]
theorem rd_some {f : Nat → Int} {b : ByteArray} {n : Int} {o : List UInt8} {a : Nat} (hc : chk f = 0) (hn : ¬ (n < 0 ∨ 1024 < n)) (h : rdK f b n.toNat = some (o, a)) : rd f b n = if end_ b a = true then (⟨o.toArray⟩, 0) else (⟨#[]⟩, 1) := by
  rw [rd, if_neg (fun h => h hc), if_neg hn, h]
end Go.Proofs.Ytbjbjbpgmojcbaa.Cd
