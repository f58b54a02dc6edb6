/- Chapter 5: what must be in any case. -/
import Derived.Test.YtbjbjbpgmojcbabTrainCount
import Derived.Test.YtbjbjbpgmojcbabTrainOf
namespace Go.Proofs.Ytbjbjbpgmojcbab
open Go.RowKit

namespace Tr
def y1 : List ByteArray := [⟨#[97, 98, 99, 100]⟩, ⟨#[120, 97, 98, 99, 100, 120]⟩, ⟨#[97, 98, 99]⟩]
def y2 : List ByteArray := [⟨#[97, 98, 99, 100, 101]⟩, ⟨#[120, 97, 98, 99, 100, 101]⟩, ⟨#[122, 122, 122, 122]⟩]
theorem y1_n : cnN y1 ⟨#[97, 98, 99, 100]⟩ = 2 := by kernel_rfl
theorem y1_e : cnE y1 ⟨#[97, 98, 99, 100]⟩ = 0 := by kernel_rfl
theorem y2_d : tnD y2 8 = ⟨#[98, 99, 100, 101, 97, 98, 99, 100]⟩ := by kernel_rfl
theorem y2_e : tnE y2 8 = 0 := by kernel_rfl
theorem tx_new (w : World) (a b c : ByteArray) : TxSl (w.alloc (.cells #[.string a, .string b, .string c] 9 (0, 0))) (some ⟨w.heap.size, 0, none⟩) [a, b, c] := by
  refine .inr ⟨w.heap.size, 0, rfl, by simp, fun i hi => ?_⟩
  match i, hi with
  | 0, _ => simp [World.cell?_alloc_new, xa]
  | 1, _ => simp [World.cell?_alloc_new, xa]
  | 2, _ => simp [World.cell?_alloc_new, xa]
theorem xa_small (xs : List ByteArray) (h : ∀ x ∈ xs, x.size ≤ 100) (i : Nat) : (xa xs i).size ≤ 140737488355328 := by
  by_cases hi : i < xs.length
  · have : xa xs i = xs[i] := by simp [xa, hi]
    rw [this]
    have := h _ (List.getElem_mem hi)
    omega
  · have : xa xs i = ⟨#[]⟩ := by simp [xa, show xs.length ≤ i by omega]
    rw [this]
    show 0 ≤ _
    omega
theorem y1_small : ∀ x ∈ y1, x.size ≤ 100 := by decide
theorem y2_small : ∀ x ∈ y2, x.size ≤ 100 := by decide
end Tr

set_option maxRecDepth 4000 in
set_option maxHeartbeats 1000000 in
theorem trainBegun_any (w : World) (hM : Mx w) :
    Calls Try.prog 10 #[] w fun e w' => e = .returned (.bool true) ∧ Below w.heap.size w w' := by
  have c1 := fun w hM => count_any Tr.y1 ⟨#[97, 98, 99, 100]⟩ (some ⟨w.heap.size, 0, none⟩) 3 _ (Tr.tx_new w _ _ _) (Tr.xa_small _ Tr.y1_small) hM
  simp only [Tr.y1_n, Tr.y1_e] at c1
  have c2 := fun w hM => train_any Tr.y2 8 (some ⟨w.heap.size, 0, none⟩) 3 _ (Tr.tx_new w _ _ _) (Tr.xa_small _ Tr.y2_small) hM
  simp only [Tr.y2_d, Tr.y2_e] at c2
  have HM : Hid (∀ w', Below w.heap.size w w' → Mx w') := fun w' h => hM.below h
  clear hM
  go_enter Try.func10, Try.ntmps10
  go_wp2_with fail
  have B0 : Below w.heap.size w (w.alloc (.cells #[.string ⟨#[97, 98, 99, 100]⟩, .string ⟨#[120, 97, 98, 99, 100, 120]⟩, .string ⟨#[97, 98, 99]⟩] 9 (0, 0))) := (Below.refl _ _).alloc (Nat.le_refl _) _
  refine (c1 _ (HM.out _ B0)).mono ?_
  rintro e w1 ⟨rfl, G1⟩
  have B1 := bch B0 G1 (Nat.le_refl _)
  clear B0 G1 c1
  go_wp2_with fail
  have B2 : Below w.heap.size w (w1.alloc (.cells #[.string ⟨#[97, 98, 99, 100, 101]⟩, .string ⟨#[120, 97, 98, 99, 100, 101]⟩, .string ⟨#[122, 122, 122, 122]⟩] 9 (0, 0))) := B1.alloc B1.size _
  refine (c2 _ (HM.out _ B2)).mono ?_
  rintro e w2 ⟨rfl, G2⟩
  have B3 := bch B2 G2 (Nat.le_refl _)
  clear B2 G2 c2 B1
  go_wp2_with fail
  go_ret
  exact ⟨rfl, B3⟩
end Go.Proofs.Ytbjbjbpgmojcbab
