/- Small laws on slices that came in. -/
import Derived.Deep.Slices
import Derived.SizedLaws
import Derived.Carry
namespace Go.Proofs.Ytbjbjbpgmojcbab
open Go.ChangeShapes Go.WideShapes Go.RowKit Go.Deep

theorem weights_all {H : Type} {P : Program} {e : TypeId} {f : Nat → DataW H} {n i : Nat} (hi : i < n) {m : Nat} (h : m ∈ (f i).weights P e) : m ∈ DataW.weightsAll P e ((List.range n).map f) := by
  have gen : ∀ (l : List (DataW H)) (d : DataW H), d ∈ l → m ∈ d.weights P e → m ∈ DataW.weightsAll P e l := by
    intro l
    induction l with
    | nil => intro d h; simp at h
    | cons a l ih =>
      intro d hd hm
      rw [DataW.weightsAll, List.mem_append]
      rcases List.mem_cons.1 hd with rfl | hd
      · exact .inl hm
      · exact .inr (ih d hd hm)
  exact gen _ (f i) (List.mem_map.2 ⟨i, List.mem_range.2 hi, rfl⟩) h

theorem row_lt {W : World} {a : Addr} {n : Nat} {ps : List MemPlace} (h : ∀ x ∈ MemPlace.row a (n + 1) ++ ps, x.block < W.heap.size) : a.block < W.heap.size := by
  refine h (.cell a.block (a.off + 0)) ?_
  rw [List.mem_append]
  left
  exact List.mem_map.2 ⟨0, List.mem_range.2 (by omega), rfl⟩

theorem len3 {α : Type} {l : List α} (h : l.length = 3) : ∃ a b c, l = [a, b, c] := by
  match l, h with
  | [a, b, c], _ => exact ⟨a, b, c, rfl⟩
end Go.Proofs.Ytbjbjbpgmojcbab
