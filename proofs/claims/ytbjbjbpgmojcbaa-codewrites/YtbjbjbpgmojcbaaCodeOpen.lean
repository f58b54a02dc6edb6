/- An array of sixteen numbers that came in. -/
import Derived.Test.YtbjbjbpgmojcbaaCodeBase
import Derived.OpenShut
import Derived.Carry
namespace Go.Proofs.Ytbjbjbpgmojcbaa
open Go.ChangeShapes Go.WideShapes Go.RowKit

theorem arr_laid : laidOutB Try.prog = true := by kernel_rfl
theorem arr_cell : Try.prog.cellsOf 3 = 1 := by kernel_rfl
theorem arr_cells : Try.prog.cellsOf 54 = 16 := by kernel_rfl
theorem okWide_array {P : Program} {t e : TypeId} {n : Nat} (hu : P.underlying t = some (.array n e)) {W : World} {r : Reach} {b0 : Nat} {v : Value} (h : Value.okWide P W r b0 t v) : ∃ xs : Array Value, v = .agg xs := by
  simp only [Value.okWide, hu] at h
  obtain ⟨cs, h1, _⟩ := h
  exact ⟨cs, h1⟩
theorem open_arr16 {H : Type} {enc : TypeId × Value → H} {W : World} {base : Nat} {sp : Nat → Bool} {held : Bool} {xs : Array Value} {d : DataW H} {ps : List MemPlace} (h : DataW.Trod enc Try.prog W base sp held 54 (.agg xs) d ps) : ∃ f : Nat → Int, xs = arr f := by
  obtain ⟨fuel, hf⟩ := h
  obtain ⟨ys, m, _, _, hl, hn, hi⟩ := DataW.trod_array Try.underlying54 hf
  rw [arr_cells] at hl
  simp only [Value.cells] at hl hi
  rw [arr_cell] at hi
  have key : ∀ i, ∃ a : Int, i < 16 → xs[i]? = some (.int .i64 a) := by
    intro i
    by_cases h : i < 16
    · have h1 := hi i h
      obtain ⟨y, hy⟩ : ∃ y, ys[i]? = some y := ⟨ys[i], List.getElem?_eq_getElem (by omega)⟩
      rw [hy] at h1
      obtain ⟨a, ha, _, _⟩ := DataW.trod_int Try.underlying3 h1
      refine ⟨a, fun _ => ?_⟩
      have h2 := congrArg (fun l => l[0]?) ha
      simp only [Nat.mul_one, List.getElem?_take, List.getElem?_drop] at h2
      simpa using h2
    · exact ⟨0, fun h9 => absurd h9 h⟩
  obtain ⟨f, hf⟩ := Classical.axiomOfChoice key
  refine ⟨f, ?_⟩
  apply Array.ext_getElem?
  intro i
  by_cases h : i < 16
  · rw [hf i h, arr_at f i h]
  · rw [Array.getElem?_eq_none (by rw [Array.length_toList] at hl; omega), Array.getElem?_eq_none (by rw [arr_size]; omega)]
end Go.Proofs.Ytbjbjbpgmojcbaa
