/- Sixteen numbers by value: how an array of them is read. -/
import Derived.Test.YtbjbjbpgmojcbaaNumsRest
import Derived.Deep.WholeRow
import Derived.Deep.MidRow
namespace Go.Proofs.Ytbjbjbpgmojcbaa
open Go.RowKit

/-- Sixteen numbers as an array's cells. -/
def arr (f : Nat → Int) : Array Value := ((List.range 16).map fun i => Value.int .i64 (f i)).toArray
theorem arr_size (f : Nat → Int) : (arr f).size = 16 := by simp [arr]
theorem arr_at (f : Nat → Int) (i : Nat) (h : i < 16) : (arr f)[i]? = some (.int .i64 (f i)) := by simp [arr, h]
theorem arr_info : (Try.prog.info? 54).map (·.size) = some 16 := by kernel_rfl
theorem arr_infoc (f : Nat → Int) : (Try.prog.info? 54).map (·.size) = some (arr f).size := by rw [arr_size]; exact arr_info
theorem run_ix (f : Nat → Int) (k : Nat) (h : k < 16) (w : World) : (Instr.index 54 (.agg (arr f)) (.int .i64 (k : Int))).run Try.prog w = .ok (.int .i64 (f k)) w := by
  have h1 := arr_at f k h
  have h2 : (0 : Int) ≤ (k : Int) ∧ (k : Int) < ((16 : Nat) : Int) := by omega
  generalize arr f = c at *
  simp [Instr.index, run_underlying Try.underlying54, asIntOf, go_sem, h2, part, h1]
  intro h9
  omega
end Go.Proofs.Ytbjbjbpgmojcbaa
