/- Two arrays of sixteen numbers held against each other. -/
import Derived.Test.YtbjbjbpgmojcbaaCodeBase
import Derived.Laws.StructEq
namespace Go.Proofs.Ytbjbjbpgmojcbaa
open Go.RowKit

theorem part_int (f : Nat → Int) (i : Nat) (h : i < 16) (w : World) : (part 3 (arr f) i).run Try.prog w = .ok (.int .i64 (f i)) w := by
  have h1 := arr_at f i h
  generalize arr f = c at *
  simp [part, h1, go_sem]
theorem eq_arr (f : Nat → Int) (w : World) : (Op.equalIn 10000 54 (.agg (arr f)) (.agg (arr f))).run Try.prog w = .ok true w := by
  have hp := part_int f
  have he : ∀ (i : Nat) (w : World), (Op.equalIn 9999 3 (.int .i64 (f i)) (.int .i64 (f i))).run Try.prog w = .ok true w := fun i w => by
    rw [run_equalIn_int w 9998 3 .i64 .i64 _ _ Try.underlying3]; simp
  generalize arr f = c at *
  rw [show (10000 : Nat) = 9999 + 1 from rfl, Op.equalIn]
  simp only [Sem.run_bind, run_underlying Try.underlying54, Result.andThen_ok]
  have hs : (sizeOf 3).run Try.prog w = .ok 1 w := by kernel_rfl
  rw [hs]
  simp only [Result.andThen_ok, Nat.mul_one]
  rw [Std.Legacy.Range.forIn_eq_forIn_range']
  have key : ∀ (l : List Nat), (∀ i ∈ l, i < 16) → (forIn l ((none : Option Bool), ()) fun i _ => do
      let a ← part 3 c i
      let b ← part 3 c i
      let r ← Op.equalIn 9999 3 a b
      if (!r) = true then pure (ForInStep.done (some false, ())) else pure (ForInStep.yield (none, ()))).run Try.prog w = .ok (none, ()) w := by
    intro l
    induction l with
    | nil => intro _; simp
    | cons i l ih =>
      intro h
      have h1 := hp i (h i (by simp)) w
      simp only [List.forIn_cons, Sem.run_bind, h1, Result.andThen_ok, he, Bool.not_true, Bool.false_eq_true, if_false, Sem.run_pure]
      exact ih (fun j hj => h j (by simp [hj]))
  rw [key _ (fun i hi => by simp [List.mem_range'] at hi; omega)]
  rfl
end Go.Proofs.Ytbjbjbpgmojcbaa
