/- What the law's own choose comes to: a place below n. -/
import Derived.Test.YtbjbjbpgmojcbabProg
import Derived.WalkKit
import Derived.WalkSpells
import Derived.WalkLawsBesides
namespace Go.Proofs.Ytbjbjbpgmojcbab
open Go.RowKit

def chz (i n : Int) : Int := if i < 0 then (-(i + 1)) % n else i % n
theorem chz_lo (i n : Int) (h : 0 < n) : 0 ≤ chz i n := by unfold chz; split <;> exact Int.emod_nonneg _ (by omega)
theorem chz_hi (i n : Int) (h : 0 < n) : chz i n < n := by unfold chz; split <;> exact Int.emod_lt_of_pos _ h
set_option maxRecDepth 4000 in
set_option maxHeartbeats 400000 in
theorem choose_any (i n : Int) (w : World) (h0 : -9223372036854775808 ≤ i) (h1 : i ≤ 9223372036854775807) (hn : 0 < n) (hn2 : n ≤ 1000000000) :
    Calls Try.prog 11 #[.int .i64 i, .int .i64 n] w fun e w' => e = .returned (.int .i64 (chz i n)) ∧ w' = w := by
  have hnz : ¬ n = 0 := by omega
  unfold chz
  by_cases h : i < 0
  · have d1 : decide (i < 0) = true := decide_eq_true h
    have hw1 : IntKind.i64.wrap (i + 1) = i + 1 := IntWalk.i64_in _ ⟨by omega, by omega⟩
    have hw2 : IntKind.i64.wrap (-(i + 1)) = -(i + 1) := IntWalk.i64_in _ ⟨by omega, by omega⟩
    rw [if_pos h]
    have ht : (-(i + 1)).tmod n = (-(i + 1)) % n := Int.tmod_eq_emod_of_nonneg (by omega)
    have hm := Int.emod_nonneg (-(i + 1)) (show n ≠ 0 by omega)
    have hm2 := Int.emod_lt_of_pos (-(i + 1)) hn
    go_enter Try.func11, Try.ntmps11
    go_wp2_with fail
    go_ret
    exact ⟨congrArg (fun x => Ending.returned (Value.int .i64 x)) (by omega), rfl⟩
  · have d1 : decide (i < 0) = false := decide_eq_false h
    rw [if_neg h]
    have ht : i.tmod n = i % n := Int.tmod_eq_emod_of_nonneg (by omega)
    go_enter Try.func11, Try.ntmps11
    go_wp2_with fail
    go_ret
    exact ⟨congrArg (fun x => Ending.returned (Value.int .i64 x)) (by omega), rfl⟩
end Go.Proofs.Ytbjbjbpgmojcbab
