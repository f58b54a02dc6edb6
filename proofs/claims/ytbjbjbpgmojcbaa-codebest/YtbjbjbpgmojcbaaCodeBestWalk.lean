/- The walk of the law CodeBest: it answers true, whatever it is handed. -/
import Derived.Test.YtbjbjbpgmojcbaaCodeBegun
import Derived.Test.YtbjbjbpgmojcbaaCodeBestMath
namespace Go.Proofs.Ytbjbjbpgmojcbaa
open Go.RowKit
set_option linter.unusedVariables false

theorem best_rows (w : World) (r c : Nat → Int) : RowAt ((w.alloc (.cells (arr r) 54)).alloc (.cells (arr c) 54)) w.heap.size r ∧ RowAt ((w.alloc (.cells (arr r) 54)).alloc (.cells (arr c) 54)) (w.heap.size + 1) c ∧ Below w.heap.size w ((w.alloc (.cells (arr r) 54)).alloc (.cells (arr c) 54)) :=
  ⟨(RowAt.new w r).alloc _, by have := RowAt.new (w.alloc (.cells (arr r) 54)) c; simpa using this, ((Below.refl _ _).alloc (Nat.le_refl _) _).alloc (by simp) _⟩

set_option maxRecDepth 4000 in
set_option maxHeartbeats 1000000 in
theorem codeBest_no (r c : Nat → Int) (w : World) (e1 : (Cd.bld c).2 ≠ 0) :
    Calls Try.prog 12 #[.agg (arr r), .agg (arr c)] w fun e w' => e = .returned (.bool true) ∧ Below w.heap.size w w' := by
  have hir := arr_infoc r
  have hic := arr_infoc c
  have c1 := fun w => codeBuild_any c w
  generalize (Cd.bld c).1 = L at *
  have hiL := arr_infoc L
  generalize (Cd.bld c).2 = E at *
  have d1 : (E != 0) = true := by simpa using e1
  clear e1
  obtain ⟨R1, C1, B1⟩ := best_rows w r c
  go_enter Try.func12, Try.ntmps12
  go_wp2_with (refine wpList_load_row rfl 54 _ rfl (w.heap.size + 1) rfl 54 (arr c) (0, 0) _ C1.2 Try.underlying54 rfl hic ?_)
  refine (c1 _).mono ?_
  rintro e w1 ⟨rfl, G⟩
  have B2 := bch B1 G (Nat.le_trans (Nat.le_refl _) (Nat.le_refl _))
  have B3 : Below w.heap.size w (w1.alloc (.cells (arr L) 54)) := B2.alloc B2.size _
  clear R1 C1 B1 B2 G c1
  go_wp2_with (refine wpList_store_row rfl 54 _ _ rfl w1.heap.size (arr L) rfl rfl 54 _ (heap_alloc_last w1 _) hiL rfl (arr_one _) ?_; rw [World.setRow_alloc_new])
  refine (codeBegun_any _).mono ?_
  rintro e w2 ⟨rfl, G⟩
  go_wp2_with fail
  go_ret
  exact ⟨rfl, bch B3 G (Nat.le_refl _)⟩

set_option maxRecDepth 4000 in
set_option maxHeartbeats 1000000 in
theorem codeBest_yes (r c : Nat → Int) (w : World) (e1 : (Cd.bld c).2 = 0) :
    Calls Try.prog 12 #[.agg (arr r), .agg (arr c)] w fun e w' => e = .returned (.bool true) ∧ Below w.heap.size w w' := by
  have hir := arr_infoc r
  have hic := arr_infoc c
  have c1 := fun w => codeBuild_any c w
  obtain ⟨q1, q2, q3⟩ := Cd.bld_best c e1
  have c2 := fun w => codeCost_any (Cd.bld c).1 c w
  have c3 := fun w => codeCost_any r c w
  have c4 := fun w => codeCheck_any (Cd.bld c).1 w
  have H3 : Hid ((Cd.cost r c).2 = 0 → (Cd.cost (Cd.bld c).1 c).1 ≤ (Cd.cost r c).1) := q3 r
  rw [q1] at c4
  rw [q2] at c2
  rw [e1] at c1
  generalize (Cd.cost (Cd.bld c).1 c).1 = X at *
  generalize (Cd.cost r c).1 = Y at *
  generalize (Cd.cost r c).2 = F at *
  clear q1 q2 q3 e1
  generalize (Cd.bld c).1 = L at *
  have hiL := arr_infoc L
  obtain ⟨R1, C1, B1⟩ := best_rows w r c
  go_enter Try.func12, Try.ntmps12
  go_wp2_with (refine wpList_load_row rfl 54 _ rfl (w.heap.size + 1) rfl 54 (arr c) (0, 0) _ C1.2 Try.underlying54 rfl hic ?_)
  refine (c1 _).mono ?_
  rintro e w1 ⟨rfl, G⟩
  have B2 := bch B1 G (Nat.le_refl _)
  have R3 := (R1.below G).alloc (.cells (arr L) 54)
  have C3 := (C1.below G).alloc (.cells (arr L) 54)
  have L3 := RowAt.new w1 L
  have B3 : Below w.heap.size w (w1.alloc (.cells (arr L) 54)) := B2.alloc B2.size _
  clear R1 C1 B1 B2 G c1
  go_wp2_with (first | (refine wpList_store_row rfl 54 _ _ rfl w1.heap.size (arr L) rfl rfl 54 _ (heap_alloc_last w1 _) hiL rfl (arr_one _) ?_; rw [World.setRow_alloc_new]) | (refine wpList_load_row rfl 54 _ rfl w1.heap.size rfl 54 (arr L) (0, 0) _ L3.2 Try.underlying54 rfl hiL ?_) | (refine wpList_load_row rfl 54 _ rfl (w.heap.size + 1) rfl 54 (arr c) (0, 0) _ C3.2 Try.underlying54 rfl hic ?_))
  generalize w1.alloc (.cells (arr L) 54) = wa at *
  generalize w1.heap.size = gl at *
  refine (c2 _).mono ?_
  rintro e w4 ⟨rfl, G⟩
  have R4 := R3.below G
  have C4 := C3.below G
  have L4 := L3.below G
  have B4 := bch B3 G (Nat.le_refl _)
  clear R3 C3 L3 B3 G c2
  go_wp2_with (first | (refine wpList_load_row rfl 54 _ rfl w.heap.size rfl 54 (arr r) (0, 0) _ R4.2 Try.underlying54 rfl hir ?_) | (refine wpList_load_row rfl 54 _ rfl (w.heap.size + 1) rfl 54 (arr c) (0, 0) _ C4.2 Try.underlying54 rfl hic ?_))
  refine (c3 _).mono ?_
  rintro e w5 ⟨rfl, G⟩
  have L5 := L4.below G
  have B5 := bch B4 G (Nat.le_refl _)
  clear R4 C4 L4 B4 G c3
  go_wp2_with fail
  refine (codeBegun_any _).mono ?_
  rintro e w6 ⟨rfl, G⟩
  have L6 := L5.below G
  have B6 := bch B5 G (Nat.le_refl _)
  clear L5 B5 G
  have k0 := L6.cell 0 (by decide)
  have k1 := L6.cell 1 (by decide)
  have k2 := L6.cell 2 (by decide)
  have k3 := L6.cell 3 (by decide)
  have k4 := L6.cell 4 (by decide)
  have k5 := L6.cell 5 (by decide)
  have k6 := L6.cell 6 (by decide)
  have k7 := L6.cell 7 (by decide)
  have k8 := L6.cell 8 (by decide)
  have k9 := L6.cell 9 (by decide)
  have k10 := L6.cell 10 (by decide)
  have k11 := L6.cell 11 (by decide)
  have k12 := L6.cell 12 (by decide)
  have k13 := L6.cell 13 (by decide)
  have k14 := L6.cell 14 (by decide)
  have k15 := L6.cell 15 (by decide)
  have c5 : ∀ w, Calls Try.prog 42 #[.agg #[.int .i64 (L 0), .int .i64 (L 1), .int .i64 (L 2), .int .i64 (L 3), .int .i64 (L 4), .int .i64 (L 5), .int .i64 (L 6), .int .i64 (L 7), .int .i64 (L 8), .int .i64 (L 9), .int .i64 (L 10), .int .i64 (L 11), .int .i64 (L 12), .int .i64 (L 13), .int .i64 (L 14), .int .i64 (L 15)]] w fun e w' => e = .returned (.int .i64 0) ∧ Below w.heap.size w w' := c4
  clear c4 L6 hir hic hiL
  by_cases hF : F = 0
  · have hXY : X ≤ Y := H3.out hF
    have dXY : decide (X ≤ Y) = true := by simpa using hXY
    subst hF
    go_wp2_with (go_at_call 42; refine (c5 _).mono ?_; rintro e w7 ⟨rfl, G7⟩)
    go_ret
    exact ⟨rfl, bch B6 G7 (Nat.le_refl _)⟩
  · have dF : (F != 0) = true := by simpa using hF
    go_wp2_with (go_at_call 42; refine (c5 _).mono ?_; rintro e w7 ⟨rfl, G7⟩)
    go_ret
    exact ⟨rfl, bch B6 G7 (Nat.le_refl _)⟩

theorem codeBest_any (r c : Nat → Int) (w : World) :
    Calls Try.prog 12 #[.agg (arr r), .agg (arr c)] w fun e w' => e = .returned (.bool true) ∧ Below w.heap.size w w' := by
  by_cases e1 : (Cd.bld c).2 = 0
  · exact codeBest_yes r c w e1
  · exact codeBest_no r c w e1
end Go.Proofs.Ytbjbjbpgmojcbaa
