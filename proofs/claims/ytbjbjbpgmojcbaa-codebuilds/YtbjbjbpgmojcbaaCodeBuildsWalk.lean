/- The walk of the law CodeBuilds: it answers true, whatever it is handed. -/
import Derived.Test.YtbjbjbpgmojcbaaRefBuild
import Derived.Test.YtbjbjbpgmojcbaaCodeBegun
import Derived.Test.YtbjbjbpgmojcbaaYields
namespace Go.Proofs.Ytbjbjbpgmojcbaa
open Go.RowKit
set_option linter.unusedVariables false

theorem builds_rows (w : World) (r c : Nat → Int) : RowAt ((w.alloc (.cells (arr r) 54)).alloc (.cells (arr c) 54)) w.heap.size r ∧ RowAt ((w.alloc (.cells (arr r) 54)).alloc (.cells (arr c) 54)) (w.heap.size + 1) c ∧ Below w.heap.size w ((w.alloc (.cells (arr r) 54)).alloc (.cells (arr c) 54)) :=
  ⟨(RowAt.new w r).alloc _, by have := RowAt.new (w.alloc (.cells (arr r) 54)) c; simpa using this, ((Below.refl _ _).alloc (Nat.le_refl _) _).alloc (by simp) _⟩

set_option maxRecDepth 4000 in
set_option maxHeartbeats 2000000 in
theorem codeBuilds_any (l c : Nat → Int) (w : World) :
    Calls Try.prog 9 #[.agg (arr l), .agg (arr c)] w fun e w' => e = .returned (.bool true) ∧ Below w.heap.size w w' := by
  have hil := arr_infoc l
  have hic := arr_infoc c
  have c1 := fun w => codeCost_any l c w
  have c2 := fun w => codeBuild_any c w
  have c3 := fun w => costOf_any l c w
  have c4 := fun w => buildOf_any c w
  have c5 := fun w => codeCheck_any l w
  have c6 := fun w => checkCode_any l w
  generalize (Cd.cost l c).1 = X at *
  generalize (Cd.cost l c).2 = E at *
  generalize (Cd.bld c).1 = L at *
  generalize (Cd.bld c).2 = F at *
  generalize Cd.chk l = D at *
  have hiL := arr_infoc L
  have eX : (X == X) = true := by simp
  have eE : (E == E) = true := by simp
  have eF : (F == F) = true := by simp
  have eD : (D == D) = true := by simp
  have eL := eq_arr L
  obtain ⟨R1, C1, B1⟩ := builds_rows w l c
  go_enter Try.func9, Try.ntmps9
  go_wp2_with (first | (refine wpList_load_row rfl 54 _ rfl w.heap.size rfl 54 (arr l) (0, 0) _ R1.2 Try.underlying54 rfl hil ?_) | (refine wpList_load_row rfl 54 _ rfl (w.heap.size + 1) rfl 54 (arr c) (0, 0) _ C1.2 Try.underlying54 rfl hic ?_))
  refine (c1 _).mono ?_
  rintro e w1 ⟨rfl, G⟩
  have R2 := R1.below G
  have C2 := C1.below G
  have B2 := bch B1 G (Nat.le_refl _)
  clear R1 C1 B1 G c1
  go_wp2_with (refine wpList_load_row rfl 54 _ rfl (w.heap.size + 1) rfl 54 (arr c) (0, 0) _ C2.2 Try.underlying54 rfl hic ?_)
  refine (c2 _).mono ?_
  rintro e w2 ⟨rfl, G⟩
  have R3 := (R2.below G).alloc (.cells (arr L) 54)
  have C3 := (C2.below G).alloc (.cells (arr L) 54)
  have L3 := RowAt.new w2 L
  have B2' := bch B2 G (Nat.le_refl _)
  have B3 : Below w.heap.size w (w2.alloc (.cells (arr L) 54)) := B2'.alloc B2'.size _
  clear R2 C2 B2 B2' G c2
  go_wp2_with (first | (refine wpList_store_row rfl 54 _ _ rfl w2.heap.size (arr L) rfl rfl 54 _ (heap_alloc_last w2 _) hiL rfl (arr_one _) ?_; rw [World.setRow_alloc_new]) | (refine wpList_load_row rfl 54 _ rfl w.heap.size rfl 54 (arr l) (0, 0) _ R3.2 Try.underlying54 rfl hil ?_) | (refine wpList_load_row rfl 54 _ rfl (w.heap.size + 1) rfl 54 (arr c) (0, 0) _ C3.2 Try.underlying54 rfl hic ?_))
  generalize w2.alloc (.cells (arr L) 54) = wa at *
  generalize w2.heap.size = gb at *
  refine (c3 _).mono ?_
  rintro e w4 ⟨rfl, G⟩
  have R4 := R3.below G
  have C4 := C3.below G
  have L4 := L3.below G
  have B4 := bch B3 G (Nat.le_refl _)
  clear R3 C3 L3 B3 G c3
  go_wp2_with (refine wpList_load_row rfl 54 _ rfl (w.heap.size + 1) rfl 54 (arr c) (0, 0) _ C4.2 Try.underlying54 rfl hic ?_)
  refine (c4 _).mono ?_
  rintro e w5 ⟨rfl, G⟩
  have R5 := (R4.below G).alloc (.cells (arr L) 54)
  have L5 := (L4.below G).alloc (.cells (arr L) 54)
  have D5 := RowAt.new w5 L
  have B4' := bch B4 G (Nat.le_refl _)
  have B9 : Below w.heap.size w (w5.alloc (.cells (arr L) 54)) := B4'.alloc B4'.size _
  clear R4 C4 L4 B4 B4' G c4
  go_wp2_with (refine wpList_store_row rfl 54 _ _ rfl w5.heap.size (arr L) rfl rfl 54 _ (heap_alloc_last w5 _) hiL rfl (arr_one _) ?_; rw [World.setRow_alloc_new])
  generalize w5.alloc (.cells (arr L) 54) = wd at *
  generalize w5.heap.size = gd at *
  refine wp_region_held_drew (S := fun w' => RowAt w' w.heap.size l ∧ RowAt w' gb L ∧ RowAt w' gd L) (by kernel_rfl) ⟨R5, L5, D5⟩ (fun hS => ?_)
  clear R5 L5 D5
  refine wpAnyH_ready (rs := [0]) (fuel := 28) (by kernel_rfl) (by simp) ?_
  refine AllReadyH.cons rfl (fun K hK => ?_) AllReadyH.nil
  go_simp
  refine (codeBegun_any _).mono ?_
  rintro e w10 ⟨rfl, G⟩
  have hS10 : RowAt w10 w.heap.size l ∧ RowAt w10 gb L ∧ RowAt w10 gd L := ⟨hS.1.below G, hS.2.1.below G, hS.2.2.below G⟩
  have B10 := bch (show Below w.heap.size w wd.drew from B9.drew) G (Nat.le_refl _)
  refine hK.out _ _ hS10 (fun _ => ?_)
  clear hK hS B9 G
  have hS := hS10
  refine wpAnyH_take (i := 1) (fuel := 27) (v := .bool true) rfl (by kernel_rfl) (by kernel_rfl) (by kernel_rfl) (fun _ _ _ h => h) (yields_move (by kernel_rfl) _ rfl _ (by kernel_rfl)) hS ?_
  refine wpAnyH_take (i := 2) (fuel := 26) (v := .agg (arr l)) rfl (by kernel_rfl) (by kernel_rfl) (by kernel_rfl) (fun _ _ _ h => h) (yields_load_row (by kernel_rfl) _ rfl w.heap.size (by kernel_rfl) l (fun w' h' => row_range h'.1)) hS ?_
  refine wpAnyH_take (i := 4) (fuel := 25) (v := .agg (arr l)) rfl (by kernel_rfl) (by kernel_rfl) (by kernel_rfl) (fun _ _ _ h => h) (yields_load_row (by kernel_rfl) _ rfl w.heap.size (by kernel_rfl) l (fun w' h' => row_range h'.1)) hS ?_
  refine wpAnyH_ready (rs := [3]) (fuel := 24) (by kernel_rfl) (by simp) ?_
  refine AllReadyH.cons rfl (fun K hK => ?_) AllReadyH.nil
  go_simp
  refine (c5 _).mono ?_
  rintro e w11 ⟨rfl, G⟩
  have hS11 : RowAt w11 w.heap.size l ∧ RowAt w11 gb L ∧ RowAt w11 gd L := ⟨hS.1.below G, hS.2.1.below G, hS.2.2.below G⟩
  have B11 := bch B10 G (Nat.le_refl _)
  refine hK.out _ _ hS11 (fun _ => ?_)
  clear hK hS B10 G
  have hS := hS11
  refine wpAnyH_ready (rs := [5]) (fuel := 23) (by kernel_rfl) (by simp) ?_
  refine AllReadyH.cons rfl (fun K hK => ?_) AllReadyH.nil
  go_simp
  refine (c6 _).mono ?_
  rintro e w12 ⟨rfl, G⟩
  have hS12 : RowAt w12 w.heap.size l ∧ RowAt w12 gb L ∧ RowAt w12 gd L := ⟨hS.1.below G, hS.2.1.below G, hS.2.2.below G⟩
  have B12 := bch B11 G (Nat.le_refl _)
  refine hK.out _ _ hS12 (fun _ => ?_)
  clear hK hS B11 G
  have hS := hS12
  refine wpAnyH_take (i := 6) (fuel := 22) (v := .bool true) rfl (by kernel_rfl) (by kernel_rfl) (by kernel_rfl) (fun _ _ _ h => h) (yields_eql_int (by kernel_rfl) _ _ _ _ rfl .i64 D D (by kernel_rfl) (by kernel_rfl) true eD) hS ?_
  refine wpAnyH_take (i := 7) (fuel := 21) (v := .bool true) rfl (by kernel_rfl) (by kernel_rfl) (by kernel_rfl) (fun _ _ _ h => h) (yields_pick (by kernel_rfl) _ _ _ rfl true (by kernel_rfl) _ (by kernel_rfl)) hS ?_
  refine wpAnyH_take (i := 8) (fuel := 20) (v := .bool true) rfl (by kernel_rfl) (by kernel_rfl) (by kernel_rfl) (fun _ _ _ h => h) (yields_move (by kernel_rfl) _ rfl _ (by kernel_rfl)) hS ?_
  refine wpAnyH_take (i := 9) (fuel := 19) (v := .int .i64 X) rfl (by kernel_rfl) (by kernel_rfl) (by kernel_rfl) (fun _ _ _ h => h) (yields_move (by kernel_rfl) _ rfl _ (by kernel_rfl)) hS ?_
  refine wpAnyH_take (i := 10) (fuel := 18) (v := .int .i64 X) rfl (by kernel_rfl) (by kernel_rfl) (by kernel_rfl) (fun _ _ _ h => h) (yields_move (by kernel_rfl) _ rfl _ (by kernel_rfl)) hS ?_
  refine wpAnyH_take (i := 11) (fuel := 17) (v := .bool true) rfl (by kernel_rfl) (by kernel_rfl) (by kernel_rfl) (fun _ _ _ h => h) (yields_eql_int (by kernel_rfl) _ _ _ _ rfl .i64 X X (by kernel_rfl) (by kernel_rfl) true eX) hS ?_
  refine wpAnyH_take (i := 12) (fuel := 16) (v := .bool true) rfl (by kernel_rfl) (by kernel_rfl) (by kernel_rfl) (fun _ _ _ h => h) (yields_pick (by kernel_rfl) _ _ _ rfl true (by kernel_rfl) _ (by kernel_rfl)) hS ?_
  refine wpAnyH_take (i := 13) (fuel := 15) (v := .bool true) rfl (by kernel_rfl) (by kernel_rfl) (by kernel_rfl) (fun _ _ _ h => h) (yields_move (by kernel_rfl) _ rfl _ (by kernel_rfl)) hS ?_
  refine wpAnyH_take (i := 14) (fuel := 14) (v := .int .i64 E) rfl (by kernel_rfl) (by kernel_rfl) (by kernel_rfl) (fun _ _ _ h => h) (yields_move (by kernel_rfl) _ rfl _ (by kernel_rfl)) hS ?_
  refine wpAnyH_take (i := 15) (fuel := 13) (v := .int .i64 E) rfl (by kernel_rfl) (by kernel_rfl) (by kernel_rfl) (fun _ _ _ h => h) (yields_move (by kernel_rfl) _ rfl _ (by kernel_rfl)) hS ?_
  refine wpAnyH_take (i := 16) (fuel := 12) (v := .bool true) rfl (by kernel_rfl) (by kernel_rfl) (by kernel_rfl) (fun _ _ _ h => h) (yields_eql_int (by kernel_rfl) _ _ _ _ rfl .i64 E E (by kernel_rfl) (by kernel_rfl) true eE) hS ?_
  refine wpAnyH_take (i := 17) (fuel := 11) (v := .bool true) rfl (by kernel_rfl) (by kernel_rfl) (by kernel_rfl) (fun _ _ _ h => h) (yields_pick (by kernel_rfl) _ _ _ rfl true (by kernel_rfl) _ (by kernel_rfl)) hS ?_
  refine wpAnyH_take (i := 18) (fuel := 10) (v := .bool true) rfl (by kernel_rfl) (by kernel_rfl) (by kernel_rfl) (fun _ _ _ h => h) (yields_move (by kernel_rfl) _ rfl _ (by kernel_rfl)) hS ?_
  refine wpAnyH_take (i := 19) (fuel := 9) (v := .agg (arr L)) rfl (by kernel_rfl) (by kernel_rfl) (by kernel_rfl) (fun _ _ _ h => h) (yields_load_row (by kernel_rfl) _ rfl gb (by kernel_rfl) L (fun w' h' => row_range h'.2.1)) hS ?_
  refine wpAnyH_take (i := 20) (fuel := 8) (v := .agg (arr L)) rfl (by kernel_rfl) (by kernel_rfl) (by kernel_rfl) (fun _ _ _ h => h) (yields_load_row (by kernel_rfl) _ rfl gd (by kernel_rfl) L (fun w' h' => row_range h'.2.2)) hS ?_
  refine wpAnyH_take (i := 21) (fuel := 7) (v := .bool true) rfl (by kernel_rfl) (by kernel_rfl) (by kernel_rfl) (fun _ _ _ h => h) (yields_eql_arr (by kernel_rfl) _ _ _ rfl L (by kernel_rfl) (by kernel_rfl)) hS ?_
  refine wpAnyH_take (i := 22) (fuel := 6) (v := .bool true) rfl (by kernel_rfl) (by kernel_rfl) (by kernel_rfl) (fun _ _ _ h => h) (yields_pick (by kernel_rfl) _ _ _ rfl true (by kernel_rfl) _ (by kernel_rfl)) hS ?_
  refine wpAnyH_take (i := 23) (fuel := 5) (v := .bool true) rfl (by kernel_rfl) (by kernel_rfl) (by kernel_rfl) (fun _ _ _ h => h) (yields_move (by kernel_rfl) _ rfl _ (by kernel_rfl)) hS ?_
  refine wpAnyH_take (i := 24) (fuel := 4) (v := .int .i64 F) rfl (by kernel_rfl) (by kernel_rfl) (by kernel_rfl) (fun _ _ _ h => h) (yields_move (by kernel_rfl) _ rfl _ (by kernel_rfl)) hS ?_
  refine wpAnyH_take (i := 25) (fuel := 3) (v := .int .i64 F) rfl (by kernel_rfl) (by kernel_rfl) (by kernel_rfl) (fun _ _ _ h => h) (yields_move (by kernel_rfl) _ rfl _ (by kernel_rfl)) hS ?_
  refine wpAnyH_take (i := 26) (fuel := 2) (v := .bool true) rfl (by kernel_rfl) (by kernel_rfl) (by kernel_rfl) (fun _ _ _ h => h) (yields_eql_int (by kernel_rfl) _ _ _ _ rfl .i64 F F (by kernel_rfl) (by kernel_rfl) true eF) hS ?_
  refine wpAnyH_take (i := 27) (fuel := 1) (v := .bool true) rfl (by kernel_rfl) (by kernel_rfl) (by kernel_rfl) (fun _ _ _ h => h) (yields_pick (by kernel_rfl) _ _ _ rfl true (by kernel_rfl) _ (by kernel_rfl)) hS ?_
  refine norm_act #[.agg (arr l), .agg (arr c), .pointer (some ⟨w.heap.size, 0, none⟩), .pointer (some ⟨w.heap.size + 1, 0, none⟩), .bool false, .int .i64 X, .int .i64 E, .pointer (some ⟨gb, 0, none⟩), .int .i64 F, .int .i64 X, .int .i64 E, .pointer (some ⟨gd, 0, none⟩), .int .i64 F, .tuple #[.int .i64 X, .int .i64 E], .agg (arr l), .agg (arr c), .tuple #[.int .i64 X, .int .i64 E], .int .i64 X, .int .i64 E, .tuple #[.agg (arr L), .int .i64 F], .agg (arr c), .tuple #[.agg (arr L), .int .i64 F], .agg (arr L), .int .i64 F, .tuple #[.int .i64 X, .int .i64 E], .agg (arr l), .agg (arr c), .tuple #[.int .i64 X, .int .i64 E], .int .i64 X, .int .i64 E, .tuple #[.agg (arr L), .int .i64 F], .agg (arr c), .tuple #[.agg (arr L), .int .i64 F], .agg (arr L), .int .i64 F, .bool true, .bool true, .agg (arr l), .int .i64 D, .agg (arr l), .int .i64 D, .bool true, .bool true, .bool true, .int .i64 X, .int .i64 X, .bool true, .bool true, .bool true, .int .i64 E, .int .i64 E, .bool true, .bool true, .bool true, .agg (arr L), .agg (arr L), .bool true, .bool true, .bool true, .int .i64 F, .int .i64 F, .bool true, .bool true] (by kernel_rfl) (by kernel_rfl) ?_
  refine last_take (i := 28) (fuel := 0) (v := .bool true) (by kernel_rfl) (by kernel_rfl) rfl (yields_assign (by kernel_rfl) _ rfl _ (by kernel_rfl)) hS ?_
  go_wp2_with fail
  go_ret
  exact ⟨rfl, B12⟩
end Go.Proofs.Ytbjbjbpgmojcbaa
