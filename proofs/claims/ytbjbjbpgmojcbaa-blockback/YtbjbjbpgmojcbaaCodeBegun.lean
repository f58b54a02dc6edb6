/- What must be in any case, of chapter 3. -/
import Derived.Test.YtbjbjbpgmojcbaaCodeRead
import Derived.Test.YtbjbjbpgmojcbaaCodeEq
namespace Go.Proofs.Ytbjbjbpgmojcbaa
open Go.RowKit

def g0 : Nat → Int := fun i => if i = 0 then 5 else if i = 1 then 2 else if i = 6 then 1 else 0
def l0 : Nat → Int := fun i => if i = 0 then 1 else if i = 1 then 2 else if i = 6 then 2 else 0
def t0 : Nat → Int := fun i => if i = 0 then 1 else if i = 1 then 1 else if i = 2 then 1 else 0
theorem g0_lit : arr g0 = #[.int .i64 5, .int .i64 2, .int .i64 0, .int .i64 0, .int .i64 0, .int .i64 0, .int .i64 1, .int .i64 0, .int .i64 0, .int .i64 0, .int .i64 0, .int .i64 0, .int .i64 0, .int .i64 0, .int .i64 0, .int .i64 0] := by kernel_rfl
theorem l0_lit : arr l0 = #[.int .i64 1, .int .i64 2, .int .i64 0, .int .i64 0, .int .i64 0, .int .i64 0, .int .i64 2, .int .i64 0, .int .i64 0, .int .i64 0, .int .i64 0, .int .i64 0, .int .i64 0, .int .i64 0, .int .i64 0, .int .i64 0] := by kernel_rfl
theorem t0_lit : arr t0 = #[.int .i64 1, .int .i64 1, .int .i64 1, .int .i64 0, .int .i64 0, .int .i64 0, .int .i64 0, .int .i64 0, .int .i64 0, .int .i64 0, .int .i64 0, .int .i64 0, .int .i64 0, .int .i64 0, .int .i64 0, .int .i64 0] := by kernel_rfl
theorem bld_g0 : (arr (Cd.bld g0).1, (Cd.bld g0).2) = (arr l0, 0) := by kernel_rfl
theorem cost_g0 : Cd.cost l0 g0 = (11, 0) := by kernel_rfl
theorem wrt_l0 : Cd.wrt l0 ⟨#[0, 22]⟩ = (⟨#[44]⟩, 0) := by kernel_rfl
theorem rd_l0 : Cd.rd l0 ⟨#[44]⟩ 2 = (⟨#[0, 22]⟩, 0) := by kernel_rfl
theorem chk_t0 : Cd.chk t0 = 1 := by kernel_rfl

theorem begun_build (w : World) : Calls Try.prog 38 #[.agg #[.int .i64 5, .int .i64 2, .int .i64 0, .int .i64 0, .int .i64 0, .int .i64 0, .int .i64 1, .int .i64 0, .int .i64 0, .int .i64 0, .int .i64 0, .int .i64 0, .int .i64 0, .int .i64 0, .int .i64 0, .int .i64 0]] w fun e w' => e = .returned (.tuple #[.agg (arr l0), .int .i64 0]) ∧ Below w.heap.size w w' := by
  have h := codeBuild_any g0 w
  have e := bld_g0
  simp only [Prod.mk.injEq] at e
  rw [e.1, e.2, g0_lit] at h
  exact h
theorem begun_cost (w : World) : Calls Try.prog 37 #[.agg (arr l0), .agg #[.int .i64 5, .int .i64 2, .int .i64 0, .int .i64 0, .int .i64 0, .int .i64 0, .int .i64 1, .int .i64 0, .int .i64 0, .int .i64 0, .int .i64 0, .int .i64 0, .int .i64 0, .int .i64 0, .int .i64 0, .int .i64 0]] w fun e w' => e = .returned (.tuple #[.int .i64 11, .int .i64 0]) ∧ Below w.heap.size w w' := by
  have h := codeCost_any l0 g0 w
  rw [cost_g0, g0_lit] at h
  exact h
theorem begun_write (w : World) : Calls Try.prog 44 #[.agg (arr l0), .string ⟨#[0, 22]⟩] w fun e w' => e = .returned (.tuple #[.string ⟨#[44]⟩, .int .i64 0]) ∧ Below w.heap.size w w' := by
  have h := codeWrite_any l0 ⟨#[0, 22]⟩ w (by decide)
  rw [wrt_l0] at h
  exact h
theorem begun_read (w : World) : Calls Try.prog 46 #[.agg (arr l0), .string ⟨#[44]⟩, .int .i64 2] w fun e w' => e = .returned (.tuple #[.string ⟨#[0, 22]⟩, .int .i64 0]) ∧ Below w.heap.size w w' := by
  have h := codeRead_any l0 ⟨#[44]⟩ 2 w (by decide)
  rw [rd_l0] at h
  exact h
theorem begun_check (w : World) : Calls Try.prog 42 #[.agg #[.int .i64 1, .int .i64 1, .int .i64 1, .int .i64 0, .int .i64 0, .int .i64 0, .int .i64 0, .int .i64 0, .int .i64 0, .int .i64 0, .int .i64 0, .int .i64 0, .int .i64 0, .int .i64 0, .int .i64 0, .int .i64 0]] w fun e w' => e = .returned (.int .i64 1) ∧ Below w.heap.size w w' := by
  have h := codeCheck_any t0 w
  rw [chk_t0, t0_lit] at h
  exact h

set_option maxRecDepth 4000 in
set_option maxHeartbeats 1000000 in
theorem codeBegun_any (w : World) : Calls Try.prog 41 #[] w fun e w' => e = .returned (.bool true) ∧ Below w.heap.size w w' := by
  have hin := arr_infoc l0
  go_enter Try.func41, Try.ntmps41
  go_wp2_with fail
  refine (begun_build _).mono ?_
  rintro e w1 ⟨rfl, G1⟩
  have R1 := RowAt.new w1 l0
  have B1 : Below w.heap.size w (w1.alloc (.cells (arr l0) 54)) := G1.alloc G1.size _
  go_wp2_with (first | (refine wpList_store_row rfl 54 _ _ rfl w1.heap.size (arr l0) rfl rfl 54 _ (heap_alloc_last w1 _) hin rfl (arr_one _) ?_; rw [World.setRow_alloc_new]) | (refine wpList_load_row rfl 54 _ rfl w1.heap.size rfl 54 (arr l0) (0, 0) _ R1.2 Try.underlying54 rfl hin ?_))
  generalize w1.alloc (.cells (arr l0) 54) = wa at *
  refine (begun_cost _).mono ?_
  rintro e w2 ⟨rfl, G2⟩
  have R2 := R1.below G2
  have B2 := bch B1 G2 (Nat.le_refl _)
  clear R1 B1 G1 G2
  go_wp2_with (refine wpList_load_row rfl 54 _ rfl w1.heap.size rfl 54 (arr l0) (0, 0) _ R2.2 Try.underlying54 rfl hin ?_)
  refine (begun_write _).mono ?_
  rintro e w3 ⟨rfl, G3⟩
  have R3 := R2.below G3
  have B3 := bch B2 G3 (Nat.le_refl _)
  clear R2 B2 G3
  go_wp2_with (refine wpList_load_row rfl 54 _ rfl w1.heap.size rfl 54 (arr l0) (0, 0) _ R3.2 Try.underlying54 rfl hin ?_)
  refine (begun_read _).mono ?_
  rintro e w4 ⟨rfl, G4⟩
  have R4 := R3.below G4
  have B4 := bch B3 G4 (Nat.le_refl _)
  clear R3 B3 G4
  have c0 : w4.cell? ⟨w1.heap.size, 0, none⟩ = some (.int .i64 1) := R4.cell 0 (by decide)
  have c1 : w4.cell? ⟨w1.heap.size, 1, none⟩ = some (.int .i64 2) := R4.cell 1 (by decide)
  have c2 : w4.cell? ⟨w1.heap.size, 2, none⟩ = some (.int .i64 0) := R4.cell 2 (by decide)
  have c3 : w4.cell? ⟨w1.heap.size, 3, none⟩ = some (.int .i64 0) := R4.cell 3 (by decide)
  have c4 : w4.cell? ⟨w1.heap.size, 4, none⟩ = some (.int .i64 0) := R4.cell 4 (by decide)
  have c5 : w4.cell? ⟨w1.heap.size, 5, none⟩ = some (.int .i64 0) := R4.cell 5 (by decide)
  have c6 : w4.cell? ⟨w1.heap.size, 6, none⟩ = some (.int .i64 2) := R4.cell 6 (by decide)
  have c7 : w4.cell? ⟨w1.heap.size, 7, none⟩ = some (.int .i64 0) := R4.cell 7 (by decide)
  have c8 : w4.cell? ⟨w1.heap.size, 8, none⟩ = some (.int .i64 0) := R4.cell 8 (by decide)
  have c9 : w4.cell? ⟨w1.heap.size, 9, none⟩ = some (.int .i64 0) := R4.cell 9 (by decide)
  have c10 : w4.cell? ⟨w1.heap.size, 10, none⟩ = some (.int .i64 0) := R4.cell 10 (by decide)
  have c11 : w4.cell? ⟨w1.heap.size, 11, none⟩ = some (.int .i64 0) := R4.cell 11 (by decide)
  have c12 : w4.cell? ⟨w1.heap.size, 12, none⟩ = some (.int .i64 0) := R4.cell 12 (by decide)
  have c13 : w4.cell? ⟨w1.heap.size, 13, none⟩ = some (.int .i64 0) := R4.cell 13 (by decide)
  have c14 : w4.cell? ⟨w1.heap.size, 14, none⟩ = some (.int .i64 0) := R4.cell 14 (by decide)
  have c15 : w4.cell? ⟨w1.heap.size, 15, none⟩ = some (.int .i64 0) := R4.cell 15 (by decide)
  have hck := begun_check
  have heq := eq_arr l0
  rw [l0_lit] at heq
  generalize w1.heap.size = gl at *
  clear R4 hin
  go_wp2_with (go_at_call 42; refine (hck _).mono ?_; rintro e w5 ⟨rfl, G5⟩)
  go_ret
  exact ⟨rfl, bch B4 G5 (Nat.le_refl _)⟩
end Go.Proofs.Ytbjbjbpgmojcbaa
