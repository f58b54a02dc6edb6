/- The walk of the law CodeWrites: it answers true, whatever it is handed (texts of at most 2^47 bytes: the form's own reach). -/
import Derived.Test.YtbjbjbpgmojcbaaRefRead
import Derived.Test.YtbjbjbpgmojcbaaCodeBegun
namespace Go.Proofs.Ytbjbjbpgmojcbaa
open Go.RowKit

set_option maxRecDepth 4000 in
set_option maxHeartbeats 1000000 in
theorem codeWrites_any (f : Nat → Int) (s b : ByteArray) (n : Int) (w : World) (hs : s.size ≤ 140737488355328) (hb : b.size ≤ 140737488355328) :
    Calls Try.prog 10 #[.agg (arr f), .string s, .string b, .int .i64 n] w fun e w' => e = .returned (.bool true) ∧ Below w.heap.size w w' := by
  have hin := arr_infoc f
  have c1 := fun w => codeWrite_any f s w hs
  have c2 := fun w => writeCode_any f s w hs
  have c3 := fun w => codeRead_any f b n w hb
  have c4 := fun w => readCode_any f b n w
  generalize (Cd.wrt f s).1 = t at *
  generalize (Cd.wrt f s).2 = E at *
  generalize (Cd.rd f b n).1 = u at *
  generalize (Cd.rd f b n).2 = F at *
  have d1 : (t.toList == t.toList) = true := by simp
  have d2 : (u.toList == u.toList) = true := by simp
  have d3 : (E == E) = true := by simp
  have d4 : (F == F) = true := by simp
  have R1 := RowAt.new w f
  have B1 : Below w.heap.size w (w.alloc (.cells (arr f) 54)) := (Below.refl _ _).alloc (Nat.le_refl _) _
  go_enter Try.func10, Try.ntmps10
  go_wp2_with (refine wpList_load_row rfl 54 _ rfl w.heap.size rfl 54 (arr f) (0, 0) _ R1.2 Try.underlying54 rfl hin ?_)
  refine (c1 _).mono ?_
  rintro e w2 ⟨rfl, G⟩
  have R2 := R1.below G
  have B2 := bch B1 G (Nat.le_refl _)
  clear R1 B1 G c1
  go_wp2_with (refine wpList_load_row rfl 54 _ rfl w.heap.size rfl 54 (arr f) (0, 0) _ R2.2 Try.underlying54 rfl hin ?_)
  refine (c2 _).mono ?_
  rintro e w3 ⟨rfl, G⟩
  have R3 := R2.below G
  have B3 := bch B2 G (Nat.le_refl _)
  clear R2 B2 G c2
  go_wp2_with (refine wpList_load_row rfl 54 _ rfl w.heap.size rfl 54 (arr f) (0, 0) _ R3.2 Try.underlying54 rfl hin ?_)
  refine (c3 _).mono ?_
  rintro e w4 ⟨rfl, G⟩
  have R4 := R3.below G
  have B4 := bch B3 G (Nat.le_refl _)
  clear R3 B3 G c3
  go_wp2_with (refine wpList_load_row rfl 54 _ rfl w.heap.size rfl 54 (arr f) (0, 0) _ R4.2 Try.underlying54 rfl hin ?_)
  refine (c4 _).mono ?_
  rintro e w5 ⟨rfl, G⟩
  have R5 := R4.below G
  have B5 := bch B4 G (Nat.le_refl _)
  clear R4 B4 G c4
  go_wp2_with fail
  refine (codeBegun_any _).mono ?_
  rintro e w6 ⟨rfl, G⟩
  have B6 := bch B5 G (Nat.le_refl _)
  clear R5 B5 G
  go_wp2_with fail
  go_ret
  exact ⟨rfl, B6⟩
end Go.Proofs.Ytbjbjbpgmojcbaa
