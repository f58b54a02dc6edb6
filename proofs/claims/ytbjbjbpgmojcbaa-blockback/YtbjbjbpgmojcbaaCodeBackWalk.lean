/- The walk of the law CodeBack: it answers true, whatever it is handed (texts of at most 2^47 bytes: the form's own reach). -/
import Derived.Test.YtbjbjbpgmojcbaaCodeBegun
namespace Go.Proofs.Ytbjbjbpgmojcbaa
open Go.RowKit
set_option linter.unusedVariables false

theorem wrt_size (f : Nat → Int) (s : ByteArray) : (Cd.wrt f s).1.size ≤ 140737488355328 := by
  have z : (⟨#[]⟩ : ByteArray).size ≤ 140737488355328 := by decide
  unfold Cd.wrt
  by_cases h : Cd.chk f = 0
  · rw [if_neg (fun h9 => h9 h)]
    by_cases h1 : 1024 < s.size
    · rw [if_pos h1]; exact z
    · rw [if_neg h1]
      cases hq : Cd.wrK f s s.size with
      | none => exact z
      | some bs =>
        simp only
        rw [Cd.size_pk]
        have := Cd.wrK_len (Cd.chk_zero h).1 _ bs hq
        omega
  · rw [if_pos h]; exact z
theorem rd_size (f : Nat → Int) (b : ByteArray) (n : Int) (h : (Cd.rd f b n).2 = 0) : (Cd.rd f b n).1.size ≤ 140737488355328 := by
  obtain ⟨_, h2⟩ := Cd.wrt_rd h
  by_cases hn : n < 0 ∨ 1024 < n
  · by_cases hc : Cd.chk f = 0
    · rw [Cd.rd, if_neg (fun h => h hc), if_pos hn]; exact (by decide : (⟨#[]⟩ : ByteArray).size ≤ 140737488355328)
    · rw [Cd.rd, if_pos hc]; exact (by decide : (⟨#[]⟩ : ByteArray).size ≤ 140737488355328)
  · omega

set_option maxRecDepth 4000 in
set_option maxHeartbeats 1000000 in
theorem codeBack_11 (f : Nat → Int) (s b : ByteArray) (n : Int) (w : World) (hs : s.size ≤ 140737488355328) (hb : b.size ≤ 140737488355328) (e1 : (Cd.wrt f s).2 = 0) (e2 : (Cd.rd f b n).2 = 0) :
    Calls Try.prog 11 #[.agg (arr f), .string s, .string b, .int .i64 n] w fun e w' => e = .returned (.bool true) ∧ Below w.heap.size w w' := by
  have hin := arr_infoc f
  have c1 := fun w => codeWrite_any f s w hs
  have c2 := fun w => codeRead_any f (Cd.wrt f s).1 (s.size : Nat) w (wrt_size f s)
  rw [Cd.rd_wrt e1] at c2
  rw [e1] at c1
  have c3 := fun w => codeRead_any f b n w hb
  obtain ⟨r1, r2⟩ := Cd.wrt_rd e2
  have c4 := fun w => codeWrite_any f (Cd.rd f b n).1 w (rd_size f b n e2)
  rw [r1] at c4
  rw [e2] at c3
  have hbs : (b.toList == b.toList) = true := by simp
  generalize (Cd.wrt f s).1 = t at *
  generalize (Cd.rd f b n).1 = u at *
  have hss : (s.toList == s.toList) = true := by simp
  have hun : (((u.size : Nat) : Int) == n) = true := by simp [r2]
  clear r1 r2
  clear e1 e2
  have R1 := RowAt.new w f
  have B1 : Below w.heap.size w (w.alloc (.cells (arr f) 54)) := (Below.refl _ _).alloc (Nat.le_refl _) _
  go_enter Try.func11, Try.ntmps11
  go_wp2_with (refine wpList_load_row rfl 54 _ rfl w.heap.size rfl 54 (arr f) (0, 0) _ R1.2 Try.underlying54 rfl hin ?_)
  refine (c1 _).mono ?_
  rintro e w2 ⟨rfl, G⟩
  have R2 := R1.below G
  have B2 := bch B1 G (Nat.le_refl _)
  clear R1 B1 G c1
  go_wp2_with (refine wpList_load_row rfl 54 _ rfl w.heap.size rfl 54 (arr f) (0, 0) _ R2.2 Try.underlying54 rfl hin ?_)
  refine (c2 _).mono ?_
  rintro e w3 ⟨rfl, G⟩
  have R3 := R2.below G
  have B3 := bch B2 G (Nat.le_refl _)
  clear R2 B2 G
  go_wp2_with (refine wpList_load_row rfl 54 _ rfl w.heap.size rfl 54 (arr f) (0, 0) _ R3.2 Try.underlying54 rfl hin ?_)
  refine (c3 _).mono ?_
  rintro e w4 ⟨rfl, G⟩
  have R4 := R3.below G
  have B4 := bch B3 G (Nat.le_refl _)
  clear R3 B3 G
  go_wp2_with (refine wpList_load_row rfl 54 _ rfl w.heap.size rfl 54 (arr f) (0, 0) _ R4.2 Try.underlying54 rfl hin ?_)
  refine (c4 _).mono ?_
  rintro e w5 ⟨rfl, G⟩
  have R5 := R4.below G
  have B5 := bch B4 G (Nat.le_refl _)
  clear R4 B4 G
  go_wp2_with (fail)
  refine (codeBegun_any _).mono ?_
  rintro e w6 ⟨rfl, G⟩
  have R6 := R5.below G
  have B6 := bch B5 G (Nat.le_refl _)
  clear R5 B5 G
  go_wp2_with fail
  go_ret
  exact ⟨rfl, B6⟩

set_option maxRecDepth 4000 in
set_option maxHeartbeats 1000000 in
theorem codeBack_10 (f : Nat → Int) (s b : ByteArray) (n : Int) (w : World) (hs : s.size ≤ 140737488355328) (hb : b.size ≤ 140737488355328) (e1 : (Cd.wrt f s).2 = 0) (e2 : (Cd.rd f b n).2 ≠ 0) :
    Calls Try.prog 11 #[.agg (arr f), .string s, .string b, .int .i64 n] w fun e w' => e = .returned (.bool true) ∧ Below w.heap.size w w' := by
  have hin := arr_infoc f
  have c1 := fun w => codeWrite_any f s w hs
  have c2 := fun w => codeRead_any f (Cd.wrt f s).1 (s.size : Nat) w (wrt_size f s)
  rw [Cd.rd_wrt e1] at c2
  rw [e1] at c1
  have c3 := fun w => codeRead_any f b n w hb
  generalize (Cd.wrt f s).1 = t at *
  generalize (Cd.rd f b n).1 = u at *
  generalize (Cd.rd f b n).2 = F at *
  have d2 : (F != 0) = true := by simpa using e2
  have hss : (s.toList == s.toList) = true := by simp
  clear e1 e2
  have R1 := RowAt.new w f
  have B1 : Below w.heap.size w (w.alloc (.cells (arr f) 54)) := (Below.refl _ _).alloc (Nat.le_refl _) _
  go_enter Try.func11, Try.ntmps11
  go_wp2_with (refine wpList_load_row rfl 54 _ rfl w.heap.size rfl 54 (arr f) (0, 0) _ R1.2 Try.underlying54 rfl hin ?_)
  refine (c1 _).mono ?_
  rintro e w2 ⟨rfl, G⟩
  have R2 := R1.below G
  have B2 := bch B1 G (Nat.le_refl _)
  clear R1 B1 G c1
  go_wp2_with (refine wpList_load_row rfl 54 _ rfl w.heap.size rfl 54 (arr f) (0, 0) _ R2.2 Try.underlying54 rfl hin ?_)
  refine (c2 _).mono ?_
  rintro e w3 ⟨rfl, G⟩
  have R3 := R2.below G
  have B3 := bch B2 G (Nat.le_refl _)
  clear R2 B2 G
  go_wp2_with (refine wpList_load_row rfl 54 _ rfl w.heap.size rfl 54 (arr f) (0, 0) _ R3.2 Try.underlying54 rfl hin ?_)
  refine (c3 _).mono ?_
  rintro e w4 ⟨rfl, G⟩
  have R4 := R3.below G
  have B4 := bch B3 G (Nat.le_refl _)
  clear R3 B3 G
  go_wp2_with (fail)
  refine (codeBegun_any _).mono ?_
  rintro e w5 ⟨rfl, G⟩
  have R5 := R4.below G
  have B5 := bch B4 G (Nat.le_refl _)
  clear R4 B4 G
  go_wp2_with fail
  go_ret
  exact ⟨rfl, B5⟩

set_option maxRecDepth 4000 in
set_option maxHeartbeats 1000000 in
theorem codeBack_01 (f : Nat → Int) (s b : ByteArray) (n : Int) (w : World) (hs : s.size ≤ 140737488355328) (hb : b.size ≤ 140737488355328) (e1 : (Cd.wrt f s).2 ≠ 0) (e2 : (Cd.rd f b n).2 = 0) :
    Calls Try.prog 11 #[.agg (arr f), .string s, .string b, .int .i64 n] w fun e w' => e = .returned (.bool true) ∧ Below w.heap.size w w' := by
  have hin := arr_infoc f
  have c1 := fun w => codeWrite_any f s w hs
  have c3 := fun w => codeRead_any f b n w hb
  obtain ⟨r1, r2⟩ := Cd.wrt_rd e2
  have c4 := fun w => codeWrite_any f (Cd.rd f b n).1 w (rd_size f b n e2)
  rw [r1] at c4
  rw [e2] at c3
  have hbs : (b.toList == b.toList) = true := by simp
  generalize (Cd.wrt f s).1 = t at *
  generalize (Cd.rd f b n).1 = u at *
  generalize (Cd.wrt f s).2 = E at *
  have d1 : (E == 0) = false := by simpa using e1
  have hun : (((u.size : Nat) : Int) == n) = true := by simp [r2]
  clear r1 r2
  clear e1 e2
  have R1 := RowAt.new w f
  have B1 : Below w.heap.size w (w.alloc (.cells (arr f) 54)) := (Below.refl _ _).alloc (Nat.le_refl _) _
  go_enter Try.func11, Try.ntmps11
  go_wp2_with (refine wpList_load_row rfl 54 _ rfl w.heap.size rfl 54 (arr f) (0, 0) _ R1.2 Try.underlying54 rfl hin ?_)
  refine (c1 _).mono ?_
  rintro e w2 ⟨rfl, G⟩
  have R2 := R1.below G
  have B2 := bch B1 G (Nat.le_refl _)
  clear R1 B1 G c1
  go_wp2_with (refine wpList_load_row rfl 54 _ rfl w.heap.size rfl 54 (arr f) (0, 0) _ R2.2 Try.underlying54 rfl hin ?_)
  refine (c3 _).mono ?_
  rintro e w3 ⟨rfl, G⟩
  have R3 := R2.below G
  have B3 := bch B2 G (Nat.le_refl _)
  clear R2 B2 G
  go_wp2_with (refine wpList_load_row rfl 54 _ rfl w.heap.size rfl 54 (arr f) (0, 0) _ R3.2 Try.underlying54 rfl hin ?_)
  refine (c4 _).mono ?_
  rintro e w4 ⟨rfl, G⟩
  have R4 := R3.below G
  have B4 := bch B3 G (Nat.le_refl _)
  clear R3 B3 G
  go_wp2_with (fail)
  refine (codeBegun_any _).mono ?_
  rintro e w5 ⟨rfl, G⟩
  have R5 := R4.below G
  have B5 := bch B4 G (Nat.le_refl _)
  clear R4 B4 G
  go_wp2_with fail
  go_ret
  exact ⟨rfl, B5⟩

set_option maxRecDepth 4000 in
set_option maxHeartbeats 1000000 in
theorem codeBack_00 (f : Nat → Int) (s b : ByteArray) (n : Int) (w : World) (hs : s.size ≤ 140737488355328) (hb : b.size ≤ 140737488355328) (e1 : (Cd.wrt f s).2 ≠ 0) (e2 : (Cd.rd f b n).2 ≠ 0) :
    Calls Try.prog 11 #[.agg (arr f), .string s, .string b, .int .i64 n] w fun e w' => e = .returned (.bool true) ∧ Below w.heap.size w w' := by
  have hin := arr_infoc f
  have c1 := fun w => codeWrite_any f s w hs
  have c3 := fun w => codeRead_any f b n w hb
  generalize (Cd.wrt f s).1 = t at *
  generalize (Cd.rd f b n).1 = u at *
  generalize (Cd.wrt f s).2 = E at *
  have d1 : (E == 0) = false := by simpa using e1
  generalize (Cd.rd f b n).2 = F at *
  have d2 : (F != 0) = true := by simpa using e2
  clear e1 e2
  have R1 := RowAt.new w f
  have B1 : Below w.heap.size w (w.alloc (.cells (arr f) 54)) := (Below.refl _ _).alloc (Nat.le_refl _) _
  go_enter Try.func11, Try.ntmps11
  go_wp2_with (refine wpList_load_row rfl 54 _ rfl w.heap.size rfl 54 (arr f) (0, 0) _ R1.2 Try.underlying54 rfl hin ?_)
  refine (c1 _).mono ?_
  rintro e w2 ⟨rfl, G⟩
  have R2 := R1.below G
  have B2 := bch B1 G (Nat.le_refl _)
  clear R1 B1 G c1
  go_wp2_with (refine wpList_load_row rfl 54 _ rfl w.heap.size rfl 54 (arr f) (0, 0) _ R2.2 Try.underlying54 rfl hin ?_)
  refine (c3 _).mono ?_
  rintro e w3 ⟨rfl, G⟩
  have R3 := R2.below G
  have B3 := bch B2 G (Nat.le_refl _)
  clear R2 B2 G
  go_wp2_with (fail)
  refine (codeBegun_any _).mono ?_
  rintro e w4 ⟨rfl, G⟩
  have R4 := R3.below G
  have B4 := bch B3 G (Nat.le_refl _)
  clear R3 B3 G
  go_wp2_with fail
  go_ret
  exact ⟨rfl, B4⟩

theorem codeBack_any (f : Nat → Int) (s b : ByteArray) (n : Int) (w : World) (hs : s.size ≤ 140737488355328) (hb : b.size ≤ 140737488355328) :
    Calls Try.prog 11 #[.agg (arr f), .string s, .string b, .int .i64 n] w fun e w' => e = .returned (.bool true) ∧ Below w.heap.size w w' := by
  by_cases e1 : (Cd.wrt f s).2 = 0
  · by_cases e2 : (Cd.rd f b n).2 = 0
    · exact codeBack_11 f s b n w hs hb e1 e2
    · exact codeBack_10 f s b n w hs hb e1 e2
  · by_cases e2 : (Cd.rd f b n).2 = 0
    · exact codeBack_01 f s b n w hs hb e1 e2
    · exact codeBack_00 f s b n w hs hb e1 e2
end Go.Proofs.Ytbjbjbpgmojcbaa
