/- The walk of the law NumsTells: it answers true, whatever it is handed (texts of at most 2^47 bytes: the form's own reach). -/
import Derived.Test.YtbjbjbpgmojcbaaNumsBackWalk
namespace Go.Proofs.Ytbjbjbpgmojcbaa
open Go.RowKit
set_option linter.unusedVariables false

theorem textFrom_ok (s : ByteArray) (w : World) (n k : Nat) (hs : s.size ≤ 281474976710656) (h : Nm.from_ s.data.toList = some (n, k)) (h1 : n ≤ 512) (h2 : k + n ≤ s.size) :
    Calls Try.prog 22 #[.string s] w fun e w' => e = .returned (.tuple #[.string (s.extract k (k + n)), .string (s.extract (k + n) s.size), .bool true]) ∧ Below w.heap.size w w' := by
  have hc := textFrom_yes s (s.extract k s.size) w n k hs h rfl h1 (by simp; omega)
  have e1 : (s.extract k s.size).extract 0 n = s.extract k (k + n) := by
    apply Nm.ba_ext
    rw [Lib.extract_data, ext_end, Lib.extract_data]
    simp
  have e2 : (s.extract k s.size).extract n (s.extract k s.size).size = s.extract (k + n) s.size := by
    apply Nm.ba_ext
    rw [ext_end, ext_end, ext_end, List.drop_drop]
  rw [e1, e2] at hc
  exact hc
theorem textFrom_bad (s : ByteArray) (w : World) (n k : Nat) (hs : s.size ≤ 281474976710656) (h : Nm.from_ s.data.toList = some (n, k)) (hbad : 512 < n ∨ s.size < k + n) :
    Calls Try.prog 22 #[.string s] w fun e w' => e = .returned (.tuple #[.string ⟨#[]⟩, .string ⟨#[]⟩, .bool false]) ∧ Below w.heap.size w w' := by
  have hb := (Nm.nb_from h).2.2.1
  exact textFrom_no s (s.extract k s.size) w n k hs h rfl (by simp at hb ⊢; omega)

set_option maxHeartbeats 1000000 in
theorem tells_y_none_y (n : Int) (s t : ByteArray) (w : World) (hs : s.size ≤ 140737488355328) (ht0 : t.size ≤ 140737488355328) (hn : 0 ≤ n ∧ n ≤ 2147483647) (hf : Nm.from_ s.data.toList = none) (ht : t.size ≤ 512) :
    Calls Try.prog 3 #[.int .i64 n, .string s, .string t] w fun e w' => e = .returned (.bool true) ∧ Below w.heap.size w w' := by
  obtain ⟨N, rfl⟩ := Int.eq_ofNat_of_zero_le hn.1
  have c1 := fun w => put_yes (N : Int) w hn.1 hn.2
  have c2 := fun w => numBytes_any N (N : Int) w hn.1 (Int.le_refl _) hn.2
  simp only [Int.toNat_natCast] at c1 c2
  have hd1 : decide (0 ≤ (N : Int)) = true := by simp
  have hd2 : decide ((N : Int) ≤ 2147483647) = true := by simp; omega
  have hd3 : decide (0 ≤ N) = true := by simp
  have hd4 : decide (N ≤ 2147483647) = true := by simp; omega
  have c3 := fun w => take_no s w (by omega) hf
  have c4 := fun w => numFrom_no s w (by omega) hf
  have c7 := fun w => takeText_none s w (by omega) hf
  have c8 := fun w => textFrom_none s w (by omega) hf
  clear hf
  have c5 := fun w => text_yes t w ht
  have c6 := fun w => textBytes_any t w ht
  have hd5 : decide ((t.size : Int) ≤ 512) = true := by simp; omega
  have hd6 : decide (t.size ≤ 512) = true := by simp; omega
  have cS := fun w => sum_any t w (by omega)
  have cR := fun w => sumOf_any t w (by omega)
  generalize sumTo t t.size = Z at *
  clear hn ht
  go_enter Try.func3, Try.ntmps3
  go_wp2_with fail
  refine (c1 _).mono ?_
  rintro e w1 ⟨rfl, G1⟩
  go_wp2_with fail
  refine (c2 _).mono ?_
  rintro e w2 ⟨rfl, G2⟩
  go_wp2_with fail
  refine (c3 _).mono ?_
  rintro e w3 ⟨rfl, G3⟩
  go_wp2_with fail
  refine (c4 _).mono ?_
  rintro e w4 ⟨rfl, G4⟩
  go_wp2_with fail
  refine (c5 _).mono ?_
  rintro e w5 ⟨rfl, G5⟩
  go_wp2_with fail
  refine (c6 _).mono ?_
  rintro e w6 ⟨rfl, G6⟩
  go_wp2_with fail
  refine (c7 _).mono ?_
  rintro e w7 ⟨rfl, G7⟩
  go_wp2_with fail
  refine (c8 _).mono ?_
  rintro e w8 ⟨rfl, G8⟩
  go_wp2_with fail
  refine (numsBegun_any _).mono ?_
  rintro e w9 ⟨rfl, G9⟩
  dsimp only
  iterate 3 go_step
  simp only [List.append_eq, List.cons_append, List.nil_append]
  go_wp2_with fail
  refine (cS _).mono ?_
  rintro e w10 ⟨rfl, rfl⟩
  go_wp2_with fail
  refine (cR _).mono ?_
  rintro e w11 ⟨rfl, rfl⟩
  go_wp2_with fail
  go_ret
  exact ⟨rfl, bch (bch (bch (bch (bch (bch (bch (bch (G1) G2 (Nat.le_refl _)) G3 (Nat.le_refl _)) G4 (Nat.le_refl _)) G5 (Nat.le_refl _)) G6 (Nat.le_refl _)) G7 (Nat.le_refl _)) G8 (Nat.le_refl _)) G9 (Nat.le_refl _)⟩

set_option maxHeartbeats 1000000 in
theorem tells_y_none_n (n : Int) (s t : ByteArray) (w : World) (hs : s.size ≤ 140737488355328) (ht0 : t.size ≤ 140737488355328) (hn : 0 ≤ n ∧ n ≤ 2147483647) (hf : Nm.from_ s.data.toList = none) (ht : 512 < t.size) :
    Calls Try.prog 3 #[.int .i64 n, .string s, .string t] w fun e w' => e = .returned (.bool true) ∧ Below w.heap.size w w' := by
  obtain ⟨N, rfl⟩ := Int.eq_ofNat_of_zero_le hn.1
  have c1 := fun w => put_yes (N : Int) w hn.1 hn.2
  have c2 := fun w => numBytes_any N (N : Int) w hn.1 (Int.le_refl _) hn.2
  simp only [Int.toNat_natCast] at c1 c2
  have hd1 : decide (0 ≤ (N : Int)) = true := by simp
  have hd2 : decide ((N : Int) ≤ 2147483647) = true := by simp; omega
  have hd3 : decide (0 ≤ N) = true := by simp
  have hd4 : decide (N ≤ 2147483647) = true := by simp; omega
  have c3 := fun w => take_no s w (by omega) hf
  have c4 := fun w => numFrom_no s w (by omega) hf
  have c7 := fun w => takeText_none s w (by omega) hf
  have c8 := fun w => textFrom_none s w (by omega) hf
  clear hf
  have c5 := fun w => text_no t w (by omega) ht
  have hd5 : decide ((t.size : Int) ≤ 512) = false := by simp; omega
  have hd6 : decide (t.size ≤ 512) = false := by simp; omega
  have cS := fun w => sum_any t w (by omega)
  have cR := fun w => sumOf_any t w (by omega)
  generalize sumTo t t.size = Z at *
  clear hn ht
  go_enter Try.func3, Try.ntmps3
  go_wp2_with fail
  refine (c1 _).mono ?_
  rintro e w1 ⟨rfl, G1⟩
  go_wp2_with fail
  refine (c2 _).mono ?_
  rintro e w2 ⟨rfl, G2⟩
  go_wp2_with fail
  refine (c3 _).mono ?_
  rintro e w3 ⟨rfl, G3⟩
  go_wp2_with fail
  refine (c4 _).mono ?_
  rintro e w4 ⟨rfl, G4⟩
  go_wp2_with fail
  refine (c5 _).mono ?_
  rintro e w5 ⟨rfl, G5⟩
  go_wp2_with fail
  refine (c7 _).mono ?_
  rintro e w6 ⟨rfl, G6⟩
  go_wp2_with fail
  refine (c8 _).mono ?_
  rintro e w7 ⟨rfl, G7⟩
  go_wp2_with fail
  refine (numsBegun_any _).mono ?_
  rintro e w8 ⟨rfl, G8⟩
  dsimp only
  iterate 3 go_step
  simp only [List.append_eq, List.cons_append, List.nil_append]
  go_wp2_with fail
  refine (cS _).mono ?_
  rintro e w9 ⟨rfl, rfl⟩
  go_wp2_with fail
  refine (cR _).mono ?_
  rintro e w10 ⟨rfl, rfl⟩
  go_wp2_with fail
  go_ret
  exact ⟨rfl, bch (bch (bch (bch (bch (bch (bch (G1) G2 (Nat.le_refl _)) G3 (Nat.le_refl _)) G4 (Nat.le_refl _)) G5 (Nat.le_refl _)) G6 (Nat.le_refl _)) G7 (Nat.le_refl _)) G8 (Nat.le_refl _)⟩

set_option maxHeartbeats 1000000 in
theorem tells_y_bad_y (n : Int) (s t : ByteArray) (w : World) (hs : s.size ≤ 140737488355328) (ht0 : t.size ≤ 140737488355328) (hn : 0 ≤ n ∧ n ≤ 2147483647) (m k : Nat) (hf : Nm.from_ s.data.toList = some (m, k)) (hbad : 512 < m ∨ s.size < k + m) (ht : t.size ≤ 512) :
    Calls Try.prog 3 #[.int .i64 n, .string s, .string t] w fun e w' => e = .returned (.bool true) ∧ Below w.heap.size w w' := by
  obtain ⟨N, rfl⟩ := Int.eq_ofNat_of_zero_le hn.1
  have c1 := fun w => put_yes (N : Int) w hn.1 hn.2
  have c2 := fun w => numBytes_any N (N : Int) w hn.1 (Int.le_refl _) hn.2
  simp only [Int.toNat_natCast] at c1 c2
  have hd1 : decide (0 ≤ (N : Int)) = true := by simp
  have hd2 : decide ((N : Int) ≤ 2147483647) = true := by simp; omega
  have hd3 : decide (0 ≤ N) = true := by simp
  have hd4 : decide (N ≤ 2147483647) = true := by simp; omega
  have c3 := fun w => take_yes s w m k (by omega) hf
  have c4 := fun w => numFrom_yes s w m k (by omega) hf
  have c7 := fun w => takeText_no s w m k (by omega) hf hbad
  have c8 := fun w => textFrom_bad s w m k (by omega) hf hbad
  clear hf hbad
  have c5 := fun w => text_yes t w ht
  have c6 := fun w => textBytes_any t w ht
  have hd5 : decide ((t.size : Int) ≤ 512) = true := by simp; omega
  have hd6 : decide (t.size ≤ 512) = true := by simp; omega
  have cS := fun w => sum_any t w (by omega)
  have cR := fun w => sumOf_any t w (by omega)
  generalize sumTo t t.size = Z at *
  clear hn ht
  go_enter Try.func3, Try.ntmps3
  go_wp2_with fail
  refine (c1 _).mono ?_
  rintro e w1 ⟨rfl, G1⟩
  go_wp2_with fail
  refine (c2 _).mono ?_
  rintro e w2 ⟨rfl, G2⟩
  go_wp2_with fail
  refine (c3 _).mono ?_
  rintro e w3 ⟨rfl, G3⟩
  go_wp2_with fail
  refine (c4 _).mono ?_
  rintro e w4 ⟨rfl, G4⟩
  go_wp2_with fail
  refine (c5 _).mono ?_
  rintro e w5 ⟨rfl, G5⟩
  go_wp2_with fail
  refine (c6 _).mono ?_
  rintro e w6 ⟨rfl, G6⟩
  go_wp2_with fail
  refine (c7 _).mono ?_
  rintro e w7 ⟨rfl, G7⟩
  go_wp2_with fail
  refine (c8 _).mono ?_
  rintro e w8 ⟨rfl, G8⟩
  go_wp2_with fail
  refine (numsBegun_any _).mono ?_
  rintro e w9 ⟨rfl, G9⟩
  dsimp only
  iterate 3 go_step
  simp only [List.append_eq, List.cons_append, List.nil_append]
  go_wp2_with fail
  refine (cS _).mono ?_
  rintro e w10 ⟨rfl, rfl⟩
  go_wp2_with fail
  refine (cR _).mono ?_
  rintro e w11 ⟨rfl, rfl⟩
  go_wp2_with fail
  go_ret
  exact ⟨rfl, bch (bch (bch (bch (bch (bch (bch (bch (G1) G2 (Nat.le_refl _)) G3 (Nat.le_refl _)) G4 (Nat.le_refl _)) G5 (Nat.le_refl _)) G6 (Nat.le_refl _)) G7 (Nat.le_refl _)) G8 (Nat.le_refl _)) G9 (Nat.le_refl _)⟩

set_option maxHeartbeats 1000000 in
theorem tells_y_bad_n (n : Int) (s t : ByteArray) (w : World) (hs : s.size ≤ 140737488355328) (ht0 : t.size ≤ 140737488355328) (hn : 0 ≤ n ∧ n ≤ 2147483647) (m k : Nat) (hf : Nm.from_ s.data.toList = some (m, k)) (hbad : 512 < m ∨ s.size < k + m) (ht : 512 < t.size) :
    Calls Try.prog 3 #[.int .i64 n, .string s, .string t] w fun e w' => e = .returned (.bool true) ∧ Below w.heap.size w w' := by
  obtain ⟨N, rfl⟩ := Int.eq_ofNat_of_zero_le hn.1
  have c1 := fun w => put_yes (N : Int) w hn.1 hn.2
  have c2 := fun w => numBytes_any N (N : Int) w hn.1 (Int.le_refl _) hn.2
  simp only [Int.toNat_natCast] at c1 c2
  have hd1 : decide (0 ≤ (N : Int)) = true := by simp
  have hd2 : decide ((N : Int) ≤ 2147483647) = true := by simp; omega
  have hd3 : decide (0 ≤ N) = true := by simp
  have hd4 : decide (N ≤ 2147483647) = true := by simp; omega
  have c3 := fun w => take_yes s w m k (by omega) hf
  have c4 := fun w => numFrom_yes s w m k (by omega) hf
  have c7 := fun w => takeText_no s w m k (by omega) hf hbad
  have c8 := fun w => textFrom_bad s w m k (by omega) hf hbad
  clear hf hbad
  have c5 := fun w => text_no t w (by omega) ht
  have hd5 : decide ((t.size : Int) ≤ 512) = false := by simp; omega
  have hd6 : decide (t.size ≤ 512) = false := by simp; omega
  have cS := fun w => sum_any t w (by omega)
  have cR := fun w => sumOf_any t w (by omega)
  generalize sumTo t t.size = Z at *
  clear hn ht
  go_enter Try.func3, Try.ntmps3
  go_wp2_with fail
  refine (c1 _).mono ?_
  rintro e w1 ⟨rfl, G1⟩
  go_wp2_with fail
  refine (c2 _).mono ?_
  rintro e w2 ⟨rfl, G2⟩
  go_wp2_with fail
  refine (c3 _).mono ?_
  rintro e w3 ⟨rfl, G3⟩
  go_wp2_with fail
  refine (c4 _).mono ?_
  rintro e w4 ⟨rfl, G4⟩
  go_wp2_with fail
  refine (c5 _).mono ?_
  rintro e w5 ⟨rfl, G5⟩
  go_wp2_with fail
  refine (c7 _).mono ?_
  rintro e w6 ⟨rfl, G6⟩
  go_wp2_with fail
  refine (c8 _).mono ?_
  rintro e w7 ⟨rfl, G7⟩
  go_wp2_with fail
  refine (numsBegun_any _).mono ?_
  rintro e w8 ⟨rfl, G8⟩
  dsimp only
  iterate 3 go_step
  simp only [List.append_eq, List.cons_append, List.nil_append]
  go_wp2_with fail
  refine (cS _).mono ?_
  rintro e w9 ⟨rfl, rfl⟩
  go_wp2_with fail
  refine (cR _).mono ?_
  rintro e w10 ⟨rfl, rfl⟩
  go_wp2_with fail
  go_ret
  exact ⟨rfl, bch (bch (bch (bch (bch (bch (bch (G1) G2 (Nat.le_refl _)) G3 (Nat.le_refl _)) G4 (Nat.le_refl _)) G5 (Nat.le_refl _)) G6 (Nat.le_refl _)) G7 (Nat.le_refl _)) G8 (Nat.le_refl _)⟩

set_option maxHeartbeats 1000000 in
theorem tells_y_ok_y (n : Int) (s t : ByteArray) (w : World) (hs : s.size ≤ 140737488355328) (ht0 : t.size ≤ 140737488355328) (hn : 0 ≤ n ∧ n ≤ 2147483647) (m k : Nat) (hf : Nm.from_ s.data.toList = some (m, k)) (hok : m ≤ 512 ∧ k + m ≤ s.size) (ht : t.size ≤ 512) :
    Calls Try.prog 3 #[.int .i64 n, .string s, .string t] w fun e w' => e = .returned (.bool true) ∧ Below w.heap.size w w' := by
  obtain ⟨N, rfl⟩ := Int.eq_ofNat_of_zero_le hn.1
  have c1 := fun w => put_yes (N : Int) w hn.1 hn.2
  have c2 := fun w => numBytes_any N (N : Int) w hn.1 (Int.le_refl _) hn.2
  simp only [Int.toNat_natCast] at c1 c2
  have hd1 : decide (0 ≤ (N : Int)) = true := by simp
  have hd2 : decide ((N : Int) ≤ 2147483647) = true := by simp; omega
  have hd3 : decide (0 ≤ N) = true := by simp
  have hd4 : decide (N ≤ 2147483647) = true := by simp; omega
  have c3 := fun w => take_yes s w m k (by omega) hf
  have c4 := fun w => numFrom_yes s w m k (by omega) hf
  have c7 := fun w => takeText_yes s w m k (by omega) hf hok.1 hok.2
  have c8 := fun w => textFrom_ok s w m k (by omega) hf hok.1 hok.2
  clear hf hok
  have c5 := fun w => text_yes t w ht
  have c6 := fun w => textBytes_any t w ht
  have hd5 : decide ((t.size : Int) ≤ 512) = true := by simp; omega
  have hd6 : decide (t.size ≤ 512) = true := by simp; omega
  have cS := fun w => sum_any t w (by omega)
  have cR := fun w => sumOf_any t w (by omega)
  generalize sumTo t t.size = Z at *
  clear hn ht
  go_enter Try.func3, Try.ntmps3
  go_wp2_with fail
  refine (c1 _).mono ?_
  rintro e w1 ⟨rfl, G1⟩
  go_wp2_with fail
  refine (c2 _).mono ?_
  rintro e w2 ⟨rfl, G2⟩
  go_wp2_with fail
  refine (c3 _).mono ?_
  rintro e w3 ⟨rfl, G3⟩
  go_wp2_with fail
  refine (c4 _).mono ?_
  rintro e w4 ⟨rfl, G4⟩
  go_wp2_with fail
  refine (c5 _).mono ?_
  rintro e w5 ⟨rfl, G5⟩
  go_wp2_with fail
  refine (c6 _).mono ?_
  rintro e w6 ⟨rfl, G6⟩
  go_wp2_with fail
  refine (c7 _).mono ?_
  rintro e w7 ⟨rfl, G7⟩
  go_wp2_with fail
  refine (c8 _).mono ?_
  rintro e w8 ⟨rfl, G8⟩
  go_wp2_with fail
  refine (numsBegun_any _).mono ?_
  rintro e w9 ⟨rfl, G9⟩
  dsimp only
  iterate 3 go_step
  simp only [List.append_eq, List.cons_append, List.nil_append]
  go_wp2_with fail
  refine (cS _).mono ?_
  rintro e w10 ⟨rfl, rfl⟩
  go_wp2_with fail
  refine (cR _).mono ?_
  rintro e w11 ⟨rfl, rfl⟩
  go_wp2_with fail
  go_ret
  exact ⟨rfl, bch (bch (bch (bch (bch (bch (bch (bch (G1) G2 (Nat.le_refl _)) G3 (Nat.le_refl _)) G4 (Nat.le_refl _)) G5 (Nat.le_refl _)) G6 (Nat.le_refl _)) G7 (Nat.le_refl _)) G8 (Nat.le_refl _)) G9 (Nat.le_refl _)⟩

set_option maxHeartbeats 1000000 in
theorem tells_y_ok_n (n : Int) (s t : ByteArray) (w : World) (hs : s.size ≤ 140737488355328) (ht0 : t.size ≤ 140737488355328) (hn : 0 ≤ n ∧ n ≤ 2147483647) (m k : Nat) (hf : Nm.from_ s.data.toList = some (m, k)) (hok : m ≤ 512 ∧ k + m ≤ s.size) (ht : 512 < t.size) :
    Calls Try.prog 3 #[.int .i64 n, .string s, .string t] w fun e w' => e = .returned (.bool true) ∧ Below w.heap.size w w' := by
  obtain ⟨N, rfl⟩ := Int.eq_ofNat_of_zero_le hn.1
  have c1 := fun w => put_yes (N : Int) w hn.1 hn.2
  have c2 := fun w => numBytes_any N (N : Int) w hn.1 (Int.le_refl _) hn.2
  simp only [Int.toNat_natCast] at c1 c2
  have hd1 : decide (0 ≤ (N : Int)) = true := by simp
  have hd2 : decide ((N : Int) ≤ 2147483647) = true := by simp; omega
  have hd3 : decide (0 ≤ N) = true := by simp
  have hd4 : decide (N ≤ 2147483647) = true := by simp; omega
  have c3 := fun w => take_yes s w m k (by omega) hf
  have c4 := fun w => numFrom_yes s w m k (by omega) hf
  have c7 := fun w => takeText_yes s w m k (by omega) hf hok.1 hok.2
  have c8 := fun w => textFrom_ok s w m k (by omega) hf hok.1 hok.2
  clear hf hok
  have c5 := fun w => text_no t w (by omega) ht
  have hd5 : decide ((t.size : Int) ≤ 512) = false := by simp; omega
  have hd6 : decide (t.size ≤ 512) = false := by simp; omega
  have cS := fun w => sum_any t w (by omega)
  have cR := fun w => sumOf_any t w (by omega)
  generalize sumTo t t.size = Z at *
  clear hn ht
  go_enter Try.func3, Try.ntmps3
  go_wp2_with fail
  refine (c1 _).mono ?_
  rintro e w1 ⟨rfl, G1⟩
  go_wp2_with fail
  refine (c2 _).mono ?_
  rintro e w2 ⟨rfl, G2⟩
  go_wp2_with fail
  refine (c3 _).mono ?_
  rintro e w3 ⟨rfl, G3⟩
  go_wp2_with fail
  refine (c4 _).mono ?_
  rintro e w4 ⟨rfl, G4⟩
  go_wp2_with fail
  refine (c5 _).mono ?_
  rintro e w5 ⟨rfl, G5⟩
  go_wp2_with fail
  refine (c7 _).mono ?_
  rintro e w6 ⟨rfl, G6⟩
  go_wp2_with fail
  refine (c8 _).mono ?_
  rintro e w7 ⟨rfl, G7⟩
  go_wp2_with fail
  refine (numsBegun_any _).mono ?_
  rintro e w8 ⟨rfl, G8⟩
  dsimp only
  iterate 3 go_step
  simp only [List.append_eq, List.cons_append, List.nil_append]
  go_wp2_with fail
  refine (cS _).mono ?_
  rintro e w9 ⟨rfl, rfl⟩
  go_wp2_with fail
  refine (cR _).mono ?_
  rintro e w10 ⟨rfl, rfl⟩
  go_wp2_with fail
  go_ret
  exact ⟨rfl, bch (bch (bch (bch (bch (bch (bch (G1) G2 (Nat.le_refl _)) G3 (Nat.le_refl _)) G4 (Nat.le_refl _)) G5 (Nat.le_refl _)) G6 (Nat.le_refl _)) G7 (Nat.le_refl _)) G8 (Nat.le_refl _)⟩

set_option maxHeartbeats 1000000 in
theorem tells_n_none_y (n : Int) (s t : ByteArray) (w : World) (hs : s.size ≤ 140737488355328) (ht0 : t.size ≤ 140737488355328) (hn : n < 0) (hf : Nm.from_ s.data.toList = none) (ht : t.size ≤ 512) :
    Calls Try.prog 3 #[.int .i64 n, .string s, .string t] w fun e w' => e = .returned (.bool true) ∧ Below w.heap.size w w' := by
  have c1 := fun w => put_no n w (Or.inl hn)
  have hd1 : decide (0 ≤ n) = false := by simp; omega
  have c3 := fun w => take_no s w (by omega) hf
  have c4 := fun w => numFrom_no s w (by omega) hf
  have c7 := fun w => takeText_none s w (by omega) hf
  have c8 := fun w => textFrom_none s w (by omega) hf
  clear hf
  have c5 := fun w => text_yes t w ht
  have c6 := fun w => textBytes_any t w ht
  have hd5 : decide ((t.size : Int) ≤ 512) = true := by simp; omega
  have hd6 : decide (t.size ≤ 512) = true := by simp; omega
  have cS := fun w => sum_any t w (by omega)
  have cR := fun w => sumOf_any t w (by omega)
  generalize sumTo t t.size = Z at *
  clear hn ht
  go_enter Try.func3, Try.ntmps3
  go_wp2_with fail
  refine (c1 _).mono ?_
  rintro e w1 ⟨rfl, G1⟩
  go_wp2_with fail
  refine (c3 _).mono ?_
  rintro e w2 ⟨rfl, G2⟩
  go_wp2_with fail
  refine (c4 _).mono ?_
  rintro e w3 ⟨rfl, G3⟩
  go_wp2_with fail
  refine (c5 _).mono ?_
  rintro e w4 ⟨rfl, G4⟩
  go_wp2_with fail
  refine (c6 _).mono ?_
  rintro e w5 ⟨rfl, G5⟩
  go_wp2_with fail
  refine (c7 _).mono ?_
  rintro e w6 ⟨rfl, G6⟩
  go_wp2_with fail
  refine (c8 _).mono ?_
  rintro e w7 ⟨rfl, G7⟩
  go_wp2_with fail
  refine (numsBegun_any _).mono ?_
  rintro e w8 ⟨rfl, G8⟩
  dsimp only
  iterate 3 go_step
  simp only [List.append_eq, List.cons_append, List.nil_append]
  go_wp2_with fail
  refine (cS _).mono ?_
  rintro e w9 ⟨rfl, rfl⟩
  go_wp2_with fail
  refine (cR _).mono ?_
  rintro e w10 ⟨rfl, rfl⟩
  go_wp2_with fail
  go_ret
  exact ⟨rfl, bch (bch (bch (bch (bch (bch (bch (G1) G2 (Nat.le_refl _)) G3 (Nat.le_refl _)) G4 (Nat.le_refl _)) G5 (Nat.le_refl _)) G6 (Nat.le_refl _)) G7 (Nat.le_refl _)) G8 (Nat.le_refl _)⟩

set_option maxHeartbeats 1000000 in
theorem tells_n_none_n (n : Int) (s t : ByteArray) (w : World) (hs : s.size ≤ 140737488355328) (ht0 : t.size ≤ 140737488355328) (hn : n < 0) (hf : Nm.from_ s.data.toList = none) (ht : 512 < t.size) :
    Calls Try.prog 3 #[.int .i64 n, .string s, .string t] w fun e w' => e = .returned (.bool true) ∧ Below w.heap.size w w' := by
  have c1 := fun w => put_no n w (Or.inl hn)
  have hd1 : decide (0 ≤ n) = false := by simp; omega
  have c3 := fun w => take_no s w (by omega) hf
  have c4 := fun w => numFrom_no s w (by omega) hf
  have c7 := fun w => takeText_none s w (by omega) hf
  have c8 := fun w => textFrom_none s w (by omega) hf
  clear hf
  have c5 := fun w => text_no t w (by omega) ht
  have hd5 : decide ((t.size : Int) ≤ 512) = false := by simp; omega
  have hd6 : decide (t.size ≤ 512) = false := by simp; omega
  have cS := fun w => sum_any t w (by omega)
  have cR := fun w => sumOf_any t w (by omega)
  generalize sumTo t t.size = Z at *
  clear hn ht
  go_enter Try.func3, Try.ntmps3
  go_wp2_with fail
  refine (c1 _).mono ?_
  rintro e w1 ⟨rfl, G1⟩
  go_wp2_with fail
  refine (c3 _).mono ?_
  rintro e w2 ⟨rfl, G2⟩
  go_wp2_with fail
  refine (c4 _).mono ?_
  rintro e w3 ⟨rfl, G3⟩
  go_wp2_with fail
  refine (c5 _).mono ?_
  rintro e w4 ⟨rfl, G4⟩
  go_wp2_with fail
  refine (c7 _).mono ?_
  rintro e w5 ⟨rfl, G5⟩
  go_wp2_with fail
  refine (c8 _).mono ?_
  rintro e w6 ⟨rfl, G6⟩
  go_wp2_with fail
  refine (numsBegun_any _).mono ?_
  rintro e w7 ⟨rfl, G7⟩
  dsimp only
  iterate 3 go_step
  simp only [List.append_eq, List.cons_append, List.nil_append]
  go_wp2_with fail
  refine (cS _).mono ?_
  rintro e w8 ⟨rfl, rfl⟩
  go_wp2_with fail
  refine (cR _).mono ?_
  rintro e w9 ⟨rfl, rfl⟩
  go_wp2_with fail
  go_ret
  exact ⟨rfl, bch (bch (bch (bch (bch (bch (G1) G2 (Nat.le_refl _)) G3 (Nat.le_refl _)) G4 (Nat.le_refl _)) G5 (Nat.le_refl _)) G6 (Nat.le_refl _)) G7 (Nat.le_refl _)⟩

set_option maxHeartbeats 1000000 in
theorem tells_n_bad_y (n : Int) (s t : ByteArray) (w : World) (hs : s.size ≤ 140737488355328) (ht0 : t.size ≤ 140737488355328) (hn : n < 0) (m k : Nat) (hf : Nm.from_ s.data.toList = some (m, k)) (hbad : 512 < m ∨ s.size < k + m) (ht : t.size ≤ 512) :
    Calls Try.prog 3 #[.int .i64 n, .string s, .string t] w fun e w' => e = .returned (.bool true) ∧ Below w.heap.size w w' := by
  have c1 := fun w => put_no n w (Or.inl hn)
  have hd1 : decide (0 ≤ n) = false := by simp; omega
  have c3 := fun w => take_yes s w m k (by omega) hf
  have c4 := fun w => numFrom_yes s w m k (by omega) hf
  have c7 := fun w => takeText_no s w m k (by omega) hf hbad
  have c8 := fun w => textFrom_bad s w m k (by omega) hf hbad
  clear hf hbad
  have c5 := fun w => text_yes t w ht
  have c6 := fun w => textBytes_any t w ht
  have hd5 : decide ((t.size : Int) ≤ 512) = true := by simp; omega
  have hd6 : decide (t.size ≤ 512) = true := by simp; omega
  have cS := fun w => sum_any t w (by omega)
  have cR := fun w => sumOf_any t w (by omega)
  generalize sumTo t t.size = Z at *
  clear hn ht
  go_enter Try.func3, Try.ntmps3
  go_wp2_with fail
  refine (c1 _).mono ?_
  rintro e w1 ⟨rfl, G1⟩
  go_wp2_with fail
  refine (c3 _).mono ?_
  rintro e w2 ⟨rfl, G2⟩
  go_wp2_with fail
  refine (c4 _).mono ?_
  rintro e w3 ⟨rfl, G3⟩
  go_wp2_with fail
  refine (c5 _).mono ?_
  rintro e w4 ⟨rfl, G4⟩
  go_wp2_with fail
  refine (c6 _).mono ?_
  rintro e w5 ⟨rfl, G5⟩
  go_wp2_with fail
  refine (c7 _).mono ?_
  rintro e w6 ⟨rfl, G6⟩
  go_wp2_with fail
  refine (c8 _).mono ?_
  rintro e w7 ⟨rfl, G7⟩
  go_wp2_with fail
  refine (numsBegun_any _).mono ?_
  rintro e w8 ⟨rfl, G8⟩
  dsimp only
  iterate 3 go_step
  simp only [List.append_eq, List.cons_append, List.nil_append]
  go_wp2_with fail
  refine (cS _).mono ?_
  rintro e w9 ⟨rfl, rfl⟩
  go_wp2_with fail
  refine (cR _).mono ?_
  rintro e w10 ⟨rfl, rfl⟩
  go_wp2_with fail
  go_ret
  exact ⟨rfl, bch (bch (bch (bch (bch (bch (bch (G1) G2 (Nat.le_refl _)) G3 (Nat.le_refl _)) G4 (Nat.le_refl _)) G5 (Nat.le_refl _)) G6 (Nat.le_refl _)) G7 (Nat.le_refl _)) G8 (Nat.le_refl _)⟩

set_option maxHeartbeats 1000000 in
theorem tells_n_bad_n (n : Int) (s t : ByteArray) (w : World) (hs : s.size ≤ 140737488355328) (ht0 : t.size ≤ 140737488355328) (hn : n < 0) (m k : Nat) (hf : Nm.from_ s.data.toList = some (m, k)) (hbad : 512 < m ∨ s.size < k + m) (ht : 512 < t.size) :
    Calls Try.prog 3 #[.int .i64 n, .string s, .string t] w fun e w' => e = .returned (.bool true) ∧ Below w.heap.size w w' := by
  have c1 := fun w => put_no n w (Or.inl hn)
  have hd1 : decide (0 ≤ n) = false := by simp; omega
  have c3 := fun w => take_yes s w m k (by omega) hf
  have c4 := fun w => numFrom_yes s w m k (by omega) hf
  have c7 := fun w => takeText_no s w m k (by omega) hf hbad
  have c8 := fun w => textFrom_bad s w m k (by omega) hf hbad
  clear hf hbad
  have c5 := fun w => text_no t w (by omega) ht
  have hd5 : decide ((t.size : Int) ≤ 512) = false := by simp; omega
  have hd6 : decide (t.size ≤ 512) = false := by simp; omega
  have cS := fun w => sum_any t w (by omega)
  have cR := fun w => sumOf_any t w (by omega)
  generalize sumTo t t.size = Z at *
  clear hn ht
  go_enter Try.func3, Try.ntmps3
  go_wp2_with fail
  refine (c1 _).mono ?_
  rintro e w1 ⟨rfl, G1⟩
  go_wp2_with fail
  refine (c3 _).mono ?_
  rintro e w2 ⟨rfl, G2⟩
  go_wp2_with fail
  refine (c4 _).mono ?_
  rintro e w3 ⟨rfl, G3⟩
  go_wp2_with fail
  refine (c5 _).mono ?_
  rintro e w4 ⟨rfl, G4⟩
  go_wp2_with fail
  refine (c7 _).mono ?_
  rintro e w5 ⟨rfl, G5⟩
  go_wp2_with fail
  refine (c8 _).mono ?_
  rintro e w6 ⟨rfl, G6⟩
  go_wp2_with fail
  refine (numsBegun_any _).mono ?_
  rintro e w7 ⟨rfl, G7⟩
  dsimp only
  iterate 3 go_step
  simp only [List.append_eq, List.cons_append, List.nil_append]
  go_wp2_with fail
  refine (cS _).mono ?_
  rintro e w8 ⟨rfl, rfl⟩
  go_wp2_with fail
  refine (cR _).mono ?_
  rintro e w9 ⟨rfl, rfl⟩
  go_wp2_with fail
  go_ret
  exact ⟨rfl, bch (bch (bch (bch (bch (bch (G1) G2 (Nat.le_refl _)) G3 (Nat.le_refl _)) G4 (Nat.le_refl _)) G5 (Nat.le_refl _)) G6 (Nat.le_refl _)) G7 (Nat.le_refl _)⟩

set_option maxHeartbeats 1000000 in
theorem tells_n_ok_y (n : Int) (s t : ByteArray) (w : World) (hs : s.size ≤ 140737488355328) (ht0 : t.size ≤ 140737488355328) (hn : n < 0) (m k : Nat) (hf : Nm.from_ s.data.toList = some (m, k)) (hok : m ≤ 512 ∧ k + m ≤ s.size) (ht : t.size ≤ 512) :
    Calls Try.prog 3 #[.int .i64 n, .string s, .string t] w fun e w' => e = .returned (.bool true) ∧ Below w.heap.size w w' := by
  have c1 := fun w => put_no n w (Or.inl hn)
  have hd1 : decide (0 ≤ n) = false := by simp; omega
  have c3 := fun w => take_yes s w m k (by omega) hf
  have c4 := fun w => numFrom_yes s w m k (by omega) hf
  have c7 := fun w => takeText_yes s w m k (by omega) hf hok.1 hok.2
  have c8 := fun w => textFrom_ok s w m k (by omega) hf hok.1 hok.2
  clear hf hok
  have c5 := fun w => text_yes t w ht
  have c6 := fun w => textBytes_any t w ht
  have hd5 : decide ((t.size : Int) ≤ 512) = true := by simp; omega
  have hd6 : decide (t.size ≤ 512) = true := by simp; omega
  have cS := fun w => sum_any t w (by omega)
  have cR := fun w => sumOf_any t w (by omega)
  generalize sumTo t t.size = Z at *
  clear hn ht
  go_enter Try.func3, Try.ntmps3
  go_wp2_with fail
  refine (c1 _).mono ?_
  rintro e w1 ⟨rfl, G1⟩
  go_wp2_with fail
  refine (c3 _).mono ?_
  rintro e w2 ⟨rfl, G2⟩
  go_wp2_with fail
  refine (c4 _).mono ?_
  rintro e w3 ⟨rfl, G3⟩
  go_wp2_with fail
  refine (c5 _).mono ?_
  rintro e w4 ⟨rfl, G4⟩
  go_wp2_with fail
  refine (c6 _).mono ?_
  rintro e w5 ⟨rfl, G5⟩
  go_wp2_with fail
  refine (c7 _).mono ?_
  rintro e w6 ⟨rfl, G6⟩
  go_wp2_with fail
  refine (c8 _).mono ?_
  rintro e w7 ⟨rfl, G7⟩
  go_wp2_with fail
  refine (numsBegun_any _).mono ?_
  rintro e w8 ⟨rfl, G8⟩
  dsimp only
  iterate 3 go_step
  simp only [List.append_eq, List.cons_append, List.nil_append]
  go_wp2_with fail
  refine (cS _).mono ?_
  rintro e w9 ⟨rfl, rfl⟩
  go_wp2_with fail
  refine (cR _).mono ?_
  rintro e w10 ⟨rfl, rfl⟩
  go_wp2_with fail
  go_ret
  exact ⟨rfl, bch (bch (bch (bch (bch (bch (bch (G1) G2 (Nat.le_refl _)) G3 (Nat.le_refl _)) G4 (Nat.le_refl _)) G5 (Nat.le_refl _)) G6 (Nat.le_refl _)) G7 (Nat.le_refl _)) G8 (Nat.le_refl _)⟩

set_option maxHeartbeats 1000000 in
theorem tells_n_ok_n (n : Int) (s t : ByteArray) (w : World) (hs : s.size ≤ 140737488355328) (ht0 : t.size ≤ 140737488355328) (hn : n < 0) (m k : Nat) (hf : Nm.from_ s.data.toList = some (m, k)) (hok : m ≤ 512 ∧ k + m ≤ s.size) (ht : 512 < t.size) :
    Calls Try.prog 3 #[.int .i64 n, .string s, .string t] w fun e w' => e = .returned (.bool true) ∧ Below w.heap.size w w' := by
  have c1 := fun w => put_no n w (Or.inl hn)
  have hd1 : decide (0 ≤ n) = false := by simp; omega
  have c3 := fun w => take_yes s w m k (by omega) hf
  have c4 := fun w => numFrom_yes s w m k (by omega) hf
  have c7 := fun w => takeText_yes s w m k (by omega) hf hok.1 hok.2
  have c8 := fun w => textFrom_ok s w m k (by omega) hf hok.1 hok.2
  clear hf hok
  have c5 := fun w => text_no t w (by omega) ht
  have hd5 : decide ((t.size : Int) ≤ 512) = false := by simp; omega
  have hd6 : decide (t.size ≤ 512) = false := by simp; omega
  have cS := fun w => sum_any t w (by omega)
  have cR := fun w => sumOf_any t w (by omega)
  generalize sumTo t t.size = Z at *
  clear hn ht
  go_enter Try.func3, Try.ntmps3
  go_wp2_with fail
  refine (c1 _).mono ?_
  rintro e w1 ⟨rfl, G1⟩
  go_wp2_with fail
  refine (c3 _).mono ?_
  rintro e w2 ⟨rfl, G2⟩
  go_wp2_with fail
  refine (c4 _).mono ?_
  rintro e w3 ⟨rfl, G3⟩
  go_wp2_with fail
  refine (c5 _).mono ?_
  rintro e w4 ⟨rfl, G4⟩
  go_wp2_with fail
  refine (c7 _).mono ?_
  rintro e w5 ⟨rfl, G5⟩
  go_wp2_with fail
  refine (c8 _).mono ?_
  rintro e w6 ⟨rfl, G6⟩
  go_wp2_with fail
  refine (numsBegun_any _).mono ?_
  rintro e w7 ⟨rfl, G7⟩
  dsimp only
  iterate 3 go_step
  simp only [List.append_eq, List.cons_append, List.nil_append]
  go_wp2_with fail
  refine (cS _).mono ?_
  rintro e w8 ⟨rfl, rfl⟩
  go_wp2_with fail
  refine (cR _).mono ?_
  rintro e w9 ⟨rfl, rfl⟩
  go_wp2_with fail
  go_ret
  exact ⟨rfl, bch (bch (bch (bch (bch (bch (G1) G2 (Nat.le_refl _)) G3 (Nat.le_refl _)) G4 (Nat.le_refl _)) G5 (Nat.le_refl _)) G6 (Nat.le_refl _)) G7 (Nat.le_refl _)⟩

set_option maxHeartbeats 1000000 in
theorem tells_b_none_y (n : Int) (s t : ByteArray) (w : World) (hs : s.size ≤ 140737488355328) (ht0 : t.size ≤ 140737488355328) (hn : 2147483647 < n) (hf : Nm.from_ s.data.toList = none) (ht : t.size ≤ 512) :
    Calls Try.prog 3 #[.int .i64 n, .string s, .string t] w fun e w' => e = .returned (.bool true) ∧ Below w.heap.size w w' := by
  have c1 := fun w => put_no n w (Or.inr hn)
  have hd1 : decide (0 ≤ n) = true := by simp; omega
  have hd2 : decide (n ≤ 2147483647) = false := by simp; omega
  have c3 := fun w => take_no s w (by omega) hf
  have c4 := fun w => numFrom_no s w (by omega) hf
  have c7 := fun w => takeText_none s w (by omega) hf
  have c8 := fun w => textFrom_none s w (by omega) hf
  clear hf
  have c5 := fun w => text_yes t w ht
  have c6 := fun w => textBytes_any t w ht
  have hd5 : decide ((t.size : Int) ≤ 512) = true := by simp; omega
  have hd6 : decide (t.size ≤ 512) = true := by simp; omega
  have cS := fun w => sum_any t w (by omega)
  have cR := fun w => sumOf_any t w (by omega)
  generalize sumTo t t.size = Z at *
  clear hn ht
  go_enter Try.func3, Try.ntmps3
  go_wp2_with fail
  refine (c1 _).mono ?_
  rintro e w1 ⟨rfl, G1⟩
  go_wp2_with fail
  refine (c3 _).mono ?_
  rintro e w2 ⟨rfl, G2⟩
  go_wp2_with fail
  refine (c4 _).mono ?_
  rintro e w3 ⟨rfl, G3⟩
  go_wp2_with fail
  refine (c5 _).mono ?_
  rintro e w4 ⟨rfl, G4⟩
  go_wp2_with fail
  refine (c6 _).mono ?_
  rintro e w5 ⟨rfl, G5⟩
  go_wp2_with fail
  refine (c7 _).mono ?_
  rintro e w6 ⟨rfl, G6⟩
  go_wp2_with fail
  refine (c8 _).mono ?_
  rintro e w7 ⟨rfl, G7⟩
  go_wp2_with fail
  refine (numsBegun_any _).mono ?_
  rintro e w8 ⟨rfl, G8⟩
  dsimp only
  iterate 3 go_step
  simp only [List.append_eq, List.cons_append, List.nil_append]
  go_wp2_with fail
  refine (cS _).mono ?_
  rintro e w9 ⟨rfl, rfl⟩
  go_wp2_with fail
  refine (cR _).mono ?_
  rintro e w10 ⟨rfl, rfl⟩
  go_wp2_with fail
  go_ret
  exact ⟨rfl, bch (bch (bch (bch (bch (bch (bch (G1) G2 (Nat.le_refl _)) G3 (Nat.le_refl _)) G4 (Nat.le_refl _)) G5 (Nat.le_refl _)) G6 (Nat.le_refl _)) G7 (Nat.le_refl _)) G8 (Nat.le_refl _)⟩

set_option maxHeartbeats 1000000 in
theorem tells_b_none_n (n : Int) (s t : ByteArray) (w : World) (hs : s.size ≤ 140737488355328) (ht0 : t.size ≤ 140737488355328) (hn : 2147483647 < n) (hf : Nm.from_ s.data.toList = none) (ht : 512 < t.size) :
    Calls Try.prog 3 #[.int .i64 n, .string s, .string t] w fun e w' => e = .returned (.bool true) ∧ Below w.heap.size w w' := by
  have c1 := fun w => put_no n w (Or.inr hn)
  have hd1 : decide (0 ≤ n) = true := by simp; omega
  have hd2 : decide (n ≤ 2147483647) = false := by simp; omega
  have c3 := fun w => take_no s w (by omega) hf
  have c4 := fun w => numFrom_no s w (by omega) hf
  have c7 := fun w => takeText_none s w (by omega) hf
  have c8 := fun w => textFrom_none s w (by omega) hf
  clear hf
  have c5 := fun w => text_no t w (by omega) ht
  have hd5 : decide ((t.size : Int) ≤ 512) = false := by simp; omega
  have hd6 : decide (t.size ≤ 512) = false := by simp; omega
  have cS := fun w => sum_any t w (by omega)
  have cR := fun w => sumOf_any t w (by omega)
  generalize sumTo t t.size = Z at *
  clear hn ht
  go_enter Try.func3, Try.ntmps3
  go_wp2_with fail
  refine (c1 _).mono ?_
  rintro e w1 ⟨rfl, G1⟩
  go_wp2_with fail
  refine (c3 _).mono ?_
  rintro e w2 ⟨rfl, G2⟩
  go_wp2_with fail
  refine (c4 _).mono ?_
  rintro e w3 ⟨rfl, G3⟩
  go_wp2_with fail
  refine (c5 _).mono ?_
  rintro e w4 ⟨rfl, G4⟩
  go_wp2_with fail
  refine (c7 _).mono ?_
  rintro e w5 ⟨rfl, G5⟩
  go_wp2_with fail
  refine (c8 _).mono ?_
  rintro e w6 ⟨rfl, G6⟩
  go_wp2_with fail
  refine (numsBegun_any _).mono ?_
  rintro e w7 ⟨rfl, G7⟩
  dsimp only
  iterate 3 go_step
  simp only [List.append_eq, List.cons_append, List.nil_append]
  go_wp2_with fail
  refine (cS _).mono ?_
  rintro e w8 ⟨rfl, rfl⟩
  go_wp2_with fail
  refine (cR _).mono ?_
  rintro e w9 ⟨rfl, rfl⟩
  go_wp2_with fail
  go_ret
  exact ⟨rfl, bch (bch (bch (bch (bch (bch (G1) G2 (Nat.le_refl _)) G3 (Nat.le_refl _)) G4 (Nat.le_refl _)) G5 (Nat.le_refl _)) G6 (Nat.le_refl _)) G7 (Nat.le_refl _)⟩

set_option maxHeartbeats 1000000 in
theorem tells_b_bad_y (n : Int) (s t : ByteArray) (w : World) (hs : s.size ≤ 140737488355328) (ht0 : t.size ≤ 140737488355328) (hn : 2147483647 < n) (m k : Nat) (hf : Nm.from_ s.data.toList = some (m, k)) (hbad : 512 < m ∨ s.size < k + m) (ht : t.size ≤ 512) :
    Calls Try.prog 3 #[.int .i64 n, .string s, .string t] w fun e w' => e = .returned (.bool true) ∧ Below w.heap.size w w' := by
  have c1 := fun w => put_no n w (Or.inr hn)
  have hd1 : decide (0 ≤ n) = true := by simp; omega
  have hd2 : decide (n ≤ 2147483647) = false := by simp; omega
  have c3 := fun w => take_yes s w m k (by omega) hf
  have c4 := fun w => numFrom_yes s w m k (by omega) hf
  have c7 := fun w => takeText_no s w m k (by omega) hf hbad
  have c8 := fun w => textFrom_bad s w m k (by omega) hf hbad
  clear hf hbad
  have c5 := fun w => text_yes t w ht
  have c6 := fun w => textBytes_any t w ht
  have hd5 : decide ((t.size : Int) ≤ 512) = true := by simp; omega
  have hd6 : decide (t.size ≤ 512) = true := by simp; omega
  have cS := fun w => sum_any t w (by omega)
  have cR := fun w => sumOf_any t w (by omega)
  generalize sumTo t t.size = Z at *
  clear hn ht
  go_enter Try.func3, Try.ntmps3
  go_wp2_with fail
  refine (c1 _).mono ?_
  rintro e w1 ⟨rfl, G1⟩
  go_wp2_with fail
  refine (c3 _).mono ?_
  rintro e w2 ⟨rfl, G2⟩
  go_wp2_with fail
  refine (c4 _).mono ?_
  rintro e w3 ⟨rfl, G3⟩
  go_wp2_with fail
  refine (c5 _).mono ?_
  rintro e w4 ⟨rfl, G4⟩
  go_wp2_with fail
  refine (c6 _).mono ?_
  rintro e w5 ⟨rfl, G5⟩
  go_wp2_with fail
  refine (c7 _).mono ?_
  rintro e w6 ⟨rfl, G6⟩
  go_wp2_with fail
  refine (c8 _).mono ?_
  rintro e w7 ⟨rfl, G7⟩
  go_wp2_with fail
  refine (numsBegun_any _).mono ?_
  rintro e w8 ⟨rfl, G8⟩
  dsimp only
  iterate 3 go_step
  simp only [List.append_eq, List.cons_append, List.nil_append]
  go_wp2_with fail
  refine (cS _).mono ?_
  rintro e w9 ⟨rfl, rfl⟩
  go_wp2_with fail
  refine (cR _).mono ?_
  rintro e w10 ⟨rfl, rfl⟩
  go_wp2_with fail
  go_ret
  exact ⟨rfl, bch (bch (bch (bch (bch (bch (bch (G1) G2 (Nat.le_refl _)) G3 (Nat.le_refl _)) G4 (Nat.le_refl _)) G5 (Nat.le_refl _)) G6 (Nat.le_refl _)) G7 (Nat.le_refl _)) G8 (Nat.le_refl _)⟩

set_option maxHeartbeats 1000000 in
theorem tells_b_bad_n (n : Int) (s t : ByteArray) (w : World) (hs : s.size ≤ 140737488355328) (ht0 : t.size ≤ 140737488355328) (hn : 2147483647 < n) (m k : Nat) (hf : Nm.from_ s.data.toList = some (m, k)) (hbad : 512 < m ∨ s.size < k + m) (ht : 512 < t.size) :
    Calls Try.prog 3 #[.int .i64 n, .string s, .string t] w fun e w' => e = .returned (.bool true) ∧ Below w.heap.size w w' := by
  have c1 := fun w => put_no n w (Or.inr hn)
  have hd1 : decide (0 ≤ n) = true := by simp; omega
  have hd2 : decide (n ≤ 2147483647) = false := by simp; omega
  have c3 := fun w => take_yes s w m k (by omega) hf
  have c4 := fun w => numFrom_yes s w m k (by omega) hf
  have c7 := fun w => takeText_no s w m k (by omega) hf hbad
  have c8 := fun w => textFrom_bad s w m k (by omega) hf hbad
  clear hf hbad
  have c5 := fun w => text_no t w (by omega) ht
  have hd5 : decide ((t.size : Int) ≤ 512) = false := by simp; omega
  have hd6 : decide (t.size ≤ 512) = false := by simp; omega
  have cS := fun w => sum_any t w (by omega)
  have cR := fun w => sumOf_any t w (by omega)
  generalize sumTo t t.size = Z at *
  clear hn ht
  go_enter Try.func3, Try.ntmps3
  go_wp2_with fail
  refine (c1 _).mono ?_
  rintro e w1 ⟨rfl, G1⟩
  go_wp2_with fail
  refine (c3 _).mono ?_
  rintro e w2 ⟨rfl, G2⟩
  go_wp2_with fail
  refine (c4 _).mono ?_
  rintro e w3 ⟨rfl, G3⟩
  go_wp2_with fail
  refine (c5 _).mono ?_
  rintro e w4 ⟨rfl, G4⟩
  go_wp2_with fail
  refine (c7 _).mono ?_
  rintro e w5 ⟨rfl, G5⟩
  go_wp2_with fail
  refine (c8 _).mono ?_
  rintro e w6 ⟨rfl, G6⟩
  go_wp2_with fail
  refine (numsBegun_any _).mono ?_
  rintro e w7 ⟨rfl, G7⟩
  dsimp only
  iterate 3 go_step
  simp only [List.append_eq, List.cons_append, List.nil_append]
  go_wp2_with fail
  refine (cS _).mono ?_
  rintro e w8 ⟨rfl, rfl⟩
  go_wp2_with fail
  refine (cR _).mono ?_
  rintro e w9 ⟨rfl, rfl⟩
  go_wp2_with fail
  go_ret
  exact ⟨rfl, bch (bch (bch (bch (bch (bch (G1) G2 (Nat.le_refl _)) G3 (Nat.le_refl _)) G4 (Nat.le_refl _)) G5 (Nat.le_refl _)) G6 (Nat.le_refl _)) G7 (Nat.le_refl _)⟩

set_option maxHeartbeats 1000000 in
theorem tells_b_ok_y (n : Int) (s t : ByteArray) (w : World) (hs : s.size ≤ 140737488355328) (ht0 : t.size ≤ 140737488355328) (hn : 2147483647 < n) (m k : Nat) (hf : Nm.from_ s.data.toList = some (m, k)) (hok : m ≤ 512 ∧ k + m ≤ s.size) (ht : t.size ≤ 512) :
    Calls Try.prog 3 #[.int .i64 n, .string s, .string t] w fun e w' => e = .returned (.bool true) ∧ Below w.heap.size w w' := by
  have c1 := fun w => put_no n w (Or.inr hn)
  have hd1 : decide (0 ≤ n) = true := by simp; omega
  have hd2 : decide (n ≤ 2147483647) = false := by simp; omega
  have c3 := fun w => take_yes s w m k (by omega) hf
  have c4 := fun w => numFrom_yes s w m k (by omega) hf
  have c7 := fun w => takeText_yes s w m k (by omega) hf hok.1 hok.2
  have c8 := fun w => textFrom_ok s w m k (by omega) hf hok.1 hok.2
  clear hf hok
  have c5 := fun w => text_yes t w ht
  have c6 := fun w => textBytes_any t w ht
  have hd5 : decide ((t.size : Int) ≤ 512) = true := by simp; omega
  have hd6 : decide (t.size ≤ 512) = true := by simp; omega
  have cS := fun w => sum_any t w (by omega)
  have cR := fun w => sumOf_any t w (by omega)
  generalize sumTo t t.size = Z at *
  clear hn ht
  go_enter Try.func3, Try.ntmps3
  go_wp2_with fail
  refine (c1 _).mono ?_
  rintro e w1 ⟨rfl, G1⟩
  go_wp2_with fail
  refine (c3 _).mono ?_
  rintro e w2 ⟨rfl, G2⟩
  go_wp2_with fail
  refine (c4 _).mono ?_
  rintro e w3 ⟨rfl, G3⟩
  go_wp2_with fail
  refine (c5 _).mono ?_
  rintro e w4 ⟨rfl, G4⟩
  go_wp2_with fail
  refine (c6 _).mono ?_
  rintro e w5 ⟨rfl, G5⟩
  go_wp2_with fail
  refine (c7 _).mono ?_
  rintro e w6 ⟨rfl, G6⟩
  go_wp2_with fail
  refine (c8 _).mono ?_
  rintro e w7 ⟨rfl, G7⟩
  go_wp2_with fail
  refine (numsBegun_any _).mono ?_
  rintro e w8 ⟨rfl, G8⟩
  dsimp only
  iterate 3 go_step
  simp only [List.append_eq, List.cons_append, List.nil_append]
  go_wp2_with fail
  refine (cS _).mono ?_
  rintro e w9 ⟨rfl, rfl⟩
  go_wp2_with fail
  refine (cR _).mono ?_
  rintro e w10 ⟨rfl, rfl⟩
  go_wp2_with fail
  go_ret
  exact ⟨rfl, bch (bch (bch (bch (bch (bch (bch (G1) G2 (Nat.le_refl _)) G3 (Nat.le_refl _)) G4 (Nat.le_refl _)) G5 (Nat.le_refl _)) G6 (Nat.le_refl _)) G7 (Nat.le_refl _)) G8 (Nat.le_refl _)⟩

set_option maxHeartbeats 1000000 in
theorem tells_b_ok_n (n : Int) (s t : ByteArray) (w : World) (hs : s.size ≤ 140737488355328) (ht0 : t.size ≤ 140737488355328) (hn : 2147483647 < n) (m k : Nat) (hf : Nm.from_ s.data.toList = some (m, k)) (hok : m ≤ 512 ∧ k + m ≤ s.size) (ht : 512 < t.size) :
    Calls Try.prog 3 #[.int .i64 n, .string s, .string t] w fun e w' => e = .returned (.bool true) ∧ Below w.heap.size w w' := by
  have c1 := fun w => put_no n w (Or.inr hn)
  have hd1 : decide (0 ≤ n) = true := by simp; omega
  have hd2 : decide (n ≤ 2147483647) = false := by simp; omega
  have c3 := fun w => take_yes s w m k (by omega) hf
  have c4 := fun w => numFrom_yes s w m k (by omega) hf
  have c7 := fun w => takeText_yes s w m k (by omega) hf hok.1 hok.2
  have c8 := fun w => textFrom_ok s w m k (by omega) hf hok.1 hok.2
  clear hf hok
  have c5 := fun w => text_no t w (by omega) ht
  have hd5 : decide ((t.size : Int) ≤ 512) = false := by simp; omega
  have hd6 : decide (t.size ≤ 512) = false := by simp; omega
  have cS := fun w => sum_any t w (by omega)
  have cR := fun w => sumOf_any t w (by omega)
  generalize sumTo t t.size = Z at *
  clear hn ht
  go_enter Try.func3, Try.ntmps3
  go_wp2_with fail
  refine (c1 _).mono ?_
  rintro e w1 ⟨rfl, G1⟩
  go_wp2_with fail
  refine (c3 _).mono ?_
  rintro e w2 ⟨rfl, G2⟩
  go_wp2_with fail
  refine (c4 _).mono ?_
  rintro e w3 ⟨rfl, G3⟩
  go_wp2_with fail
  refine (c5 _).mono ?_
  rintro e w4 ⟨rfl, G4⟩
  go_wp2_with fail
  refine (c7 _).mono ?_
  rintro e w5 ⟨rfl, G5⟩
  go_wp2_with fail
  refine (c8 _).mono ?_
  rintro e w6 ⟨rfl, G6⟩
  go_wp2_with fail
  refine (numsBegun_any _).mono ?_
  rintro e w7 ⟨rfl, G7⟩
  dsimp only
  iterate 3 go_step
  simp only [List.append_eq, List.cons_append, List.nil_append]
  go_wp2_with fail
  refine (cS _).mono ?_
  rintro e w8 ⟨rfl, rfl⟩
  go_wp2_with fail
  refine (cR _).mono ?_
  rintro e w9 ⟨rfl, rfl⟩
  go_wp2_with fail
  go_ret
  exact ⟨rfl, bch (bch (bch (bch (bch (bch (G1) G2 (Nat.le_refl _)) G3 (Nat.le_refl _)) G4 (Nat.le_refl _)) G5 (Nat.le_refl _)) G6 (Nat.le_refl _)) G7 (Nat.le_refl _)⟩

theorem numsTells_any (n : Int) (s t : ByteArray) (w : World) (hs : s.size ≤ 140737488355328) (ht0 : t.size ≤ 140737488355328) :
    Calls Try.prog 3 #[.int .i64 n, .string s, .string t] w fun e w' => e = .returned (.bool true) ∧ Below w.heap.size w w' := by
  have hA : (0 ≤ n ∧ n ≤ 2147483647) ∨ n < 0 ∨ 2147483647 < n := by omega
  have hT : t.size ≤ 512 ∨ 512 < t.size := by omega
  cases hf : Nm.from_ s.data.toList with
  | none =>
    rcases hA with hn | hn | hn <;> rcases hT with ht | ht
    · exact tells_y_none_y n s t w hs ht0 hn hf ht
    · exact tells_y_none_n n s t w hs ht0 hn hf ht
    · exact tells_n_none_y n s t w hs ht0 hn hf ht
    · exact tells_n_none_n n s t w hs ht0 hn hf ht
    · exact tells_b_none_y n s t w hs ht0 hn hf ht
    · exact tells_b_none_n n s t w hs ht0 hn hf ht
  | some x =>
    have hB : (512 < x.1 ∨ s.size < x.2 + x.1) ∨ (x.1 ≤ 512 ∧ x.2 + x.1 ≤ s.size) := by omega
    rcases hA with hn | hn | hn <;> rcases hT with ht | ht <;> rcases hB with hb | hb
    · exact tells_y_bad_y n s t w hs ht0 hn x.1 x.2 hf hb ht
    · exact tells_y_ok_y n s t w hs ht0 hn x.1 x.2 hf hb ht
    · exact tells_y_bad_n n s t w hs ht0 hn x.1 x.2 hf hb ht
    · exact tells_y_ok_n n s t w hs ht0 hn x.1 x.2 hf hb ht
    · exact tells_n_bad_y n s t w hs ht0 hn x.1 x.2 hf hb ht
    · exact tells_n_ok_y n s t w hs ht0 hn x.1 x.2 hf hb ht
    · exact tells_n_bad_n n s t w hs ht0 hn x.1 x.2 hf hb ht
    · exact tells_n_ok_n n s t w hs ht0 hn x.1 x.2 hf hb ht
    · exact tells_b_bad_y n s t w hs ht0 hn x.1 x.2 hf hb ht
    · exact tells_b_ok_y n s t w hs ht0 hn x.1 x.2 hf hb ht
    · exact tells_b_bad_n n s t w hs ht0 hn x.1 x.2 hf hb ht
    · exact tells_b_ok_n n s t w hs ht0 hn x.1 x.2 hf hb ht
end Go.Proofs.Ytbjbjbpgmojcbaa
