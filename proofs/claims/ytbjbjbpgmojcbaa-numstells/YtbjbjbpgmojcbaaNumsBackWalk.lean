/- The walk of the law NumsBack: it answers true, whatever it is handed (texts of at most 2^47 bytes: the form's own reach). -/
import Derived.Test.YtbjbjbpgmojcbaaNumsRest
namespace Go.Proofs.Ytbjbjbpgmojcbaa
open Go.RowKit

theorem size_mk (l : List UInt8) : (⟨l.toArray⟩ : ByteArray).size = l.length := by simp [ByteArray.size]
theorem app_data (a b : ByteArray) : (a ++ b).data.toList = a.data.toList ++ b.data.toList := by simp
theorem app_size (a b : ByteArray) : (a ++ b).size = a.size + b.size := by simp

theorem ext_end (s : ByteArray) (a : Nat) : (s.extract a s.size).data.toList = s.data.toList.drop a := by
  rw [Lib.extract_data, List.take_of_length_le]
  rw [List.length_drop]
  simp

theorem behind (l : List UInt8) (r : ByteArray) : ((⟨l.toArray⟩ : ByteArray) ++ r).extract l.length ((⟨l.toArray⟩ : ByteArray) ++ r).size = r := by
  apply Nm.ba_ext
  rw [ext_end, app_data]
  simp

/-- Take of Put, with whatever behind. -/
theorem back1 (n : Nat) (r : ByteArray) (w : World) (h : n ≤ 2147483647) (hr : r.size ≤ 140737488355328) :
    Calls Try.prog 17 #[.string (⟨(Nm.nb n).toArray⟩ ++ r)] w fun e w' => e = .returned (.tuple #[.int .i64 n, .string r, .int .i64 0]) ∧ Below w.heap.size w w' := by
  have hl := Nm.nb_len5 n h
  have hf : Nm.from_ ((⟨(Nm.nb n).toArray⟩ : ByteArray) ++ r).data.toList = some (n, (Nm.nb n).length) := by
    rw [app_data]
    exact Nm.from_nb n _ h
  have hc := take_yes (⟨(Nm.nb n).toArray⟩ ++ r) w n (Nm.nb n).length (by rw [app_size, size_mk (Nm.nb n)]; omega) hf
  rw [behind] at hc
  exact hc

/-- TakeText of Text, with whatever behind. -/
theorem back2 (t r : ByteArray) (w : World) (h : t.size ≤ 512) (hr : r.size ≤ 140737488355328) :
    Calls Try.prog 21 #[.string (⟨(Nm.nb t.size).toArray⟩ ++ t ++ r)] w fun e w' => e = .returned (.tuple #[.string t, .string r, .int .i64 0]) ∧ Below w.heap.size w w' := by
  have hl := Nm.nb_len5 t.size (by omega)
  have hf : Nm.from_ ((⟨(Nm.nb t.size).toArray⟩ : ByteArray) ++ t ++ r).data.toList = some (t.size, (Nm.nb t.size).length) := by
    rw [app_data, app_data, List.append_assoc]
    exact Nm.from_nb _ _ (by omega)
  have hc := takeText_yes (⟨(Nm.nb t.size).toArray⟩ ++ t ++ r) w t.size (Nm.nb t.size).length (by rw [app_size, app_size, size_mk (Nm.nb t.size)]; omega) hf h (by rw [app_size, app_size, size_mk (Nm.nb t.size)]; omega)
  have e1 : ((⟨(Nm.nb t.size).toArray⟩ : ByteArray) ++ t ++ r).extract (Nm.nb t.size).length ((Nm.nb t.size).length + t.size) = t := by
    apply Nm.ba_ext
    rw [Lib.extract_data, app_data, app_data]
    simp
  have e2 : ((⟨(Nm.nb t.size).toArray⟩ : ByteArray) ++ t ++ r).extract ((Nm.nb t.size).length + t.size) ((⟨(Nm.nb t.size).toArray⟩ : ByteArray) ++ t ++ r).size = r := by
    apply Nm.ba_ext
    rw [ext_end, app_data, app_data]
    rw [← List.drop_drop]
    simp
  rw [e1, e2] at hc
  exact hc

/-- What is taken is what was put. -/
theorem again (s : ByteArray) (n k : Nat) (h : Nm.from_ s.data.toList = some (n, k)) : (⟨(Nm.nb n).toArray⟩ : ByteArray) ++ s.extract k s.size = s := by
  apply Nm.ba_ext
  have hb := Nm.nb_from h
  rw [app_data, ext_end, hb.2.1]
  simp

set_option linter.unusedVariables false

set_option maxHeartbeats 1000000 in
theorem back_yyy (n : Int) (t r s : ByteArray) (w : World) (ht0 : t.size ≤ 140737488355328) (hr : r.size ≤ 140737488355328) (hs : s.size ≤ 140737488355328) (hn : 0 ≤ n ∧ n ≤ 2147483647) (ht : t.size ≤ 512) (m k : Nat) (hf : Nm.from_ s.data.toList = some (m, k)) :
    Calls Try.prog 4 #[.int .i64 n, .string t, .string r, .string s] w fun e w' => e = .returned (.bool true) ∧ Below w.heap.size w w' := by
  obtain ⟨N, rfl⟩ := Int.eq_ofNat_of_zero_le hn.1
  have c1 := fun w => put_yes (N : Int) w hn.1 hn.2
  simp only [Int.toNat_natCast] at c1
  have c2 := fun w => back1 N r w (by omega) hr
  have hl1 := Nm.nb_len5 N (by omega)
  have hrs : (r.size : Int) ≤ 140737488355328 := by omega
  have c3 := fun w => text_yes t w ht
  have c4 := fun w => back2 t r w ht hr
  have hl2 := Nm.nb_len5 t.size (by omega)
  have hrs2 : (r.size : Int) ≤ 140737488355328 := by omega
  have hts : (t.size : Int) ≤ 512 := by omega
  have hb := Nm.nb_from hf
  have c5 := fun w => take_yes s w m k (by omega) hf
  have c6 := fun w => put_yes (m : Int) w (by omega) (by omega)
  simp only [Int.toNat_natCast] at c6
  have hag := again s m k hf
  have hl3 := Nm.nb_len5 m hb.1
  have hss : (s.size : Int) ≤ 140737488355328 := by omega
  clear hb hf
  have H : Hid True := trivial
  clear hn ht
  go_enter Try.func4, Try.ntmps4
  go_wp2_with fail
  refine (c1 _).mono ?_
  rintro e w1 ⟨rfl, G1⟩
  go_wp2_with fail
  refine (c2 _).mono ?_
  rintro e w2 ⟨rfl, G2⟩
  go_wp2_with fail
  refine (c3 _).mono ?_
  rintro e w3 ⟨rfl, G3⟩
  go_wp2_with fail
  refine (c4 _).mono ?_
  rintro e w4 ⟨rfl, G4⟩
  go_wp2_with fail
  refine (c5 _).mono ?_
  rintro e w5 ⟨rfl, G5⟩
  go_wp2_with fail
  refine (c6 _).mono ?_
  rintro e w6 ⟨rfl, G6⟩
  go_wp2_with fail
  refine (numsBegun_any _).mono ?_
  rintro e w7 ⟨rfl, G7⟩
  go_wp2_with fail
  go_ret
  exact ⟨rfl, bch (bch (bch (bch (bch (bch (G1) G2 (Nat.le_refl _)) G3 (Nat.le_refl _)) G4 (Nat.le_refl _)) G5 (Nat.le_refl _)) G6 (Nat.le_refl _)) G7 (Nat.le_refl _)⟩

set_option maxHeartbeats 1000000 in
theorem back_yyn (n : Int) (t r s : ByteArray) (w : World) (ht0 : t.size ≤ 140737488355328) (hr : r.size ≤ 140737488355328) (hs : s.size ≤ 140737488355328) (hn : 0 ≤ n ∧ n ≤ 2147483647) (ht : t.size ≤ 512) (hf : Nm.from_ s.data.toList = none) :
    Calls Try.prog 4 #[.int .i64 n, .string t, .string r, .string s] w fun e w' => e = .returned (.bool true) ∧ Below w.heap.size w w' := by
  obtain ⟨N, rfl⟩ := Int.eq_ofNat_of_zero_le hn.1
  have c1 := fun w => put_yes (N : Int) w hn.1 hn.2
  simp only [Int.toNat_natCast] at c1
  have c2 := fun w => back1 N r w (by omega) hr
  have hl1 := Nm.nb_len5 N (by omega)
  have hrs : (r.size : Int) ≤ 140737488355328 := by omega
  have c3 := fun w => text_yes t w ht
  have c4 := fun w => back2 t r w ht hr
  have hl2 := Nm.nb_len5 t.size (by omega)
  have hrs2 : (r.size : Int) ≤ 140737488355328 := by omega
  have hts : (t.size : Int) ≤ 512 := by omega
  have c5 := fun w => take_no s w (by omega) hf
  have H : Hid True := trivial
  clear hn ht
  go_enter Try.func4, Try.ntmps4
  go_wp2_with fail
  refine (c1 _).mono ?_
  rintro e w1 ⟨rfl, G1⟩
  go_wp2_with fail
  refine (c2 _).mono ?_
  rintro e w2 ⟨rfl, G2⟩
  go_wp2_with fail
  refine (c3 _).mono ?_
  rintro e w3 ⟨rfl, G3⟩
  go_wp2_with fail
  refine (c4 _).mono ?_
  rintro e w4 ⟨rfl, G4⟩
  go_wp2_with fail
  refine (c5 _).mono ?_
  rintro e w5 ⟨rfl, G5⟩
  go_wp2_with fail
  refine (numsBegun_any _).mono ?_
  rintro e w6 ⟨rfl, G6⟩
  go_wp2_with fail
  go_ret
  exact ⟨rfl, bch (bch (bch (bch (bch (G1) G2 (Nat.le_refl _)) G3 (Nat.le_refl _)) G4 (Nat.le_refl _)) G5 (Nat.le_refl _)) G6 (Nat.le_refl _)⟩

set_option maxHeartbeats 1000000 in
theorem back_yny (n : Int) (t r s : ByteArray) (w : World) (ht0 : t.size ≤ 140737488355328) (hr : r.size ≤ 140737488355328) (hs : s.size ≤ 140737488355328) (hn : 0 ≤ n ∧ n ≤ 2147483647) (ht : 512 < t.size) (m k : Nat) (hf : Nm.from_ s.data.toList = some (m, k)) :
    Calls Try.prog 4 #[.int .i64 n, .string t, .string r, .string s] w fun e w' => e = .returned (.bool true) ∧ Below w.heap.size w w' := by
  obtain ⟨N, rfl⟩ := Int.eq_ofNat_of_zero_le hn.1
  have c1 := fun w => put_yes (N : Int) w hn.1 hn.2
  simp only [Int.toNat_natCast] at c1
  have c2 := fun w => back1 N r w (by omega) hr
  have hl1 := Nm.nb_len5 N (by omega)
  have hrs : (r.size : Int) ≤ 140737488355328 := by omega
  have c3 := fun w => text_no t w (by omega) ht
  have hb := Nm.nb_from hf
  have c5 := fun w => take_yes s w m k (by omega) hf
  have c6 := fun w => put_yes (m : Int) w (by omega) (by omega)
  simp only [Int.toNat_natCast] at c6
  have hag := again s m k hf
  have hl3 := Nm.nb_len5 m hb.1
  have hss : (s.size : Int) ≤ 140737488355328 := by omega
  clear hb hf
  have H : Hid True := trivial
  clear hn ht
  go_enter Try.func4, Try.ntmps4
  go_wp2_with fail
  refine (c1 _).mono ?_
  rintro e w1 ⟨rfl, G1⟩
  go_wp2_with fail
  refine (c2 _).mono ?_
  rintro e w2 ⟨rfl, G2⟩
  go_wp2_with fail
  refine (c3 _).mono ?_
  rintro e w3 ⟨rfl, G3⟩
  go_wp2_with fail
  refine (c5 _).mono ?_
  rintro e w4 ⟨rfl, G4⟩
  go_wp2_with fail
  refine (c6 _).mono ?_
  rintro e w5 ⟨rfl, G5⟩
  go_wp2_with fail
  refine (numsBegun_any _).mono ?_
  rintro e w6 ⟨rfl, G6⟩
  go_wp2_with fail
  go_ret
  exact ⟨rfl, bch (bch (bch (bch (bch (G1) G2 (Nat.le_refl _)) G3 (Nat.le_refl _)) G4 (Nat.le_refl _)) G5 (Nat.le_refl _)) G6 (Nat.le_refl _)⟩

set_option maxHeartbeats 1000000 in
theorem back_ynn (n : Int) (t r s : ByteArray) (w : World) (ht0 : t.size ≤ 140737488355328) (hr : r.size ≤ 140737488355328) (hs : s.size ≤ 140737488355328) (hn : 0 ≤ n ∧ n ≤ 2147483647) (ht : 512 < t.size) (hf : Nm.from_ s.data.toList = none) :
    Calls Try.prog 4 #[.int .i64 n, .string t, .string r, .string s] w fun e w' => e = .returned (.bool true) ∧ Below w.heap.size w w' := by
  obtain ⟨N, rfl⟩ := Int.eq_ofNat_of_zero_le hn.1
  have c1 := fun w => put_yes (N : Int) w hn.1 hn.2
  simp only [Int.toNat_natCast] at c1
  have c2 := fun w => back1 N r w (by omega) hr
  have hl1 := Nm.nb_len5 N (by omega)
  have hrs : (r.size : Int) ≤ 140737488355328 := by omega
  have c3 := fun w => text_no t w (by omega) ht
  have c5 := fun w => take_no s w (by omega) hf
  have H : Hid True := trivial
  clear hn ht
  go_enter Try.func4, Try.ntmps4
  go_wp2_with fail
  refine (c1 _).mono ?_
  rintro e w1 ⟨rfl, G1⟩
  go_wp2_with fail
  refine (c2 _).mono ?_
  rintro e w2 ⟨rfl, G2⟩
  go_wp2_with fail
  refine (c3 _).mono ?_
  rintro e w3 ⟨rfl, G3⟩
  go_wp2_with fail
  refine (c5 _).mono ?_
  rintro e w4 ⟨rfl, G4⟩
  go_wp2_with fail
  refine (numsBegun_any _).mono ?_
  rintro e w5 ⟨rfl, G5⟩
  go_wp2_with fail
  go_ret
  exact ⟨rfl, bch (bch (bch (bch (G1) G2 (Nat.le_refl _)) G3 (Nat.le_refl _)) G4 (Nat.le_refl _)) G5 (Nat.le_refl _)⟩

set_option maxHeartbeats 1000000 in
theorem back_nyy (n : Int) (t r s : ByteArray) (w : World) (ht0 : t.size ≤ 140737488355328) (hr : r.size ≤ 140737488355328) (hs : s.size ≤ 140737488355328) (hn : n < 0 ∨ 2147483647 < n) (ht : t.size ≤ 512) (m k : Nat) (hf : Nm.from_ s.data.toList = some (m, k)) :
    Calls Try.prog 4 #[.int .i64 n, .string t, .string r, .string s] w fun e w' => e = .returned (.bool true) ∧ Below w.heap.size w w' := by
  have c1 := fun w => put_no n w hn
  have c3 := fun w => text_yes t w ht
  have c4 := fun w => back2 t r w ht hr
  have hl2 := Nm.nb_len5 t.size (by omega)
  have hrs2 : (r.size : Int) ≤ 140737488355328 := by omega
  have hts : (t.size : Int) ≤ 512 := by omega
  have hb := Nm.nb_from hf
  have c5 := fun w => take_yes s w m k (by omega) hf
  have c6 := fun w => put_yes (m : Int) w (by omega) (by omega)
  simp only [Int.toNat_natCast] at c6
  have hag := again s m k hf
  have hl3 := Nm.nb_len5 m hb.1
  have hss : (s.size : Int) ≤ 140737488355328 := by omega
  clear hb hf
  have H : Hid True := trivial
  clear hn ht
  go_enter Try.func4, Try.ntmps4
  go_wp2_with fail
  refine (c1 _).mono ?_
  rintro e w1 ⟨rfl, G1⟩
  go_wp2_with fail
  refine (c3 _).mono ?_
  rintro e w2 ⟨rfl, G2⟩
  go_wp2_with fail
  refine (c4 _).mono ?_
  rintro e w3 ⟨rfl, G3⟩
  go_wp2_with fail
  refine (c5 _).mono ?_
  rintro e w4 ⟨rfl, G4⟩
  go_wp2_with fail
  refine (c6 _).mono ?_
  rintro e w5 ⟨rfl, G5⟩
  go_wp2_with fail
  refine (numsBegun_any _).mono ?_
  rintro e w6 ⟨rfl, G6⟩
  go_wp2_with fail
  go_ret
  exact ⟨rfl, bch (bch (bch (bch (bch (G1) G2 (Nat.le_refl _)) G3 (Nat.le_refl _)) G4 (Nat.le_refl _)) G5 (Nat.le_refl _)) G6 (Nat.le_refl _)⟩

set_option maxHeartbeats 1000000 in
theorem back_nyn (n : Int) (t r s : ByteArray) (w : World) (ht0 : t.size ≤ 140737488355328) (hr : r.size ≤ 140737488355328) (hs : s.size ≤ 140737488355328) (hn : n < 0 ∨ 2147483647 < n) (ht : t.size ≤ 512) (hf : Nm.from_ s.data.toList = none) :
    Calls Try.prog 4 #[.int .i64 n, .string t, .string r, .string s] w fun e w' => e = .returned (.bool true) ∧ Below w.heap.size w w' := by
  have c1 := fun w => put_no n w hn
  have c3 := fun w => text_yes t w ht
  have c4 := fun w => back2 t r w ht hr
  have hl2 := Nm.nb_len5 t.size (by omega)
  have hrs2 : (r.size : Int) ≤ 140737488355328 := by omega
  have hts : (t.size : Int) ≤ 512 := by omega
  have c5 := fun w => take_no s w (by omega) hf
  have H : Hid True := trivial
  clear hn ht
  go_enter Try.func4, Try.ntmps4
  go_wp2_with fail
  refine (c1 _).mono ?_
  rintro e w1 ⟨rfl, G1⟩
  go_wp2_with fail
  refine (c3 _).mono ?_
  rintro e w2 ⟨rfl, G2⟩
  go_wp2_with fail
  refine (c4 _).mono ?_
  rintro e w3 ⟨rfl, G3⟩
  go_wp2_with fail
  refine (c5 _).mono ?_
  rintro e w4 ⟨rfl, G4⟩
  go_wp2_with fail
  refine (numsBegun_any _).mono ?_
  rintro e w5 ⟨rfl, G5⟩
  go_wp2_with fail
  go_ret
  exact ⟨rfl, bch (bch (bch (bch (G1) G2 (Nat.le_refl _)) G3 (Nat.le_refl _)) G4 (Nat.le_refl _)) G5 (Nat.le_refl _)⟩

set_option maxHeartbeats 1000000 in
theorem back_nny (n : Int) (t r s : ByteArray) (w : World) (ht0 : t.size ≤ 140737488355328) (hr : r.size ≤ 140737488355328) (hs : s.size ≤ 140737488355328) (hn : n < 0 ∨ 2147483647 < n) (ht : 512 < t.size) (m k : Nat) (hf : Nm.from_ s.data.toList = some (m, k)) :
    Calls Try.prog 4 #[.int .i64 n, .string t, .string r, .string s] w fun e w' => e = .returned (.bool true) ∧ Below w.heap.size w w' := by
  have c1 := fun w => put_no n w hn
  have c3 := fun w => text_no t w (by omega) ht
  have hb := Nm.nb_from hf
  have c5 := fun w => take_yes s w m k (by omega) hf
  have c6 := fun w => put_yes (m : Int) w (by omega) (by omega)
  simp only [Int.toNat_natCast] at c6
  have hag := again s m k hf
  have hl3 := Nm.nb_len5 m hb.1
  have hss : (s.size : Int) ≤ 140737488355328 := by omega
  clear hb hf
  have H : Hid True := trivial
  clear hn ht
  go_enter Try.func4, Try.ntmps4
  go_wp2_with fail
  refine (c1 _).mono ?_
  rintro e w1 ⟨rfl, G1⟩
  go_wp2_with fail
  refine (c3 _).mono ?_
  rintro e w2 ⟨rfl, G2⟩
  go_wp2_with fail
  refine (c5 _).mono ?_
  rintro e w3 ⟨rfl, G3⟩
  go_wp2_with fail
  refine (c6 _).mono ?_
  rintro e w4 ⟨rfl, G4⟩
  go_wp2_with fail
  refine (numsBegun_any _).mono ?_
  rintro e w5 ⟨rfl, G5⟩
  go_wp2_with fail
  go_ret
  exact ⟨rfl, bch (bch (bch (bch (G1) G2 (Nat.le_refl _)) G3 (Nat.le_refl _)) G4 (Nat.le_refl _)) G5 (Nat.le_refl _)⟩

set_option maxHeartbeats 1000000 in
theorem back_nnn (n : Int) (t r s : ByteArray) (w : World) (ht0 : t.size ≤ 140737488355328) (hr : r.size ≤ 140737488355328) (hs : s.size ≤ 140737488355328) (hn : n < 0 ∨ 2147483647 < n) (ht : 512 < t.size) (hf : Nm.from_ s.data.toList = none) :
    Calls Try.prog 4 #[.int .i64 n, .string t, .string r, .string s] w fun e w' => e = .returned (.bool true) ∧ Below w.heap.size w w' := by
  have c1 := fun w => put_no n w hn
  have c3 := fun w => text_no t w (by omega) ht
  have c5 := fun w => take_no s w (by omega) hf
  have H : Hid True := trivial
  clear hn ht
  go_enter Try.func4, Try.ntmps4
  go_wp2_with fail
  refine (c1 _).mono ?_
  rintro e w1 ⟨rfl, G1⟩
  go_wp2_with fail
  refine (c3 _).mono ?_
  rintro e w2 ⟨rfl, G2⟩
  go_wp2_with fail
  refine (c5 _).mono ?_
  rintro e w3 ⟨rfl, G3⟩
  go_wp2_with fail
  refine (numsBegun_any _).mono ?_
  rintro e w4 ⟨rfl, G4⟩
  go_wp2_with fail
  go_ret
  exact ⟨rfl, bch (bch (bch (G1) G2 (Nat.le_refl _)) G3 (Nat.le_refl _)) G4 (Nat.le_refl _)⟩

theorem numsBack_any (n : Int) (t r s : ByteArray) (w : World) (ht0 : t.size ≤ 140737488355328) (hr : r.size ≤ 140737488355328) (hs : s.size ≤ 140737488355328) :
    Calls Try.prog 4 #[.int .i64 n, .string t, .string r, .string s] w fun e w' => e = .returned (.bool true) ∧ Below w.heap.size w w' := by
  by_cases hn : 0 ≤ n ∧ n ≤ 2147483647
  · by_cases ht : t.size ≤ 512
    · cases hf : Nm.from_ s.data.toList with
      | none => exact back_yyn n t r s w ht0 hr hs hn ht hf
      | some x => exact back_yyy n t r s w ht0 hr hs hn ht x.1 x.2 hf
    · cases hf : Nm.from_ s.data.toList with
      | none => exact back_ynn n t r s w ht0 hr hs hn (by omega) hf
      | some x => exact back_yny n t r s w ht0 hr hs hn (by omega) x.1 x.2 hf
  · by_cases ht : t.size ≤ 512
    · cases hf : Nm.from_ s.data.toList with
      | none => exact back_nyn n t r s w ht0 hr hs (by omega) ht hf
      | some x => exact back_nyy n t r s w ht0 hr hs (by omega) ht x.1 x.2 hf
    · cases hf : Nm.from_ s.data.toList with
      | none => exact back_nnn n t r s w ht0 hr hs (by omega) (by omega) hf
      | some x => exact back_nny n t r s w ht0 hr hs (by omega) (by omega) x.1 x.2 hf
end Go.Proofs.Ytbjbjbpgmojcbaa
