/- What nums.Take and nums.TakeText answer: chapter 1's A1 and A2, for texts of at most 2^48 bytes. -/
import Derived.Test.YtbjbjbpgmojcbaaNumsWalks
import Derived.Deep.RegionHeld3
import Derived.Deep.RegionWith
namespace Go.Proofs.Ytbjbjbpgmojcbaa
open Go.RowKit

set_option maxHeartbeats 400000 in
theorem take_no (s : ByteArray) (w : World) (hs : s.size ≤ 281474976710656) (h : Nm.from_ s.data.toList = none) :
    Calls Try.prog 17 #[.string s] w fun e w' => e = .returned (.tuple #[.int .i64 0, .string ⟨#[]⟩, .int .i64 1]) ∧ Below w.heap.size w w' := by
  have hn := Nm.num_none h
  have hc := begin_any s w (by unfold maxLen; omega)
  rw [hn.1, hn.2] at hc
  clear h hn
  go_enter Try.func17, Try.ntmps17
  go_wp2_with fail
  refine hc.mono ?_
  rintro e w' ⟨rfl, rfl⟩
  go_wp2_with fail
  go_ret3
  exact ⟨rfl, Below.refl _ _⟩

set_option maxHeartbeats 400000 in
theorem take_yes (s : ByteArray) (w : World) (n k : Nat) (hs : s.size ≤ 281474976710656) (h : Nm.from_ s.data.toList = some (n, k)) :
    Calls Try.prog 17 #[.string s] w fun e w' => e = .returned (.tuple #[.int .i64 n, .string (s.extract k s.size), .int .i64 0]) ∧ Below w.heap.size w w' := by
  have hn := Nm.num_some h
  have hc := begin_any s w (by unfold maxLen; omega)
  rw [hn.1, hn.2] at hc
  have hb := Nm.nb_from h
  have hk1 : (1 : Int) ≤ (k : Int) := by omega
  have hk2 : k ≤ s.size := by simpa using hb.2.2.1
  have hk0 : ((k : Int) == 0) = false := by simp; omega
  clear h hn hb
  go_enter Try.func17, Try.ntmps17
  go_wp2_with fail
  refine hc.mono ?_
  rintro e w' ⟨rfl, rfl⟩
  clear hc
  go_wp2_with fail
  refine (clone_any _ _ (by simp; omega)).mono ?_
  rintro e w' ⟨rfl, hb⟩
  go_wp2_with fail
  go_ret3
  exact ⟨rfl, hb⟩

set_option maxHeartbeats 400000 in
theorem takeText_none (s : ByteArray) (w : World) (hs : s.size ≤ 281474976710656) (h : Nm.from_ s.data.toList = none) :
    Calls Try.prog 21 #[.string s] w fun e w' => e = .returned (.tuple #[.string ⟨#[]⟩, .string ⟨#[]⟩, .int .i64 1]) ∧ Below w.heap.size w w' := by
  have hn := Nm.num_none h
  have hc := begin_any s w (by unfold maxLen; omega)
  rw [hn.1, hn.2] at hc
  clear h hn
  go_enter Try.func21, Try.ntmps21
  go_wp2_with fail
  refine hc.mono ?_
  rintro e w' ⟨rfl, rfl⟩
  clear hc
  go_wp2_with fail
  go_ret3
  exact ⟨rfl, Below.refl _ _⟩

set_option maxHeartbeats 400000 in
theorem takeText_no (s : ByteArray) (w : World) (n k : Nat) (hs : s.size ≤ 281474976710656) (h : Nm.from_ s.data.toList = some (n, k)) (hbad : 512 < n ∨ s.size < k + n) :
    Calls Try.prog 21 #[.string s] w fun e w' => e = .returned (.tuple #[.string ⟨#[]⟩, .string ⟨#[]⟩, .int .i64 1]) ∧ Below w.heap.size w w' := by
  have hn := Nm.num_some h
  have hc := begin_any s w (by unfold maxLen; omega)
  rw [hn.1, hn.2] at hc
  have hb := Nm.nb_from h
  have hn9 : (n : Int) ≤ 2147483647 := by omega
  have hk1 : (1 : Int) ≤ (k : Int) := by omega
  have hk2 : k ≤ s.size := by simpa using hb.2.2.1
  have hk0 : ((k : Int) == 0) = false := by simp; omega
  clear h hn hb
  by_cases hbig : 512 < n
  · have hb2 : (512 : Int) < (n : Int) := by omega
    clear hbad
    go_enter Try.func21, Try.ntmps21
    go_wp2_with fail
    refine hc.mono ?_
    rintro e w' ⟨rfl, rfl⟩
    clear hc
    go_wp2_with fail
    go_ret3
    exact ⟨rfl, Below.refl _ _⟩
  · have hb2 : (n : Int) ≤ 512 := by omega
    have hb3 : (s.size : Int) - (k : Int) < (n : Int) := by omega
    clear hbad
    go_enter Try.func21, Try.ntmps21
    go_wp2_with fail
    refine hc.mono ?_
    rintro e w' ⟨rfl, rfl⟩
    clear hc
    go_wp2_with fail
    go_ret3
    exact ⟨rfl, Below.refl _ _⟩

set_option maxHeartbeats 400000 in
theorem takeText_yes (s : ByteArray) (w : World) (n k : Nat) (hs : s.size ≤ 281474976710656) (h : Nm.from_ s.data.toList = some (n, k)) (hn5 : n ≤ 512) (hfit : k + n ≤ s.size) :
    Calls Try.prog 21 #[.string s] w fun e w' => e = .returned (.tuple #[.string (s.extract k (k + n)), .string (s.extract (k + n) s.size), .int .i64 0]) ∧ Below w.heap.size w w' := by
  have hn := Nm.num_some h
  have hc := begin_any s w (by unfold maxLen; omega)
  rw [hn.1, hn.2] at hc
  have hb := Nm.nb_from h
  have hk1 : (1 : Int) ≤ (k : Int) := by omega
  have hk2 : k ≤ s.size := by simpa using hb.2.2.1
  have hk0 : ((k : Int) == 0) = false := by simp; omega
  have ht1 : decide ((512 : Int) < (n : Int)) = false := by simp; omega
  have ht2 : decide ((s.size : Int) - (k : Int) < (n : Int)) = false := by simp; omega
  have hi1 : (k : Int) ≤ (k : Int) + (n : Int) := by omega
  have hi2 : (k : Int) + (n : Int) ≤ (s.size : Int) := by omega
  have hi3 : (0 : Int) ≤ (k : Int) + (n : Int) := by omega
  clear h hn hb
  go_enter Try.func21, Try.ntmps21
  go_wp2_with fail
  refine hc.mono ?_
  rintro e w' ⟨rfl, rfl⟩
  clear hc
  go_wp2_with fail
  have G : Below w'.heap.size w' w' := Below.refl _ _
  go_region_with (go_at_call 54; refine (clone_any _ _ (Nm.ext_le hs)).mono ?_; rintro e w1 ⟨rfl, hb⟩; replace G : Below _ _ w1 := (by first | exact bch G hb (Nat.le_refl _) | exact bch G.drew hb (Nat.le_refl _)); clear hb)
  all_goals go_wp2
  all_goals go_ret3
  all_goals (rw [show ((k : Int) + (n : Int)).toNat = k + n by omega]; exact ⟨rfl, G⟩)
end Go.Proofs.Ytbjbjbpgmojcbaa
