/- What chapter 1's own TextFrom, TextBytes and SumOf, and nums.Sum, come to. -/
import Derived.Test.YtbjbjbpgmojcbaaNumsFrom
import Derived.Test.YtbjbjbpgmojcbaaNumsTake
namespace Go.Proofs.Ytbjbjbpgmojcbaa
open Go.RowKit

set_option maxHeartbeats 400000 in
theorem textBytes_any (s : ByteArray) (w : World) (h : s.size ≤ 512) :
    Calls Try.prog 20 #[.string s] w fun e w' => e = .returned (.string (⟨(Nm.nb s.size).toArray⟩ ++ s)) ∧ Below w.heap.size w w' := by
  have h2 : (s.size : Int) ≤ 512 := by omega
  have hc := numBytes_any s.size s.size w (by omega) (by omega) (by omega)
  rw [Int.toNat_natCast] at hc
  have hl := Nm.nb_len5 s.size (by omega)
  go_enter Try.func20, Try.ntmps20
  go_wp2_with fail
  refine hc.mono ?_
  rintro e w' ⟨rfl, G⟩
  clear hc
  generalize hL : Nm.nb s.size = L at *
  have HL : Hid (Nm.nb s.size = L) := hL
  clear hL
  go_wp2_with fail
  go_ret
  exact ⟨by rw [HL.out]; rfl, G⟩

set_option maxHeartbeats 400000 in
theorem textFrom_none (s : ByteArray) (w : World) (hs : s.size ≤ 281474976710656) (h : Nm.from_ s.data.toList = none) :
    Calls Try.prog 22 #[.string s] w fun e w' => e = .returned (.tuple #[.string ⟨#[]⟩, .string ⟨#[]⟩, .bool false]) ∧ Below w.heap.size w w' := by
  have hc := numFrom_no s w hs h
  clear h
  go_enter Try.func22, Try.ntmps22
  go_wp2_with fail
  refine hc.mono ?_
  rintro e w' ⟨rfl, G⟩
  clear hc
  go_wp2_with fail
  go_ret3
  exact ⟨rfl, G⟩

set_option maxHeartbeats 400000 in
theorem textFrom_yes (s r : ByteArray) (w : World) (n k : Nat) (hs : s.size ≤ 281474976710656) (h : Nm.from_ s.data.toList = some (n, k)) (hr : s.extract k s.size = r) (h1 : n ≤ 512) (h2 : n ≤ r.size) :
    Calls Try.prog 22 #[.string s] w fun e w' => e = .returned (.tuple #[.string (r.extract 0 n), .string (r.extract n r.size), .bool true]) ∧ Below w.heap.size w w' := by
  have hc := numFrom_yes s w n k hs h
  have hn9 : (n : Int) ≤ 2147483647 := by have := Nm.nb_from h; omega
  rw [hr] at hc
  have hrs : (r.size : Int) ≤ 281474976710656 := by rw [← hr]; simp; omega
  clear h hr
  have hd1 : decide ((512 : Int) < (n : Int)) = false := by simp; omega
  have hd3 : decide (512 < n) = false := by simp; omega
  have hd2 : decide ((r.size : Int) < (n : Int)) = false := by simp; omega
  have hd4 : decide (r.size < n) = false := by simp; omega
  have hi1 : (0 : Int) ≤ (n : Int) := by omega
  have hi2 : (n : Int) ≤ (r.size : Int) := by omega
  go_enter Try.func22, Try.ntmps22
  go_wp2_with fail
  refine hc.mono ?_
  rintro e w' ⟨rfl, G⟩
  clear hc
  go_wp2_with fail
  go_quiet (fail)
  go_wp2_with fail
  go_ret3
  exact ⟨rfl, below_drewN G _⟩

set_option maxHeartbeats 400000 in
theorem textFrom_no (s r : ByteArray) (w : World) (n k : Nat) (hs : s.size ≤ 281474976710656) (h : Nm.from_ s.data.toList = some (n, k)) (hr : s.extract k s.size = r) (hbad : 512 < n ∨ r.size < n) :
    Calls Try.prog 22 #[.string s] w fun e w' => e = .returned (.tuple #[.string ⟨#[]⟩, .string ⟨#[]⟩, .bool false]) ∧ Below w.heap.size w w' := by
  have hc := numFrom_yes s w n k hs h
  have hn9 : (n : Int) ≤ 2147483647 := by have := Nm.nb_from h; omega
  rw [hr] at hc
  have hrs : (r.size : Int) ≤ 281474976710656 := by rw [← hr]; simp; omega
  clear h hr
  by_cases hbig : 512 < n
  · have hd1 : decide ((512 : Int) < (n : Int)) = true := by simp; omega
    have hd3 : decide (512 < n) = true := by simp; omega
    clear hbad hbig
    go_enter Try.func22, Try.ntmps22
    go_wp2_with fail
    refine hc.mono ?_
    rintro e w' ⟨rfl, G⟩
    clear hc
    go_wp2_with fail
    go_ret3
    exact ⟨rfl, G⟩
  · have hd1 : decide ((512 : Int) < (n : Int)) = false := by simp; omega
    have hd3 : decide (512 < n) = false := by simp; omega
    have hd2 : decide ((r.size : Int) < (n : Int)) = true := by simp; omega
    have hd4 : decide (r.size < n) = true := by simp; omega
    clear hbad hbig
    go_enter Try.func22, Try.ntmps22
    go_wp2_with fail
    refine hc.mono ?_
    rintro e w' ⟨rfl, G⟩
    clear hc
    go_wp2_with fail
    go_ret3
    exact ⟨rfl, G⟩

/-- The sum of the first k bytes, each times its place. -/
def sumTo (s : ByteArray) : Nat → Nat
  | 0 => 0
  | k + 1 => (sumTo s k + (s.data.toList[k]?.getD 0).toNat * ((k + 1) % 65536)) % 65536
theorem sumTo_lt (s : ByteArray) (k : Nat) : sumTo s k < 65536 := by
  cases k with
  | zero => simp [sumTo]
  | succ k => exact Nat.mod_lt _ (by omega)
theorem sumTo_succ (s : ByteArray) (k : Nat) (h : k < s.size) : (sumTo s (k + 1) : Int) = ((sumTo s k : Int) + (s[k].toNat : Int) * (((k : Int) + 1) % 65536)) % 65536 := by
  rw [sumTo, Nm.at_list s k h]
  simp
theorem sumTo_alt (s : ByteArray) (k : Nat) (h : k < s.size) : (sumTo s (k + 1) : Int) = ((sumTo s k : Int) + ((k : Int) % 65536 + 1) * (s[k].toNat : Int)) % 65536 := by
  rw [sumTo_succ s k h]
  by_cases h1 : (k : Int) % 65536 + 1 < 65536
  · rw [show ((k : Int) + 1) % 65536 = (k : Int) % 65536 + 1 by omega, Int.mul_comm]
  · rw [show ((k : Int) + 1) % 65536 = 0 by omega, show (k : Int) % 65536 + 1 = 65536 by omega]
    omega

set_option maxHeartbeats 400000 in
theorem sum_any (s : ByteArray) (w : World) (hs : s.size ≤ 281474976710656) :
    Calls Try.prog 24 #[.string s] w fun e w' => e = .returned (.int .i64 (sumTo s s.size : Nat)) ∧ w' = w := by
  have hs2 : (s.size : Int) ≤ 281474976710656 := by omega
  clear hs
  go_enter Try.func24, Try.ntmps24
  go_wp2_with fail
  go_loop [3, 7] (fun n i => ∃ k : Nat, k ≤ s.size ∧ i = .int .i64 k ∧ n = .int .i64 (sumTo s k : Nat)) (fun _ i => s.size - (intOf i).toNat)
  case atStart => exact ⟨0, by omega, rfl, rfl⟩
  case round =>
    obtain ⟨k, hk, rfl, rfl⟩ := hrel
    have hv := sumTo_lt s k
    by_cases hlt : k < s.size
    · have Hs : Hid ((sumTo s (k + 1) : Int) = ((sumTo s k : Int) + (s[k].toNat : Int) * (((k : Int) + 1) % 65536)) % 65536) := sumTo_succ s k hlt
      generalize sumTo s k = m at *
      generalize hm : sumTo s (k + 1) = m1 at *
      obtain ⟨x, hx⟩ : ∃ x : Int, (s[k].toNat : Int) = x := ⟨_, rfl⟩
      have hx0 : 0 ≤ x := by omega
      have hx1 : x ≤ 255 := by have := s[k].toNat_lt; omega
      have Hx : Hid ((s[k].toNat : Int) = x) := hx
      obtain ⟨y, hy⟩ : ∃ y : Int, x * (((k : Int) + 1) % 65536) = y := ⟨_, rfl⟩
      have hy0 : 0 ≤ y := by rw [← hy]; exact Int.mul_nonneg (by omega) (by omega)
      have hy1 : y ≤ 16777216 := by
        rw [← hy]
        have h9 : x * (((k : Int) + 1) % 65536) ≤ 255 * 65536 := Int.mul_le_mul hx1 (by omega) (by omega) (by omega)
        omega
      have HM : Hid (sumTo s (k + 1) = m1) := hm
      clear hm
      have HY : Hid (x * (((k : Int) + 1) % 65536) = y) := hy
      have hmb : (m : Int) < 65536 := by omega
      clear hv
      go_wp2_with fail
      go_round
      case rel => exact ⟨k + 1, by omega, by go_num, by rw [HM.out, Hs.out, Hx.out, HY.out]⟩
      case measure => simp [intOf]; omega
    · obtain rfl : k = s.size := by omega
      go_wp2_with fail
      go_ret
      exact ⟨rfl, rfl⟩

set_option maxHeartbeats 400000 in
theorem sumOf_any (s : ByteArray) (w : World) (hs : s.size ≤ 281474976710656) :
    Calls Try.prog 25 #[.string s] w fun e w' => e = .returned (.int .i64 (sumTo s s.size : Nat)) ∧ w' = w := by
  have hs2 : (s.size : Int) ≤ 281474976710656 := by omega
  clear hs
  go_enter Try.func25, Try.ntmps25
  go_wp2_with fail
  go_loop [3, 4] (fun n i => ∃ k : Nat, k ≤ s.size ∧ i = .int .i64 k ∧ n = .int .i64 (sumTo s k : Nat)) (fun _ i => s.size - (intOf i).toNat)
  case atStart => exact ⟨0, by omega, rfl, rfl⟩
  case round =>
    obtain ⟨k, hk, rfl, rfl⟩ := hrel
    have hv := sumTo_lt s k
    by_cases hlt : k < s.size
    · have Hs : Hid ((sumTo s (k + 1) : Int) = ((sumTo s k : Int) + ((k : Int) % 65536 + 1) * (s[k].toNat : Int)) % 65536) := sumTo_alt s k hlt
      generalize sumTo s k = m at *
      generalize hm : sumTo s (k + 1) = m1 at *
      obtain ⟨x, hx⟩ : ∃ x : Int, (s[k].toNat : Int) = x := ⟨_, rfl⟩
      have hx0 : 0 ≤ x := by omega
      have hx1 : x ≤ 255 := by have := s[k].toNat_lt; omega
      have Hx : Hid ((s[k].toNat : Int) = x) := hx
      obtain ⟨y, hy⟩ : ∃ y : Int, ((k : Int) % 65536 + 1) * x = y := ⟨_, rfl⟩
      have hy0 : 0 ≤ y := by rw [← hy]; exact Int.mul_nonneg (by omega) (by omega)
      have hy1 : y ≤ 16777216 := by
        rw [← hy]
        have h9 : ((k : Int) % 65536 + 1) * x ≤ 65536 * 255 := Int.mul_le_mul (by omega) hx1 (by omega) (by omega)
        omega
      have HM : Hid (sumTo s (k + 1) = m1) := hm
      clear hm
      have HY : Hid (((k : Int) % 65536 + 1) * x = y) := hy
      have hmb : (m : Int) < 65536 := by omega
      clear hv
      go_wp2_with fail
      go_round
      case rel => exact ⟨k + 1, by omega, by go_num, by rw [HM.out, Hs.out, Hx.out, HY.out]⟩
      case measure => simp [intOf]; omega
    · obtain rfl : k = s.size := by omega
      go_wp2_with fail
      go_ret
      exact ⟨rfl, rfl⟩

theorem begun1 (w : World) : Calls Try.prog 15 #[.int .i64 300] w fun e w' => e = .returned (.tuple #[.string ⟨#[172, 2]⟩, .int .i64 0]) ∧ Below w.heap.size w w' := by
  have h := put_yes 300 w (by decide) (by decide)
  rw [show Nm.nb (300 : Int).toNat = [172, 2] by decide] at h
  exact h
theorem begun2 (w : World) : Calls Try.prog 17 #[.string ⟨#[172, 2, 120]⟩] w fun e w' => e = .returned (.tuple #[.int .i64 300, .string ⟨#[120]⟩, .int .i64 0]) ∧ Below w.heap.size w w' := by
  have h := take_yes ⟨#[172, 2, 120]⟩ w 300 2 (by decide) (by decide)
  rw [show (⟨#[172, 2, 120]⟩ : ByteArray).extract 2 (⟨#[172, 2, 120]⟩ : ByteArray).size = ⟨#[120]⟩ by decide] at h
  exact h
theorem begun3 (w : World) : Calls Try.prog 19 #[.string ⟨#[97, 98]⟩] w fun e w' => e = .returned (.tuple #[.string ⟨#[2, 97, 98]⟩, .int .i64 0]) ∧ Below w.heap.size w w' := by
  have h := text_yes ⟨#[97, 98]⟩ w (by decide)
  rw [show (⟨(Nm.nb (⟨#[97, 98]⟩ : ByteArray).size).toArray⟩ : ByteArray) ++ ⟨#[97, 98]⟩ = ⟨#[2, 97, 98]⟩ by decide] at h
  exact h
theorem begun4 (w : World) : Calls Try.prog 21 #[.string ⟨#[1, 121, 122]⟩] w fun e w' => e = .returned (.tuple #[.string ⟨#[121]⟩, .string ⟨#[122]⟩, .int .i64 0]) ∧ Below w.heap.size w w' := by
  have h := takeText_yes ⟨#[1, 121, 122]⟩ w 1 1 (by decide) (by decide) (by decide) (by decide)
  rw [show (⟨#[1, 121, 122]⟩ : ByteArray).extract 1 (1 + 1) = ⟨#[121]⟩ by decide, show (⟨#[1, 121, 122]⟩ : ByteArray).extract (1 + 1) (⟨#[1, 121, 122]⟩ : ByteArray).size = ⟨#[122]⟩ by decide] at h
  exact h
theorem begun5 (w : World) : Calls Try.prog 24 #[.string ⟨#[97, 98]⟩] w fun e w' => e = .returned (.int .i64 293) ∧ w' = w := by
  have h := sum_any ⟨#[97, 98]⟩ w (by decide)
  rw [show sumTo ⟨#[97, 98]⟩ (⟨#[97, 98]⟩ : ByteArray).size = 293 by decide] at h
  exact h

/-- What must be in any case. -/
theorem numsBegun_any (w : World) :
    Calls Try.prog 23 #[] w fun e w' => e = .returned (.bool true) ∧ Below w.heap.size w w' := by
  go_enter Try.func23, Try.ntmps23
  go_wp2_with fail
  refine (begun1 _).mono ?_
  rintro e w1 ⟨rfl, G1⟩
  go_wp2_with fail
  refine (begun2 _).mono ?_
  rintro e w2 ⟨rfl, G2⟩
  go_wp2_with fail
  refine (begun3 _).mono ?_
  rintro e w3 ⟨rfl, G3⟩
  go_wp2_with fail
  refine (begun4 _).mono ?_
  rintro e w4 ⟨rfl, G4⟩
  go_wp2_with fail
  refine (begun5 _).mono ?_
  rintro e w5 ⟨rfl, rfl⟩
  go_wp2_with fail
  go_ret
  exact ⟨rfl, bch (bch (bch G1 G2 (Nat.le_refl _)) G3 (Nat.le_refl _)) G4 (Nat.le_refl _)⟩
end Go.Proofs.Ytbjbjbpgmojcbaa
