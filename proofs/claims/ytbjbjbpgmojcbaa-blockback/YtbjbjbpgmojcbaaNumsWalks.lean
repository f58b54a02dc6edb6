/- What each call of package nums, and each function of chapter 1's answers, comes to. -/
import Derived.Test.YtbjbjbpgmojcbaaBch
import Derived.Test.YtbjbjbpgmojcbaaClone
import Derived.Test.YtbjbjbpgmojcbaaNumsMath
import Derived.WalkKit
import Derived.WalkSpells
import Derived.WalkLawsBesides
namespace Go.Proofs.Ytbjbjbpgmojcbaa
open Go.RowKit

/-- All old cells read as before. -/
theorem bcell {W w1 : World} (hb : Below W.heap.size W w1) : ∀ b o, b < W.heap.size → w1.cell? ⟨b, o, none⟩ = W.cell? ⟨b, o, none⟩ :=
  fun b o h => hb.cell (p := ⟨b, o, none⟩) h

set_option maxRecDepth 100000 in
set_option maxHeartbeats 400000 in
theorem begin_any (s : ByteArray) (w : World) (hs : s.size ≤ maxLen) :
    Calls Try.prog 53 #[.string s] w fun e w' => e = .returned (.tuple #[.int .i64 (Nm.num s : Nat), .int .i64 (Nm.size s : Nat)]) ∧ w' = w := by
  have hs2 : (s.size : Int) ≤ 9223372036854775807 := by unfold maxLen at hs; omega
  clear hs
  obtain ⟨lim, hlim⟩ : ∃ lim : Nat, min (s.size : Int) 5 = (lim : Int) := ⟨min s.size 5, by omega⟩
  have hl1 : lim ≤ s.size := by omega
  have hl2 : lim ≤ 5 := by omega
  have hl3 : Hid (lim = s.size ∨ lim = 5) := by show _ ∨ _; omega
  go_enter Try.func53, Try.ntmps53
  go_wp2
  clear hlim
  go_loop [4, 9] (fun n i => ∃ k : Nat, k ≤ lim ∧ i = .int .i64 k ∧ n = .int .u64 (Nm.val (s.data.toList.take k) : Nat) ∧ Hid (∀ j, j < k → ∀ b, s.data.toList[j]? = some b → 128 ≤ b.toNat)) (fun _ i => 5 - (intOf i).toNat)
  case atStart => exact ⟨0, by omega, rfl, rfl, fun j h => by omega⟩
  case round =>
    obtain ⟨k, hk, rfl, rfl, hall⟩ := hrel
    have hvl := Nm.val_lt (s.data.toList.take k)
    generalize hm : Nm.val (s.data.toList.take k) = m at *
    have Hm : Hid (Nm.val (s.data.toList.take k) = m) := hm
    clear hm
    by_cases hlt : k < lim
    · have hmb : (m : Int) < 268435456 := by
        have h3 : (s.data.toList.take k).length ≤ 4 := by rw [List.length_take]; omega
        have h4 : 128 ^ (s.data.toList.take k).length ≤ 128 ^ 4 := Nat.pow_le_pow_right (by omega) h3
        omega
      clear hvl
      have h1 : k < s.size := by omega
      obtain ⟨x, hx⟩ : ∃ x : Int, (s[k].toNat : Int) = x := ⟨_, rfl⟩
      have hx0 : 0 ≤ x := by omega
      have hx1 : x ≤ 255 := by have := s[k].toNat_lt; omega
      have hp : (2 : Int) ^ (7 * k) ≤ 2 ^ 28 := by
        have : k = 0 ∨ k = 1 ∨ k = 2 ∨ k = 3 ∨ k = 4 := by omega
        rcases this with rfl | rfl | rfl | rfl | rfl <;> decide
      have hp0 : (0 : Int) < 2 ^ (7 * k) := Int.pow_pos (by omega)
      obtain ⟨y, hy⟩ : ∃ y : Int, x % 128 * 2 ^ (7 * k) = y := ⟨_, rfl⟩
      have hy0 : 0 ≤ y := by rw [← hy]; exact Int.mul_nonneg (by omega) (by omega)
      have hy1 : y ≤ 34359738368 := by
        rw [← hy]
        have h9 : x % 128 * 2 ^ (7 * k) ≤ 128 * 2 ^ 28 := Int.mul_le_mul (by omega) hp (by omega) (by omega)
        have h8 : (128 * 2 ^ 28 : Int) = 34359738368 := by decide
        omega
      clear hp hp0
      have Hv : Hid ((Nm.val (s.data.toList.take (k + 1)) : Int) = (m : Int) + y) := by
        show (Nm.val (s.data.toList.take (k + 1)) : Int) = (m : Int) + y
        rw [Nm.val_take s k h1, Hm.out, ← hy, ← hx]
        simp
      have Hx : Hid ((s[k].toNat : Int) = x) := hx
      by_cases hb : 128 ≤ x
      · go_wp2
        go_round
        case rel =>
          refine ⟨k + 1, by omega, by go_num, by rw [← Hv.out], ?_⟩
          show ∀ j, _
          intro j hj b hjb
          by_cases hjk : j = k
          · subst hjk
            rw [Nm.at_list s j h1] at hjb
            simp only [Option.some.injEq] at hjb
            subst hjb
            have := Hx.out
            omega
          · exact hall.out j (by omega) b hjb
        case measure => simp [intOf]; omega
      · have hf := Nm.from_of s.data.toList k s[k] (by omega) (Nm.at_list s k h1) (by omega) hall.out
        have Hf : Hid (Nm.from_ s.data.toList = if (s[k] = 0 ∧ 0 < k) ∨ 2147483647 < Nm.val (s.data.toList.take (k + 1)) then none else some (Nm.val (s.data.toList.take (k + 1)), k + 1)) := hf
        clear hf
        by_cases hA : x = 0 ∧ 0 < k
        · have hk' : (0 : Int) < (k : Int) := by omega
          have HF : Hid (Nm.num s = 0 ∧ Nm.size s = 0) := by
            refine Nm.num_none ?_
            rw [Hf.out, if_pos]
            left
            exact ⟨by apply UInt8.toNat_inj.1; have := Hx.out; simp; omega, hA.2⟩
          obtain ⟨rfl, hA2⟩ := hA
          obtain rfl : y = 0 := by rw [← hy]; simp
          have hd : decide (0 < k) = true := by simpa using hA2
          clear hy
          go_wp2
          go_ret2
          exact ⟨by rw [HF.out.1, HF.out.2]; rfl, rfl⟩
        · by_cases hbig : 2147483647 < (m : Int) + y
          · have HF : Hid (Nm.num s = 0 ∧ Nm.size s = 0) := by
              refine Nm.num_none ?_
              rw [Hf.out, if_pos]
              right
              have := Hv.out
              omega
            by_cases hz : x = 0
            · exfalso
              obtain rfl : k = 0 := by omega
              have h0 := Hm.out
              simp [Nm.val] at h0
              subst hz
              simp at hy
              omega
            · have hz' : (x == 0) = false := by simp [hz]
              clear hA hz
              go_wp2
              go_ret2
              exact ⟨by rw [HF.out.1, HF.out.2]; rfl, rfl⟩
          · have HF : Hid ((Nm.num s : Int) = (m : Int) + y ∧ Nm.size s = k + 1) := by
              have h7 : Nm.from_ s.data.toList = some (Nm.val (s.data.toList.take (k + 1)), k + 1) := by
                rw [Hf.out, if_neg]
                rintro (h | h)
                · refine hA ⟨?_, h.2⟩
                  have := Hx.out
                  rw [h.1] at this
                  simpa using this.symm
                · have := Hv.out
                  omega
              have h8 := Nm.num_some h7
              refine ⟨?_, h8.2⟩
              rw [h8.1]
              exact Hv.out
            by_cases hz : x = 0
            · obtain rfl : k = 0 := by omega
              subst hz
              obtain rfl : y = 0 := by rw [← hy]; simp
              obtain rfl : m = 0 := by have h0 := Hm.out; simpa [Nm.val] using h0.symm
              clear hA hy
              go_wp2
              go_ret2
              exact ⟨by rw [HF.out.1, HF.out.2]; rfl, rfl⟩
            · have hz' : (x == 0) = false := by simp [hz]
              clear hA hz
              go_wp2
              go_ret2
              exact ⟨by rw [HF.out.1, HF.out.2]; rfl, rfl⟩
    · have HF : Hid (Nm.num s = 0 ∧ Nm.size s = 0) := by
        refine Nm.num_none (Nm.from_none _ ?_)
        intro j hj b hjb
        refine hall.out j ?_ b hjb
        have : j < s.size := by
          rcases Nat.lt_or_ge j s.size with h | h
          · exact h
          · rw [List.getElem?_eq_none (by simpa using h)] at hjb; simp at hjb
        have := hl3.out
        omega
      clear hvl
      go_wp2
      go_ret2
      exact ⟨by rw [HF.out.1, HF.out.2]; rfl, rfl⟩
end Go.Proofs.Ytbjbjbpgmojcbaa
