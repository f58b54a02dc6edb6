/- What chapter 1's own NumFrom and TextFrom come to. -/
import Derived.Test.YtbjbjbpgmojcbaaNumsText
import Derived.BigQuiet
import Derived.Deep.QuietTactic
namespace Go.Proofs.Ytbjbjbpgmojcbaa
open Go.RowKit

set_option maxHeartbeats 2000000 in
theorem numFrom_any (s : ByteArray) (w : World) (hs : s.size ≤ 281474976710656) :
    Calls Try.prog 18 #[.string s] w fun e w' => e = .returned (.tuple #[.int .i64 (Nm.num s : Nat), .string (Nm.rest s), .bool (Nm.is s)]) ∧ Below w.heap.size w w' := by
  have hs2 : (s.size : Int) ≤ 281474976710656 := by omega
  clear hs
  go_enter Try.func18, Try.ntmps18
  go_wp2_with fail
  go_loop [5, 6, 7] (fun n p i => ∃ k : Nat, k ≤ s.size ∧ k ≤ 5 ∧ i = .int .i64 k ∧ n = .int .i64 (Nm.val (s.data.toList.take k) : Nat) ∧ p = .int .i64 (128 ^ k : Int) ∧ Hid (∀ j, j < k → ∀ b, s.data.toList[j]? = some b → 128 ≤ b.toNat)) (fun _ _ i => 5 - (intOf i).toNat)
  case atStart => exact ⟨0, by omega, by omega, rfl, rfl, rfl, fun j h => by omega⟩
  case round =>
    obtain ⟨k, hk, hk5, rfl, rfl, rfl, hall⟩ := hrel
    have hvl := Nm.val_lt (s.data.toList.take k)
    generalize hm : Nm.val (s.data.toList.take k) = m at *
    have Hm : Hid (Nm.val (s.data.toList.take k) = m) := hm
    clear hm
    by_cases hlt : k < s.size ∧ k < 5
    · obtain ⟨h1, h2⟩ := hlt
      have hmb : (m : Int) < 268435456 := by
        have h3 : (s.data.toList.take k).length ≤ 4 := by rw [List.length_take]; omega
        have h4 : 128 ^ (s.data.toList.take k).length ≤ 128 ^ 4 := Nat.pow_le_pow_right (by omega) h3
        omega
      clear hvl
      obtain ⟨x, hx⟩ : ∃ x : Int, (s[k].toNat : Int) = x := ⟨_, rfl⟩
      have hx0 : 0 ≤ x := by omega
      have hx1 : x ≤ 255 := by have := s[k].toNat_lt; omega
      generalize hp : (128 : Int) ^ k = p at *
      have hp1 : p ≤ 268435456 := by
        rw [← hp]
        have : k = 0 ∨ k = 1 ∨ k = 2 ∨ k = 3 ∨ k = 4 := by omega
        rcases this with rfl | rfl | rfl | rfl | rfl <;> decide
      have hp0 : 0 < p := by rw [← hp]; exact Int.pow_pos (by omega)
      obtain ⟨y, hy⟩ : ∃ y : Int, p * (x % 128) = y := ⟨_, rfl⟩
      have hy0 : 0 ≤ y := by rw [← hy]; exact Int.mul_nonneg (by omega) (by omega)
      have hy1 : y ≤ 34359738368 := by
        rw [← hy]
        have h9 : p * (x % 128) ≤ 268435456 * 128 := Int.mul_le_mul hp1 (by omega) (by omega) (by omega)
        omega
      have Hp : Hid ((128 : Int) ^ k = p) := hp
      have Hx : Hid ((s[k].toNat : Int) = x) := hx
      have Hv : Hid ((Nm.val (s.data.toList.take (k + 1)) : Int) = (m : Int) + y) := by
        show (Nm.val (s.data.toList.take (k + 1)) : Int) = (m : Int) + y
        rw [Nm.val_take s k h1, Hm.out, ← hy, ← hx, ← hp, Nat.pow_mul]
        simp [Int.mul_comm]
      clear hp
      have hl5 : decide ((k : Int) < 5) = true := by simp; omega
      have hl6 : decide ((k : Int) < (s.size : Int)) = true := by simp; omega
      have hl7 : decide (k < 5) = true := by simp; omega
      have hl8 : decide (k < s.size) = true := by simp; omega
      by_cases hb : 128 ≤ x
      · have hb2 : decide (x < 128) = false := by simp; omega
        go_wp2_with fail
        go_round
        case rel =>
          refine ⟨k + 1, by omega, by omega, by go_num, by rw [← Hv.out], by rw [Int.pow_succ, Hp.out], ?_⟩
          show ∀ j, _
          intro j hj b hjb
          by_cases hjk : j = k
          · subst hjk
            rw [Nm.at_list s j h1] at hjb
            simp only [Option.some.injEq] at hjb
            subst hjb
            have := Hx.out
            omega
          · exact hall.out j (by omega) b hjb
        case measure => simp [intOf]; omega
      · have hb2 : decide (x < 128) = true := by simp; omega
        have Hf : Hid (Nm.from_ s.data.toList = if Nm.val (s.data.toList.take (k + 1)) ≤ 2147483647 ∧ Nm.nb (Nm.val (s.data.toList.take (k + 1))) = s.data.toList.take (k + 1) then some (Nm.val (s.data.toList.take (k + 1)), k + 1) else none) :=
          Nm.from_of2 s.data.toList k s[k] (by omega) (Nm.at_list s k h1) (by omega) hall.out
        have hr1 : IntKind.i64.wrap ((k : Int) + 1) = (k : Int) + 1 := IntWalk.i64_in _ ⟨by omega, by omega⟩
        by_cases hbig : 2147483647 < (m : Int) + y
        · have hb3 : decide (2147483647 < (m : Int) + y) = true := by simp; omega
          have h7 : Nm.from_ s.data.toList = none := by
            rw [Hf.out, if_neg]
            have := Hv.out
            omega
          have HF : Hid (Nm.num s = 0 ∧ Nm.rest s = ⟨#[]⟩ ∧ Nm.is s = false) := ⟨(Nm.num_none h7).1, Nm.rest_none h7⟩
          clear h7
          go_wp2_with fail
          go_quiet (fail)
          go_wp2_with fail
          go_ret3
          exact ⟨by rw [HF.out.1, HF.out.2.1, HF.out.2.2]; rfl, below_drewN (Below.refl _ _) _⟩
        · have hb3 : decide (2147483647 < (m : Int) + y) = false := by simp; omega
          have hi1 : (0 : Int) ≤ (k : Int) + 1 := by omega
          have hi2 : (k : Int) + 1 ≤ (s.size : Int) := by omega
          have HV : Hid (Nm.val (s.data.toList.take (k + 1)) = ((m : Int) + y).toNat) := by
            show _ = _
            have := Hv.out
            omega
          have hL : (s.extract 0 (k + 1)).toList = s.data.toList.take (k + 1) := by
            rw [Lib.toList_data, Lib.extract_data]; simp
          by_cases hE : Nm.nb ((m : Int) + y).toNat = s.data.toList.take (k + 1)
          · have hq : (Nm.nb ((m : Int) + y).toNat == (s.extract 0 (k + 1)).toList) = true := by rw [hL, hE]; simp
            have h7 : Nm.from_ s.data.toList = some (((m : Int) + y).toNat, k + 1) := by
              rw [Hf.out, HV.out, if_pos ⟨by omega, hE⟩]
            have HF : Hid ((Nm.num s : Int) = (m : Int) + y ∧ Nm.rest s = s.extract (k + 1) s.size ∧ Nm.is s = true) :=
              ⟨by rw [(Nm.num_some h7).1]; omega, Nm.rest_some h7⟩
            clear h7 hE hL
            go_wp2_with fail
            go_region_held3 (fun _ => True) (trivial) (first | (go_at_call 16; refine (numBytes_any ((m : Int) + y).toNat _ _ (by omega) (by omega) (by omega)).mono ?_; rintro e w1 ⟨rfl, hB⟩))
            go_wp2_with fail
            go_quiet (fail)
            go_wp2_with fail
            go_ret3
            exact ⟨by rw [HF.out.1, HF.out.2.1, HF.out.2.2]; rfl, below_drewN (bch (Below.refl _ _).drew hB (Nat.le_refl _)) _⟩
          · have hq : (Nm.nb ((m : Int) + y).toNat == (s.extract 0 (k + 1)).toList) = false := by rw [hL]; simp [hE]
            have h7 : Nm.from_ s.data.toList = none := by
              rw [Hf.out, HV.out, if_neg (fun h => hE h.2)]
            have HF : Hid (Nm.num s = 0 ∧ Nm.rest s = ⟨#[]⟩ ∧ Nm.is s = false) := ⟨(Nm.num_none h7).1, Nm.rest_none h7⟩
            clear h7 hE hL
            go_wp2_with fail
            go_region_held3 (fun _ => True) (trivial) (first | (go_at_call 16; refine (numBytes_any ((m : Int) + y).toNat _ _ (by omega) (by omega) (by omega)).mono ?_; rintro e w1 ⟨rfl, hB⟩))
            go_wp2_with fail
            go_ret3
            exact ⟨by rw [HF.out.1, HF.out.2.1, HF.out.2.2]; rfl, bch (Below.refl _ _).drew hB (Nat.le_refl _)⟩
    · have h7 : Nm.from_ s.data.toList = none := by
        refine Nm.from_none _ ?_
        intro j hj b hjb
        refine hall.out j ?_ b hjb
        have : j < s.size := by
          rcases Nat.lt_or_ge j s.size with h | h
          · exact h
          · rw [List.getElem?_eq_none (by simpa using h)] at hjb; simp at hjb
        omega
      have HF : Hid (Nm.num s = 0 ∧ Nm.rest s = ⟨#[]⟩ ∧ Nm.is s = false) := ⟨(Nm.num_none h7).1, Nm.rest_none h7⟩
      clear h7 hvl
      by_cases hks : k < s.size
      · have hl6 : decide ((k : Int) < (s.size : Int)) = true := by simp; omega
        have hl5 : decide ((k : Int) < 5) = false := by simp; omega
        have hl7 : decide (k < 5) = false := by simp; omega
        have hl8 : decide (k < s.size) = true := by simp; omega
        clear hlt
        go_wp2_with fail
        go_ret3
        exact ⟨by rw [HF.out.1, HF.out.2.1, HF.out.2.2]; rfl, Below.refl _ _⟩
      · have hl6 : decide ((k : Int) < (s.size : Int)) = false := by simp; omega
        have hl8 : decide (k < s.size) = false := by simp; omega
        clear hlt
        go_wp2_with fail
        go_ret3
        exact ⟨by rw [HF.out.1, HF.out.2.1, HF.out.2.2]; rfl, Below.refl _ _⟩

theorem numFrom_no (s : ByteArray) (w : World) (hs : s.size ≤ 281474976710656) (h : Nm.from_ s.data.toList = none) :
    Calls Try.prog 18 #[.string s] w fun e w' => e = .returned (.tuple #[.int .i64 0, .string ⟨#[]⟩, .bool false]) ∧ Below w.heap.size w w' := by
  have hc := numFrom_any s w hs
  rw [(Nm.num_none h).1, (Nm.rest_none h).1, (Nm.rest_none h).2] at hc
  exact hc

theorem numFrom_yes (s : ByteArray) (w : World) (n k : Nat) (hs : s.size ≤ 281474976710656) (h : Nm.from_ s.data.toList = some (n, k)) :
    Calls Try.prog 18 #[.string s] w fun e w' => e = .returned (.tuple #[.int .i64 n, .string (s.extract k s.size), .bool true]) ∧ Below w.heap.size w w' := by
  have hc := numFrom_any s w hs
  rw [(Nm.num_some h).1, (Nm.rest_some h).1, (Nm.rest_some h).2] at hc
  exact hc
end Go.Proofs.Ytbjbjbpgmojcbaa
