/- Bits as chapter 3's own writes them: texts of 0 and 1. -/
import Derived.Test.YtbjbjbpgmojcbaaCodeEnded
namespace Go.Proofs.Ytbjbjbpgmojcbaa
open Go.RowKit

namespace Cd
def chr (b : Bool) : UInt8 := if b then 49 else 48
/-- Bits as a text. -/
def str (bs : List Bool) : ByteArray := ⟨(bs.map chr).toArray⟩
theorem str_size (bs : List Bool) : (str bs).size = bs.length := by
  show (bs.map chr).toArray.size = _
  simp
theorem str_app (a b : List Bool) : str a ++ str b = str (a ++ b) := by
  unfold str
  rw [List.map_append]
  exact Nm.ba_app _ _
theorem wb_snoc (word : Int) : ∀ k, wb word (k + 1) = wb (word / 2) k ++ [decide (word % 2 = 1)] := by
  intro k
  induction k generalizing word with
  | zero => simp [wb]
  | succ k ih =>
    rw [wb, ih, wb, List.cons_append, Int.ediv_ediv_of_nonneg (by omega), Int.pow_succ, Int.mul_comm 2 (2 ^ k)]
theorem chr_n (n : Int) : UInt8.ofNat (48 + n % 2).toNat = chr (decide (n % 2 = 1)) := by
  have h : n % 2 = 0 ∨ n % 2 = 1 := by omega
  rcases h with h | h <;> rw [h] <;> rfl
end Cd

set_option maxRecDepth 4000 in
set_option maxHeartbeats 1000000 in
theorem refBits_any (k : Nat) : ∀ (n : Int) (w : World), 0 ≤ n → n ≤ 1048576 → k ≤ 15 →
    Calls Try.prog 73 #[.int .i64 n, .int .i64 (k : Int)] w fun e w' => e = .returned (.string (Cd.str (Cd.wb n k))) ∧ Below w.heap.size w w' := by
  induction k with
  | zero =>
    intro n w h0 hn _
    go_enter Try.func73, Try.ntmps73
    go_wp2_with fail
    go_ret
    exact ⟨rfl, Below.refl _ _⟩
  | succ k ih =>
    intro n w h0 hn hk
    have hcv := conv_cell (48 + n % 2) (by omega) (by omega)
    have IH : Hid (∀ (n : Int) (w : World), 0 ≤ n → n ≤ 1048576 → k ≤ 15 →
      Calls Try.prog 73 #[.int .i64 n, .int .i64 (k : Int)] w fun e w' => e = .returned (.string (Cd.str (Cd.wb n k))) ∧ Below w.heap.size w w') := ih
    clear ih
    have hl : (Cd.str (Cd.wb (n / 2) k)).size ≤ 15 := by rw [Cd.str_size, Cd.wb_len]; omega
    have HN : Hid (Cd.str (Cd.wb n (k + 1)) = Cd.str (Cd.wb (n / 2) k) ++ ⟨#[UInt8.ofNat (48 + n % 2).toNat]⟩) := by
      show _ = _
      rw [Cd.wb_snoc, ← Cd.str_app, Cd.chr_n]
      rfl
    obtain ⟨K, hK⟩ : ∃ K : Int, ((k + 1 : Nat) : Int) = K := ⟨_, rfl⟩
    rw [hK]
    have hK0 : (K == 0) = false := by simp; omega
    have hK1 : K - 1 = (k : Int) := by omega
    have hr1 : IntKind.i64.wrap (48 + n % 2) = 48 + n % 2 := IntWalk.i64_in _ ⟨by omega, by omega⟩
    have hr3 : n.tmod 2 = n % 2 := Int.tmod_eq_emod_of_nonneg h0
    have hr4 : n.tdiv 2 = n / 2 := Int.tdiv_eq_ediv_of_nonneg h0
    have hr5 : IntKind.i64.wrap (n / 2) = n / 2 := IntWalk.i64_in _ ⟨by omega, by omega⟩
    have hr6 : IntKind.i64.wrap (k : Int) = (k : Int) := IntWalk.i64_in _ ⟨by omega, by omega⟩
    have hr2 : IntKind.u8.wrap (48 + n % 2) = 48 + n % 2 := IntWalk.u8_in _ ⟨by omega, by omega⟩
    clear hK
    go_enter Try.func73, Try.ntmps73
    go_wp2_with fail
    go_region_with (go_at_call 73; refine (IH.out _ _ (by omega) (by omega) (by omega)).mono ?_; rintro e w1 ⟨rfl, hB⟩; have hk1 := bcell hB)
    all_goals go_wp2
    all_goals go_ret
    all_goals refine ⟨?_, ?_⟩
    all_goals first | exact congrArg (fun s => Ending.returned (Value.string s)) HN.out.symm | skip
    all_goals first | exact bch ((Below.refl _ _).alloc (Nat.le_refl _) _).drew hB (Nat.le_refl _) | exact bch (Below.refl _ _).drew hB (Nat.le_refl _) | exact (bch (Below.refl _ _).drew hB (Nat.le_refl _)).alloc hB.size _ | skip
end Go.Proofs.Ytbjbjbpgmojcbaa
