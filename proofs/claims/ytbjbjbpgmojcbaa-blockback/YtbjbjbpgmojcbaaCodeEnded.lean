/- What reader.ended comes to. -/
import Derived.Test.YtbjbjbpgmojcbaaCodeSign
namespace Go.Proofs.Ytbjbjbpgmojcbaa
open Go.RowKit

/-- Nothing is behind bit a but the 0 that the last byte wants. -/
def Cd.end_ (b : ByteArray) (a : Nat) : Bool := decide (b.size = (a + 7) / 8) && (decide (a % 8 = 0) || decide (Cd.at8 b (a / 8) * 2 ^ (a % 8) % 256 = 0))

set_option maxRecDepth 4000 in
set_option maxHeartbeats 1000000 in
theorem ended_any (gr : Nat) (f ws : Nat → Int) (b : ByteArray) (a : Nat) (w : World) (hB : RdAt w gr f ws b a) (hs : b.size ≤ 140737488355328) (ha : a ≤ 8 * b.size) :
    Calls Try.prog 72 #[.pointer (some ⟨gr, 0, none⟩)] w fun e w' => e = .returned (.bool (Cd.end_ b a)) ∧ Below w.heap.size w w' := by
  have hs' : (b.size : Int) ≤ 140737488355328 := by omega
  have hab : a ≤ 1125899906842624 := by omega
  have hab' : (a : Int) ≤ 1125899906842624 := by omega
  have c32 := hB.b
  have c33 := hB.at_
  have e7 : ((a : Int) + 7).tdiv 8 = (((a + 7) / 8 : Nat) : Int) := by rw [Int.tdiv_eq_ediv_of_nonneg (by omega)]; omega
  have hqb : (a + 7) / 8 ≤ 1125899906842624 := by omega
  by_cases h1 : b.size = (a + 7) / 8
  · have d1 : ((b.size : Int) != (((a + 7) / 8 : Nat) : Int)) = false := by rw [h1]; simp
    have e3 : (a : Int).tmod 8 = ((a % 8 : Nat) : Int) := by rw [Int.tmod_eq_emod_of_nonneg (by omega)]; omega
    by_cases h2 : a % 8 = 0
    · have hE : Cd.end_ b a = true := by simp [Cd.end_, h1, h2]
      rw [hE]
      rw [h2] at e3
      have e3' : (a : Int).tmod 8 = 0 := e3
      have e9 : (a : Int) % 8 = 0 := by omega
      generalize (a + 7) / 8 = q at *
      clear h2 h1 hE e3
      go_enter Try.func72, Try.ntmps72
      go_wp2_with fail
      go_quiet (fail)
      go_wp2_with fail
      go_quiet (fail)
      go_wp2_with fail
      go_ret
      exact ⟨rfl, below_drewN (below_drewN (Below.refl _ _) _) _⟩
    · obtain ⟨q, hq⟩ : ∃ q, a / 8 = q := ⟨_, rfl⟩
      obtain ⟨r, hr⟩ : ∃ r, a % 8 = r := ⟨_, rfl⟩
      have hql : q < b.size := by omega
      have hA8 : Cd.at8 b q = b[q].toNat := by unfold Cd.at8; rw [Nm.at_list b q hql]; rfl
      obtain ⟨x, hx⟩ : ∃ x : Int, (b[q].toNat : Int) = x := ⟨_, rfl⟩
      have e4 : (a : Int).tdiv 8 = (q : Int) := by rw [Int.tdiv_eq_ediv_of_nonneg (by omega)]; omega
      have e5 : (a : Int) % 8 = (r : Int) := by omega
      have e6 : (a : Int) / 8 = (q : Int) := by omega
      rw [hr] at e3
      have d2 : ((r : Int) == 0) = false := by simp; omega
      have hr8 : r < 8 := by omega
      have hr0 : r ≠ 0 := by omega
      have hE : Cd.end_ b a = (x * 2 ^ r % 256 == 0) := by
        have e0 : x * 2 ^ r % 256 = ((b[q].toNat * 2 ^ r % 256 : Nat) : Int) := by rw [← hx]; push_cast; rfl
        rw [e0, Cd.end_, hq, hr, hA8]
        simp only [h1, decide_true, Bool.true_and, hr0, decide_false, Bool.false_or]
        generalize b[q].toNat * 2 ^ r % 256 = z
        by_cases hz : z = 0
        · subst hz; rfl
        · have : ((z : Int) == 0) = false := by simp; omega
          rw [this]; simp [hz]
      rw [hE]
      have hx0 : 0 ≤ x := by omega
      have hx1 : x ≤ 255 := by have := b[q].toNat_lt; omega
      generalize (a + 7) / 8 = q9 at *
      clear h2 h1 hE hq hr hA8 hr0
      go_enter Try.func72, Try.ntmps72
      go_wp2_with fail
      go_quiet (fail)
      go_wp2_with fail
      go_quiet (fail)
      go_wp2_with fail
      go_ret
      exact ⟨rfl, below_drewN (below_drewN (Below.refl _ _) _) _⟩
  · have d1 : ((b.size : Int) != (((a + 7) / 8 : Nat) : Int)) = true := by simp; omega
    have hE : Cd.end_ b a = false := by simp [Cd.end_, h1]
    rw [hE]
    generalize (a + 7) / 8 = q at *
    clear h1 hE
    go_enter Try.func72, Try.ntmps72
    go_wp2_with fail
    go_quiet (fail)
    go_wp2_with fail
    go_ret
    exact ⟨rfl, below_drewN (Below.refl _ _) _⟩
end Go.Proofs.Ytbjbjbpgmojcbaa
