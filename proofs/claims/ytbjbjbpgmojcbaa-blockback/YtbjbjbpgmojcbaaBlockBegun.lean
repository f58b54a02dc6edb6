/- What must be in any case, of chapter 4. -/
import Derived.Test.YtbjbjbpgmojcbaaBlockPack
namespace Go.Proofs.Ytbjbjbpgmojcbaa
open Go.RowKit

theorem bb1 : Bk.pak ⟨#[104, 101, 108, 108, 111, 32]⟩ ⟨#[104, 101, 108, 108, 111, 32, 104, 101, 108, 108, 111, 32, 104, 101, 108, 108, 111, 32, 104, 101, 108, 108, 111]⟩ = (⟨#[1, 47, 6]⟩, 0) := by kernel_rfl
theorem bb2 : Bk.unp ⟨#[104, 101, 108, 108, 111, 32]⟩ ⟨#[1, 47, 6]⟩ = (⟨#[104, 101, 108, 108, 111, 32, 104, 101, 108, 108, 111, 32, 104, 101, 108, 108, 111, 32, 104, 101, 108, 108, 111]⟩, 0) := by kernel_rfl
theorem bb3 : Bk.pak ⟨#[]⟩ ⟨#[97, 98]⟩ = (⟨#[0, 97, 98]⟩, 0) := by kernel_rfl
theorem bb4 : Bk.unp ⟨#[]⟩ ⟨#[3]⟩ = (⟨#[]⟩, 1) := by kernel_rfl
theorem bg1 (w : World) : Calls Try.prog 48 #[.string ⟨#[104, 101, 108, 108, 111, 32]⟩, .string ⟨#[104, 101, 108, 108, 111, 32, 104, 101, 108, 108, 111, 32, 104, 101, 108, 108, 111, 32, 104, 101, 108, 108, 111]⟩] w fun e w' => e = .returned (.tuple #[.string ⟨#[1, 47, 6]⟩, .int .i64 0]) ∧ Below w.heap.size w w' := by
  have h := pack_any ⟨#[104, 101, 108, 108, 111, 32]⟩ ⟨#[104, 101, 108, 108, 111, 32, 104, 101, 108, 108, 111, 32, 104, 101, 108, 108, 111, 32, 104, 101, 108, 108, 111]⟩ w (by decide) (by decide)
  rw [bb1] at h
  exact h
theorem bg2 (w : World) : Calls Try.prog 50 #[.string ⟨#[104, 101, 108, 108, 111, 32]⟩, .string ⟨#[1, 47, 6]⟩] w fun e w' => e = .returned (.tuple #[.string ⟨#[104, 101, 108, 108, 111, 32, 104, 101, 108, 108, 111, 32, 104, 101, 108, 108, 111, 32, 104, 101, 108, 108, 111]⟩, .int .i64 0]) ∧ Below w.heap.size w w' := by
  have h := unpack_any ⟨#[104, 101, 108, 108, 111, 32]⟩ ⟨#[1, 47, 6]⟩ w (by decide) (by decide)
  rw [bb2] at h
  exact h
theorem bg3 (w : World) : Calls Try.prog 48 #[.string ⟨#[]⟩, .string ⟨#[97, 98]⟩] w fun e w' => e = .returned (.tuple #[.string ⟨#[0, 97, 98]⟩, .int .i64 0]) ∧ Below w.heap.size w w' := by
  have h := pack_any ⟨#[]⟩ ⟨#[97, 98]⟩ w (by decide) (by decide)
  rw [bb3] at h
  exact h
theorem bg4 (w : World) : Calls Try.prog 50 #[.string ⟨#[]⟩, .string ⟨#[3]⟩] w fun e w' => e = .returned (.tuple #[.string ⟨#[]⟩, .int .i64 1]) ∧ Below w.heap.size w w' := by
  have h := unpack_any ⟨#[]⟩ ⟨#[3]⟩ w (by decide) (by decide)
  rw [bb4] at h
  exact h

set_option maxRecDepth 4000 in
set_option maxHeartbeats 1000000 in
theorem blockBegun_any (w : World) : Calls Try.prog 51 #[] w fun e w' => e = .returned (.bool true) ∧ Below w.heap.size w w' := by
  have h1 := bg1
  have h2 := bg2
  have h3 := bg3
  have h4 := bg4
  go_enter Try.func51, Try.ntmps51
  go_wp2_with fail
  refine (h1 _).mono ?_
  rintro e w1 ⟨rfl, G1⟩
  go_wp2_with fail
  refine (h2 _).mono ?_
  rintro e w2 ⟨rfl, G2⟩
  have B2 := bch G1 G2 (Nat.le_refl _)
  clear G1 G2
  go_wp2_with fail
  refine (h3 _).mono ?_
  rintro e w3 ⟨rfl, G3⟩
  have B3 := bch B2 G3 (Nat.le_refl _)
  clear B2 G3
  go_wp2_with fail
  refine (h4 _).mono ?_
  rintro e w4 ⟨rfl, G4⟩
  have B4 := bch B3 G4 (Nat.le_refl _)
  clear B3 G4
  go_wp2_with fail
  go_ret
  exact ⟨rfl, B4⟩
end Go.Proofs.Ytbjbjbpgmojcbaa
