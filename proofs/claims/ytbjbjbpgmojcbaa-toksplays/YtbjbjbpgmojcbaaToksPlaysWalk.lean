/- The walk of the law ToksPlays: it answers true, whatever it is handed (texts of at most 2^47 bytes: the form's own reach). -/
import Derived.Test.YtbjbjbpgmojcbaaToksBegun
import Derived.Test.YtbjbjbpgmojcbaaToksMath2
namespace Go.Proofs.Ytbjbjbpgmojcbaa
open Go.RowKit
set_option linter.unusedVariables false

set_option maxHeartbeats 1000000 in
theorem toksPlays_any (dict : ByteArray) (ad : Option Addr) (cap : Nat) (l : List Tk.T) (w : World) (_ : dict.size ≤ 140737488355328) (hl : SlAt w ad l) (hs : Sane l) :
    Calls Try.prog 5 #[.string dict, .slice ad l.length cap] w fun e w' => e = .returned (.bool true) ∧ Below w.heap.size w w' := by
  have c1 := fun w hl => play_any dict ad cap l w hl hs
  have c2 := fun w hl => ref_any dict ad cap l w hl hs
  have c3 := fun w hl => check_any dict ad cap l w hl hs
  generalize playOf dict l = X at *
  generalize checkOf dict l = E at *
  clear hs
  go_enter Try.func5, Try.ntmps5
  go_wp2_with fail
  refine (c1 _ hl).mono ?_
  rintro e w1 ⟨rfl, G1⟩
  have S1 := hl.below G1
  go_wp2_with fail
  refine (c2 _ S1).mono ?_
  rintro e w2 ⟨rfl, G2⟩
  have S2 := S1.below G2
  go_wp2_with fail
  refine (toksBegun_any _).mono ?_
  rintro e w3 ⟨rfl, G3⟩
  have S3 := S2.below G3
  go_wp2_with fail
  refine (c3 _ S3).mono ?_
  rintro e w4 ⟨rfl, G4⟩
  go_wp2_with fail
  go_ret
  exact ⟨rfl, (bch (bch (bch G1 G2 (Nat.le_refl _)) G3 (Nat.le_refl _)) G4 (Nat.le_refl _))⟩
end Go.Proofs.Ytbjbjbpgmojcbaa
