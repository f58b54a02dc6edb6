/- The walk of the law ToksParses: it answers true, whatever it is handed (texts of at most 2^47 bytes: the form's own reach). -/
import Derived.Test.YtbjbjbpgmojcbaaToksBegun
import Derived.Test.YtbjbjbpgmojcbaaToksMath2
namespace Go.Proofs.Ytbjbjbpgmojcbaa
open Go.RowKit
set_option linter.unusedVariables false

set_option maxHeartbeats 1000000 in
theorem parses_dict (dict text : ByteArray) (w : World) (hd : 256 < dict.size) :
    Calls Try.prog 6 #[.string dict, .string text] w fun e w' => e = .returned (.bool true) ∧ Below w.heap.size w w' := by
  have d1 : decide ((256 : Int) < (dict.size : Int)) = true := by simp; omega
  have d1' : (256 : Int) < (dict.size : Int) := by omega
  have c1 := fun w => parse_many dict text w (.inl hd)
  clear hd
  go_enter Try.func6, Try.ntmps6
  go_wp2_with fail
  refine (c1 _).mono ?_
  rintro e w1 ⟨rfl, G1⟩
  go_wp2_with fail
  refine (toksBegun_any _).mono ?_
  rintro e w2 ⟨rfl, G2⟩
  go_wp2_with fail
  go_ret
  exact ⟨rfl, (bch G1 G2 (Nat.le_refl _))⟩

set_option maxHeartbeats 1000000 in
theorem parses_text (dict text : ByteArray) (w : World) (hd : dict.size ≤ 256) (ht : 512 < text.size) :
    Calls Try.prog 6 #[.string dict, .string text] w fun e w' => e = .returned (.bool true) ∧ Below w.heap.size w w' := by
  have d1 : decide ((256 : Int) < (dict.size : Int)) = false := by simp; omega
  have d2 : decide ((512 : Int) < (text.size : Int)) = true := by simp; omega
  have d1' : (dict.size : Int) ≤ 256 := by omega
  have d2' : (512 : Int) < (text.size : Int) := by omega
  have c1 := fun w => parse_many dict text w (.inr ht)
  clear hd ht
  go_enter Try.func6, Try.ntmps6
  go_wp2_with fail
  refine (c1 _).mono ?_
  rintro e w1 ⟨rfl, G1⟩
  go_wp2_with fail
  refine (toksBegun_any _).mono ?_
  rintro e w2 ⟨rfl, G2⟩
  go_wp2_with fail
  go_ret
  exact ⟨rfl, (bch G1 G2 (Nat.le_refl _))⟩

set_option maxHeartbeats 1000000 in
theorem parses_ok (dict text : ByteArray) (w : World) (hd : dict.size ≤ 256) (ht : text.size ≤ 512) :
    Calls Try.prog 6 #[.string dict, .string text] w fun e w' => e = .returned (.bool true) ∧ Below w.heap.size w w' := by
  have d1 : decide ((256 : Int) < (dict.size : Int)) = false := by simp; omega
  have d2 : decide ((512 : Int) < (text.size : Int)) = false := by simp; omega
  have d1' : (dict.size : Int) ≤ 256 := by omega
  have d2' : (text.size : Int) ≤ 512 := by omega
  have c1 := fun w => parse_ok dict text w hd ht
  have c2 := fun w => parseOf_ok dict text w hd ht
  have hn := (small_sane (check_small (parse_plays dict text hd ht).1)).1
  generalize Tk.P (dict ++ text) dict.size dict.size = L at *
  have c3 := fun ad bd c1 c2 w h1 h2 => same_any ad bd c1 c2 L L w h1 h2 hn
  rw [sameB_refl] at c3
  clear hd ht hn
  go_enter Try.func6, Try.ntmps6
  go_wp2_with fail
  refine (c1 _).mono ?_
  rintro e w1 ⟨G1, ad, cap, rfl, S1⟩
  go_wp2_with fail
  refine (toksBegun_any _).mono ?_
  rintro e w2 ⟨rfl, G2⟩
  have S2 := S1.below G2
  go_wp2_with fail
  refine (c2 _).mono ?_
  rintro e w3 ⟨G3, bd, cap2, rfl, S4⟩
  have S3 := S2.below G3
  go_wp2_with fail
  refine (c3 ad bd cap cap2 _ S3 S4).mono ?_
  rintro e w4 ⟨rfl, G4⟩
  go_wp2_with fail
  go_ret
  exact ⟨rfl, (bch (bch (bch G1 G2 (Nat.le_refl _)) G3 (Nat.le_refl _)) G4 (Nat.le_refl _))⟩

theorem toksParses_any (dict text : ByteArray) (w : World) (_ : dict.size ≤ 140737488355328) (_ : text.size ≤ 140737488355328) :
    Calls Try.prog 6 #[.string dict, .string text] w fun e w' => e = .returned (.bool true) ∧ Below w.heap.size w w' := by
  by_cases hd : dict.size ≤ 256
  · by_cases ht : text.size ≤ 512
    · exact parses_ok dict text w hd ht
    · exact parses_text dict text w hd (by omega)
  · exact parses_dict dict text w (by omega)
end Go.Proofs.Ytbjbjbpgmojcbaa
