/- A part of the proof: what it leans on. -/
import Derived.Test.YtbjbjbpgmojcbaaBook07
import Derived.Test.YtbjbjbpgmojcbaaBook08
namespace Go.Proofs.Ytbjbjbpgmojcbaa
open Go.RowKit
set_option linter.unusedVariables false
set_option maxRecDepth 4000 in
set_option maxHeartbeats 1000000 in
theorem blockBack_ok (dict text : ByteArray) (w : World) (hd : dict.size ≤ 256) (ht : text.size ≤ 512) :
    Calls Try.prog 14 #[.string dict, .string text] w fun e w' => e = .returned (.bool true) ∧ Below w.heap.size w w' := by
  obtain ⟨e1, e2, e3⟩ := Bk.unp_pak hd ht
  have c1 := fun w => pack_any dict text w (by omega) (by omega)
  have c2 := fun w => unpack_any dict (Bk.pak dict text).1 w (by omega) (by omega)
  rw [e1] at c1
  rw [e2] at c2
  clear e1 e2
  generalize (Bk.pak dict text).1 = b at *
  have c3 := blockBegun_any
  have htt : (text.toList == text.toList) = true := by simp
  have ht' : (text.size : Int) ≤ 512 := by omega
  have e3' : (b.size : Int) ≤ (text.size : Int) + 1 := by omega
  have hb0 : (0 : Int) ≤ (b.size : Int) := by omega
  have ht0 : (0 : Int) ≤ (text.size : Int) := by omega
  have hw1 : wrap64 ((text.size : Int) + 1) = (text.size : Int) + 1 := w64 (by omega) (by omega)
  have hle : decide ((b.size : Int) ≤ (text.size : Int) + 1) = true := by simp [e3']
  go_enter Try.func14, Try.ntmps14
  go_wp2_with fail
  refine (c1 _).mono ?_
  rintro e w1 ⟨rfl, G1⟩
  go_wp2_with fail
  refine (c2 _).mono ?_
  rintro e w2 ⟨rfl, G2⟩
  have B2 := bch G1 G2 (Nat.le_refl _)
  clear G1 G2
  go_wp2_with (go_at_call 51; refine (c3 _).mono ?_; rintro e w3 ⟨rfl, G3⟩)
  go_ret
  exact ⟨rfl, bch B2 G3 (Nat.le_refl _)⟩
set_option maxRecDepth 4000 in
set_option maxHeartbeats 1000000 in
theorem blockBack_many (dict text : ByteArray) (w : World) (hd : dict.size ≤ 140737488355328) (ht : text.size ≤ 140737488355328) (hm : 256 < dict.size ∨ 512 < text.size) :
    Calls Try.prog 14 #[.string dict, .string text] w fun e w' => e = .returned (.bool true) ∧ Below w.heap.size w w' := by
  have c1 := fun w => pack_any dict text w hd ht
  have e : Bk.pak dict text = (⟨#[]⟩, 2) := if_pos hm
  rw [e] at c1
  clear e hm
  have c3 := blockBegun_any
  go_enter Try.func14, Try.ntmps14
  go_wp2_with fail
  refine (c1 _).mono ?_
  rintro e w1 ⟨rfl, G1⟩
  go_wp2_with fail
  refine (c3 _).mono ?_
  rintro e w2 ⟨rfl, G2⟩
  go_wp2_with fail
  go_ret
  exact ⟨rfl, bch G1 G2 (Nat.le_refl _)⟩
theorem blockBack_any (dict text : ByteArray) (w : World) (hd : dict.size ≤ 140737488355328) (ht : text.size ≤ 140737488355328) :
    Calls Try.prog 14 #[.string dict, .string text] w fun e w' => e = .returned (.bool true) ∧ Below w.heap.size w w' := by
  by_cases hm : 256 < dict.size ∨ 512 < text.size
  · exact blockBack_many dict text w hd ht hm
  · exact blockBack_ok dict text w (by omega) (by omega)
end Go.Proofs.Ytbjbjbpgmojcbaa
