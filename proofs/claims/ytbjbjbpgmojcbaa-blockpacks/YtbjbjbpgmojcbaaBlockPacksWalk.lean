/- A part of the proof: what it leans on. -/
import Derived.Test.YtbjbjbpgmojcbaaBook07
import Derived.Test.YtbjbjbpgmojcbaaBook08
import Derived.Test.YtbjbjbpgmojcbaaBook09
namespace Go.Proofs.Ytbjbjbpgmojcbaa
open Go.RowKit
set_option linter.unusedVariables false
set_option maxRecDepth 4000 in
set_option maxHeartbeats 1000000 in
theorem blockPacks_dict (dict text b : ByteArray) (w : World) (hd0 : dict.size ≤ 140737488355328) (ht0 : text.size ≤ 140737488355328) (hb : b.size ≤ 140737488355328) (hd : 256 < dict.size) :
    Calls Try.prog 13 #[.string dict, .string text, .string b] w fun e w' => e = .returned (.bool true) ∧ Below w.heap.size w w' := by
  have c1 := fun w => pack_any dict text w hd0 ht0
  have e1 : Bk.pak dict text = (⟨#[]⟩, 2) := if_pos (Or.inl hd)
  rw [e1] at c1
  have c2 := fun w => unpack_any dict b w hd0 hb
  have e2 : Bk.unp dict b = (⟨#[]⟩, 2) := if_pos hd
  rw [e2] at c2
  have c3 := blockBegun_any
  have d1 : decide ((dict.size : Int) ≤ 256) = false := by simp; omega
  have d2 : decide ((256 : Int) < (dict.size : Int)) = true := by simp; omega
  have d3 : (256 : Int) < (dict.size : Int) := by omega
  clear e1 e2
  go_enter Try.func13, Try.ntmps13
  go_wp2_with fail
  refine (c1 _).mono ?_
  rintro e w1 ⟨rfl, G1⟩
  go_wp2_with fail
  refine (c2 _).mono ?_
  rintro e w2 ⟨rfl, G2⟩
  have B2 := bch G1 G2 (Nat.le_refl _)
  clear G1 G2
  go_wp2_with (go_at_call 51; refine (c3 _).mono ?_; rintro e w3 ⟨rfl, G3⟩)
  go_ret
  exact ⟨rfl, bch B2 G3 (Nat.le_refl _)⟩
set_option maxRecDepth 4000 in
set_option maxHeartbeats 1000000 in
theorem blockPacks_ty (dict text b : ByteArray) (w : World) (ht0 : text.size ≤ 140737488355328) (hb : b.size ≤ 140737488355328) (hd : dict.size ≤ 256) (ht : text.size ≤ 512) (hu : (Bk.unp dict b).2 = 0) :
    Calls Try.prog 13 #[.string dict, .string text, .string b] w fun e w' => e = .returned (.bool true) ∧ Below w.heap.size w w' := by
  have c1 := fun w => pack_any dict text w (by omega) ht0
  have c4 := fun w => packOf_ok dict text w hd ht
  rw [(Bk.unp_pak hd ht).1] at c1
  generalize (Bk.pak dict text).1 = P at *
  have hPP : (P.toList == P.toList) = true := by simp
  have t1 : decide ((text.size : Int) ≤ 512) = true := by simp; omega
  have t2 : (text.size : Int) ≤ 512 := by omega
  have c2 := fun w => unpack_any dict b w (by omega) hb
  have c5 := fun w => unpackOf_any dict b w hd hb
  generalize Bk.unp dict b = U at *
  rw [hu] at c2
  have c6 : ∀ w, Calls Try.prog 52 #[.string dict, .string b] w fun e w' => e = .returned (.tuple #[.string U.1, .bool true]) ∧ Below w.heap.size w w' := fun w => (c5 w).mono fun e w' h => by
    obtain ⟨x, h1, h2, _, h3⟩ := h
    rw [h2 hu, decide_eq_true hu] at h1
    exact ⟨h1, h3⟩
  clear c5
  generalize U.1 = X at *
  have hXX : (X.toList == X.toList) = true := by simp
  have c3 := blockBegun_any
  have d1 : decide ((dict.size : Int) ≤ 256) = true := by simp; omega
  have d2 : decide ((256 : Int) < (dict.size : Int)) = false := by simp; omega
  have d3 : (dict.size : Int) ≤ 256 := by omega
  clear hu
  go_enter Try.func13, Try.ntmps13
  go_wp2_with fail
  refine (c1 _).mono ?_
  rintro e w1 ⟨rfl, G1⟩
  go_wp2_with fail
  refine (c4 _).mono ?_
  rintro e w9 ⟨rfl, G9⟩
  have B1 := bch G1 G9 (Nat.le_refl _)
  clear G1 G9
  go_wp2_with fail
  refine (c2 _).mono ?_
  rintro e w2 ⟨rfl, G2⟩
  have B2 := bch B1 G2 (Nat.le_refl _)
  clear B1 G2
  go_wp2_with fail
  refine (c6 _).mono ?_
  rintro e w3 ⟨rfl, G3⟩
  have B3 := bch B2 G3 (Nat.le_refl _)
  clear B2 G3
  go_wp2_with (go_at_call 51; refine (c3 _).mono ?_; rintro e w4 ⟨rfl, G4⟩)
  go_ret
  exact ⟨rfl, bch B3 G4 (Nat.le_refl _)⟩
set_option maxRecDepth 4000 in
set_option maxHeartbeats 1000000 in
theorem blockPacks_tn (dict text b : ByteArray) (w : World) (ht0 : text.size ≤ 140737488355328) (hb : b.size ≤ 140737488355328) (hd : dict.size ≤ 256) (ht : text.size ≤ 512) (hu : (Bk.unp dict b).2 ≠ 0) :
    Calls Try.prog 13 #[.string dict, .string text, .string b] w fun e w' => e = .returned (.bool true) ∧ Below w.heap.size w w' := by
  have c1 := fun w => pack_any dict text w (by omega) ht0
  have c4 := fun w => packOf_ok dict text w hd ht
  rw [(Bk.unp_pak hd ht).1] at c1
  generalize (Bk.pak dict text).1 = P at *
  have hPP : (P.toList == P.toList) = true := by simp
  have t1 : decide ((text.size : Int) ≤ 512) = true := by simp; omega
  have t2 : (text.size : Int) ≤ 512 := by omega
  have c2 := fun w => unpack_any dict b w (by omega) hb
  have c5 := fun w => unpackOf_any dict b w hd hb
  have c6 : ∀ w, Calls Try.prog 52 #[.string dict, .string b] w fun e w' => (∃ x, e = .returned (.tuple #[.string x, .bool false])) ∧ Bk.unp dict b = (⟨#[]⟩, 1) ∧ Below w.heap.size w w' := fun w => (c5 w).mono fun e w' h => by
    obtain ⟨x, h1, _, h2, h3⟩ := h
    rw [decide_eq_false hu] at h1
    exact ⟨⟨x, h1⟩, h2 hu, h3⟩
  have e3 : Bk.unp dict b = (⟨#[]⟩, 1) := unp_bad hd hu
  rw [e3] at c2
  clear c5 e3
  have c3 := blockBegun_any
  have d1 : decide ((dict.size : Int) ≤ 256) = true := by simp; omega
  have d2 : decide ((256 : Int) < (dict.size : Int)) = false := by simp; omega
  have d3 : (dict.size : Int) ≤ 256 := by omega
  clear hu
  go_enter Try.func13, Try.ntmps13
  go_wp2_with fail
  refine (c1 _).mono ?_
  rintro e w1 ⟨rfl, G1⟩
  go_wp2_with fail
  refine (c4 _).mono ?_
  rintro e w9 ⟨rfl, G9⟩
  have B1 := bch G1 G9 (Nat.le_refl _)
  clear G1 G9
  go_wp2_with fail
  refine (c2 _).mono ?_
  rintro e w2 ⟨rfl, G2⟩
  have B2 := bch B1 G2 (Nat.le_refl _)
  clear B1 G2
  go_wp2_with fail
  refine (c6 _).mono ?_
  rintro e w3 ⟨⟨x, rfl⟩, _, G3⟩
  have B3 := bch B2 G3 (Nat.le_refl _)
  clear B2 G3
  go_wp2_with (go_at_call 51; refine (c3 _).mono ?_; rintro e w4 ⟨rfl, G4⟩)
  go_ret
  exact ⟨rfl, bch B3 G4 (Nat.le_refl _)⟩
set_option maxRecDepth 4000 in
set_option maxHeartbeats 1000000 in
theorem blockPacks_ny (dict text b : ByteArray) (w : World) (ht0 : text.size ≤ 140737488355328) (hb : b.size ≤ 140737488355328) (hd : dict.size ≤ 256) (ht : 512 < text.size) (hu : (Bk.unp dict b).2 = 0) :
    Calls Try.prog 13 #[.string dict, .string text, .string b] w fun e w' => e = .returned (.bool true) ∧ Below w.heap.size w w' := by
  have c1 := fun w => pack_any dict text w (by omega) ht0
  have e1 : Bk.pak dict text = (⟨#[]⟩, 2) := if_pos (Or.inr ht)
  rw [e1] at c1
  clear e1
  have t1 : decide ((text.size : Int) ≤ 512) = false := by simp; omega
  have t2 : (512 : Int) < (text.size : Int) := by omega
  have c2 := fun w => unpack_any dict b w (by omega) hb
  have c5 := fun w => unpackOf_any dict b w hd hb
  generalize Bk.unp dict b = U at *
  rw [hu] at c2
  have c6 : ∀ w, Calls Try.prog 52 #[.string dict, .string b] w fun e w' => e = .returned (.tuple #[.string U.1, .bool true]) ∧ Below w.heap.size w w' := fun w => (c5 w).mono fun e w' h => by
    obtain ⟨x, h1, h2, _, h3⟩ := h
    rw [h2 hu, decide_eq_true hu] at h1
    exact ⟨h1, h3⟩
  clear c5
  generalize U.1 = X at *
  have hXX : (X.toList == X.toList) = true := by simp
  have c3 := blockBegun_any
  have d1 : decide ((dict.size : Int) ≤ 256) = true := by simp; omega
  have d2 : decide ((256 : Int) < (dict.size : Int)) = false := by simp; omega
  have d3 : (dict.size : Int) ≤ 256 := by omega
  clear hu
  go_enter Try.func13, Try.ntmps13
  go_wp2_with fail
  refine (c1 _).mono ?_
  rintro e w1 ⟨rfl, G1⟩
  go_wp2_with fail
  have B1 := G1
  clear G1
  refine (c2 _).mono ?_
  rintro e w2 ⟨rfl, G2⟩
  have B2 := bch B1 G2 (Nat.le_refl _)
  clear B1 G2
  go_wp2_with fail
  refine (c6 _).mono ?_
  rintro e w3 ⟨rfl, G3⟩
  have B3 := bch B2 G3 (Nat.le_refl _)
  clear B2 G3
  go_wp2_with (go_at_call 51; refine (c3 _).mono ?_; rintro e w4 ⟨rfl, G4⟩)
  go_ret
  exact ⟨rfl, bch B3 G4 (Nat.le_refl _)⟩
set_option maxRecDepth 4000 in
set_option maxHeartbeats 1000000 in
theorem blockPacks_nn (dict text b : ByteArray) (w : World) (ht0 : text.size ≤ 140737488355328) (hb : b.size ≤ 140737488355328) (hd : dict.size ≤ 256) (ht : 512 < text.size) (hu : (Bk.unp dict b).2 ≠ 0) :
    Calls Try.prog 13 #[.string dict, .string text, .string b] w fun e w' => e = .returned (.bool true) ∧ Below w.heap.size w w' := by
  have c1 := fun w => pack_any dict text w (by omega) ht0
  have e1 : Bk.pak dict text = (⟨#[]⟩, 2) := if_pos (Or.inr ht)
  rw [e1] at c1
  clear e1
  have t1 : decide ((text.size : Int) ≤ 512) = false := by simp; omega
  have t2 : (512 : Int) < (text.size : Int) := by omega
  have c2 := fun w => unpack_any dict b w (by omega) hb
  have c5 := fun w => unpackOf_any dict b w hd hb
  have c6 : ∀ w, Calls Try.prog 52 #[.string dict, .string b] w fun e w' => (∃ x, e = .returned (.tuple #[.string x, .bool false])) ∧ Bk.unp dict b = (⟨#[]⟩, 1) ∧ Below w.heap.size w w' := fun w => (c5 w).mono fun e w' h => by
    obtain ⟨x, h1, _, h2, h3⟩ := h
    rw [decide_eq_false hu] at h1
    exact ⟨⟨x, h1⟩, h2 hu, h3⟩
  have e3 : Bk.unp dict b = (⟨#[]⟩, 1) := unp_bad hd hu
  rw [e3] at c2
  clear c5 e3
  have c3 := blockBegun_any
  have d1 : decide ((dict.size : Int) ≤ 256) = true := by simp; omega
  have d2 : decide ((256 : Int) < (dict.size : Int)) = false := by simp; omega
  have d3 : (dict.size : Int) ≤ 256 := by omega
  clear hu
  go_enter Try.func13, Try.ntmps13
  go_wp2_with fail
  refine (c1 _).mono ?_
  rintro e w1 ⟨rfl, G1⟩
  go_wp2_with fail
  have B1 := G1
  clear G1
  refine (c2 _).mono ?_
  rintro e w2 ⟨rfl, G2⟩
  have B2 := bch B1 G2 (Nat.le_refl _)
  clear B1 G2
  go_wp2_with fail
  refine (c6 _).mono ?_
  rintro e w3 ⟨⟨x, rfl⟩, _, G3⟩
  have B3 := bch B2 G3 (Nat.le_refl _)
  clear B2 G3
  go_wp2_with (go_at_call 51; refine (c3 _).mono ?_; rintro e w4 ⟨rfl, G4⟩)
  go_ret
  exact ⟨rfl, bch B3 G4 (Nat.le_refl _)⟩
theorem blockPacks_any (dict text b : ByteArray) (w : World) (hd0 : dict.size ≤ 140737488355328) (ht0 : text.size ≤ 140737488355328) (hb : b.size ≤ 140737488355328) :
    Calls Try.prog 13 #[.string dict, .string text, .string b] w fun e w' => e = .returned (.bool true) ∧ Below w.heap.size w w' := by
  by_cases hd : 256 < dict.size
  · exact blockPacks_dict dict text b w hd0 ht0 hb hd
  · by_cases ht : 512 < text.size
    · by_cases hu : (Bk.unp dict b).2 = 0
      · exact blockPacks_ny dict text b w ht0 hb (by omega) ht hu
      · exact blockPacks_nn dict text b w ht0 hb (by omega) ht hu
    · by_cases hu : (Bk.unp dict b).2 = 0
      · exact blockPacks_ty dict text b w ht0 hb (by omega) (by omega) hu
      · exact blockPacks_tn dict text b w ht0 hb (by omega) (by omega) hu
end Go.Proofs.Ytbjbjbpgmojcbaa
