/- The walk of the law ToksWrites: it answers true, whatever it is handed (texts of at most 2^47 bytes: the form's own reach). -/
import Derived.Test.YtbjbjbpgmojcbaaToksBegun
import Derived.Test.YtbjbjbpgmojcbaaToksMath2
namespace Go.Proofs.Ytbjbjbpgmojcbaa
open Go.RowKit
set_option linter.unusedVariables false

set_option maxHeartbeats 1000000 in
theorem writes_dict (dict : ByteArray) (ad : Option Addr) (cap : Nat) (l : List Tk.T) (s : ByteArray) (w : World) (b2 : s.size ≤ 140737488355328) (hl : SlAt w ad l) (hs : Sane l) (hd : 256 < dict.size) :
    Calls Try.prog 7 #[.string dict, .slice ad l.length cap, .string s] w fun e w' => e = .returned (.bool true) ∧ Below w.heap.size w w' := by
  have hE : checkOf dict l = 2 := by unfold checkOf; rw [if_pos hd]
  have hX : writeOf dict l = ⟨#[]⟩ := by unfold writeOf; rw [if_pos (by rw [hE]; decide)]
  have c1 := fun w hl => write_any dict ad cap l w hl hs
  have c2 := fun w hl => ref_any dict ad cap l w hl hs
  have c3 := fun w => read_dict dict s w hd
  rw [hE, hX] at c1
  rw [hE] at c2
  generalize playOf dict l = Y at *
  have d1 : decide ((256 : Int) < (dict.size : Int)) = true := by simp; omega
  have d1' : (256 : Int) < (dict.size : Int) := by omega
  clear hs hE hX hd
  go_enter Try.func7, Try.ntmps7
  go_wp2_with fail
  refine (c1 _ hl).mono ?_
  rintro e w1 ⟨rfl, G1⟩
  have S1 := hl.below G1
  go_wp2_with fail
  refine (c2 _ S1).mono ?_
  rintro e w2 ⟨rfl, G2⟩
  go_wp2_with fail
  refine (c3 _).mono ?_
  rintro e w3 ⟨rfl, G3⟩
  go_wp2_with fail
  refine (toksBegun_any _).mono ?_
  rintro e w4 ⟨rfl, G4⟩
  go_wp2_with fail
  go_ret
  exact ⟨rfl, (bch (bch (bch G1 G2 (Nat.le_refl _)) G3 (Nat.le_refl _)) G4 (Nat.le_refl _))⟩

set_option maxHeartbeats 1000000 in
theorem writes_ok_some (dict : ByteArray) (ad : Option Addr) (cap : Nat) (l : List Tk.T) (s : ByteArray) (w : World) (b2 : s.size ≤ 140737488355328) (hl : SlAt w ad l) (hs : Sane l) (hd : dict.size ≤ 256) (h0 : checkOf dict l = 0) (m : List Tk.T) (hm : readOf dict s = some m) :
    Calls Try.prog 7 #[.string dict, .slice ad l.length cap, .string s] w fun e w' => e = .returned (.bool true) ∧ Below w.heap.size w w' := by
  have c1 := fun w hl => write_any dict ad cap l w hl hs
  have c2 := fun w hl => ref_any dict ad cap l w hl hs
  have c5 := fun w hl => tokBytes_any ad cap l w hl (check_small h0)
  have hX : writeOf dict l = ⟨(tbs l).toArray⟩ := by unfold writeOf; rw [if_neg (by rw [h0]; decide)]
  rw [h0, hX] at c1
  rw [h0] at c2
  generalize (⟨(tbs l).toArray⟩ : ByteArray) = X at *
  generalize playOf dict l = Y at *
  have d1 : decide ((256 : Int) < (dict.size : Int)) = false := by simp; omega
  have d1' : (dict.size : Int) ≤ 256 := by omega
  have hn : m.length ≤ 140737488355328 := (small_sane (check_small (readOf_some hd hm).2)).1
  have c3 : ∀ w, Calls Try.prog 35 #[.string dict, .string s] w fun e w' => Below w.heap.size w w' ∧ ∃ ad cap, e = .returned (.tuple #[.slice ad m.length cap, .int .i64 0]) ∧ SlAt w' ad m := fun w => (read_any dict s w hd (fun h => read_long0 hd h)).mono fun e w' h => by
    rcases h with ⟨h1, ⟨h2, _⟩ | ⟨k, a, c, h2, h3, h4⟩⟩
    · rw [hm] at h2; cases h2
    · rw [hm] at h2; cases h2; exact ⟨h1, a, c, h3, h4⟩
  have c4 : ∀ w, Calls Try.prog 36 #[.string dict, .string s] w fun e w' => Below w.heap.size w w' ∧ ∃ ad cap, e = .returned (.tuple #[.slice ad m.length cap, .bool true]) ∧ SlAt w' ad m := fun w => (toksFrom_any dict s w b2).mono fun e w' h => by
    rw [from_read hd] at h
    rcases h with ⟨h1, ⟨h2, _⟩ | ⟨k, a, c, h2, h3, h4⟩⟩
    · rw [hm] at h2; cases h2
    · rw [hm] at h2; cases h2; exact ⟨h1, a, c, h3, h4⟩
  have c6 := fun ad bd c1 c2 w h1 h2 => same_any ad bd c1 c2 m m w h1 h2 hn
  rw [sameB_refl] at c6
  clear hn
  clear hs hd hm b2 hX h0
  go_enter Try.func7, Try.ntmps7
  go_wp2_with fail
  refine (c1 _ hl).mono ?_
  rintro e w1 ⟨rfl, G1⟩
  have S1 := hl.below G1
  go_wp2_with fail
  refine (c2 _ S1).mono ?_
  rintro e w2 ⟨rfl, G2⟩
  have S2 := S1.below G2
  go_wp2_with fail
  refine (c5 _ S2).mono ?_
  rintro e w3 ⟨rfl, G3⟩
  go_wp2_with fail
  refine (c3 _).mono ?_
  rintro e w4 ⟨G4, bd, cap2, rfl, T1⟩
  go_wp2_with fail
  refine (c4 _).mono ?_
  rintro e w5 ⟨G5, kd, cap3, rfl, U1⟩
  have T2 := T1.below G5
  go_wp2_with fail
  refine (toksBegun_any _).mono ?_
  rintro e w6 ⟨rfl, G6⟩
  have T3 := T2.below G6
  have U3 := U1.below G6
  go_wp2_with fail
  refine (c6 bd kd cap2 cap3 _ T3 U3).mono ?_
  rintro e w7 ⟨rfl, G7⟩
  go_wp2_with fail
  go_ret
  exact ⟨rfl, (bch (bch (bch (bch (bch (bch G1 G2 (Nat.le_refl _)) G3 (Nat.le_refl _)) G4 (Nat.le_refl _)) G5 (Nat.le_refl _)) G6 (Nat.le_refl _)) G7 (Nat.le_refl _))⟩

set_option maxHeartbeats 1000000 in
theorem writes_ok_none (dict : ByteArray) (ad : Option Addr) (cap : Nat) (l : List Tk.T) (s : ByteArray) (w : World) (b2 : s.size ≤ 140737488355328) (hl : SlAt w ad l) (hs : Sane l) (hd : dict.size ≤ 256) (h0 : checkOf dict l = 0) (hm : readOf dict s = none) :
    Calls Try.prog 7 #[.string dict, .slice ad l.length cap, .string s] w fun e w' => e = .returned (.bool true) ∧ Below w.heap.size w w' := by
  have c1 := fun w hl => write_any dict ad cap l w hl hs
  have c2 := fun w hl => ref_any dict ad cap l w hl hs
  have c5 := fun w hl => tokBytes_any ad cap l w hl (check_small h0)
  have hX : writeOf dict l = ⟨(tbs l).toArray⟩ := by unfold writeOf; rw [if_neg (by rw [h0]; decide)]
  rw [h0, hX] at c1
  rw [h0] at c2
  generalize (⟨(tbs l).toArray⟩ : ByteArray) = X at *
  generalize playOf dict l = Y at *
  have d1 : decide ((256 : Int) < (dict.size : Int)) = false := by simp; omega
  have d1' : (dict.size : Int) ≤ 256 := by omega
  have c3 : ∀ w, Calls Try.prog 35 #[.string dict, .string s] w fun e w' => Below w.heap.size w w' ∧ e = .returned (.tuple #[.slice none 0 0, .int .i64 1]) := fun w => (read_any dict s w hd (fun h => read_long0 hd h)).mono fun e w' h => by
    rcases h with ⟨h1, ⟨_, h2⟩ | ⟨k, a, c, h2, h3, h4⟩⟩
    · exact ⟨h1, h2⟩
    · rw [hm] at h2; cases h2
  have c4 : ∀ w, Calls Try.prog 36 #[.string dict, .string s] w fun e w' => Below w.heap.size w w' ∧ e = .returned (.tuple #[.slice none 0 0, .bool false]) := fun w => (toksFrom_any dict s w b2).mono fun e w' h => by
    rw [from_read hd] at h
    rcases h with ⟨h1, ⟨_, h2⟩ | ⟨k, a, c, h2, h3, h4⟩⟩
    · exact ⟨h1, h2⟩
    · rw [hm] at h2; cases h2
  have c6 := fun w => same_any none none 0 0 [] [] w (.inl rfl) (.inl rfl) (by decide)
  rw [sameB_refl] at c6
  simp only [List.length_nil] at c6
  clear hs hd hm b2 hX h0
  go_enter Try.func7, Try.ntmps7
  go_wp2_with fail
  refine (c1 _ hl).mono ?_
  rintro e w1 ⟨rfl, G1⟩
  have S1 := hl.below G1
  go_wp2_with fail
  refine (c2 _ S1).mono ?_
  rintro e w2 ⟨rfl, G2⟩
  have S2 := S1.below G2
  go_wp2_with fail
  refine (c5 _ S2).mono ?_
  rintro e w3 ⟨rfl, G3⟩
  go_wp2_with fail
  refine (c3 _).mono ?_
  rintro e w4 ⟨G4, rfl⟩
  go_wp2_with fail
  refine (c4 _).mono ?_
  rintro e w5 ⟨G5, rfl⟩
  go_wp2_with fail
  refine (toksBegun_any _).mono ?_
  rintro e w6 ⟨rfl, G6⟩
  go_wp2_with fail
  refine (c6 _).mono ?_
  rintro e w7 ⟨rfl, G7⟩
  go_wp2_with fail
  go_ret
  exact ⟨rfl, (bch (bch (bch (bch (bch (bch G1 G2 (Nat.le_refl _)) G3 (Nat.le_refl _)) G4 (Nat.le_refl _)) G5 (Nat.le_refl _)) G6 (Nat.le_refl _)) G7 (Nat.le_refl _))⟩

set_option maxHeartbeats 1000000 in
theorem writes_bad_some (dict : ByteArray) (ad : Option Addr) (cap : Nat) (l : List Tk.T) (s : ByteArray) (w : World) (b2 : s.size ≤ 140737488355328) (hl : SlAt w ad l) (hs : Sane l) (hd : dict.size ≤ 256) (h0 : ¬ checkOf dict l = 0) (m : List Tk.T) (hm : readOf dict s = some m) :
    Calls Try.prog 7 #[.string dict, .slice ad l.length cap, .string s] w fun e w' => e = .returned (.bool true) ∧ Below w.heap.size w w' := by
  have c1 := fun w hl => write_any dict ad cap l w hl hs
  have c2 := fun w hl => ref_any dict ad cap l w hl hs
  have hX : writeOf dict l = ⟨#[]⟩ := by unfold writeOf; rw [if_pos h0]
  rw [hX] at c1
  generalize checkOf dict l = E at *
  have e0 : (E == 0) = false := by simpa using h0
  generalize playOf dict l = Y at *
  have d1 : decide ((256 : Int) < (dict.size : Int)) = false := by simp; omega
  have d1' : (dict.size : Int) ≤ 256 := by omega
  have hn : m.length ≤ 140737488355328 := (small_sane (check_small (readOf_some hd hm).2)).1
  have c3 : ∀ w, Calls Try.prog 35 #[.string dict, .string s] w fun e w' => Below w.heap.size w w' ∧ ∃ ad cap, e = .returned (.tuple #[.slice ad m.length cap, .int .i64 0]) ∧ SlAt w' ad m := fun w => (read_any dict s w hd (fun h => read_long0 hd h)).mono fun e w' h => by
    rcases h with ⟨h1, ⟨h2, _⟩ | ⟨k, a, c, h2, h3, h4⟩⟩
    · rw [hm] at h2; cases h2
    · rw [hm] at h2; cases h2; exact ⟨h1, a, c, h3, h4⟩
  have c4 : ∀ w, Calls Try.prog 36 #[.string dict, .string s] w fun e w' => Below w.heap.size w w' ∧ ∃ ad cap, e = .returned (.tuple #[.slice ad m.length cap, .bool true]) ∧ SlAt w' ad m := fun w => (toksFrom_any dict s w b2).mono fun e w' h => by
    rw [from_read hd] at h
    rcases h with ⟨h1, ⟨h2, _⟩ | ⟨k, a, c, h2, h3, h4⟩⟩
    · rw [hm] at h2; cases h2
    · rw [hm] at h2; cases h2; exact ⟨h1, a, c, h3, h4⟩
  have c6 := fun ad bd c1 c2 w h1 h2 => same_any ad bd c1 c2 m m w h1 h2 hn
  rw [sameB_refl] at c6
  clear hn
  clear hs hd hm b2 hX h0
  go_enter Try.func7, Try.ntmps7
  go_wp2_with fail
  refine (c1 _ hl).mono ?_
  rintro e w1 ⟨rfl, G1⟩
  have S1 := hl.below G1
  go_wp2_with fail
  refine (c2 _ S1).mono ?_
  rintro e w2 ⟨rfl, G2⟩
  go_wp2_with fail
  refine (c3 _).mono ?_
  rintro e w3 ⟨G3, bd, cap2, rfl, T1⟩
  go_wp2_with fail
  refine (c4 _).mono ?_
  rintro e w4 ⟨G4, kd, cap3, rfl, U1⟩
  have T2 := T1.below G4
  go_wp2_with fail
  refine (toksBegun_any _).mono ?_
  rintro e w5 ⟨rfl, G5⟩
  have T3 := T2.below G5
  have U3 := U1.below G5
  go_wp2_with fail
  refine (c6 bd kd cap2 cap3 _ T3 U3).mono ?_
  rintro e w6 ⟨rfl, G6⟩
  go_wp2_with fail
  go_ret
  exact ⟨rfl, (bch (bch (bch (bch (bch G1 G2 (Nat.le_refl _)) G3 (Nat.le_refl _)) G4 (Nat.le_refl _)) G5 (Nat.le_refl _)) G6 (Nat.le_refl _))⟩

set_option maxHeartbeats 1000000 in
theorem writes_bad_none (dict : ByteArray) (ad : Option Addr) (cap : Nat) (l : List Tk.T) (s : ByteArray) (w : World) (b2 : s.size ≤ 140737488355328) (hl : SlAt w ad l) (hs : Sane l) (hd : dict.size ≤ 256) (h0 : ¬ checkOf dict l = 0) (hm : readOf dict s = none) :
    Calls Try.prog 7 #[.string dict, .slice ad l.length cap, .string s] w fun e w' => e = .returned (.bool true) ∧ Below w.heap.size w w' := by
  have c1 := fun w hl => write_any dict ad cap l w hl hs
  have c2 := fun w hl => ref_any dict ad cap l w hl hs
  have hX : writeOf dict l = ⟨#[]⟩ := by unfold writeOf; rw [if_pos h0]
  rw [hX] at c1
  generalize checkOf dict l = E at *
  have e0 : (E == 0) = false := by simpa using h0
  generalize playOf dict l = Y at *
  have d1 : decide ((256 : Int) < (dict.size : Int)) = false := by simp; omega
  have d1' : (dict.size : Int) ≤ 256 := by omega
  have c3 : ∀ w, Calls Try.prog 35 #[.string dict, .string s] w fun e w' => Below w.heap.size w w' ∧ e = .returned (.tuple #[.slice none 0 0, .int .i64 1]) := fun w => (read_any dict s w hd (fun h => read_long0 hd h)).mono fun e w' h => by
    rcases h with ⟨h1, ⟨_, h2⟩ | ⟨k, a, c, h2, h3, h4⟩⟩
    · exact ⟨h1, h2⟩
    · rw [hm] at h2; cases h2
  have c4 : ∀ w, Calls Try.prog 36 #[.string dict, .string s] w fun e w' => Below w.heap.size w w' ∧ e = .returned (.tuple #[.slice none 0 0, .bool false]) := fun w => (toksFrom_any dict s w b2).mono fun e w' h => by
    rw [from_read hd] at h
    rcases h with ⟨h1, ⟨_, h2⟩ | ⟨k, a, c, h2, h3, h4⟩⟩
    · exact ⟨h1, h2⟩
    · rw [hm] at h2; cases h2
  have c6 := fun w => same_any none none 0 0 [] [] w (.inl rfl) (.inl rfl) (by decide)
  rw [sameB_refl] at c6
  simp only [List.length_nil] at c6
  clear hs hd hm b2 hX h0
  go_enter Try.func7, Try.ntmps7
  go_wp2_with fail
  refine (c1 _ hl).mono ?_
  rintro e w1 ⟨rfl, G1⟩
  have S1 := hl.below G1
  go_wp2_with fail
  refine (c2 _ S1).mono ?_
  rintro e w2 ⟨rfl, G2⟩
  go_wp2_with fail
  refine (c3 _).mono ?_
  rintro e w3 ⟨G3, rfl⟩
  go_wp2_with fail
  refine (c4 _).mono ?_
  rintro e w4 ⟨G4, rfl⟩
  go_wp2_with fail
  refine (toksBegun_any _).mono ?_
  rintro e w5 ⟨rfl, G5⟩
  go_wp2_with fail
  refine (c6 _).mono ?_
  rintro e w6 ⟨rfl, G6⟩
  go_wp2_with fail
  go_ret
  exact ⟨rfl, (bch (bch (bch (bch (bch G1 G2 (Nat.le_refl _)) G3 (Nat.le_refl _)) G4 (Nat.le_refl _)) G5 (Nat.le_refl _)) G6 (Nat.le_refl _))⟩

theorem toksWrites_any (dict : ByteArray) (ad : Option Addr) (cap : Nat) (l : List Tk.T) (s : ByteArray) (w : World) (_ : dict.size ≤ 140737488355328) (hl : SlAt w ad l) (hs : Sane l) (b2 : s.size ≤ 140737488355328) :
    Calls Try.prog 7 #[.string dict, .slice ad l.length cap, .string s] w fun e w' => e = .returned (.bool true) ∧ Below w.heap.size w w' := by
  by_cases hd : dict.size ≤ 256
  · cases hm : readOf dict s with
    | none =>
      by_cases h0 : checkOf dict l = 0
      · exact writes_ok_none dict ad cap l s w b2 hl hs hd h0 hm
      · exact writes_bad_none dict ad cap l s w b2 hl hs hd h0 hm
    | some m =>
      by_cases h0 : checkOf dict l = 0
      · exact writes_ok_some dict ad cap l s w b2 hl hs hd h0 m hm
      · exact writes_bad_some dict ad cap l s w b2 hl hs hd h0 m hm
  · exact writes_dict dict ad cap l s w b2 hl hs (by omega)
end Go.Proofs.Ytbjbjbpgmojcbaa
