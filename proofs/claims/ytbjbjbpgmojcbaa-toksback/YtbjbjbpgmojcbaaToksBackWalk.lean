/- The walk of the law ToksBack: it answers true, whatever it is handed (texts of at most 2^47 bytes: the form's own reach). -/
import Derived.Test.YtbjbjbpgmojcbaaToksBegun
import Derived.Test.YtbjbjbpgmojcbaaToksMath2
namespace Go.Proofs.Ytbjbjbpgmojcbaa
open Go.RowKit
set_option linter.unusedVariables false

set_option maxHeartbeats 1000000 in
theorem back_dict (dict text : ByteArray) (ad : Option Addr) (cap : Nat) (l : List Tk.T) (s : ByteArray) (w : World) (hl : SlAt w ad l) (hs : Sane l) (hd : 256 < dict.size) :
    Calls Try.prog 8 #[.string dict, .string text, .slice ad l.length cap, .string s] w fun e w' => e = .returned (.bool true) ∧ Below w.heap.size w w' := by
  have hE : checkOf dict l = 2 := by unfold checkOf; rw [if_pos hd]
  have c1 := fun w => parse_many dict text w (.inl hd)
  have c2 := fun w hl => write_any dict ad cap l w hl hs
  have c3 := fun w => read_dict dict s w hd
  rw [hE] at c2
  generalize writeOf dict l = X at *
  clear hs hE hd
  go_enter Try.func8, Try.ntmps8
  go_wp2_with fail
  refine (c1 _).mono ?_
  rintro e w1 ⟨rfl, G1⟩
  have S1 := hl.below G1
  go_wp2_with fail
  refine (c2 _ S1).mono ?_
  rintro e w2 ⟨rfl, G2⟩
  go_wp2_with fail
  refine (c3 _).mono ?_
  rintro e w3 ⟨rfl, G3⟩
  go_wp2_with fail
  refine (toksBegun_any _).mono ?_
  rintro e w4 ⟨rfl, G4⟩
  go_wp2_with fail
  go_ret
  exact ⟨rfl, (bch (bch (bch G1 G2 (Nat.le_refl _)) G3 (Nat.le_refl _)) G4 (Nat.le_refl _))⟩

set_option maxHeartbeats 1000000 in
theorem back_t_ok_some (dict text : ByteArray) (ad : Option Addr) (cap : Nat) (l : List Tk.T) (s : ByteArray) (w : World) (hl : SlAt w ad l) (hs : Sane l) (hd : dict.size ≤ 256) (ht : text.size ≤ 512) (h0 : checkOf dict l = 0) (m : List Tk.T) (hm : readOf dict s = some m) :
    Calls Try.prog 8 #[.string dict, .string text, .slice ad l.length cap, .string s] w fun e w' => e = .returned (.bool true) ∧ Below w.heap.size w w' := by
  have c1 := fun w => parse_ok dict text w hd ht
  have q1 := parse_plays dict text hd ht
  have q2 := small_sane (check_small q1.1)
  generalize Tk.P (dict ++ text) dict.size dict.size = L at *
  have c2 := fun ad cap w hl => play_any dict ad cap L w hl q2
  rw [q1.1, q1.2] at c2
  clear q1 q2
  have c3 := fun w hl => write_any dict ad cap l w hl hs
  have hX : writeOf dict l = ⟨(tbs l).toArray⟩ := by unfold writeOf; rw [if_neg (by rw [h0]; decide)]
  rw [h0, hX] at c3
  have c4 : ∀ w, Calls Try.prog 35 #[.string dict, .string ⟨(tbs l).toArray⟩] w fun e w' => Below w.heap.size w w' ∧ ∃ ad cap, e = .returned (.tuple #[.slice ad l.length cap, .int .i64 0]) ∧ SlAt w' ad l := fun w => (read_any dict _ w hd (fun h => read_long0 hd h)).mono fun e w' h => by
    have hr := read_write h0
    rcases h with ⟨h1, ⟨h2, _⟩ | ⟨k, a, c, h2, h3, h4⟩⟩
    · rw [hr] at h2; cases h2
    · rw [hr] at h2; cases h2; exact ⟨h1, a, c, h3, h4⟩
  have c5 := fun bd c1 w h1 h2 => same_any bd ad c1 cap l l w h1 h2 hs.1
  rw [sameB_refl] at c5
  generalize (⟨(tbs l).toArray⟩ : ByteArray) = X at *
  clear hX
  have r1 := read_tbs hd hm
  have c6 : ∀ w, Calls Try.prog 35 #[.string dict, .string s] w fun e w' => Below w.heap.size w w' ∧ ∃ ad cap, e = .returned (.tuple #[.slice ad m.length cap, .int .i64 0]) ∧ SlAt w' ad m := fun w => (read_any dict s w hd (fun h => read_long0 hd h)).mono fun e w' h => by
    rcases h with ⟨h1, ⟨h2, _⟩ | ⟨k, a, c, h2, h3, h4⟩⟩
    · rw [hm] at h2; cases h2
    · rw [hm] at h2; cases h2; exact ⟨h1, a, c, h3, h4⟩
  have c7 := fun ad cap w hl => write_any dict ad cap m w hl (small_sane (check_small r1.2))
  have hY : writeOf dict m = s := by unfold writeOf; rw [if_neg (by rw [r1.2]; decide)]; exact r1.1
  rw [r1.2, hY] at c7
  clear hY r1
  clear hs hd ht hm h0
  go_enter Try.func8, Try.ntmps8
  go_wp2_with fail
  refine (c1 _).mono ?_
  rintro e w1 ⟨G1, pd, pc, rfl, Z1⟩
  have S1 := hl.below G1
  go_wp2_with fail
  refine (c2 pd pc _ Z1).mono ?_
  rintro e w2 ⟨rfl, G2⟩
  have S2 := S1.below G2
  go_wp2_with fail
  refine (c3 _ S2).mono ?_
  rintro e w3 ⟨rfl, G3⟩
  have S3 := S2.below G3
  go_wp2_with fail
  refine (c4 _).mono ?_
  rintro e w4 ⟨G4, bd, bc, rfl, T1⟩
  have S4 := S3.below G4
  go_wp2_with fail
  refine (c5 bd bc _ T1 S4).mono ?_
  rintro e w5 ⟨rfl, G5⟩
  go_wp2_with fail
  refine (c6 _).mono ?_
  rintro e w6 ⟨G6, kd, kc, rfl, U1⟩
  go_wp2_with fail
  refine (c7 kd kc _ U1).mono ?_
  rintro e w7 ⟨rfl, G7⟩
  go_wp2_with fail
  refine (toksBegun_any _).mono ?_
  rintro e w8 ⟨rfl, G8⟩
  go_wp2_with fail
  go_ret
  exact ⟨rfl, (bch (bch (bch (bch (bch (bch (bch G1 G2 (Nat.le_refl _)) G3 (Nat.le_refl _)) G4 (Nat.le_refl _)) G5 (Nat.le_refl _)) G6 (Nat.le_refl _)) G7 (Nat.le_refl _)) G8 (Nat.le_refl _))⟩

set_option maxHeartbeats 1000000 in
theorem back_t_ok_none (dict text : ByteArray) (ad : Option Addr) (cap : Nat) (l : List Tk.T) (s : ByteArray) (w : World) (hl : SlAt w ad l) (hs : Sane l) (hd : dict.size ≤ 256) (ht : text.size ≤ 512) (h0 : checkOf dict l = 0) (hm : readOf dict s = none) :
    Calls Try.prog 8 #[.string dict, .string text, .slice ad l.length cap, .string s] w fun e w' => e = .returned (.bool true) ∧ Below w.heap.size w w' := by
  have c1 := fun w => parse_ok dict text w hd ht
  have q1 := parse_plays dict text hd ht
  have q2 := small_sane (check_small q1.1)
  generalize Tk.P (dict ++ text) dict.size dict.size = L at *
  have c2 := fun ad cap w hl => play_any dict ad cap L w hl q2
  rw [q1.1, q1.2] at c2
  clear q1 q2
  have c3 := fun w hl => write_any dict ad cap l w hl hs
  have hX : writeOf dict l = ⟨(tbs l).toArray⟩ := by unfold writeOf; rw [if_neg (by rw [h0]; decide)]
  rw [h0, hX] at c3
  have c4 : ∀ w, Calls Try.prog 35 #[.string dict, .string ⟨(tbs l).toArray⟩] w fun e w' => Below w.heap.size w w' ∧ ∃ ad cap, e = .returned (.tuple #[.slice ad l.length cap, .int .i64 0]) ∧ SlAt w' ad l := fun w => (read_any dict _ w hd (fun h => read_long0 hd h)).mono fun e w' h => by
    have hr := read_write h0
    rcases h with ⟨h1, ⟨h2, _⟩ | ⟨k, a, c, h2, h3, h4⟩⟩
    · rw [hr] at h2; cases h2
    · rw [hr] at h2; cases h2; exact ⟨h1, a, c, h3, h4⟩
  have c5 := fun bd c1 w h1 h2 => same_any bd ad c1 cap l l w h1 h2 hs.1
  rw [sameB_refl] at c5
  generalize (⟨(tbs l).toArray⟩ : ByteArray) = X at *
  clear hX
  have c6 : ∀ w, Calls Try.prog 35 #[.string dict, .string s] w fun e w' => Below w.heap.size w w' ∧ e = .returned (.tuple #[.slice none 0 0, .int .i64 1]) := fun w => (read_any dict s w hd (fun h => read_long0 hd h)).mono fun e w' h => by
    rcases h with ⟨h1, ⟨_, h2⟩ | ⟨k, a, c, h2, h3, h4⟩⟩
    · exact ⟨h1, h2⟩
    · rw [hm] at h2; cases h2
  clear hs hd ht hm h0
  go_enter Try.func8, Try.ntmps8
  go_wp2_with fail
  refine (c1 _).mono ?_
  rintro e w1 ⟨G1, pd, pc, rfl, Z1⟩
  have S1 := hl.below G1
  go_wp2_with fail
  refine (c2 pd pc _ Z1).mono ?_
  rintro e w2 ⟨rfl, G2⟩
  have S2 := S1.below G2
  go_wp2_with fail
  refine (c3 _ S2).mono ?_
  rintro e w3 ⟨rfl, G3⟩
  have S3 := S2.below G3
  go_wp2_with fail
  refine (c4 _).mono ?_
  rintro e w4 ⟨G4, bd, bc, rfl, T1⟩
  have S4 := S3.below G4
  go_wp2_with fail
  refine (c5 bd bc _ T1 S4).mono ?_
  rintro e w5 ⟨rfl, G5⟩
  go_wp2_with fail
  refine (c6 _).mono ?_
  rintro e w6 ⟨G6, rfl⟩
  go_wp2_with fail
  refine (toksBegun_any _).mono ?_
  rintro e w7 ⟨rfl, G7⟩
  go_wp2_with fail
  go_ret
  exact ⟨rfl, (bch (bch (bch (bch (bch (bch G1 G2 (Nat.le_refl _)) G3 (Nat.le_refl _)) G4 (Nat.le_refl _)) G5 (Nat.le_refl _)) G6 (Nat.le_refl _)) G7 (Nat.le_refl _))⟩

set_option maxHeartbeats 1000000 in
theorem back_t_bad_some (dict text : ByteArray) (ad : Option Addr) (cap : Nat) (l : List Tk.T) (s : ByteArray) (w : World) (hl : SlAt w ad l) (hs : Sane l) (hd : dict.size ≤ 256) (ht : text.size ≤ 512) (h0 : ¬ checkOf dict l = 0) (m : List Tk.T) (hm : readOf dict s = some m) :
    Calls Try.prog 8 #[.string dict, .string text, .slice ad l.length cap, .string s] w fun e w' => e = .returned (.bool true) ∧ Below w.heap.size w w' := by
  have c1 := fun w => parse_ok dict text w hd ht
  have q1 := parse_plays dict text hd ht
  have q2 := small_sane (check_small q1.1)
  generalize Tk.P (dict ++ text) dict.size dict.size = L at *
  have c2 := fun ad cap w hl => play_any dict ad cap L w hl q2
  rw [q1.1, q1.2] at c2
  clear q1 q2
  have c3 := fun w hl => write_any dict ad cap l w hl hs
  generalize writeOf dict l = X at *
  generalize checkOf dict l = E at *
  have e0 : (E == 0) = false := by simpa using h0
  have r1 := read_tbs hd hm
  have c6 : ∀ w, Calls Try.prog 35 #[.string dict, .string s] w fun e w' => Below w.heap.size w w' ∧ ∃ ad cap, e = .returned (.tuple #[.slice ad m.length cap, .int .i64 0]) ∧ SlAt w' ad m := fun w => (read_any dict s w hd (fun h => read_long0 hd h)).mono fun e w' h => by
    rcases h with ⟨h1, ⟨h2, _⟩ | ⟨k, a, c, h2, h3, h4⟩⟩
    · rw [hm] at h2; cases h2
    · rw [hm] at h2; cases h2; exact ⟨h1, a, c, h3, h4⟩
  have c7 := fun ad cap w hl => write_any dict ad cap m w hl (small_sane (check_small r1.2))
  have hY : writeOf dict m = s := by unfold writeOf; rw [if_neg (by rw [r1.2]; decide)]; exact r1.1
  rw [r1.2, hY] at c7
  clear hY r1
  clear hs hd ht hm h0
  go_enter Try.func8, Try.ntmps8
  go_wp2_with fail
  refine (c1 _).mono ?_
  rintro e w1 ⟨G1, pd, pc, rfl, Z1⟩
  have S1 := hl.below G1
  go_wp2_with fail
  refine (c2 pd pc _ Z1).mono ?_
  rintro e w2 ⟨rfl, G2⟩
  have S2 := S1.below G2
  go_wp2_with fail
  refine (c3 _ S2).mono ?_
  rintro e w3 ⟨rfl, G3⟩
  have S3 := S2.below G3
  go_wp2_with fail
  refine (c6 _).mono ?_
  rintro e w4 ⟨G4, kd, kc, rfl, U1⟩
  go_wp2_with fail
  refine (c7 kd kc _ U1).mono ?_
  rintro e w5 ⟨rfl, G5⟩
  go_wp2_with fail
  refine (toksBegun_any _).mono ?_
  rintro e w6 ⟨rfl, G6⟩
  go_wp2_with fail
  go_ret
  exact ⟨rfl, (bch (bch (bch (bch (bch G1 G2 (Nat.le_refl _)) G3 (Nat.le_refl _)) G4 (Nat.le_refl _)) G5 (Nat.le_refl _)) G6 (Nat.le_refl _))⟩

set_option maxHeartbeats 1000000 in
theorem back_t_bad_none (dict text : ByteArray) (ad : Option Addr) (cap : Nat) (l : List Tk.T) (s : ByteArray) (w : World) (hl : SlAt w ad l) (hs : Sane l) (hd : dict.size ≤ 256) (ht : text.size ≤ 512) (h0 : ¬ checkOf dict l = 0) (hm : readOf dict s = none) :
    Calls Try.prog 8 #[.string dict, .string text, .slice ad l.length cap, .string s] w fun e w' => e = .returned (.bool true) ∧ Below w.heap.size w w' := by
  have c1 := fun w => parse_ok dict text w hd ht
  have q1 := parse_plays dict text hd ht
  have q2 := small_sane (check_small q1.1)
  generalize Tk.P (dict ++ text) dict.size dict.size = L at *
  have c2 := fun ad cap w hl => play_any dict ad cap L w hl q2
  rw [q1.1, q1.2] at c2
  clear q1 q2
  have c3 := fun w hl => write_any dict ad cap l w hl hs
  generalize writeOf dict l = X at *
  generalize checkOf dict l = E at *
  have e0 : (E == 0) = false := by simpa using h0
  have c6 : ∀ w, Calls Try.prog 35 #[.string dict, .string s] w fun e w' => Below w.heap.size w w' ∧ e = .returned (.tuple #[.slice none 0 0, .int .i64 1]) := fun w => (read_any dict s w hd (fun h => read_long0 hd h)).mono fun e w' h => by
    rcases h with ⟨h1, ⟨_, h2⟩ | ⟨k, a, c, h2, h3, h4⟩⟩
    · exact ⟨h1, h2⟩
    · rw [hm] at h2; cases h2
  clear hs hd ht hm h0
  go_enter Try.func8, Try.ntmps8
  go_wp2_with fail
  refine (c1 _).mono ?_
  rintro e w1 ⟨G1, pd, pc, rfl, Z1⟩
  have S1 := hl.below G1
  go_wp2_with fail
  refine (c2 pd pc _ Z1).mono ?_
  rintro e w2 ⟨rfl, G2⟩
  have S2 := S1.below G2
  go_wp2_with fail
  refine (c3 _ S2).mono ?_
  rintro e w3 ⟨rfl, G3⟩
  have S3 := S2.below G3
  go_wp2_with fail
  refine (c6 _).mono ?_
  rintro e w4 ⟨G4, rfl⟩
  go_wp2_with fail
  refine (toksBegun_any _).mono ?_
  rintro e w5 ⟨rfl, G5⟩
  go_wp2_with fail
  go_ret
  exact ⟨rfl, (bch (bch (bch (bch G1 G2 (Nat.le_refl _)) G3 (Nat.le_refl _)) G4 (Nat.le_refl _)) G5 (Nat.le_refl _))⟩

set_option maxHeartbeats 1000000 in
theorem back_n_ok_some (dict text : ByteArray) (ad : Option Addr) (cap : Nat) (l : List Tk.T) (s : ByteArray) (w : World) (hl : SlAt w ad l) (hs : Sane l) (hd : dict.size ≤ 256) (ht : 512 < text.size) (h0 : checkOf dict l = 0) (m : List Tk.T) (hm : readOf dict s = some m) :
    Calls Try.prog 8 #[.string dict, .string text, .slice ad l.length cap, .string s] w fun e w' => e = .returned (.bool true) ∧ Below w.heap.size w w' := by
  have c1 := fun w => parse_many dict text w (.inr ht)
  have c3 := fun w hl => write_any dict ad cap l w hl hs
  have hX : writeOf dict l = ⟨(tbs l).toArray⟩ := by unfold writeOf; rw [if_neg (by rw [h0]; decide)]
  rw [h0, hX] at c3
  have c4 : ∀ w, Calls Try.prog 35 #[.string dict, .string ⟨(tbs l).toArray⟩] w fun e w' => Below w.heap.size w w' ∧ ∃ ad cap, e = .returned (.tuple #[.slice ad l.length cap, .int .i64 0]) ∧ SlAt w' ad l := fun w => (read_any dict _ w hd (fun h => read_long0 hd h)).mono fun e w' h => by
    have hr := read_write h0
    rcases h with ⟨h1, ⟨h2, _⟩ | ⟨k, a, c, h2, h3, h4⟩⟩
    · rw [hr] at h2; cases h2
    · rw [hr] at h2; cases h2; exact ⟨h1, a, c, h3, h4⟩
  have c5 := fun bd c1 w h1 h2 => same_any bd ad c1 cap l l w h1 h2 hs.1
  rw [sameB_refl] at c5
  generalize (⟨(tbs l).toArray⟩ : ByteArray) = X at *
  clear hX
  have r1 := read_tbs hd hm
  have c6 : ∀ w, Calls Try.prog 35 #[.string dict, .string s] w fun e w' => Below w.heap.size w w' ∧ ∃ ad cap, e = .returned (.tuple #[.slice ad m.length cap, .int .i64 0]) ∧ SlAt w' ad m := fun w => (read_any dict s w hd (fun h => read_long0 hd h)).mono fun e w' h => by
    rcases h with ⟨h1, ⟨h2, _⟩ | ⟨k, a, c, h2, h3, h4⟩⟩
    · rw [hm] at h2; cases h2
    · rw [hm] at h2; cases h2; exact ⟨h1, a, c, h3, h4⟩
  have c7 := fun ad cap w hl => write_any dict ad cap m w hl (small_sane (check_small r1.2))
  have hY : writeOf dict m = s := by unfold writeOf; rw [if_neg (by rw [r1.2]; decide)]; exact r1.1
  rw [r1.2, hY] at c7
  clear hY r1
  clear hs hd ht hm h0
  go_enter Try.func8, Try.ntmps8
  go_wp2_with fail
  refine (c1 _).mono ?_
  rintro e w1 ⟨rfl, G1⟩
  have S1 := hl.below G1
  go_wp2_with fail
  refine (c3 _ S1).mono ?_
  rintro e w2 ⟨rfl, G2⟩
  have S2 := S1.below G2
  go_wp2_with fail
  refine (c4 _).mono ?_
  rintro e w3 ⟨G3, bd, bc, rfl, T1⟩
  have S3 := S2.below G3
  go_wp2_with fail
  refine (c5 bd bc _ T1 S3).mono ?_
  rintro e w4 ⟨rfl, G4⟩
  go_wp2_with fail
  refine (c6 _).mono ?_
  rintro e w5 ⟨G5, kd, kc, rfl, U1⟩
  go_wp2_with fail
  refine (c7 kd kc _ U1).mono ?_
  rintro e w6 ⟨rfl, G6⟩
  go_wp2_with fail
  refine (toksBegun_any _).mono ?_
  rintro e w7 ⟨rfl, G7⟩
  go_wp2_with fail
  go_ret
  exact ⟨rfl, (bch (bch (bch (bch (bch (bch G1 G2 (Nat.le_refl _)) G3 (Nat.le_refl _)) G4 (Nat.le_refl _)) G5 (Nat.le_refl _)) G6 (Nat.le_refl _)) G7 (Nat.le_refl _))⟩

set_option maxHeartbeats 1000000 in
theorem back_n_ok_none (dict text : ByteArray) (ad : Option Addr) (cap : Nat) (l : List Tk.T) (s : ByteArray) (w : World) (hl : SlAt w ad l) (hs : Sane l) (hd : dict.size ≤ 256) (ht : 512 < text.size) (h0 : checkOf dict l = 0) (hm : readOf dict s = none) :
    Calls Try.prog 8 #[.string dict, .string text, .slice ad l.length cap, .string s] w fun e w' => e = .returned (.bool true) ∧ Below w.heap.size w w' := by
  have c1 := fun w => parse_many dict text w (.inr ht)
  have c3 := fun w hl => write_any dict ad cap l w hl hs
  have hX : writeOf dict l = ⟨(tbs l).toArray⟩ := by unfold writeOf; rw [if_neg (by rw [h0]; decide)]
  rw [h0, hX] at c3
  have c4 : ∀ w, Calls Try.prog 35 #[.string dict, .string ⟨(tbs l).toArray⟩] w fun e w' => Below w.heap.size w w' ∧ ∃ ad cap, e = .returned (.tuple #[.slice ad l.length cap, .int .i64 0]) ∧ SlAt w' ad l := fun w => (read_any dict _ w hd (fun h => read_long0 hd h)).mono fun e w' h => by
    have hr := read_write h0
    rcases h with ⟨h1, ⟨h2, _⟩ | ⟨k, a, c, h2, h3, h4⟩⟩
    · rw [hr] at h2; cases h2
    · rw [hr] at h2; cases h2; exact ⟨h1, a, c, h3, h4⟩
  have c5 := fun bd c1 w h1 h2 => same_any bd ad c1 cap l l w h1 h2 hs.1
  rw [sameB_refl] at c5
  generalize (⟨(tbs l).toArray⟩ : ByteArray) = X at *
  clear hX
  have c6 : ∀ w, Calls Try.prog 35 #[.string dict, .string s] w fun e w' => Below w.heap.size w w' ∧ e = .returned (.tuple #[.slice none 0 0, .int .i64 1]) := fun w => (read_any dict s w hd (fun h => read_long0 hd h)).mono fun e w' h => by
    rcases h with ⟨h1, ⟨_, h2⟩ | ⟨k, a, c, h2, h3, h4⟩⟩
    · exact ⟨h1, h2⟩
    · rw [hm] at h2; cases h2
  clear hs hd ht hm h0
  go_enter Try.func8, Try.ntmps8
  go_wp2_with fail
  refine (c1 _).mono ?_
  rintro e w1 ⟨rfl, G1⟩
  have S1 := hl.below G1
  go_wp2_with fail
  refine (c3 _ S1).mono ?_
  rintro e w2 ⟨rfl, G2⟩
  have S2 := S1.below G2
  go_wp2_with fail
  refine (c4 _).mono ?_
  rintro e w3 ⟨G3, bd, bc, rfl, T1⟩
  have S3 := S2.below G3
  go_wp2_with fail
  refine (c5 bd bc _ T1 S3).mono ?_
  rintro e w4 ⟨rfl, G4⟩
  go_wp2_with fail
  refine (c6 _).mono ?_
  rintro e w5 ⟨G5, rfl⟩
  go_wp2_with fail
  refine (toksBegun_any _).mono ?_
  rintro e w6 ⟨rfl, G6⟩
  go_wp2_with fail
  go_ret
  exact ⟨rfl, (bch (bch (bch (bch (bch G1 G2 (Nat.le_refl _)) G3 (Nat.le_refl _)) G4 (Nat.le_refl _)) G5 (Nat.le_refl _)) G6 (Nat.le_refl _))⟩

set_option maxHeartbeats 1000000 in
theorem back_n_bad_some (dict text : ByteArray) (ad : Option Addr) (cap : Nat) (l : List Tk.T) (s : ByteArray) (w : World) (hl : SlAt w ad l) (hs : Sane l) (hd : dict.size ≤ 256) (ht : 512 < text.size) (h0 : ¬ checkOf dict l = 0) (m : List Tk.T) (hm : readOf dict s = some m) :
    Calls Try.prog 8 #[.string dict, .string text, .slice ad l.length cap, .string s] w fun e w' => e = .returned (.bool true) ∧ Below w.heap.size w w' := by
  have c1 := fun w => parse_many dict text w (.inr ht)
  have c3 := fun w hl => write_any dict ad cap l w hl hs
  generalize writeOf dict l = X at *
  generalize checkOf dict l = E at *
  have e0 : (E == 0) = false := by simpa using h0
  have r1 := read_tbs hd hm
  have c6 : ∀ w, Calls Try.prog 35 #[.string dict, .string s] w fun e w' => Below w.heap.size w w' ∧ ∃ ad cap, e = .returned (.tuple #[.slice ad m.length cap, .int .i64 0]) ∧ SlAt w' ad m := fun w => (read_any dict s w hd (fun h => read_long0 hd h)).mono fun e w' h => by
    rcases h with ⟨h1, ⟨h2, _⟩ | ⟨k, a, c, h2, h3, h4⟩⟩
    · rw [hm] at h2; cases h2
    · rw [hm] at h2; cases h2; exact ⟨h1, a, c, h3, h4⟩
  have c7 := fun ad cap w hl => write_any dict ad cap m w hl (small_sane (check_small r1.2))
  have hY : writeOf dict m = s := by unfold writeOf; rw [if_neg (by rw [r1.2]; decide)]; exact r1.1
  rw [r1.2, hY] at c7
  clear hY r1
  clear hs hd ht hm h0
  go_enter Try.func8, Try.ntmps8
  go_wp2_with fail
  refine (c1 _).mono ?_
  rintro e w1 ⟨rfl, G1⟩
  have S1 := hl.below G1
  go_wp2_with fail
  refine (c3 _ S1).mono ?_
  rintro e w2 ⟨rfl, G2⟩
  have S2 := S1.below G2
  go_wp2_with fail
  refine (c6 _).mono ?_
  rintro e w3 ⟨G3, kd, kc, rfl, U1⟩
  go_wp2_with fail
  refine (c7 kd kc _ U1).mono ?_
  rintro e w4 ⟨rfl, G4⟩
  go_wp2_with fail
  refine (toksBegun_any _).mono ?_
  rintro e w5 ⟨rfl, G5⟩
  go_wp2_with fail
  go_ret
  exact ⟨rfl, (bch (bch (bch (bch G1 G2 (Nat.le_refl _)) G3 (Nat.le_refl _)) G4 (Nat.le_refl _)) G5 (Nat.le_refl _))⟩

set_option maxHeartbeats 1000000 in
theorem back_n_bad_none (dict text : ByteArray) (ad : Option Addr) (cap : Nat) (l : List Tk.T) (s : ByteArray) (w : World) (hl : SlAt w ad l) (hs : Sane l) (hd : dict.size ≤ 256) (ht : 512 < text.size) (h0 : ¬ checkOf dict l = 0) (hm : readOf dict s = none) :
    Calls Try.prog 8 #[.string dict, .string text, .slice ad l.length cap, .string s] w fun e w' => e = .returned (.bool true) ∧ Below w.heap.size w w' := by
  have c1 := fun w => parse_many dict text w (.inr ht)
  have c3 := fun w hl => write_any dict ad cap l w hl hs
  generalize writeOf dict l = X at *
  generalize checkOf dict l = E at *
  have e0 : (E == 0) = false := by simpa using h0
  have c6 : ∀ w, Calls Try.prog 35 #[.string dict, .string s] w fun e w' => Below w.heap.size w w' ∧ e = .returned (.tuple #[.slice none 0 0, .int .i64 1]) := fun w => (read_any dict s w hd (fun h => read_long0 hd h)).mono fun e w' h => by
    rcases h with ⟨h1, ⟨_, h2⟩ | ⟨k, a, c, h2, h3, h4⟩⟩
    · exact ⟨h1, h2⟩
    · rw [hm] at h2; cases h2
  clear hs hd ht hm h0
  go_enter Try.func8, Try.ntmps8
  go_wp2_with fail
  refine (c1 _).mono ?_
  rintro e w1 ⟨rfl, G1⟩
  have S1 := hl.below G1
  go_wp2_with fail
  refine (c3 _ S1).mono ?_
  rintro e w2 ⟨rfl, G2⟩
  have S2 := S1.below G2
  go_wp2_with fail
  refine (c6 _).mono ?_
  rintro e w3 ⟨G3, rfl⟩
  go_wp2_with fail
  refine (toksBegun_any _).mono ?_
  rintro e w4 ⟨rfl, G4⟩
  go_wp2_with fail
  go_ret
  exact ⟨rfl, (bch (bch (bch G1 G2 (Nat.le_refl _)) G3 (Nat.le_refl _)) G4 (Nat.le_refl _))⟩

theorem toksBack_any (dict text : ByteArray) (ad : Option Addr) (cap : Nat) (l : List Tk.T) (s : ByteArray) (w : World) (_ : dict.size ≤ 140737488355328) (_ : text.size ≤ 140737488355328) (hl : SlAt w ad l) (hs : Sane l) (_ : s.size ≤ 140737488355328) :
    Calls Try.prog 8 #[.string dict, .string text, .slice ad l.length cap, .string s] w fun e w' => e = .returned (.bool true) ∧ Below w.heap.size w w' := by
  by_cases hd : dict.size ≤ 256
  · by_cases ht : text.size ≤ 512
    · cases hm : readOf dict s with
      | none =>
        by_cases h0 : checkOf dict l = 0
        · exact back_t_ok_none dict text ad cap l s w hl hs hd ht h0 hm
        · exact back_t_bad_none dict text ad cap l s w hl hs hd ht h0 hm
      | some m =>
        by_cases h0 : checkOf dict l = 0
        · exact back_t_ok_some dict text ad cap l s w hl hs hd ht h0 m hm
        · exact back_t_bad_some dict text ad cap l s w hl hs hd ht h0 m hm
    · cases hm : readOf dict s with
      | none =>
        by_cases h0 : checkOf dict l = 0
        · exact back_n_ok_none dict text ad cap l s w hl hs hd (by omega) h0 hm
        · exact back_n_bad_none dict text ad cap l s w hl hs hd (by omega) h0 hm
      | some m =>
        by_cases h0 : checkOf dict l = 0
        · exact back_n_ok_some dict text ad cap l s w hl hs hd (by omega) h0 m hm
        · exact back_n_bad_some dict text ad cap l s w hl hs hd (by omega) h0 m hm
  · exact back_dict dict text ad cap l s w hl hs (by omega)
end Go.Proofs.Ytbjbjbpgmojcbaa
