/- What the document's own Unpack comes to. -/
import Derived.Test.YtbjbjbpgmojcbaaBlockUnpack
import Derived.Test.YtbjbjbpgmojcbaaRefRead
import Derived.Test.YtbjbjbpgmojcbaaNumsFrom
import Derived.Test.YtbjbjbpgmojcbaaToksFrom
import Derived.Test.YtbjbjbpgmojcbaaToksRef
import Derived.Test.YtbjbjbpgmojcbaaToksMath2
import Derived.Test.YtbjbjbpgmojcbaaBlockBackMath
namespace Go.Proofs.Ytbjbjbpgmojcbaa
open Go.RowKit
set_option linter.unusedVariables false

set_option maxRecDepth 4000 in
set_option maxHeartbeats 1000000 in
theorem played_any (dict : ByteArray) (ad : Option Addr) (cap : Nat) (l : List Tk.T) (w : World) (hl : SlAt w ad l) (hs : Sane l) :
    Calls Try.prog 82 #[.string dict, .slice ad l.length cap] w fun e w' => e = .returned (.string (playOf dict l)) ∧ Below w.heap.size w w' := by
  have c1 := fun w hl => ref_any dict ad cap l w hl hs
  generalize playOf dict l = P at *
  generalize checkOf dict l = C at *
  go_enter Try.func82, Try.ntmps82
  go_wp2_with fail
  refine (c1 _ hl).mono ?_
  rintro e w1 ⟨rfl, G⟩
  go_wp2_with fail
  go_ret
  exact ⟨rfl, G⟩

theorem from_some {dict s : ByteArray} {m : List Tk.T} (hd : dict.size ≤ 256) (hs : s.size ≤ 140737488355328) (hm : readOf dict s = some m) (w : World) : Calls Try.prog 36 #[.string dict, .string s] w fun e w' => Below w.heap.size w w' ∧ ∃ ad cap, e = .returned (.tuple #[.slice ad m.length cap, .bool true]) ∧ SlAt w' ad m := (toksFrom_any dict s w hs).mono fun e w' h => by
  rw [from_read hd] at h
  rcases h with ⟨h1, ⟨h2, _⟩ | ⟨k, a, c, h2, h3, h4⟩⟩
  · rw [hm] at h2; cases h2
  · rw [hm] at h2; cases h2; exact ⟨h1, a, c, h3, h4⟩
theorem from_nil {dict s : ByteArray} (hd : dict.size ≤ 256) (hs : s.size ≤ 140737488355328) (hm : readOf dict s = none) (w : World) : Calls Try.prog 36 #[.string dict, .string s] w fun e w' => Below w.heap.size w w' ∧ e = .returned (.tuple #[.slice none 0 0, .bool false]) := (toksFrom_any dict s w hs).mono fun e w' h => by
  rw [from_read hd] at h
  rcases h with ⟨h1, ⟨_, h2⟩ | ⟨k, a, c, h2, h3, h4⟩⟩
  · exact ⟨h1, h2⟩
  · rw [hm] at h2; cases h2
theorem played_of {dict s : ByteArray} {m : List Tk.T} (hd : dict.size ≤ 256) (hm : readOf dict s = some m) (ad : Option Addr) (cap : Nat) (w : World) (h : SlAt w ad m) : Calls Try.prog 82 #[.string dict, .slice ad m.length cap] w fun e w' => e = .returned (.string (playOf dict m)) ∧ Below w.heap.size w w' :=
  played_any dict ad cap m w h (small_sane (check_small (readOf_some hd hm).2))

theorem not_empty {b : ByteArray} (h0 : b.size ≠ 0) : b.toList.isEmpty = false := by
  rw [ByteArray.toList_eq, Bool.eq_false_iff]
  intro e
  rw [List.isEmpty_iff] at e
  apply h0
  have := congrArg List.length e
  rw [Cd.size_list] at this
  simpa using this
theorem at_first {b : ByteArray} (h : 0 < b.size) : Cd.at8 b 0 = b[0].toNat := by unfold Cd.at8; rw [Nm.at_list b 0 h]; rfl
theorem at_ext (s : ByteArray) (j : Nat) (hj : j < 8) : Cd.at8 (s.extract 0 8) j = Cd.at8 s j := by
  unfold Cd.at8
  congr 2
  simp [ByteArray.data_extract, Array.toList_extract]
  rw [List.getElem?_take_of_lt hj, Array.getElem?_toList]
theorem pt_ext (s : ByteArray) (i : Nat) : Bk.ptK s 8 i = Bk.pt (s.extract 0 8) i := by
  unfold Bk.pt Bk.ptK
  by_cases h : i < 2 * 8
  · rw [if_pos h, if_pos h, at_ext s (i / 2) (by omega)]
  · rw [if_neg h, if_neg h]

set_option maxRecDepth 4000 in
set_option maxHeartbeats 1000000 in
theorem unpackOf_empty (dict : ByteArray) (w : World) :
    Calls Try.prog 52 #[.string dict, .string ⟨#[]⟩] w fun e w' => e = .returned (.tuple #[.string ⟨#[]⟩, .bool false]) ∧ Below w.heap.size w w' := by
  go_enter Try.func52, Try.ntmps52
  go_wp2_with fail
  go_ret2
  exact ⟨rfl, Below.refl _ _⟩

set_option maxRecDepth 4000 in
set_option maxHeartbeats 1000000 in
theorem unpackOf_0 (dict b S : ByteArray) (w : World) (hd : dict.size ≤ 256) (hb : b.size ≤ 140737488355328) (h0 : 0 < b.size) (hS : b.extract 1 b.size = S) (hx : (b[0].toNat : Int) = 0) :
    Calls Try.prog 52 #[.string dict, .string b] w fun e w' => e = .returned (.tuple #[.string S, .bool (decide ((S.size : Int) ≤ 512))]) ∧ Below w.heap.size w w' := by
  have hne := not_empty (b := b) (by omega)
  have hb1 : (1 : Int) ≤ (b.size : Int) := by omega
  have hb1n : 1 ≤ b.size := by omega
  have hb0 : (0 : Int) < (b.size : Int) := by omega
  have hbi : (b.size : Int) ≤ 140737488355328 := by omega
  have hs1 := ext_size b 1 b.size
  rw [hS] at hs1
  have hs2 : S.size ≤ 140737488355328 := by omega
  clear hs1
  go_enter Try.func52, Try.ntmps52
  go_wp2_with fail
  go_region
  go_wp2_with fail
  go_ret2
  exact ⟨rfl, (Below.refl _ _).drew⟩

set_option maxRecDepth 4000 in
set_option maxHeartbeats 1000000 in
theorem unpackOf_3 (dict b S : ByteArray) (w : World) (hd : dict.size ≤ 256) (hb : b.size ≤ 140737488355328) (h0 : 0 < b.size) (hS : b.extract 1 b.size = S) (hx : 2 < (b[0].toNat : Int)) :
    Calls Try.prog 52 #[.string dict, .string b] w fun e w' => e = .returned (.tuple #[.string ⟨#[]⟩, .bool false]) ∧ Below w.heap.size w w' := by
  have hne := not_empty (b := b) (by omega)
  have hb1 : (1 : Int) ≤ (b.size : Int) := by omega
  have hb1n : 1 ≤ b.size := by omega
  have hb0 : (0 : Int) < (b.size : Int) := by omega
  have hbi : (b.size : Int) ≤ 140737488355328 := by omega
  have hs1 := ext_size b 1 b.size
  rw [hS] at hs1
  have hs2 : S.size ≤ 140737488355328 := by omega
  clear hs1
  obtain ⟨x, hxe⟩ : ∃ x : Int, (b[0].toNat : Int) = x := ⟨_, rfl⟩
  rw [hxe] at hx
  have q0 : (x == 0) = false := by simp; omega
  have q1 : (x == 2) = false := by simp; omega
  have q2 : ¬ x = 0 := by omega
  have q3 : ¬ x = 2 := by omega
  have q4 : decide (2 < x) = true := by simp; omega
  go_enter Try.func52, Try.ntmps52
  go_wp2_with fail
  go_region
  go_wp2_with fail
  go_ret2
  exact ⟨rfl, (Below.refl _ _).drew⟩

set_option maxRecDepth 4000 in
set_option maxHeartbeats 1000000 in
theorem unpackOf_1n (dict b S : ByteArray) (w : World) (hd : dict.size ≤ 256) (hb : b.size ≤ 140737488355328) (h0 : 0 < b.size) (hS : b.extract 1 b.size = S) (hx : (b[0].toNat : Int) = 1) (hm : readOf dict S = none) :
    Calls Try.prog 52 #[.string dict, .string b] w fun e w' => e = .returned (.tuple #[.string ⟨#[]⟩, .bool false]) ∧ Below w.heap.size w w' := by
  have hne := not_empty (b := b) (by omega)
  have hb1 : (1 : Int) ≤ (b.size : Int) := by omega
  have hb1n : 1 ≤ b.size := by omega
  have hb0 : (0 : Int) < (b.size : Int) := by omega
  have hbi : (b.size : Int) ≤ 140737488355328 := by omega
  have hs1 := ext_size b 1 b.size
  rw [hS] at hs1
  have hs2 : S.size ≤ 140737488355328 := by omega
  clear hs1
  have c1 := fun w => from_nil hd (by omega) hm w
  clear hm
  go_enter Try.func52, Try.ntmps52
  go_wp2_with fail
  go_region
  go_wp2_with fail
  refine (c1 _).mono ?_
  rintro e w1 ⟨G1, rfl⟩
  have B1 : Below w.heap.size w w1 := (Below.refl _ _).drew.trans G1
  go_wp2_with fail
  go_ret2
  exact ⟨rfl, B1⟩

set_option maxRecDepth 4000 in
set_option maxHeartbeats 1000000 in
theorem unpackOf_1s (dict b S : ByteArray) (w : World) (hd : dict.size ≤ 256) (hb : b.size ≤ 140737488355328) (h0 : 0 < b.size) (hS : b.extract 1 b.size = S) (hx : (b[0].toNat : Int) = 1) (m : List Tk.T) (hm : readOf dict S = some m) :
    Calls Try.prog 52 #[.string dict, .string b] w fun e w' => e = .returned (.tuple #[.string (playOf dict m), .bool true]) ∧ Below w.heap.size w w' := by
  have hne := not_empty (b := b) (by omega)
  have hb1 : (1 : Int) ≤ (b.size : Int) := by omega
  have hb1n : 1 ≤ b.size := by omega
  have hb0 : (0 : Int) < (b.size : Int) := by omega
  have hbi : (b.size : Int) ≤ 140737488355328 := by omega
  have hs1 := ext_size b 1 b.size
  rw [hS] at hs1
  have hs2 : S.size ≤ 140737488355328 := by omega
  clear hs1
  have c1 := fun w => from_some hd (by omega) hm w
  have c2 := fun ad cap w h => played_of hd hm ad cap w h
  clear hm
  generalize playOf dict m = P at *
  go_enter Try.func52, Try.ntmps52
  go_wp2_with fail
  go_region
  go_wp2_with fail
  refine (c1 _).mono ?_
  rintro e w1 ⟨G1, ad, cap, rfl, S1⟩
  have B1 : Below w.heap.size w w1 := (Below.refl _ _).drew.trans G1
  go_wp2_with fail
  refine (c2 ad cap _ S1).mono ?_
  rintro e w2 ⟨rfl, G2⟩
  have B2 := bch B1 G2 (Nat.le_refl _)
  go_wp2_with fail
  go_ret2
  exact ⟨rfl, B2⟩

set_option maxRecDepth 4000 in
set_option maxHeartbeats 1000000 in
theorem unpackOf_2s (dict b S : ByteArray) (w : World) (hd : dict.size ≤ 256) (hb : b.size ≤ 140737488355328) (h0 : 0 < b.size) (hS : b.extract 1 b.size = S) (hx : (b[0].toNat : Int) = 2) (h8 : S.size < 8) :
    Calls Try.prog 52 #[.string dict, .string b] w fun e w' => e = .returned (.tuple #[.string ⟨#[]⟩, .bool false]) ∧ Below w.heap.size w w' := by
  have hne := not_empty (b := b) (by omega)
  have hb1 : (1 : Int) ≤ (b.size : Int) := by omega
  have hb1n : 1 ≤ b.size := by omega
  have hb0 : (0 : Int) < (b.size : Int) := by omega
  have hbi : (b.size : Int) ≤ 140737488355328 := by omega
  have hs1 := ext_size b 1 b.size
  rw [hS] at hs1
  have hs2 : S.size ≤ 140737488355328 := by omega
  clear hs1
  have h8' : (S.size : Int) < 8 := by omega
  have h8d : decide ((S.size : Int) < 8) = true := by simp; omega
  go_enter Try.func52, Try.ntmps52
  go_wp2_with fail
  go_region
  go_wp2_with fail
  go_ret2
  exact ⟨rfl, (Below.refl _ _).drew⟩
end Go.Proofs.Ytbjbjbpgmojcbaa
