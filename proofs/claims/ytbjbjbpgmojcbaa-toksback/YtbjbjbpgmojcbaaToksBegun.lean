/- What toksBegun comes to: true. -/
import Derived.Test.YtbjbjbpgmojcbaaToksParseOf
import Derived.Test.YtbjbjbpgmojcbaaToksFrom
import Derived.Test.YtbjbjbpgmojcbaaToksWrite2
import Derived.Test.YtbjbjbpgmojcbaaToksSame
namespace Go.Proofs.Ytbjbjbpgmojcbaa
open Go.RowKit

theorem tb_parse : Tk.P ((⟨#[97, 98, 99]⟩ : ByteArray) ++ ⟨#[120, 97, 98, 99, 97, 98, 99, 97, 98, 99, 122]⟩) (⟨#[97, 98, 99]⟩ : ByteArray).size (⟨#[97, 98, 99]⟩ : ByteArray).size = [⟨⟨#[120]⟩, 0, 0⟩, ⟨⟨#[]⟩, 4, 3⟩, ⟨⟨#[]⟩, 3, 6⟩, ⟨⟨#[122]⟩, 0, 0⟩] := by kernel_rfl
theorem tb_check : checkOf ⟨#[97, 98, 99]⟩ [⟨⟨#[120]⟩, 0, 0⟩, ⟨⟨#[]⟩, 4, 3⟩, ⟨⟨#[]⟩, 3, 6⟩, ⟨⟨#[122]⟩, 0, 0⟩] = 0 := by kernel_rfl
theorem tb_play : playOf ⟨#[97, 98, 99]⟩ [⟨⟨#[120]⟩, 0, 0⟩, ⟨⟨#[]⟩, 4, 3⟩, ⟨⟨#[]⟩, 3, 6⟩, ⟨⟨#[122]⟩, 0, 0⟩] = ⟨#[120, 97, 98, 99, 97, 98, 99, 97, 98, 99, 122]⟩ := by kernel_rfl
theorem tb_write : writeOf ⟨#[97, 98, 99]⟩ [⟨⟨#[120]⟩, 0, 0⟩, ⟨⟨#[]⟩, 4, 3⟩, ⟨⟨#[]⟩, 3, 6⟩, ⟨⟨#[122]⟩, 0, 0⟩] = ⟨#[2, 120, 7, 4, 13, 3, 2, 122]⟩ := by kernel_rfl
theorem tb_read : readOf ⟨#[97, 98, 99]⟩ ⟨#[2, 120, 7, 4, 13, 3, 2, 122]⟩ = some [⟨⟨#[120]⟩, 0, 0⟩, ⟨⟨#[]⟩, 4, 3⟩, ⟨⟨#[]⟩, 3, 6⟩, ⟨⟨#[122]⟩, 0, 0⟩] := by kernel_rfl
theorem tb_bad : checkOf ⟨#[]⟩ [⟨⟨#[]⟩, 1, 3⟩] = 1 := by kernel_rfl

/-- The toks of which the examples speak. -/
def tbL : List Tk.T := [⟨⟨#[120]⟩, 0, 0⟩, ⟨⟨#[]⟩, 4, 3⟩, ⟨⟨#[]⟩, 3, 6⟩, ⟨⟨#[122]⟩, 0, 0⟩]
theorem tbL_sane : Sane tbL := ⟨by decide, by decide⟩

theorem tbegun1 (w : World) : Calls Try.prog 30 #[.string ⟨#[97, 98, 99]⟩, .string ⟨#[120, 97, 98, 99, 97, 98, 99, 97, 98, 99, 122]⟩] w fun e w' => Below w.heap.size w w' ∧ ∃ ad cap, e = .returned (.tuple #[.slice ad 4 cap, .int .i64 0]) ∧ SlAt w' ad tbL := by
  have h := parse_ok ⟨#[97, 98, 99]⟩ ⟨#[120, 97, 98, 99, 97, 98, 99, 97, 98, 99, 122]⟩ w (by decide) (by decide)
  rw [tb_parse] at h
  exact h
theorem tbegun2 (ad : Option Addr) (cap : Nat) (w : World) (h : SlAt w ad tbL) : Calls Try.prog 26 #[.string ⟨#[97, 98, 99]⟩, .slice ad 4 cap] w fun e w' => e = .returned (.tuple #[.string ⟨#[120, 97, 98, 99, 97, 98, 99, 97, 98, 99, 122]⟩, .int .i64 0]) ∧ Below w.heap.size w w' := by
  have c := play_any ⟨#[97, 98, 99]⟩ ad cap tbL w h tbL_sane
  unfold tbL at c
  rw [tb_play, tb_check] at c
  exact c
theorem tbegun3 (ad : Option Addr) (cap : Nat) (w : World) (h : SlAt w ad tbL) : Calls Try.prog 33 #[.string ⟨#[97, 98, 99]⟩, .slice ad 4 cap] w fun e w' => e = .returned (.tuple #[.string ⟨#[2, 120, 7, 4, 13, 3, 2, 122]⟩, .int .i64 0]) ∧ Below w.heap.size w w' := by
  have c := write_any ⟨#[97, 98, 99]⟩ ad cap tbL w h tbL_sane
  unfold tbL at c
  rw [tb_write, tb_check] at c
  exact c
theorem tbegun4 (w : World) : Calls Try.prog 35 #[.string ⟨#[97, 98, 99]⟩, .string ⟨#[2, 120, 7, 4, 13, 3, 2, 122]⟩] w fun e w' => Below w.heap.size w w' ∧ ∃ ad cap, e = .returned (.tuple #[.slice ad 4 cap, .int .i64 0]) ∧ SlAt w' ad tbL := by
  refine (read_any ⟨#[97, 98, 99]⟩ ⟨#[2, 120, 7, 4, 13, 3, 2, 122]⟩ w (by decide) (fun h => absurd h (by decide))).mono ?_
  rintro e w' ⟨B, ⟨h, _⟩ | ⟨l, ad, cap, h, he, hs⟩⟩
  · rw [tb_read] at h; cases h
  · rw [tb_read] at h
    cases h
    exact ⟨B, ad, cap, he, hs⟩
theorem tbegun5 (ad bd : Option Addr) (c1 c2 : Nat) (w : World) (h1 : SlAt w ad tbL) (h2 : SlAt w bd tbL) : Calls Try.prog 31 #[.slice ad 4 c1, .slice bd 4 c2] w fun e w' => e = .returned (.bool true) ∧ Below w.heap.size w w' := by
  have c := same_any ad bd c1 c2 tbL tbL w h1 h2 (by decide)
  rw [sameB_refl] at c
  exact c
theorem tbegun6 (ad : Option Addr) (cap : Nat) (w : World) (h : SlAt w ad [⟨⟨#[]⟩, 1, 3⟩]) : Calls Try.prog 29 #[.string ⟨#[]⟩, .slice ad 1 cap] w fun e w' => e = .returned (.int .i64 1) ∧ Below w.heap.size w w' := by
  have c := check_any ⟨#[]⟩ ad cap [⟨⟨#[]⟩, 1, 3⟩] w h ⟨by decide, by decide⟩
  rw [tb_bad] at c
  exact c

theorem alloc_at (w : World) (vs : Array Value) (T : TypeId) (k : Nat) (v : Value) (h : vs[k]? = some v) : (w.alloc (.cells vs T)).cell? ⟨w.heap.size, k, none⟩ = some v := by
  rw [World.cell?_alloc_mark]
  exact h

theorem sz_one (w : World) (o : Obj) : w.heap.size < (w.alloc o).heap.size := by simp

theorem lit4 (w : World) (T : TypeId) : SlAt (w.alloc (.cells #[.string ⟨#[120]⟩, .int .i64 0, .int .i64 0, .string ⟨#[]⟩, .int .i64 4, .int .i64 3, .string ⟨#[]⟩, .int .i64 3, .int .i64 6, .string ⟨#[122]⟩, .int .i64 0, .int .i64 0] T)) (some ⟨w.heap.size, 0, none⟩) tbL := by
  refine .inr ⟨w.heap.size, 0, rfl, sz_one w _, fun i hi => ?_⟩
  have hi' : i < 4 := hi
  obtain rfl | rfl | rfl | rfl : i = 0 ∨ i = 1 ∨ i = 2 ∨ i = 3 := by omega
  all_goals exact ⟨alloc_at w _ T _ _ rfl, alloc_at w _ T _ _ rfl, alloc_at w _ T _ _ rfl⟩
theorem lit1 (w : World) (T : TypeId) : SlAt (w.alloc (.cells #[.string ⟨#[]⟩, .int .i64 1, .int .i64 3] T)) (some ⟨w.heap.size, 0, none⟩) [⟨⟨#[]⟩, 1, 3⟩] := by
  refine .inr ⟨w.heap.size, 0, rfl, sz_one w _, fun i hi => ?_⟩
  have hi' : i < 1 := hi
  obtain rfl : i = 0 := by omega
  exact ⟨alloc_at w _ T _ _ rfl, alloc_at w _ T _ _ rfl, alloc_at w _ T _ _ rfl⟩

set_option maxRecDepth 4000 in
set_option maxHeartbeats 2000000 in
/-- What must be in any case. -/
theorem toksBegun_any (w : World) :
    Calls Try.prog 28 #[] w fun e w' => e = .returned (.bool true) ∧ Below w.heap.size w w' := by
  obtain ⟨i0, hi, hz0, hz1, hz2⟩ := info_parts info_tok
  go_enter Try.func28, Try.ntmps28
  go_wp2_with fail
  refine (tbegun1 _).mono ?_
  rintro e w1 ⟨G1, ad, cap, rfl, S1⟩
  go_wp2_with fail
  refine (tbegun2 ad cap _ S1).mono ?_
  rintro e w2 ⟨rfl, G2⟩
  have S2 := S1.below G2
  go_wp2_with fail
  refine (tbegun3 ad cap _ S2).mono ?_
  rintro e w3 ⟨rfl, G3⟩
  have S3 := S2.below G3
  go_wp2_with fail
  refine (tbegun4 _).mono ?_
  rintro e w4 ⟨G4, bd, cap2, rfl, S4⟩
  have S5 := S3.below G4
  clear S1 S2 S3
  go_wp2_with fail
  refine (tbegun5 ad _ cap 4 _ (S5.below ((Below.refl _ _).alloc (Nat.le_refl _) _)) (lit4 w4 _)).mono ?_
  rintro e w5 ⟨rfl, G5⟩
  have G45 := bch ((Below.refl w4.heap.size w4).alloc (Nat.le_refl _) _) G5 (Nat.le_refl _)
  have T4 := S4.below G45
  have T5 := S5.below G45
  clear S4 S5 G5
  go_wp2_with fail
  refine (tbegun5 bd ad cap2 cap _ T4 T5).mono ?_
  rintro e w6 ⟨rfl, G6⟩
  clear T4 T5
  go_wp2_with fail
  refine (tbegun6 _ 1 _ (lit1 w6 _)).mono ?_
  rintro e w7 ⟨rfl, G7⟩
  have G67 := bch ((Below.refl w6.heap.size w6).alloc (Nat.le_refl _) _) G7 (Nat.le_refl _)
  clear G7
  go_wp2_with fail
  go_ret
  exact ⟨rfl, bch (bch (bch (bch (bch (bch G1 G2 (Nat.le_refl _)) G3 (Nat.le_refl _)) G4 (Nat.le_refl _)) G45 (Nat.le_refl _)) G6 (Nat.le_refl _)) G67 (Nat.le_refl _)⟩
end Go.Proofs.Ytbjbjbpgmojcbaa
