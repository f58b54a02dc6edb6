/- What code.words comes to. -/
import Derived.Test.YtbjbjbpgmojcbaaCodeBuild
namespace Go.Proofs.Ytbjbjbpgmojcbaa
open Go.RowKit

namespace Cd
/-- The words of n bits, of the first k signs. -/
def wI (f : Nat → Int) (n : Int) (x : Int × (Nat → Int)) : Nat → Int × (Nat → Int)
  | 0 => x
  | k + 1 => if f k = n then ((wI f n x k).1 + 1, upd (wI f n x k).2 k (wI f n x k).1) else wI f n x k
/-- The next word, and the words of at most n bits. -/
def wO (f : Nat → Int) : Nat → Int × (Nat → Int)
  | 0 => (0, fun _ => 0)
  | n + 1 => wI f (n + 1 : Nat) ((wO f n).1 * 2, (wO f n).2) 16
/-- The words as numbers. -/
def wds (f : Nat → Int) : Nat → Int := (wO f 15).2
theorem wI_b (f : Nat → Int) (n : Int) (x : Int × (Nat → Int)) : ∀ k, x.1 ≤ (wI f n x k).1 ∧ (wI f n x k).1 ≤ x.1 + k := by
  intro k
  induction k with
  | zero => simp [wI]
  | succ k ih =>
    rw [wI]
    split
    · simp only
      omega
    · omega
theorem wO_b (f : Nat → Int) : ∀ n, 0 ≤ (wO f n).1 ∧ (wO f n).1 ≤ 16 * (2 ^ n - 1) := by
  intro n
  induction n with
  | zero => simp [wO]
  | succ n ih =>
    have := wI_b f (n + 1 : Nat) ((wO f n).1 * 2, (wO f n).2) 16
    simp only at this
    rw [wO, Int.pow_succ]
    omega
theorem wO_c (f : Nat → Int) {n : Nat} (h : n ≤ 15) : 0 ≤ (wO f n).1 ∧ (wO f n).1 ≤ 524288 := by
  have h1 := wO_b f n
  have h2 : (2 : Int) ^ n ≤ 2 ^ 15 := pow_le_of h
  omega
end Cd

theorem words_rows (w : World) (c : Nat → Int) : RowAt (((w.alloc (.cells (arr c) 54)).alloc (.cells (arr fun _ => 0) 54)).alloc (.cells (arr fun _ => 0) 54)) w.heap.size c := (three w c (fun _ => 0)).1

set_option maxRecDepth 4000 in
set_option maxHeartbeats 2000000 in
theorem codeWords_any (f : Nat → Int) (w : World) :
    Calls Try.prog 68 #[.agg (arr f)] w fun e w' => e = .returned (.agg (arr (Cd.wds f))) ∧ Below w.heap.size w w' := by
  obtain ⟨R1, R2, R3, HB⟩ := three w f (fun _ => 0)
  rw [← arr_zero] at R1 R2 R3 HB
  go_enter Try.func68, Try.ntmps68
  go_wp2_with fail
  rw [arr_zero] at R1 R2 R3 HB
  rw [arr_zero]
  generalize ((w.alloc (.cells (arr f) 54)).alloc (.cells (arr fun _ => 0) 54)).alloc (.cells (arr fun _ => 0) 54) = w0 at *
  have hq : Hid (w.heap.size < w.heap.size + 1 ∧ w.heap.size + 1 < w.heap.size + 1 + 1 ∧ w.heap.size ≤ w.heap.size) := by show _ ∧ _ ∧ _; omega
  obtain ⟨g1, hg1⟩ : ∃ g1, g1 = w.heap.size := ⟨_, rfl⟩
  have hq1 : Hid (g1 < w.heap.size + 1 ∧ w.heap.size + 1 < w.heap.size + 1 + 1 ∧ w.heap.size ≤ g1) := by show _ ∧ _ ∧ _; omega
  generalize w.heap.size + 1 + 1 = g3 at *
  generalize w.heap.size + 1 = g2 at *
  clear hq hg1
  go_loopw [4, 5] (fun x i wr => ∃ (n : Nat) (N1 : Int), n ≤ 15 ∧ i = .int .i64 N1 ∧ Hid (N1 = (n + 1 : Nat)) ∧ x = .int .i64 (Cd.wO f n).1 ∧ RowAt wr w.heap.size f ∧ RowAt wr g2 (fun _ => 0) ∧ RowAt wr g3 (Cd.wO f n).2 ∧ Below w.heap.size w wr) (fun _ i _ => 20 - (intOf i).toNat)
  case atStart => exact ⟨0, 1, by omega, rfl, rfl, rfl, R1, R2, R3, HB⟩
  case round =>
    clear R1 R2 R3 HB
    obtain ⟨n, N1, hn, rfl, HN1, rfl, R1, R2, R3, HB⟩ := hrel
    have hb := Cd.wO_c f hn
    have hNb : 1 ≤ N1 ∧ N1 ≤ 16 := by have := HN1.out; omega
    by_cases hlt : n < 15
    · have hk1 : decide (N1 ≤ 15) = true := by have := HN1.out; simp; omega
      have HE : Hid (Cd.wO f (n + 1) = Cd.wI f N1 ((Cd.wO f n).1 * 2, (Cd.wO f n).2) 16) := by show _ = _; rw [HN1.out]; rfl
      have HNn : Hid (N1 + 1 = (n + 1 + 1 : Nat)) := by have := HN1.out; show _ = _; omega
      generalize Cd.wO f n = V at *
      obtain ⟨X, V⟩ := V
      simp only at hb R3 HE
      clear hn
      go_wp2_with fail
      go_loopw [4, 13] (fun x i wr => ∃ k : Nat, k ≤ 16 ∧ i = .int .i64 k ∧ x = .int .i64 (Cd.wI f N1 (X * 2, V) k).1 ∧ RowAt wr w.heap.size f ∧ RowAt wr g2 (fun _ => 0) ∧ RowAt wr g3 (Cd.wI f N1 (X * 2, V) k).2 ∧ Below w.heap.size w wr) (fun _ i _ => 16 - (intOf i).toNat)
      case atStart => exact ⟨0, by omega, rfl, rfl, R1, R2, R3, HB⟩
      case round =>
        clear R1 R2 R3 HB
        obtain ⟨k, hk, rfl, rfl, R1, R2, R3, HB⟩ := hrel
        by_cases hlt2 : k < 16
        · have hk2 : decide ((k : Int) < 16) = true := by simp; omega
          have hk3 : decide (k < 16) = true := by simp; omega
          have hc1 := R1.cell k hlt2
          have hc3 := R3.cell k hlt2
          have hf3 := R3.frozen k
          have hbb := Cd.wI_b f N1 (X * 2, V) k
          have hy0 : 0 ≤ (Cd.wI f N1 (X * 2, V) k).1 := by simp only at hbb; omega
          have hy1 : (Cd.wI f N1 (X * 2, V) k).1 ≤ 1048592 := by simp only at hbb; omega
          have R3' := R3.set k (Cd.wI f N1 (X * 2, V) k).1
          have R1' := R1.setFar (q := g3) (by have := hq1.out; omega) k (.int .i64 (Cd.wI f N1 (X * 2, V) k).1)
          have R2' := R2.setFar (q := g3) (by have := hq1.out; omega) k (.int .i64 (Cd.wI f N1 (X * 2, V) k).1)
          have HB' := HB.setCell (p := ⟨g3, k, none⟩) (by have := hq1.out; show _ ≤ g3; omega) (.int .i64 (Cd.wI f N1 (X * 2, V) k).1)
          by_cases hx : f k = N1
          · have d1 : (f k == N1) = true := by simpa using hx
            have HW : Hid (Cd.wI f N1 (X * 2, V) (k + 1) = ((Cd.wI f N1 (X * 2, V) k).1 + 1, upd (Cd.wI f N1 (X * 2, V) k).2 k (Cd.wI f N1 (X * 2, V) k).1)) := by show _ = _; rw [Cd.wI, if_pos hx]
            generalize Cd.wI f N1 (X * 2, V) k = U at *
            generalize f k = z at *
            clear hx hbb R1 R2 R3 HB hb
            go_wp2_with fail
            go_roundw
            case rel => exact ⟨k + 1, by omega, by go_num, by rw [HW.out], R1', R2', by rw [HW.out]; exact R3', HB'⟩
            case measure => simp [intOf]; omega
          · have d1 : (f k == N1) = false := by simpa using hx
            have HW : Hid (Cd.wI f N1 (X * 2, V) (k + 1) = Cd.wI f N1 (X * 2, V) k) := by show _ = _; rw [Cd.wI, if_neg hx]
            generalize Cd.wI f N1 (X * 2, V) k = U at *
            generalize f k = z at *
            clear hx hbb R1' R2' R3' HB' hb
            go_wp2_with fail
            go_roundw
            case rel => exact ⟨k + 1, by omega, by go_num, by rw [HW.out], R1, R2, by rw [HW.out]; exact R3, HB⟩
            case measure => simp [intOf]; omega
        · obtain rfl : k = 16 := by omega
          rw [← HE.out] at R3
          rw [← HE.out]
          go_wp2_with fail
          go_roundw
          case rel => exact ⟨n + 1, N1 + 1, by omega, by go_num, HNn, rfl, R1, R2, R3, HB⟩
          case measure => simp [intOf]; omega
    · obtain rfl : n = 15 := by omega
      obtain rfl : N1 = 16 := by have := HN1.out; omega
      have R3' : RowAt wr g3 (Cd.wds f) := R3
      have hi1 := arr_infoc (Cd.wds f)
      clear R3
      go_wp2_with (first | refine wpList_load_row rfl 54 _ rfl g3 rfl 54 (arr (Cd.wds f)) (0, 0) _ R3'.2 Try.underlying54 rfl hi1 ?_ | refine wpList_store_row rfl 54 _ _ rfl g2 (arr (Cd.wds f)) rfl rfl 54 _ R2.2 hi1 (by rw [arr_size, arr_size]) (arr_one _) ?_)
      have U2 := R2.setRow (Cd.wds f)
      exact bodyPost_ret (v := .agg (arr (Cd.wds f))) (results_cell_row Try.results68 _ _ g2 54 _ (0, 0) _ rfl U2.2 Try.underlying54 rfl hi1) rfl ⟨rfl, below_setRow HB (by have := hq1.out; omega) _⟩
end Go.Proofs.Ytbjbjbpgmojcbaa
