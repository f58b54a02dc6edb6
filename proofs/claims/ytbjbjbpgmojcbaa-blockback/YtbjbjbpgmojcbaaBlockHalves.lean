/- How often each half stands in bytes: the code's, and the document's own. -/
import Derived.Test.YtbjbjbpgmojcbaaCodeRead
namespace Go.Proofs.Ytbjbjbpgmojcbaa
open Go.RowKit

namespace Bk
/-- How often each half stands in the first k bytes. -/
def hvK (s : ByteArray) : Nat → (Nat → Int)
  | 0 => fun _ => 0
  | k + 1 => upd (upd (hvK s k) (Cd.at8 s k / 16) (hvK s k (Cd.at8 s k / 16) + 1)) (Cd.at8 s k % 16) (upd (hvK s k) (Cd.at8 s k / 16) (hvK s k (Cd.at8 s k / 16) + 1) (Cd.at8 s k % 16) + 1)
def hv (s : ByteArray) : Nat → Int := hvK s s.size
theorem hvK_b (s : ByteArray) : ∀ k i, 0 ≤ hvK s k i ∧ hvK s k i ≤ 2 * k := by
  intro k
  induction k with
  | zero => intro i; simp [hvK]
  | succ k ih =>
    intro i
    have h1 := ih i
    have h2 := ih (Cd.at8 s k / 16)
    have h3 := ih (Cd.at8 s k % 16)
    rw [hvK]
    unfold upd
    split
    · split <;> omega
    · split <;> omega
theorem hv_in (s : ByteArray) (h : s.size ≤ 1024) : Cd.InR (hv s) 2048 16 := fun i _ => by
  have := hvK_b s s.size i
  unfold hv
  omega
end Bk

set_option maxRecDepth 4000 in
set_option maxHeartbeats 1000000 in
theorem halves_any (s : ByteArray) (w : World) (hs : s.size ≤ 1024) :
    Calls Try.prog 87 #[.string s] w fun e w' => e = .returned (.agg (arr (Bk.hv s))) ∧ Below w.heap.size w w' := by
  obtain ⟨R2, R3⟩ := RowAt.two w (fun _ => 0) (fun _ => 0)
  have HB := below2 w (.cells (arr fun _ => 0) 54) (.cells (arr fun _ => 0) 54)
  rw [← arr_zero] at R2 R3 HB
  have hs' : (s.size : Int) ≤ 1024 := by omega
  obtain ⟨r, hr⟩ : ∃ r, Bk.hv s = r := ⟨_, rfl⟩
  rw [hr]
  have Hr : Hid (Bk.hvK s s.size = r) := hr
  clear hr
  go_enter Try.func87, Try.ntmps87
  go_wp2_with fail
  rw [arr_zero] at R2 R3 HB
  rw [arr_zero]
  generalize (w.alloc (.cells (arr fun _ => 0) 54)).alloc (.cells (arr fun _ => 0) 54) = w0 at *
  obtain ⟨g1, hg1⟩ : ∃ g1, g1 = w.heap.size := ⟨_, rfl⟩
  have hq : Hid (g1 < w.heap.size + 1 ∧ w.heap.size = g1) := by show _ ∧ _; omega
  generalize w.heap.size + 1 = g3 at *
  clear hg1
  go_loopw [7] (fun i wr => ∃ k : Nat, k ≤ s.size ∧ i = .int .i64 k ∧ RowAt wr w.heap.size (fun _ => 0) ∧ RowAt wr g3 (Bk.hvK s k) ∧ Below w.heap.size w wr) (fun i _ => s.size - (intOf i).toNat)
  case atStart => exact ⟨0, by omega, rfl, R2, R3, HB⟩
  case round =>
    clear R2 R3 HB
    obtain ⟨k, hk, rfl, R2, R3, HB⟩ := hrel
    by_cases hlt : k < s.size
    · have hk1 : decide ((k : Int) < (s.size : Int)) = true := by simp; omega
      have hk2 : decide (k < s.size) = true := by simp; omega
      have hk3 : (k : Int) < (s.size : Int) := by omega
      obtain ⟨x, hx⟩ : ∃ x : Int, (s[k].toNat : Int) = x := ⟨_, rfl⟩
      have hA : Cd.at8 s k = s[k].toNat := by unfold Cd.at8; rw [Nm.at_list s k hlt]; rfl
      have hA2 := Cd.at8_lt s k
      have hx0 : 0 ≤ x := by omega
      have hx1 : x ≤ 255 := by omega
      obtain ⟨H, hH⟩ : ∃ H, Cd.at8 s k / 16 = H := ⟨_, rfl⟩
      obtain ⟨L, hL⟩ : ∃ L, Cd.at8 s k % 16 = L := ⟨_, rfl⟩
      have e1 : x / 16 = (H : Int) := by omega
      have e2 : x % 16 = (L : Int) := by omega
      have e3 : x.tdiv 16 = (H : Int) := by rw [Int.tdiv_eq_ediv_of_nonneg hx0]; exact e1
      have e4 : x.tmod 16 = (L : Int) := by rw [Int.tmod_eq_emod_of_nonneg hx0]; exact e2
      have hH1 : H < 16 := by omega
      have hL1 : L < 16 := by omega
      have hH2 : (H : Int) < 16 := by omega
      have hL2 : (L : Int) < 16 := by omega
      have HN : Hid (Bk.hvK s (k + 1) = upd (upd (Bk.hvK s k) H (Bk.hvK s k H + 1)) L (upd (Bk.hvK s k) H (Bk.hvK s k H + 1) L + 1)) := by show _ = _; rw [Bk.hvK, hH, hL]
      have hb1 := Bk.hvK_b s k H
      have hb2 : 0 ≤ upd (Bk.hvK s k) H (Bk.hvK s k H + 1) L ∧ upd (Bk.hvK s k) H (Bk.hvK s k H + 1) L ≤ 4096 := by
        have := Bk.hvK_b s k L
        unfold upd
        split <;> omega
      have hb3 : Bk.hvK s k H ≤ 4096 := by omega
      have hb4 := hb1.1
      clear hA hA2 hH hL e1 e2 hb1
      have c1 := R3.cell H hH1
      have f1 := R3.frozen H
      have S3 := R3.set H (Bk.hvK s k H + 1)
      have S2 := R2.setFar (q := g3) (by have := hq.out; omega) H (.int .i64 (Bk.hvK s k H + 1))
      have SB := HB.setCell (p := ⟨g3, H, none⟩) (by have := hq.out; show _ ≤ g3; omega) (.int .i64 (Bk.hvK s k H + 1))
      have c2 := S3.cell L hL1
      have f2 := S3.frozen L
      have T3 := S3.set L (upd (Bk.hvK s k) H (Bk.hvK s k H + 1) L + 1)
      have T2 := S2.setFar (q := g3) (by have := hq.out; omega) L (.int .i64 (upd (Bk.hvK s k) H (Bk.hvK s k H + 1) L + 1))
      have TB := SB.setCell (p := ⟨g3, L, none⟩) (by have := hq.out; show _ ≤ g3; omega) (.int .i64 (upd (Bk.hvK s k) H (Bk.hvK s k H + 1) L + 1))
      rw [← HN.out] at T3
      generalize upd (Bk.hvK s k) H (Bk.hvK s k H + 1) L = y2 at *
      generalize Bk.hvK s k H = y1 at *
      clear R2 R3 HB S2 S3 SB HN
      go_wp2_with fail
      go_roundw
      case rel => exact ⟨k + 1, by omega, by go_num, T2, T3, TB⟩
      case measure => simp [intOf]; omega
    · obtain rfl : k = s.size := by omega
      rw [Hr.out] at R3
      have hi1 := arr_infoc r
      have hk1 : decide ((s.size : Int) < (s.size : Int)) = false := by simp
      have hk2 : decide (s.size < s.size) = false := by simp
      go_wp2_with (first | refine wpList_load_row rfl 54 _ rfl g3 rfl 54 (arr r) (0, 0) _ R3.2 Try.underlying54 rfl hi1 ?_ | refine wpList_store_row rfl 54 _ _ rfl w.heap.size (arr r) rfl rfl 54 _ R2.2 hi1 (by rw [arr_size, arr_size]) (arr_one _) ?_)
      have U2 := R2.setRow r
      exact bodyPost_ret (v := .agg (arr r)) (results_cell_row Try.results87 _ _ w.heap.size 54 _ (0, 0) _ rfl U2.2 Try.underlying54 rfl hi1) rfl ⟨rfl, below_setRow HB (Nat.le_refl _) _⟩

set_option maxRecDepth 4000 in
set_option maxHeartbeats 1000000 in
theorem refHalves_any (s : ByteArray) (w : World) (hs : s.size ≤ 1024) :
    Calls Try.prog 89 #[.string s] w fun e w' => e = .returned (.agg (arr (Bk.hv s))) ∧ Below w.heap.size w w' := by
  obtain ⟨R2, R3⟩ := RowAt.two w (fun _ => 0) (fun _ => 0)
  have HB := below2 w (.cells (arr fun _ => 0) 54) (.cells (arr fun _ => 0) 54)
  rw [← arr_zero] at R2 R3 HB
  have hs' : (s.size : Int) ≤ 1024 := by omega
  obtain ⟨r, hr⟩ : ∃ r, Bk.hv s = r := ⟨_, rfl⟩
  rw [hr]
  have Hr : Hid (Bk.hvK s s.size = r) := hr
  clear hr
  go_enter Try.func89, Try.ntmps89
  go_wp2_with fail
  rw [arr_zero] at R2 R3 HB
  rw [arr_zero]
  generalize (w.alloc (.cells (arr fun _ => 0) 54)).alloc (.cells (arr fun _ => 0) 54) = w0 at *
  obtain ⟨g1, hg1⟩ : ∃ g1, g1 = w.heap.size := ⟨_, rfl⟩
  have hq : Hid (g1 < w.heap.size + 1 ∧ w.heap.size = g1) := by show _ ∧ _; omega
  generalize w.heap.size + 1 = g3 at *
  clear hg1
  go_loopw [4] (fun i wr => ∃ k : Nat, k ≤ s.size ∧ i = .int .i64 k ∧ RowAt wr w.heap.size (fun _ => 0) ∧ RowAt wr g3 (Bk.hvK s k) ∧ Below w.heap.size w wr) (fun i _ => s.size - (intOf i).toNat)
  case atStart => exact ⟨0, by omega, rfl, R2, R3, HB⟩
  case round =>
    clear R2 R3 HB
    obtain ⟨k, hk, rfl, R2, R3, HB⟩ := hrel
    by_cases hlt : k < s.size
    · have hk1 : decide ((k : Int) < (s.size : Int)) = true := by simp; omega
      have hk2 : decide (k < s.size) = true := by simp; omega
      have hk3 : (k : Int) < (s.size : Int) := by omega
      obtain ⟨x, hx⟩ : ∃ x : Int, (s[k].toNat : Int) = x := ⟨_, rfl⟩
      have hA : Cd.at8 s k = s[k].toNat := by unfold Cd.at8; rw [Nm.at_list s k hlt]; rfl
      have hA2 := Cd.at8_lt s k
      have hx0 : 0 ≤ x := by omega
      have hx1 : x ≤ 255 := by omega
      obtain ⟨H, hH⟩ : ∃ H, Cd.at8 s k / 16 = H := ⟨_, rfl⟩
      obtain ⟨L, hL⟩ : ∃ L, Cd.at8 s k % 16 = L := ⟨_, rfl⟩
      have e1 : x / 16 = (H : Int) := by omega
      have e2 : x % 16 = (L : Int) := by omega
      have e3 : x.tdiv 16 = (H : Int) := by rw [Int.tdiv_eq_ediv_of_nonneg hx0]; exact e1
      have e4 : x.tmod 16 = (L : Int) := by rw [Int.tmod_eq_emod_of_nonneg hx0]; exact e2
      have hH1 : H < 16 := by omega
      have hL1 : L < 16 := by omega
      have hH2 : (H : Int) < 16 := by omega
      have hL2 : (L : Int) < 16 := by omega
      have HN : Hid (Bk.hvK s (k + 1) = upd (upd (Bk.hvK s k) H (Bk.hvK s k H + 1)) L (upd (Bk.hvK s k) H (Bk.hvK s k H + 1) L + 1)) := by show _ = _; rw [Bk.hvK, hH, hL]
      have hb1 := Bk.hvK_b s k H
      have hb2 : 0 ≤ upd (Bk.hvK s k) H (Bk.hvK s k H + 1) L ∧ upd (Bk.hvK s k) H (Bk.hvK s k H + 1) L ≤ 4096 := by
        have := Bk.hvK_b s k L
        unfold upd
        split <;> omega
      have hb3 : Bk.hvK s k H ≤ 4096 := by omega
      have hb4 := hb1.1
      clear hA hA2 hH hL e1 e2 hb1
      have c1 := R3.cell H hH1
      have f1 := R3.frozen H
      have S3 := R3.set H (Bk.hvK s k H + 1)
      have S2 := R2.setFar (q := g3) (by have := hq.out; omega) H (.int .i64 (Bk.hvK s k H + 1))
      have SB := HB.setCell (p := ⟨g3, H, none⟩) (by have := hq.out; show _ ≤ g3; omega) (.int .i64 (Bk.hvK s k H + 1))
      have c2 := S3.cell L hL1
      have f2 := S3.frozen L
      have T3 := S3.set L (upd (Bk.hvK s k) H (Bk.hvK s k H + 1) L + 1)
      have T2 := S2.setFar (q := g3) (by have := hq.out; omega) L (.int .i64 (upd (Bk.hvK s k) H (Bk.hvK s k H + 1) L + 1))
      have TB := SB.setCell (p := ⟨g3, L, none⟩) (by have := hq.out; show _ ≤ g3; omega) (.int .i64 (upd (Bk.hvK s k) H (Bk.hvK s k H + 1) L + 1))
      rw [← HN.out] at T3
      generalize upd (Bk.hvK s k) H (Bk.hvK s k H + 1) L = y2 at *
      generalize Bk.hvK s k H = y1 at *
      clear R2 R3 HB S2 S3 SB HN
      go_wp2_with fail
      go_roundw
      case rel => exact ⟨k + 1, by omega, by go_num, T2, T3, TB⟩
      case measure => simp [intOf]; omega
    · obtain rfl : k = s.size := by omega
      rw [Hr.out] at R3
      have hi1 := arr_infoc r
      have hk1 : decide ((s.size : Int) < (s.size : Int)) = false := by simp
      have hk2 : decide (s.size < s.size) = false := by simp
      go_wp2_with (first | refine wpList_load_row rfl 54 _ rfl g3 rfl 54 (arr r) (0, 0) _ R3.2 Try.underlying54 rfl hi1 ?_ | refine wpList_store_row rfl 54 _ _ rfl w.heap.size (arr r) rfl rfl 54 _ R2.2 hi1 (by rw [arr_size, arr_size]) (arr_one _) ?_)
      have U2 := R2.setRow r
      exact bodyPost_ret (v := .agg (arr r)) (results_cell_row Try.results89 _ _ w.heap.size 54 _ (0, 0) _ rfl U2.2 Try.underlying54 rfl hi1) rfl ⟨rfl, below_setRow HB (Nat.le_refl _) _⟩
end Go.Proofs.Ytbjbjbpgmojcbaa
