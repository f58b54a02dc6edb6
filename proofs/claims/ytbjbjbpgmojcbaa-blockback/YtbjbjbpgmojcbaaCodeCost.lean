/- What Cost and CostOf come to. -/
import Derived.Test.YtbjbjbpgmojcbaaCodeCheck
import Derived.BigQuiet
import Derived.Deep.QuietTactic
namespace Go.Proofs.Ytbjbjbpgmojcbaa
open Go.RowKit

theorem cst_next {f c : Nat → Int} {k : Nat} {n : Int} (h : Cd.cst f c k = some n) (h1 : ¬ (0 < c k ∧ f k = 0)) : Cd.cst f c (k + 1) = some (n + c k * f k) := by rw [Cd.cst, h]; simp only; rw [if_neg h1]
theorem cst_stop {f c : Nat → Int} {k : Nat} {n : Int} (hk : k < 16) (h : Cd.cst f c k = some n) (h1 : 0 < c k ∧ f k = 0) : Cd.cst f c 16 = none := by
  have : Cd.cst f c (k + 1) = none := by rw [Cd.cst, h]; simp only; rw [if_pos h1]
  have h2 := Cd.cst_none this (15 - k)
  rwa [show k + 1 + (15 - k) = 16 by omega] at h2
theorem cost_bad {f c : Nat → Int} (h : Cd.chk f ≠ 0) : Cd.cost f c = (0, Cd.chk f) := by rw [Cd.cost, if_pos h]
theorem cost_range {f c : Nat → Int} (h : Cd.chk f = 0) (h1 : ¬ Cd.InR c 2048 16) : Cd.cost f c = (0, 3) := by rw [Cd.cost, if_neg (by simpa using h), if_pos h1]
theorem cost_none {f c : Nat → Int} (h : Cd.chk f = 0) (h1 : Cd.InR c 2048 16) (h2 : Cd.cst f c 16 = none) : Cd.cost f c = (0, 5) := by rw [Cd.cost, if_neg (by simpa using h), if_neg (by simpa using h1), h2]
theorem cost_ok {f c : Nat → Int} {n : Int} (h : Cd.chk f = 0) (h1 : Cd.InR c 2048 16) (h2 : Cd.cst f c 16 = some n) : Cd.cost f c = (n, 0) := by rw [Cd.cost, if_neg (by simpa using h), if_neg (by simpa using h1), h2]

/-- Sixteen numbers lie in a block of their own. -/
def RowAt (w : World) (g : Nat) (f : Nat → Int) : Prop := g < w.heap.size ∧ w.heap[g]? = some (.cells (arr f) 54 (0, 0))
theorem RowAt.below {g : Nat} {w w' : World} {f : Nat → Int} (h : RowAt w g f) (hb : Below w.heap.size w w') : RowAt w' g f := ⟨Nat.lt_of_lt_of_le h.1 hb.size, by rw [hb.block g h.1]; exact h.2⟩
theorem RowAt.cell {g : Nat} {w : World} {f : Nat → Int} (h : RowAt w g f) (k : Nat) (hk : k < 16) : w.cell? ⟨g, k, none⟩ = some (.int .i64 (f k)) := by rw [cell_of_row w g k _ _ _ h.2, arr_at f k hk]
theorem RowAt.new (w : World) (f : Nat → Int) : RowAt (w.alloc (.cells (arr f) 54)) w.heap.size f := ⟨by simp, heap_alloc_last w _⟩
theorem RowAt.alloc {g : Nat} {w : World} {f : Nat → Int} (h : RowAt w g f) (o : Obj) : RowAt (w.alloc o) g f := h.below ((Below.refl _ _).alloc (Nat.le_refl _) o)
theorem RowAt.two (w : World) (f c : Nat → Int) : RowAt ((w.alloc (.cells (arr f) 54)).alloc (.cells (arr c) 54)) w.heap.size f ∧ RowAt ((w.alloc (.cells (arr f) 54)).alloc (.cells (arr c) 54)) (w.heap.size + 1) c :=
  ⟨(RowAt.new w f).alloc _, by have := RowAt.new (w.alloc (.cells (arr f) 54)) c; simpa using this⟩
theorem below2 (w : World) (o p : Obj) : Below w.heap.size w ((w.alloc o).alloc p) := ((Below.refl _ _).alloc (Nat.le_refl _) o).alloc (by simp) p

theorem mul_b {f c : Nat → Int} {k : Nat} (hk : k < 16) (hf : Cd.InR f 15 16) (hc : Cd.InR c 2048 16) : 0 ≤ c k * f k ∧ c k * f k ≤ 30720 := by
  have h2 := hf k hk
  have h3 := hc k hk
  exact ⟨Int.mul_nonneg h3.1 h2.1, Int.mul_le_mul h3.2 h2.2 h2.1 (by omega)⟩

set_option maxRecDepth 4000 in
set_option maxHeartbeats 1000000 in
theorem codeCost_any (f c : Nat → Int) (w : World) :
    Calls Try.prog 37 #[.agg (arr f), .agg (arr c)] w fun e w' => e = .returned (.tuple #[.int .i64 (Cd.cost f c).1, .int .i64 (Cd.cost f c).2]) ∧ Below w.heap.size w w' := by
  have hck := fun w => codeCheck_any f w
  have hcn := fun w => countable_any c w
  have hin := arr_infoc f
  have hinc := arr_infoc c
  have hix := run_ix c
  obtain ⟨R1, R2⟩ := RowAt.two w f c
  have HB := below2 w (.cells (arr f) 54) (.cells (arr c) 54)
  obtain ⟨C1, C2, hC⟩ : ∃ C1 C2, Cd.cost f c = (C1, C2) := ⟨_, _, rfl⟩
  rw [hC]
  have HC : Hid (Cd.cost f c = (C1, C2)) := hC
  clear hC
  go_enter Try.func37, Try.ntmps37
  go_wp2_with (refine wpList_load_row rfl 54 _ rfl w.heap.size rfl 54 (arr f) (0, 0) _ R1.2 Try.underlying54 rfl hin ?_)
  generalize (w.alloc (.cells (arr f) 54)).alloc (.cells (arr c) 54) = w0 at *
  refine (hck _).mono ?_
  rintro e w1 ⟨rfl, G1⟩
  have S1 := R1.below G1
  have S2 := R2.below G1
  have B1 := bch HB G1 (Nat.le_refl _)
  clear R1 R2 HB G1 hck
  by_cases h0 : Cd.chk f = 0
  · rw [h0]
    go_wp2_with (refine wpList_load_row rfl 54 _ rfl (w.heap.size + 1) rfl 54 (arr c) (0, 0) _ S2.2 Try.underlying54 rfl hinc ?_)
    refine (hcn _).mono ?_
    rintro e w2 ⟨rfl, G2⟩
    have T1 := S1.below G2
    have T2 := S2.below G2
    have B2 := bch B1 G2 (Nat.le_refl _)
    clear S1 S2 B1 G2 hcn
    by_cases h1 : Cd.InR c 2048 16
    · rw [decide_eq_true h1]
      have hR : Hid (Cd.InR f 15 16) := (Cd.chk_zero h0).1
      have hQ : Hid (Cd.InR c 2048 16) := h1
      have h0' : Hid (Cd.chk f = 0) := h0
      clear h0 h1
      go_wp2_with (refine wpList_load_row rfl 54 _ rfl (w.heap.size + 1) rfl 54 (arr c) (0, 0) _ T2.2 Try.underlying54 rfl hinc ?_)
      go_loop [7, 19] (fun n i => ∃ (k : Nat) (N : Int), k ≤ 16 ∧ i = .int .i64 k ∧ n = .int .i64 N ∧ Hid (Cd.cst f c k = some N)) (fun _ i => 16 - (intOf i).toNat)
      case atStart => exact ⟨0, 0, by omega, rfl, rfl, rfl⟩
      case round =>
        obtain ⟨k, N, hk, rfl, rfl, hN⟩ := hrel
        by_cases hlt : k < 16
        · have hi := hix k hlt
          have hcell := T1.cell k hlt
          have hk1 : decide ((k : Int) < 16) = true := by simp; omega
          have hk2 : decide (k < 16) = true := by simp; omega
          have hNb : 0 ≤ N ∧ N ≤ 491520 := by
            have := Cd.cst_b k (fun i hi => hR.out i (by omega)) (fun i hi => hQ.out i (by omega)) N hN.out
            omega
          have HM := mul_b hlt hR.out hQ.out
          have HS : Hid (0 < c k ∧ f k = 0 → C1 = 0 ∧ C2 = 5) := fun h => by
            have h9 := HC.out.symm.trans (cost_none h0'.out hQ.out (cst_stop hlt hN.out h))
            simpa using h9
          have HT : Hid (¬ (0 < c k ∧ f k = 0) → Cd.cst f c (k + 1) = some (N + c k * f k)) := fun h => cst_next hN.out h
          clear hix
          generalize f k = x at *
          generalize c k = y at *
          by_cases h1 : 0 < y
          · have d1 : decide (0 < y) = true := by simp; omega
            by_cases h2 : x = 0
            · obtain ⟨rfl, rfl⟩ := HS.out ⟨h1, h2⟩
              subst h2
              clear HM
              go_wp2_with fail
              go_ret2
              exact ⟨rfl, B2⟩
            · have d2 : (x == 0) = false := by simpa using h2
              have H9 : Hid (Cd.cst f c (k + 1) = some (N + y * x)) := HT.out (fun h => h2 h.2)
              have HW : wrap64 (N + wrap64 (y * x)) = N + y * x := by rw [w64 (x := y * x) (by omega) (by omega), w64 (by omega) (by omega)]
              have HW' : Hid (wrap64 (N + wrap64 (y * x)) = N + y * x) := HW
              clear HW HM hNb
              go_wp2_with fail
              exact ⟨⟨k + 1, N + y * x, by omega, by go_num, by rw [HW'.out], H9⟩, by simp [intOf]; omega⟩
          · have d1 : decide (0 < y) = false := by simp; omega
            have H9 : Hid (Cd.cst f c (k + 1) = some (N + y * x)) := HT.out (fun h => h1 h.1)
            have HW' : Hid (wrap64 (N + wrap64 (y * x)) = N + y * x) := by show _ = _; rw [w64 (x := y * x) (by omega) (by omega), w64 (by omega) (by omega)]
            clear HM hNb
            go_wp2_with fail
            exact ⟨⟨k + 1, N + y * x, by omega, by go_num, by rw [HW'.out], H9⟩, by simp [intOf]; omega⟩
        · obtain rfl : k = 16 := by omega
          have h9 := HC.out.symm.trans (cost_ok h0'.out hQ.out hN.out)
          simp only [Prod.mk.injEq] at h9
          obtain ⟨rfl, rfl⟩ := h9
          clear hix
          go_wp2_with fail
          go_ret2
          exact ⟨rfl, B2⟩
    · rw [decide_eq_false h1]
      have h9 := HC.out.symm.trans (cost_range h0 h1)
      simp only [Prod.mk.injEq] at h9
      obtain ⟨rfl, rfl⟩ := h9
      clear h0 h1 hix
      go_wp2_with fail
      go_ret2
      exact ⟨rfl, B2⟩
  · have h9 := HC.out.symm.trans (cost_bad h0)
    simp only [Prod.mk.injEq] at h9
    obtain ⟨rfl, h8⟩ := h9
    rw [← h8]
    have d0 : (C2 != 0) = true := by rw [h8]; simpa using h0
    clear h8
    clear hix HC h0
    go_wp2_with fail
    go_ret2
    exact ⟨rfl, B1⟩

set_option maxRecDepth 4000 in
set_option maxHeartbeats 1000000 in
theorem costOf_any (f c : Nat → Int) (w : World) :
    Calls Try.prog 39 #[.agg (arr f), .agg (arr c)] w fun e w' => e = .returned (.tuple #[.int .i64 (Cd.cost f c).1, .int .i64 (Cd.cost f c).2]) ∧ Below w.heap.size w w' := by
  have hck := fun w => checkCode_any f w
  have hcn := fun w => countsFine_any c w
  have hin := arr_infoc f
  have hinc := arr_infoc c
  obtain ⟨R1, R2⟩ := RowAt.two w f c
  have HB := below2 w (.cells (arr f) 54) (.cells (arr c) 54)
  obtain ⟨C1, C2, hC⟩ : ∃ C1 C2, Cd.cost f c = (C1, C2) := ⟨_, _, rfl⟩
  rw [hC]
  have HC : Hid (Cd.cost f c = (C1, C2)) := hC
  clear hC
  go_enter Try.func39, Try.ntmps39
  go_wp2_with (refine wpList_load_row rfl 54 _ rfl w.heap.size rfl 54 (arr f) (0, 0) _ R1.2 Try.underlying54 rfl hin ?_)
  generalize (w.alloc (.cells (arr f) 54)).alloc (.cells (arr c) 54) = w0 at *
  refine (hck _).mono ?_
  rintro e w1 ⟨rfl, G1⟩
  have S1 := R1.below G1
  have S2 := R2.below G1
  have B1 := bch HB G1 (Nat.le_refl _)
  clear R1 R2 HB G1 hck
  by_cases h0 : Cd.chk f = 0
  · rw [h0]
    go_wp2_with (refine wpList_load_row rfl 54 _ rfl (w.heap.size + 1) rfl 54 (arr c) (0, 0) _ S2.2 Try.underlying54 rfl hinc ?_)
    refine (hcn _).mono ?_
    rintro e w2 ⟨rfl, G2⟩
    have T1 := S1.below G2
    have T2 := S2.below G2
    have B2 := bch B1 G2 (Nat.le_refl _)
    clear S1 S2 B1 G2 hcn
    by_cases h1 : Cd.InR c 2048 16
    · rw [decide_eq_true h1]
      have hR : Hid (Cd.InR f 15 16) := (Cd.chk_zero h0).1
      have hQ : Hid (Cd.InR c 2048 16) := h1
      have h0' : Hid (Cd.chk f = 0) := h0
      clear h0 h1
      go_wp2_with fail
      go_loopw [7, 8] (fun n i wr => ∃ (k : Nat) (N : Int), k ≤ 16 ∧ i = .int .i64 k ∧ n = .int .i64 N ∧ Hid (Cd.cst f c k = some N) ∧ RowAt wr w.heap.size f ∧ RowAt wr (w.heap.size + 1) c ∧ Below w.heap.size w wr) (fun _ i _ => 16 - (intOf i).toNat)
      case atStart => exact ⟨0, 0, by omega, rfl, rfl, rfl, T1, T2, B2⟩
      case round =>
        obtain ⟨k, N, hk, rfl, rfl, hN, T1, T2, B2⟩ := hrel
        by_cases hlt : k < 16
        · have hcell := T1.cell k hlt
          have hcelc := T2.cell k hlt
          have hk1 : decide ((k : Int) < 16) = true := by simp; omega
          have hk2 : decide (k < 16) = true := by simp; omega
          have hNb : 0 ≤ N ∧ N ≤ 491520 := by
            have := Cd.cst_b k (fun i hi => hR.out i (by omega)) (fun i hi => hQ.out i (by omega)) N hN.out
            omega
          have HM := mul_b hlt hR.out hQ.out
          have HS : Hid (0 < c k ∧ f k = 0 → C1 = 0 ∧ C2 = 5) := fun h => by
            have h9 := HC.out.symm.trans (cost_none h0'.out hQ.out (cst_stop hlt hN.out h))
            simpa using h9
          have HT : Hid (¬ (0 < c k ∧ f k = 0) → Cd.cst f c (k + 1) = some (N + c k * f k)) := fun h => cst_next hN.out h
          generalize f k = x at *
          generalize c k = y at *
          by_cases h1 : 0 < y
          · have d1 : decide (0 < y) = true := by simp; omega
            by_cases h2 : x = 0
            · obtain ⟨rfl, rfl⟩ := HS.out ⟨h1, h2⟩
              subst h2
              clear HM
              go_wp2_with fail
              go_ret2
              exact ⟨rfl, B2⟩
            · have d2 : (x == 0) = false := by simpa using h2
              have H9 : Hid (Cd.cst f c (k + 1) = some (N + y * x)) := HT.out (fun h => h2 h.2)
              have HW' : Hid (wrap64 (N + wrap64 (y * x)) = N + y * x) := by show _ = _; rw [w64 (x := y * x) (by omega) (by omega), w64 (by omega) (by omega)]
              clear HM hNb
              go_wp2_with fail
              go_quiet (fail)
              go_wp2_with fail
              exact ⟨⟨k + 1, N + y * x, by omega, by go_num, by rw [HW'.out], H9, T1.below (below_drewN (Below.refl _ _) _), T2.below (below_drewN (Below.refl _ _) _), below_drewN B2 _⟩, by simp [intOf]; omega⟩
          · have d1 : decide (0 < y) = false := by simp; omega
            have H9 : Hid (Cd.cst f c (k + 1) = some (N + y * x)) := HT.out (fun h => h1 h.1)
            have HW' : Hid (wrap64 (N + wrap64 (y * x)) = N + y * x) := by show _ = _; rw [w64 (x := y * x) (by omega) (by omega), w64 (by omega) (by omega)]
            clear HM hNb
            go_wp2_with fail
            go_quiet (fail)
            go_wp2_with fail
            exact ⟨⟨k + 1, N + y * x, by omega, by go_num, by rw [HW'.out], H9, T1.below (below_drewN (Below.refl _ _) _), T2.below (below_drewN (Below.refl _ _) _), below_drewN B2 _⟩, by simp [intOf]; omega⟩
        · obtain rfl : k = 16 := by omega
          have h9 := HC.out.symm.trans (cost_ok h0'.out hQ.out hN.out)
          simp only [Prod.mk.injEq] at h9
          obtain ⟨rfl, rfl⟩ := h9
          go_wp2_with fail
          go_ret2
          exact ⟨rfl, B2⟩
    · rw [decide_eq_false h1]
      have h9 := HC.out.symm.trans (cost_range h0 h1)
      simp only [Prod.mk.injEq] at h9
      obtain ⟨rfl, rfl⟩ := h9
      clear h0 h1
      go_wp2_with fail
      go_ret2
      exact ⟨rfl, B2⟩
  · have h9 := HC.out.symm.trans (cost_bad h0)
    simp only [Prod.mk.injEq] at h9
    obtain ⟨rfl, h8⟩ := h9
    rw [← h8]
    have d0 : (C2 != 0) = true := by rw [h8]; simpa using h0
    clear h8
    clear HC h0
    go_wp2_with fail
    go_ret2
    exact ⟨rfl, B1⟩
end Go.Proofs.Ytbjbjbpgmojcbaa
