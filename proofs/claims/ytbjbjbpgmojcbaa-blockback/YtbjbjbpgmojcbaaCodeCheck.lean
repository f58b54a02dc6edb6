/- What Check and CheckCode come to, countable and countsFine. -/
import Derived.Test.YtbjbjbpgmojcbaaCodeBase
import Derived.Test.YtbjbjbpgmojcbaaCodeMath
import Derived.Test.YtbjbjbpgmojcbaaToksRef
namespace Go.Proofs.Ytbjbjbpgmojcbaa
open Go.RowKit

theorem w64 {x : Int} (h0 : -9223372036854775808 ≤ x) (h1 : x ≤ 9223372036854775807) : wrap64 x = x := by
  unfold wrap64
  omega

theorem add_wt {s x : Int} (hs : 0 ≤ s ∧ s ≤ 262144) (h0 : 0 < x) (h1 : x ≤ 15) : wrap64 (s + wrap64 (2 ^ (15 - x).toNat)) = s + Cd.wt x := by
  have h := Cd.wt_b (x := x) (by omega) h1
  rw [← Cd.wt_pos h0, w64 (x := Cd.wt x) (by omega) (by omega), w64 (by omega) (by omega)]

set_option maxRecDepth 4000 in
set_option maxHeartbeats 400000 in
theorem codeCheck_any (f : Nat → Int) (w : World) :
    Calls Try.prog 42 #[.agg (arr f)] w fun e w' => e = .returned (.int .i64 (Cd.chk f)) ∧ Below w.heap.size w w' := by
  have hat := arr_at f
  have hin := arr_infoc f
  have hix := run_ix f
  have hbel : ∀ o, Below w.heap.size w (w.alloc o) := fun o => (Below.refl _ _).alloc (Nat.le_refl _) o
  generalize hE : Cd.chk f = E at *
  have HE : Hid (Cd.chk f = E) := hE
  clear hE
  generalize arr f = c at *
  go_enter Try.func42, Try.ntmps42
  go_wp2_with (refine wpList_load_row rfl 54 _ rfl w.heap.size rfl 54 c (0, 0) _ (heap_alloc_last w _) Try.underlying54 rfl hin ?_)
  go_loop [3, 7] (fun s i => ∃ k : Nat, k ≤ 16 ∧ i = .int .i64 k ∧ s = .int .i64 (Cd.sm f k) ∧ Hid (Cd.InR f 15 k)) (fun _ i => 16 - (intOf i).toNat)
  case atStart => exact ⟨0, by omega, rfl, rfl, fun i h => by omega⟩
  case round =>
    obtain ⟨k, hk, rfl, rfl, hR⟩ := hrel
    have HS : Hid (0 ≤ Cd.sm f k ∧ Cd.sm f k ≤ 262144) := by have := Cd.sm_b k hR.out; show _ ∧ _; omega
    by_cases hlt : k < 16
    · have hi := hix k hlt
      have HX : Hid (Cd.sm f (k + 1) = Cd.sm f k + Cd.wt (f k)) := rfl
      have HB : Hid (f k < 0 ∨ 15 < f k → E = 3) := fun h => HE.out.symm.trans (Cd.chk_bad hlt h)
      have HN : Hid (0 ≤ f k → f k ≤ 15 → Cd.InR f 15 (k + 1)) := fun h1 h2 => hR.out.succ h1 h2
      clear hat hix hin
      generalize f k = x at *
      generalize Cd.sm f k = s at *
      have hk1 : decide ((k : Int) < 16) = true := by simp; omega
      have hk2 : decide (k < 16) = true := by simp; omega
      by_cases h1 : x < 0
      · have d1 : decide (x < 0) = true := by simp; omega
        have HE3 := HB.out (.inl h1)
        subst HE3
        go_wp2_with fail
        go_ret
        exact ⟨rfl, hbel _⟩
      · have d1 : decide (x < 0) = false := by simp; omega
        by_cases h2 : 15 < x
        · have d2 : decide (15 < x) = true := by simp; omega
          have HE3 := HB.out (.inr h2)
          subst HE3
          go_wp2_with fail
          go_ret
          exact ⟨rfl, hbel _⟩
        · have d2 : decide (15 < x) = false := by simp; omega
          by_cases h3 : 0 < x
          · have d3 : decide (0 < x) = true := by simp; omega
            go_wp2_with fail
            refine ⟨⟨k + 1, by omega, by go_num, ?_, HN.out (by omega) (by omega)⟩, by simp [intOf]; omega⟩
            rw [HX.out, add_wt HS.out h3 (by omega)]
          · have d3 : decide (0 < x) = false := by simp; omega
            go_wp2_with fail
            refine ⟨⟨k + 1, by omega, by go_num, ?_, HN.out (by omega) (by omega)⟩, by simp [intOf]; omega⟩
            rw [HX.out, Cd.wt_zero (by omega)]
            simp
    · obtain rfl : k = 16 := by omega
      have HF : Hid (Cd.sm f 16 = 0 ∨ 32768 < Cd.sm f 16 → E = 1) := fun h => HE.out.symm.trans (Cd.chk_form hR.out h)
      have HO : Hid (¬ (Cd.sm f 16 = 0 ∨ 32768 < Cd.sm f 16) → E = 0) := fun h => HE.out.symm.trans (Cd.chk_ok hR.out h)
      clear hat hix hin
      generalize Cd.sm f 16 = s at *
      by_cases h1 : s = 0
      · have := HF.out (.inl h1)
        subst h1 this
        go_wp2_with fail
        go_ret
        exact ⟨rfl, hbel _⟩
      · have d1 : (s == 0) = false := by simpa using h1
        by_cases h2 : 32768 < s
        · have d2 : decide (32768 < s) = true := by simp; omega
          have := HF.out (.inr h2)
          subst this
          go_wp2_with fail
          go_ret
          exact ⟨rfl, hbel _⟩
        · have d2 : decide (32768 < s) = false := by simp; omega
          have := HO.out (by omega)
          subst this
          go_wp2_with fail
          go_ret
          exact ⟨rfl, hbel _⟩

set_option maxRecDepth 4000 in
set_option maxHeartbeats 400000 in
theorem checkCode_any (f : Nat → Int) (w : World) :
    Calls Try.prog 43 #[.agg (arr f)] w fun e w' => e = .returned (.int .i64 (Cd.chk f)) ∧ Below w.heap.size w w' := by
  have hat := arr_at f
  have hbel : ∀ o, Below w.heap.size w (w.alloc o) := fun o => (Below.refl _ _).alloc (Nat.le_refl _) o
  generalize hE : Cd.chk f = E at *
  have HE : Hid (Cd.chk f = E) := hE
  clear hE
  generalize arr f = c at *
  go_enter Try.func43, Try.ntmps43
  go_wp2_with fail
  go_loop [3, 4, 5] (fun s u i => ∃ k : Nat, k ≤ 16 ∧ i = .int .i64 k ∧ s = .int .i64 (Cd.sm f k) ∧ u = .bool (Cd.used f k) ∧ Hid (Cd.InR f 15 k)) (fun _ _ i => 16 - (intOf i).toNat)
  case atStart => exact ⟨0, by omega, rfl, rfl, rfl, fun i h => by omega⟩
  case round =>
    obtain ⟨k, hk, rfl, rfl, rfl, hR⟩ := hrel
    have HS : Hid (0 ≤ Cd.sm f k ∧ Cd.sm f k ≤ 262144) := by have := Cd.sm_b k hR.out; show _ ∧ _; omega
    by_cases hlt : k < 16
    · have hi := hat k hlt
      have HX : Hid (Cd.sm f (k + 1) = Cd.sm f k + Cd.wt (f k)) := rfl
      have HU : Hid (Cd.used f (k + 1) = (Cd.used f k || decide (0 < f k))) := rfl
      have HB : Hid (f k < 0 ∨ 15 < f k → E = 3) := fun h => HE.out.symm.trans (Cd.chk_bad hlt h)
      have HN : Hid (0 ≤ f k → f k ≤ 15 → Cd.InR f 15 (k + 1)) := fun h1 h2 => hR.out.succ h1 h2
      clear hat
      generalize f k = x at *
      generalize Cd.sm f k = s at *
      generalize Cd.used f k = u at *
      have hk1 : decide ((k : Int) < 16) = true := by simp; omega
      have hk2 : decide (k < 16) = true := by simp; omega
      by_cases h1 : 0 ≤ x ∧ x ≤ 15
      · obtain ⟨h1, h2⟩ := h1
        by_cases h3 : 0 < x
        · have d3 : decide (0 < x) = true := by simp; omega
          go_wp2_with fail
          refine (within_yes x 0 15 _ h1 h2).mono ?_
          rintro e w9 ⟨rfl, rfl⟩
          go_wp2_with fail
          refine ⟨⟨k + 1, by omega, by go_num, ?_, ?_, HN.out (by omega) (by omega)⟩, by simp [intOf]; omega⟩
          · rw [HX.out, add_wt HS.out h3 (by omega)]
          · rw [HU.out, d3, Bool.or_true]
        · have d3 : decide (0 < x) = false := by simp; omega
          go_wp2_with fail
          refine (within_yes x 0 15 _ h1 h2).mono ?_
          rintro e w9 ⟨rfl, rfl⟩
          go_wp2_with fail
          refine ⟨⟨k + 1, by omega, by go_num, ?_, ?_, HN.out (by omega) (by omega)⟩, by simp [intOf]; omega⟩
          · rw [HX.out, Cd.wt_zero (by omega)]
            simp
          · rw [HU.out, d3, Bool.or_false]
      · have HE3 := HB.out (by omega)
        subst HE3
        go_wp2_with fail
        refine (within_no x 0 15 _ h1).mono ?_
        rintro e w9 ⟨rfl, rfl⟩
        go_wp2_with fail
        go_ret
        exact ⟨rfl, hbel _⟩
    · obtain rfl : k = 16 := by omega
      have HF : Hid (Cd.sm f 16 = 0 ∨ 32768 < Cd.sm f 16 → E = 1) := fun h => HE.out.symm.trans (Cd.chk_form hR.out h)
      have HO : Hid (¬ (Cd.sm f 16 = 0 ∨ 32768 < Cd.sm f 16) → E = 0) := fun h => HE.out.symm.trans (Cd.chk_ok hR.out h)
      have HV : Hid (Cd.sm f 16 = 0 ↔ Cd.used f 16 = false) := Cd.sm_used 16 hR.out
      clear hat
      generalize Cd.sm f 16 = s at *
      generalize Cd.used f 16 = u at *
      cases u with
      | false =>
        have := HF.out (.inl (HV.out.2 rfl))
        subst this
        go_wp2_with fail
        go_ret
        exact ⟨rfl, hbel _⟩
      | true =>
        by_cases h2 : 32768 < s
        · have d2 : decide (32768 < s) = true := by simp; omega
          have := HF.out (.inr h2)
          subst this
          go_wp2_with fail
          go_ret
          exact ⟨rfl, hbel _⟩
        · have d2 : decide (32768 < s) = false := by simp; omega
          have := HO.out (fun h => h.elim (fun h => by have := HV.out.1 h; cases this) (fun h => h2 h))
          subst this
          go_wp2_with fail
          go_ret
          exact ⟨rfl, hbel _⟩

set_option maxRecDepth 4000 in
set_option maxHeartbeats 400000 in
theorem countable_any (f : Nat → Int) (w : World) :
    Calls Try.prog 63 #[.agg (arr f)] w fun e w' => e = .returned (.bool (decide (Cd.InR f 2048 16))) ∧ Below w.heap.size w w' := by
  have hin := arr_infoc f
  have hix := run_ix f
  have hbel : ∀ o, Below w.heap.size w (w.alloc o) := fun o => (Below.refl _ _).alloc (Nat.le_refl _) o
  generalize hE : decide (Cd.InR f 2048 16) = E at *
  have HE : Hid (decide (Cd.InR f 2048 16) = E) := hE
  clear hE
  generalize arr f = c at *
  go_enter Try.func63, Try.ntmps63
  go_wp2_with (refine wpList_load_row rfl 54 _ rfl w.heap.size rfl 54 c (0, 0) _ (heap_alloc_last w _) Try.underlying54 rfl hin ?_)
  go_loop [6] (fun i => ∃ k : Nat, k ≤ 16 ∧ i = .int .i64 k ∧ Hid (Cd.InR f 2048 k)) (fun i => 16 - (intOf i).toNat)
  case atStart => exact ⟨0, by omega, rfl, fun i h => by omega⟩
  case round =>
    obtain ⟨k, hk, rfl, hR⟩ := hrel
    by_cases hlt : k < 16
    · have hi := hix k hlt
      have HB : Hid (f k < 0 ∨ 2048 < f k → E = false) := fun h => HE.out.symm.trans (decide_eq_false (Cd.not_InR hlt h))
      have HN : Hid (0 ≤ f k → f k ≤ 2048 → Cd.InR f 2048 (k + 1)) := fun h1 h2 => hR.out.succ h1 h2
      clear hix hin
      generalize f k = x at *
      have hk1 : decide ((k : Int) < 16) = true := by simp; omega
      have hk2 : decide (k < 16) = true := by simp; omega
      by_cases h1 : x < 0
      · have d1 : decide (x < 0) = true := by simp; omega
        have HE3 := HB.out (.inl h1)
        subst HE3
        go_wp2_with fail
        go_ret
        exact ⟨rfl, hbel _⟩
      · have d1 : decide (x < 0) = false := by simp; omega
        by_cases h2 : 2048 < x
        · have d2 : decide (2048 < x) = true := by simp; omega
          have HE3 := HB.out (.inr h2)
          subst HE3
          go_wp2_with fail
          go_ret
          exact ⟨rfl, hbel _⟩
        · have d2 : decide (2048 < x) = false := by simp; omega
          go_wp2_with fail
          exact ⟨⟨k + 1, by omega, by go_num, HN.out (by omega) (by omega)⟩, by simp [intOf]; omega⟩
    · obtain rfl : k = 16 := by omega
      have := HE.out.symm.trans (decide_eq_true hR.out)
      subst this
      clear hix hin
      go_wp2_with fail
      go_ret
      exact ⟨rfl, hbel _⟩

set_option maxRecDepth 4000 in
set_option maxHeartbeats 400000 in
theorem countsFine_any (f : Nat → Int) (w : World) :
    Calls Try.prog 65 #[.agg (arr f)] w fun e w' => e = .returned (.bool (decide (Cd.InR f 2048 16))) ∧ Below w.heap.size w w' := by
  have hat := arr_at f
  have hbel : ∀ o, Below w.heap.size w (w.alloc o) := fun o => (Below.refl _ _).alloc (Nat.le_refl _) o
  generalize hE : decide (Cd.InR f 2048 16) = E at *
  have HE : Hid (decide (Cd.InR f 2048 16) = E) := hE
  clear hE
  generalize arr f = c at *
  go_enter Try.func65, Try.ntmps65
  go_wp2_with fail
  go_loop [3] (fun i => ∃ k : Nat, k ≤ 16 ∧ i = .int .i64 k ∧ Hid (Cd.InR f 2048 k)) (fun i => 16 - (intOf i).toNat)
  case atStart => exact ⟨0, by omega, rfl, fun i h => by omega⟩
  case round =>
    obtain ⟨k, hk, rfl, hR⟩ := hrel
    by_cases hlt : k < 16
    · have hi := hat k hlt
      have HB : Hid (f k < 0 ∨ 2048 < f k → E = false) := fun h => HE.out.symm.trans (decide_eq_false (Cd.not_InR hlt h))
      have HN : Hid (0 ≤ f k → f k ≤ 2048 → Cd.InR f 2048 (k + 1)) := fun h1 h2 => hR.out.succ h1 h2
      clear hat
      generalize f k = x at *
      have hk1 : decide ((k : Int) < 16) = true := by simp; omega
      have hk2 : decide (k < 16) = true := by simp; omega
      by_cases h1 : 0 ≤ x ∧ x ≤ 2048
      · obtain ⟨h1, h2⟩ := h1
        go_wp2_with fail
        refine (within_yes x 0 2048 _ h1 h2).mono ?_
        rintro e w9 ⟨rfl, rfl⟩
        go_wp2_with fail
        exact ⟨⟨k + 1, by omega, by go_num, HN.out (by omega) (by omega)⟩, by simp [intOf]; omega⟩
      · have HE3 := HB.out (by omega)
        subst HE3
        go_wp2_with fail
        refine (within_no x 0 2048 _ h1).mono ?_
        rintro e w9 ⟨rfl, rfl⟩
        go_wp2_with fail
        go_ret
        exact ⟨rfl, hbel _⟩
    · obtain rfl : k = 16 := by omega
      have := HE.out.symm.trans (decide_eq_true hR.out)
      subst this
      clear hat
      go_wp2_with fail
      go_ret
      exact ⟨rfl, hbel _⟩
end Go.Proofs.Ytbjbjbpgmojcbaa
