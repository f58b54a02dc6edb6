/- What lightest comes to. -/
import Derived.Test.YtbjbjbpgmojcbaaCodeCost
namespace Go.Proofs.Ytbjbjbpgmojcbaa
open Go.RowKit

namespace Cd
/-- One more sign: the two that weigh least so far (-1: none). -/
def ltS (W : Nat → Int) (p : Int × Int) (k : Nat) : Int × Int :=
  if W k = 0 then p else if p.1 = -1 ∨ W k < W p.1.toNat then ((k : Int), p.1) else if p.2 = -1 ∨ W k < W p.2.toNat then (p.1, (k : Int)) else p
/-- The two of the first k signs that weigh least. -/
def lt2 (W : Nat → Int) : Nat → Int × Int
  | 0 => (-1, -1)
  | k + 1 => ltS W (lt2 W k) k
/-- A sign below k that weighs something, or none. -/
def Sg (W : Nat → Int) (k : Nat) (a : Int) : Prop := a = -1 ∨ ∃ p : Nat, a = p ∧ p < k ∧ W p ≠ 0
theorem Sg.mono {W : Nat → Int} {k j : Nat} {a : Int} (h : Sg W k a) (hk : k ≤ j) : Sg W j a := by
  rcases h with h | ⟨p, h1, h2, h3⟩
  · exact .inl h
  · exact .inr ⟨p, h1, by omega, h3⟩
theorem lt2_sg (W : Nat → Int) : ∀ k, Sg W k (lt2 W k).1 ∧ Sg W k (lt2 W k).2 := by
  intro k
  induction k with
  | zero => exact ⟨.inl rfl, .inl rfl⟩
  | succ k ih =>
    have i1 := ih.1.mono (Nat.le_succ k)
    have i2 := ih.2.mono (Nat.le_succ k)
    rw [lt2, ltS]
    by_cases h0 : W k = 0
    · rw [if_pos h0]; exact ⟨i1, i2⟩
    · have hk : Sg W (k + 1) (k : Int) := .inr ⟨k, rfl, by omega, h0⟩
      rw [if_neg h0]
      split
      · exact ⟨hk, i1⟩
      · split
        · exact ⟨i1, hk⟩
        · exact ⟨i1, i2⟩
end Cd

set_option maxRecDepth 4000 in
set_option maxHeartbeats 1000000 in
theorem lightest_any (W : Nat → Int) (w : World) :
    Calls Try.prog 64 #[.agg (arr W)] w fun e w' => e = .returned (.tuple #[.int .i64 (Cd.lt2 W 16).1, .int .i64 (Cd.lt2 W 16).2]) ∧ Below w.heap.size w w' := by
  have hat := arr_at W
  have hin := arr_infoc W
  have hix := run_ix W
  have hbel : ∀ o, Below w.heap.size w (w.alloc o) := fun o => (Below.refl _ _).alloc (Nat.le_refl _) o
  generalize hE : Cd.lt2 W 16 = E at *
  have HE : Hid (Cd.lt2 W 16 = E) := hE
  clear hE
  go_enter Try.func64, Try.ntmps64
  go_wp2_with (refine wpList_load_row rfl 54 _ rfl w.heap.size rfl 54 (arr W) (0, 0) _ (heap_alloc_last w _) Try.underlying54 rfl hin ?_)
  go_loop [4, 5, 9] (fun a b i => ∃ (k : Nat) (A B : Int), k ≤ 16 ∧ i = .int .i64 k ∧ a = .int .i64 A ∧ b = .int .i64 B ∧ Hid (Cd.lt2 W k = (A, B))) (fun _ _ i => 16 - (intOf i).toNat)
  case atStart => exact ⟨0, -1, -1, by omega, rfl, rfl, rfl, rfl⟩
  case round =>
    obtain ⟨k, A, B, hk, rfl, rfl, rfl, hL⟩ := hrel
    by_cases hlt : k < 16
    · have hi := hix k hlt
      have hk1 : decide ((k : Int) < 16) = true := by simp; omega
      have hk2 : decide (k < 16) = true := by simp; omega
      have hk0 : (0 : Int) ≤ (k : Int) := by omega
      have HN : Hid (Cd.lt2 W (k + 1) = Cd.ltS W (A, B) k) := by show _ = _; rw [Cd.lt2, hL.out]
      have SA : Hid (Cd.Sg W k A ∧ Cd.Sg W k B) := by have := Cd.lt2_sg W k; rw [hL.out] at this; exact this
      by_cases h0 : W k = 0
      · have HN' : Hid (Cd.lt2 W (k + 1) = (A, B)) := by show _ = _; rw [HN.out, Cd.ltS, if_pos h0]
        rw [h0] at hi
        clear hix h0 hat hin
        go_wp2_with fail
        exact ⟨⟨k + 1, A, B, by omega, by go_num, rfl, rfl, HN'⟩, by simp [intOf]; omega⟩
      · have d0 : (W k == 0) = false := by simpa using h0
        by_cases hA : A = -1
        · have HN' : Hid (Cd.lt2 W (k + 1) = ((k : Int), -1)) := by show _ = _; rw [HN.out, Cd.ltS, if_neg h0, if_pos (.inl hA), hA]
          subst hA
          generalize W k = y at *
          clear hix h0 hat hin
          go_wp2_with fail
          exact ⟨⟨k + 1, _, _, by omega, by go_num, rfl, rfl, HN'⟩, by simp [intOf]; omega⟩
        · obtain ⟨p, rfl, hp, _⟩ := SA.out.1.resolve_left hA
          have dA : ((p : Int) == -1) = false := by simp
          have hcp := hat p (by omega)
          have hp1 : (p : Int) < 16 := by omega
          by_cases hx : W k < W p
          · have HN' : Hid (Cd.lt2 W (k + 1) = ((k : Int), (p : Int))) := by show _ = _; rw [HN.out, Cd.ltS, if_neg h0, if_pos (.inr hx)]
            have dx : decide (W k < W p) = true := by simpa using hx
            generalize W k = y at *
            generalize W p = z at *
            clear hix h0 hat hin hA hx
            go_wp2_with fail
            exact ⟨⟨k + 1, _, _, by omega, by go_num, rfl, rfl, HN'⟩, by simp [intOf]; omega⟩
          · have dx : decide (W k < W p) = false := by simpa using hx
            have hnot : ¬ ((p : Int) = -1 ∨ W k < W (p : Int).toNat) := fun h => h.elim hA hx
            by_cases hB : B = -1
            · have HN' : Hid (Cd.lt2 W (k + 1) = ((p : Int), (k : Int))) := by show _ = _; rw [HN.out, Cd.ltS, if_neg h0, if_neg hnot, if_pos (.inl hB)]
              subst hB
              generalize W k = y at *
              generalize W p = z at *
              clear hix h0 hat hin hA hx hnot
              go_wp2_with fail
              exact ⟨⟨k + 1, _, _, by omega, by go_num, rfl, rfl, HN'⟩, by simp [intOf]; omega⟩
            · obtain ⟨q, rfl, hq, _⟩ := SA.out.2.resolve_left hB
              have dB : ((q : Int) == -1) = false := by simp
              have hcq := hat q (by omega)
              have hq1 : (q : Int) < 16 := by omega
              by_cases hy : W k < W q
              · have HN' : Hid (Cd.lt2 W (k + 1) = ((p : Int), (k : Int))) := by show _ = _; rw [HN.out, Cd.ltS, if_neg h0, if_neg hnot, if_pos (.inr hy)]
                have dy : decide (W k < W q) = true := by simpa using hy
                generalize W k = y at *
                generalize W p = z at *
                generalize W q = z2 at *
                clear hix h0 hat hin hA hx hB hy hnot
                go_wp2_with fail
                exact ⟨⟨k + 1, _, _, by omega, by go_num, rfl, rfl, HN'⟩, by simp [intOf]; omega⟩
              · have HN' : Hid (Cd.lt2 W (k + 1) = ((p : Int), (q : Int))) := by show _ = _; rw [HN.out, Cd.ltS, if_neg h0, if_neg hnot, if_neg (fun h => h.elim hB hy)]
                have dy : decide (W k < W q) = false := by simpa using hy
                generalize W k = y at *
                generalize W p = z at *
                generalize W q = z2 at *
                clear hix h0 hat hin hA hx hB hy hnot
                go_wp2_with fail
                exact ⟨⟨k + 1, _, _, by omega, by go_num, rfl, rfl, HN'⟩, by simp [intOf]; omega⟩
    · obtain rfl : k = 16 := by omega
      have h9 := HE.out.symm.trans hL.out
      subst h9
      clear hix hat hin
      go_wp2_with fail
      go_ret2
      exact ⟨rfl, hbel _⟩
end Go.Proofs.Ytbjbjbpgmojcbaa
