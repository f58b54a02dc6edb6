/- What chapter 3's own front comes to. -/
import Derived.Test.YtbjbjbpgmojcbaaRefReadMath
namespace Go.Proofs.Ytbjbjbpgmojcbaa
open Go.RowKit

theorem ba_beq (a b : ByteArray) : (a.toList == b.toList) = decide (a = b) := by
  by_cases h : a = b
  · subst h; simp
  · rw [decide_eq_false h]
    refine Bool.eq_false_iff.2 (fun h9 => h ?_)
    have h8 : a.toList = b.toList := by simpa using h9
    rw [ByteArray.toList_eq, ByteArray.toList_eq] at h8
    apply ByteArray.ext
    exact Array.toList_inj.1 h8

theorem front2 (w : World) (f : Nat → Int) (h : Nat → ByteArray) : RowAt ((w.alloc (.cells (arr f) 54)).alloc (.cells (arrS h) 99)) w.heap.size f ∧ StAt ((w.alloc (.cells (arr f) 54)).alloc (.cells (arrS h) 99)) (w.heap.size + 1) h ∧ Below w.heap.size w ((w.alloc (.cells (arr f) 54)).alloc (.cells (arrS h) 99)) :=
  ⟨(RowAt.new w f).alloc _, by have := StAt.new (w.alloc (.cells (arr f) 54)) h; simpa using this, ((Below.refl _ _).alloc (Nat.le_refl _) _).alloc (by simp) _⟩

set_option maxRecDepth 4000 in
set_option maxHeartbeats 1000000 in
theorem front_any (f : Nat → Int) (bs : List Bool) (w : World) (hR : Cd.InR f 15 16) (hb : bs.length ≤ 1000000) :
    Calls Try.prog 74 #[.agg (arr f), .agg (arrS fun i => Cd.str (Cd.cw f i)), .string (Cd.str bs)] w fun e w' => e = .returned (.int .i64 (Cd.frt f bs)) ∧ Below w.heap.size w w' := by
  obtain ⟨hS, hSe⟩ : ∃ h, (fun i => Cd.str (Cd.cw f i)) = h := ⟨_, rfl⟩
  rw [hSe]
  have HS : Hid ((fun i => Cd.str (Cd.cw f i)) = hS) := hSe
  have HR : Hid (Cd.InR f 15 16) := hR
  obtain ⟨r, hr⟩ : ∃ r, Cd.frt f bs = r := ⟨_, rfl⟩
  rw [hr]
  have Hr : Hid (Cd.frt f bs = r) := hr
  clear hSe hR hr
  have hsz : (Cd.str bs).size ≤ 1000000 := by rw [Cd.str_size]; exact hb
  have Hsz : Hid ((Cd.str bs).size = bs.length) := Cd.str_size bs
  obtain ⟨R1, R2, B1⟩ := front2 w f hS
  go_enter Try.func74, Try.ntmps74
  go_wp2_with fail
  generalize (w.alloc (.cells (arr f) 54)).alloc (.cells (arrS hS) 99) = w0 at *
  go_loopw [7] (fun i wr => ∃ k : Nat, k ≤ 16 ∧ i = .int .i64 k ∧ Hid (Cd.frK f bs k = -1) ∧ RowAt wr w.heap.size f ∧ StAt wr (w.heap.size + 1) hS ∧ Below w.heap.size w wr) (fun i _ => 16 - (intOf i).toNat)
  case atStart => exact ⟨0, by omega, rfl, rfl, R1, R2, B1⟩
  case round =>
    clear R1 R2 B1
    obtain ⟨k, hk, rfl, hF, R1, R2, B1⟩ := hrel
    by_cases hlt : k < 16
    · have hk1 : decide ((k : Int) < 16) = true := by simp; omega
      have hk2 : decide (k < 16) = true := by simp; omega
      have hk3 : (k : Int) < 16 := by omega
      have c1 := R1.cell k hlt
      have c2 : wr.cell? ⟨w.heap.size + 1, k, none⟩ = some (.string (Cd.str (Cd.cw f k))) := by rw [R2.cell k hlt, ← HS.out]
      have hfk := HR.out k hlt
      have HY : Hid (Cd.cnd f bs k → r = (k : Int)) := fun h => by
        have h9 := Cd.frK_yes hF.out h (15 - k)
        rw [show k + 1 + (15 - k) = 16 by omega] at h9
        exact Hr.out.symm.trans h9
      have HN : Hid (¬ Cd.cnd f bs k → Cd.frK f bs (k + 1) = -1) := fun h => Cd.frK_no hF.out h
      by_cases h1 : 0 < f k
      · by_cases h2 : (f k).toNat ≤ bs.length
        · obtain ⟨N, hN⟩ : ∃ N : Nat, f k = (N : Int) := ⟨(f k).toNat, by omega⟩
          have hext := Cd.str_extract bs N
          have hbe := ba_beq (Cd.str (bs.take N)) (Cd.str (Cd.cw f k))
          have HC : Hid (Cd.cnd f bs k ↔ Cd.str (bs.take N) = Cd.str (Cd.cw f k)) := by
            unfold Cd.cnd
            rw [hN, Int.toNat_natCast]
            exact ⟨fun h => by rw [h.2.2], fun h => ⟨by omega, by rw [hN, Int.toNat_natCast] at h2; exact h2, Cd.str_inj h⟩⟩
          rw [hN] at h1 h2 hfk c1
          rw [Int.toNat_natCast] at h2
          have hNs : (N : Int) ≤ ((Cd.str bs).size : Int) := by have := Hsz.out; omega
          have hNs' : N ≤ (Cd.str bs).size := by have := Hsz.out; omega
          have d1 : decide ((0 : Int) < (N : Int)) = true := by simp; omega
          have d1' : decide (0 < N) = true := by simp; omega
          have d2 : decide ((N : Int) ≤ ((Cd.str bs).size : Int)) = true := by simp; omega
          have d2' : decide (N ≤ (Cd.str bs).size) = true := by simp; omega
          by_cases hc : Cd.str (bs.take N) = Cd.str (Cd.cw f k)
          · obtain rfl := HY.out (HC.out.2 hc)
            rw [decide_eq_true hc] at hbe
            generalize Cd.str (bs.take N) = s1 at *
            generalize Cd.str (Cd.cw f k) = s2 at *
            generalize Cd.str bs = sB at *
            clear hc h1 h2 hfk hN HC HN HY
            go_wp2_with fail
            go_quiet (fail)
            go_wp2_with fail
            go_ret
            exact ⟨rfl, below_drewN B1 _⟩
          · have HNN : Hid (Cd.frK f bs (k + 1) = -1) := HN.out (fun h => hc (HC.out.1 h))
            rw [decide_eq_false hc] at hbe
            generalize Cd.str (bs.take N) = s1 at *
            generalize Cd.str (Cd.cw f k) = s2 at *
            generalize Cd.str bs = sB at *
            clear hc h1 h2 hfk hN HC HN HY
            go_wp2_with fail
            go_quiet (fail)
            go_wp2_with fail
            exact ⟨⟨k + 1, by omega, by go_num, HNN, R1.below (below_drewN (Below.refl _ _) _), R2.below (below_drewN (Below.refl _ _) _), below_drewN B1 _⟩, by simp [intOf]; omega⟩
        · have HNN : Hid (Cd.frK f bs (k + 1) = -1) := HN.out (fun h => h2 h.2.1)
          have d1 : decide (0 < f k) = true := by simpa using h1
          have d2 : decide (f k ≤ ((Cd.str bs).size : Int)) = false := by have := Hsz.out; simp; omega
          generalize f k = z at *
          generalize Cd.str bs = sB at *
          clear h1 h2 hfk HN HY c2
          go_wp2_with fail
          go_quiet (fail)
          go_wp2_with fail
          exact ⟨⟨k + 1, by omega, by go_num, HNN, R1.below (below_drewN (Below.refl _ _) _), R2.below (below_drewN (Below.refl _ _) _), below_drewN B1 _⟩, by simp [intOf]; omega⟩
      · have HNN : Hid (Cd.frK f bs (k + 1) = -1) := HN.out (fun h => h1 h.1)
        have d1 : decide (0 < f k) = false := by simpa using h1
        generalize f k = z at *
        clear h1 hfk HN HY c2
        go_wp2_with fail
        go_quiet (fail)
        go_wp2_with fail
        exact ⟨⟨k + 1, by omega, by go_num, HNN, R1.below (below_drewN (Below.refl _ _) _), R2.below (below_drewN (Below.refl _ _) _), below_drewN B1 _⟩, by simp [intOf]; omega⟩
    · obtain rfl : k = 16 := by omega
      obtain rfl : r = -1 := Hr.out.symm.trans hF.out
      go_wp2_with fail
      go_ret
      exact ⟨rfl, B1⟩
end Go.Proofs.Ytbjbjbpgmojcbaa
