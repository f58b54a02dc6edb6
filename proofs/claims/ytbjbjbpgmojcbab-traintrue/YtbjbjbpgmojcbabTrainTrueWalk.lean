/- TrainTrue: what is true of each dictionary. -/
import Derived.Test.YtbjbjbpgmojcbabTrainBegun
import Derived.Test.YtbjbjbpgmojcbabLawChoose
import Derived.Deep.QuietTactic
import Derived.BigQuiet
namespace Go.Proofs.Ytbjbjbpgmojcbab
open Go.RowKit

set_option maxRecDepth 4000 in
set_option maxHeartbeats 2000000 in
theorem trainTrue_bad (xs : List ByteArray) (ad : Option Addr) (cap : Nat) (size i k : Int) (w : World) (hx : TxSl w ad xs) (hB : ∀ i, (Tr.xa xs i).size ≤ 140737488355328) (hM : Mx w) (he : Tr.tnE xs size ≠ 0) :
    Calls Try.prog 4 #[.slice ad xs.length cap, .int .i64 size, .int .i64 i, .int .i64 k] w fun e w' => e = .returned (.bool true) ∧ Below w.heap.size w w' := by
  have HM : Hid (∀ w', Below w.heap.size w w' → Mx w') := fun w' h => hM.below h
  have c1 := train_any xs size ad cap w hx hB hM
  generalize Tr.tnE xs size = E at *
  generalize Tr.tnD xs size = R at *
  have d1 : (E != 0) = true := by simpa using he
  have d2 : (E == 0) = false := by simpa using he
  clear hM hB hx
  go_enter Try.func4, Try.ntmps4
  go_wp2_with fail
  refine c1.mono ?_
  rintro e w1 ⟨rfl, B1⟩
  clear c1
  go_wp2_with fail
  refine (trainBegun_any _ (HM.out _ B1)).mono ?_
  rintro e w6 ⟨rfl, G⟩
  replace B1 := bch B1 G (Nat.le_refl _)
  go_wp2_with fail
  go_ret
  exact ⟨rfl, B1⟩

set_option maxRecDepth 4000 in
set_option maxHeartbeats 4000000 in
theorem trainTrue_ok (xs : List ByteArray) (ad : Option Addr) (cap : Nat) (size i k : Int) (w : World) (hx : TxSl w ad xs) (hB : ∀ i, (Tr.xa xs i).size ≤ 140737488355328) (hi : -9223372036854775808 ≤ i ∧ i ≤ 9223372036854775807) (hk : -9223372036854775808 ≤ k ∧ k ≤ 9223372036854775807) (hM : Mx w)
    (hm : Tr.many xs = false) (h0 : 0 ≤ size) (h1 : size ≤ 256) :
    Calls Try.prog 4 #[.slice ad xs.length cap, .int .i64 size, .int .i64 i, .int .i64 k] w fun e w' => e = .returned (.bool true) ∧ Below w.heap.size w w' := by
  have HM : Hid (∀ w', Below w.heap.size w w' → Mx w') := fun w' h => hM.below h
  have HX : Hid (∀ w', Below w.heap.size w w' → TxSl w' ad xs) := fun w' h => hx.below h
  have c1 := train_ok xs size ad cap w hx hB hM hm h0 h1
  have HG := Tr.trn_good xs size.toNat
  have c9 := fun p w hx hM => count_any xs p ad cap w hx hB hM
  have hct : ∀ p : ByteArray, p.size = 4 → Tr.cnN xs p = Tr.ct xs p ∧ Tr.cnE xs p = 0 := fun p hp => by simp [Tr.cnN, Tr.cnE, hm, hp]
  generalize Tr.trn xs size.toNat = R at *
  obtain ⟨g1, g2, g3, g4⟩ := HG
  have hRs : (R.size : Int) ≤ size := by omega
  have dR : decide (size < (R.size : Int)) = false := decide_eq_false (by omega)
  have r4 : (R.size : Int) % 4 = 0 := by omega
  obtain ⟨Q, hQ⟩ : ∃ Q, R.size / 4 = Q := ⟨_, rfl⟩
  have hQ' : (R.size : Int) / 4 = (Q : Int) := by omega
  have hQ6 : Q ≤ 64 := by omega
  have hRQ : Hid (R.size = 4 * Q) := by show _ = _; omega
  rw [hQ] at g3 g4
  have hR2 : R.size ≤ 256 := by omega
  clear hM hB hx hQ hm
  by_cases hz : R.size = 0
  · obtain rfl := Tr.size_zero hz
    clear c9 hct g1 g2 g3 g4 r4 hQ' hRQ hRs hz
    go_enter Try.func4, Try.ntmps4
    go_wp2_with fail
    refine c1.mono ?_
    rintro e w1 ⟨rfl, B1⟩
    clear c1
    go_wp2_with fail
    refine (trainBegun_any _ (HM.out _ B1)).mono ?_
    rintro e w6 ⟨rfl, G⟩
    replace B1 := bch B1 G (Nat.le_refl _)
    go_wp2_with fail
    go_ret
    exact ⟨rfl, B1⟩
  · have hne : R.toList.isEmpty = false := Tr.not_empty (by omega)
    have hne2 : (R.toList == []) = false := by rw [← hne]; cases R.toList <;> rfl
    have hQ0 : 0 < (Q : Int) := by have := hRQ.out; omega
    have c2 := fun w => choose_any i (Q : Int) w hi.1 hi.2 hQ0 (by omega)
    have c3 := fun w => choose_any k (Q : Int) w hk.1 hk.2 hQ0 (by omega)
    have x0 := chz_lo i Q hQ0
    have x1 := chz_hi i Q hQ0
    have y0 := chz_lo k Q hQ0
    have y1 := chz_hi k Q hQ0
    obtain ⟨x, hx⟩ : ∃ x : Nat, chz i Q = (x : Int) := ⟨(chz i Q).toNat, by omega⟩
    obtain ⟨y, hy⟩ : ∃ y : Nat, chz k Q = (y : Int) := ⟨(chz k Q).toNat, by omega⟩
    rw [hx] at c2 x1
    rw [hy] at c3 y1
    have hg3 := g3 x (by omega)
    have hg4 := fun h => g4 x y (by omega) (by omega) h
    have hp4 : (R.extract (4 * x) (4 * x + 4)).size = 4 := by rw [ByteArray.size_extract]; have := hRQ.out; omega
    obtain ⟨hn, he⟩ := hct _ hp4
    have c4 := c9 (R.extract (4 * x) (4 * x + 4))
    rw [hn, he] at c4
    have m1 : 4 * (x : Int) ≤ 252 := by omega
    have m2 : 4 * (y : Int) ≤ 252 := by omega
    have m3 : 4 * (x : Int) + 4 ≤ (R.size : Int) := by have := hRQ.out; omega
    have m4 : 4 * (y : Int) + 4 ≤ (R.size : Int) := by have := hRQ.out; omega
    clear x0 y0 hx hy g3 g4 g1 g2 hct c9 hn he hz hi hk
    go_enter Try.func4, Try.ntmps4
    go_wp2_with fail
    refine c1.mono ?_
    rintro e w1 ⟨rfl, B1⟩
    clear c1
    go_wp2_with fail
    refine (c2 _).mono ?_
    rintro e w2 ⟨rfl, rfl⟩
    go_wp2_with fail
    refine (c3 _).mono ?_
    rintro e w2 ⟨rfl, rfl⟩
    go_wp2_with fail
    go_quiet (fail)
    go_wp2_with fail
    have B2 : Below w.heap.size w (w2.drewN nq) := ⟨B1.os, B1.tape, B1.output, B1.size, B1.block⟩
    refine (c4 _ (HX.out _ B2) (HM.out _ B2)).mono ?_
    rintro e w3 ⟨rfl, G⟩
    replace B2 := bch B2 G (Nat.le_refl _)
    clear c4 G B1
    have n2 : (2 : Int) ≤ (Tr.ct xs (R.extract (4 * x) (4 * x + 4)) : Int) := by omega
    generalize Tr.ct xs (R.extract (4 * x) (4 * x + 4)) = N at *
    have dn : decide ((2 : Int) ≤ (N : Int)) = true := decide_eq_true n2
    go_wp2_with fail
    refine (trainBegun_any _ (HM.out _ B2)).mono ?_
    rintro e w6 ⟨rfl, G⟩
    replace B2 := bch B2 G (Nat.le_refl _)
    clear G
    by_cases hxy : x = y
    · subst hxy
      go_wp2_with fail
      go_ret
      exact ⟨rfl, B2⟩
    · have hxy' : ¬ (x : Int) = (y : Int) := by omega
      have e1 : decide ((x : Int) = (y : Int)) = false := decide_eq_false hxy'
      have e2 : ((x : Int) == (y : Int)) = false := by simpa using hxy'
      have e3 : ((R.extract (4 * x) (4 * x + 4)).toList == (R.extract (4 * y) (4 * y + 4)).toList) = false := by rw [beq_same]; exact decide_eq_false (hg4 hxy)
      have e4 : ((R.extract (4 * x) (4 * x + 4)).toList != (R.extract (4 * y) (4 * y + 4)).toList) = true := by rw [bne, e3]; rfl
      go_wp2_with fail
      go_ret
      exact ⟨rfl, B2⟩
theorem trainTrue_any (xs : List ByteArray) (ad : Option Addr) (cap : Nat) (size i k : Int) (w : World) (hx : TxSl w ad xs) (hB : ∀ i, (Tr.xa xs i).size ≤ 140737488355328) (hi : -9223372036854775808 ≤ i ∧ i ≤ 9223372036854775807) (hk : -9223372036854775808 ≤ k ∧ k ≤ 9223372036854775807) (hM : Mx w) :
    Calls Try.prog 4 #[.slice ad xs.length cap, .int .i64 size, .int .i64 i, .int .i64 k] w fun e w' => e = .returned (.bool true) ∧ Below w.heap.size w w' := by
  by_cases he : Tr.tnE xs size = 0
  · cases hm : Tr.many xs with
    | true => simp [Tr.tnE, hm] at he
    | false =>
      by_cases h : 0 ≤ size ∧ size ≤ 256
      · exact trainTrue_ok xs ad cap size i k w hx hB hi hk hM hm h.1 h.2
      · simp [Tr.tnE, hm, h] at he
  · exact trainTrue_bad xs ad cap size i k w hx hB hM he
end Go.Proofs.Ytbjbjbpgmojcbab
