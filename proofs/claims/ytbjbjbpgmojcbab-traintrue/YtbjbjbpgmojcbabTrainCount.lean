/- What train.Count comes to. -/
import Derived.Test.YtbjbjbpgmojcbabTrainTrain
namespace Go.Proofs.Ytbjbjbpgmojcbab
open Go.RowKit

set_option maxRecDepth 4000 in
set_option maxHeartbeats 1000000 in
theorem count_many (xs : List ByteArray) (p : ByteArray) (ad : Option Addr) (cap : Nat) (w : World) (hx : TxSl w ad xs) (hB : ∀ i, (Tr.xa xs i).size ≤ 140737488355328) (hm : Tr.many xs = true) :
    Calls Try.prog 5 #[.slice ad xs.length cap, .string p] w fun e w' => e = .returned (.tuple #[.int .i64 0, .int .i64 2]) ∧ Below w.heap.size w w' := by
  have c1 := tooMany_any xs ad cap w hx hB
  rw [hm] at c1
  clear hB hm hx
  go_enter Try.func5, Try.ntmps5
  go_wp2_with fail
  refine c1.mono ?_
  rintro e w1 ⟨rfl, B1⟩
  go_wp2_with fail
  go_ret2
  exact ⟨rfl, B1⟩
set_option maxRecDepth 4000 in
set_option maxHeartbeats 1000000 in
theorem count_range (xs : List ByteArray) (p : ByteArray) (ad : Option Addr) (cap : Nat) (w : World) (hx : TxSl w ad xs) (hB : ∀ i, (Tr.xa xs i).size ≤ 140737488355328) (hm : Tr.many xs = false) (hp : p.size ≠ 4) :
    Calls Try.prog 5 #[.slice ad xs.length cap, .string p] w fun e w' => e = .returned (.tuple #[.int .i64 0, .int .i64 3]) ∧ Below w.heap.size w w' := by
  have c1 := tooMany_any xs ad cap w hx hB
  rw [hm] at c1
  have h1 : ¬ (p.size : Int) = 4 := by omega
  have d1 : ((p.size : Int) != 4) = true := by simpa using h1
  have d2 : ((p.size : Int) == 4) = false := by simpa using h1
  have d3 : decide ((p.size : Int) = 4) = false := decide_eq_false h1
  have d4 : (p.size == 4) = false := by simpa using hp
  clear hB hm hx
  go_enter Try.func5, Try.ntmps5
  go_wp2_with fail
  refine c1.mono ?_
  rintro e w1 ⟨rfl, B1⟩
  go_wp2_with fail
  go_ret2
  exact ⟨rfl, B1⟩
set_option maxRecDepth 4000 in
set_option maxHeartbeats 1000000 in
theorem count_some (xs : List ByteArray) (p : ByteArray) (b off cap : Nat) (w : World) (hx : Tr.TxAt w b off xs) (hB : ∀ i, (Tr.xa xs i).size ≤ 140737488355328) (hM : Mx w) (hm : Tr.many xs = false) (hp : p.size = 4) :
    Calls Try.prog 5 #[.slice (some ⟨b, off, none⟩) xs.length cap, .string p] w fun e w' => e = .returned (.tuple #[.int .i64 (Tr.ct xs p : Nat), .int .i64 0]) ∧ Below w.heap.size w w' := by
  have c1 := tooMany_any xs (some ⟨b, off, none⟩) cap w (.inr ⟨b, off, rfl, hx⟩) hB
  rw [hm] at c1
  obtain ⟨hn, hX⟩ := Tr.many_false hm
  have HX : Hid (∀ w', Below w.heap.size w w' → ∀ i, i < xs.length → w'.cell? ⟨b, off + i, none⟩ = some (.string (Tr.xa xs i))) := fun w' h => (hx.below h).2
  have HC : Hid (∀ w', Below w.heap.size w w' → ∀ i, Calls Try.prog 13 #[.string (Tr.xa xs i), .string p] w' fun e w2 => e = .returned (.bool (Tr.st p (Tr.xa xs i))) ∧ w2 = w') := fun w' h i => contains_any _ p w' (hM.below h) (by have := hX i; omega) (by omega)
  have hn' : (xs.length : Int) ≤ 12 := by omega
  clear hB hx hM hX hm
  obtain ⟨r, hr⟩ : ∃ r, Tr.ct xs p = r := ⟨_, rfl⟩
  rw [hr]
  have Hr : Hid (Tr.ctK xs p xs.length = r) := hr
  clear hr
  have hp' : (p.size : Int) = 4 := by omega
  go_enter Try.func5, Try.ntmps5
  go_wp2_with fail
  refine c1.mono ?_
  rintro e w1 ⟨rfl, B1⟩
  clear c1
  go_wp2_with fail
  go_loopw [6, 16] (fun n i wr => ∃ k N : Nat, k ≤ xs.length ∧ i = .int .i64 k ∧ n = .int .i64 N ∧ Hid (Tr.ctK xs p k = N) ∧ wr = w1) (fun _ i _ => xs.length - (intOf i).toNat)
  case atStart => exact ⟨0, 0, by omega, rfl, rfl, rfl, rfl⟩
  case round =>
    obtain ⟨k, N, hk2, rfl, rfl, HL, rfl⟩ := hrel
    by_cases hlt : k < xs.length
    · have d1 : decide ((k : Int) < (xs.length : Int)) = true := by simp; omega
      have d1' : decide (k < xs.length) = true := by simp; omega
      have hki : (k : Int) < (xs.length : Int) := by omega
      have c1 := HX.out _ B1 k hlt
      have c2 := HC.out _ B1 k
      have hN := Tr.ctK_le xs p k
      rw [HL.out] at hN
      have hNi : (N : Int) ≤ 12 := by omega
      have HN : Hid (Tr.ctK xs p (k + 1) = N + if Tr.st p (Tr.xa xs k) = true then 1 else 0) := by show _ = _; rw [Tr.ctK, HL.out]
      generalize Tr.xa xs k = X at *
      cases hs : Tr.st p X with
      | true =>
        rw [hs] at c2 HN
        have HN2 : Hid (Tr.ctK xs p (k + 1) = N + 1) := HN.out
        clear HN hs hN
        go_wp2_with fail
        refine c2.mono ?_
        rintro e w2 ⟨rfl, rfl⟩
        go_wp2_with fail
        go_roundw
        case rel => exact ⟨k + 1, N + 1, by omega, by go_num, by go_num, HN2, by trivial⟩
        case measure => simp [intOf]; omega
      | false =>
        rw [hs] at c2 HN
        have HN2 : Hid (Tr.ctK xs p (k + 1) = N) := HN.out
        clear HN hs hN
        go_wp2_with fail
        refine c2.mono ?_
        rintro e w2 ⟨rfl, rfl⟩
        go_wp2_with fail
        go_roundw
        case rel => exact ⟨k + 1, N, by omega, by go_num, rfl, HN2, by trivial⟩
        case measure => simp [intOf]; omega
    · obtain rfl : k = xs.length := by omega
      have d1 : decide ((xs.length : Int) < (xs.length : Int)) = false := by simp
      have HR : Hid (N = r) := HL.out.symm.trans Hr.out
      go_wp2_with fail
      go_ret2
      exact ⟨by rw [HR.out]; rfl, B1⟩
set_option maxRecDepth 4000 in
set_option maxHeartbeats 1000000 in
theorem count_nil (p : ByteArray) (ad : Option Addr) (cap : Nat) (w : World) (hp : p.size = 4) :
    Calls Try.prog 5 #[.slice ad 0 cap, .string p] w fun e w' => e = .returned (.tuple #[.int .i64 0, .int .i64 0]) ∧ Below w.heap.size w w' := by
  have c1 := tooMany_any [] ad cap w (.inl rfl) (fun i => by simp [Tr.xa]; show 0 ≤ _; omega)
  have hp' : (p.size : Int) = 4 := by omega
  change Calls Try.prog 12 #[.slice ad 0 cap] w fun e w' => e = .returned (.bool false) ∧ Below w.heap.size w w' at c1
  go_enter Try.func5, Try.ntmps5
  go_wp2_with fail
  refine c1.mono ?_
  rintro e w1 ⟨rfl, B1⟩
  go_wp2_with fail
  go_loopw [6, 16] (fun n i wr => i = .int .i64 0 ∧ n = .int .i64 0 ∧ wr = w1) (fun _ i _ => 0)
  case atStart => exact ⟨rfl, rfl, rfl⟩
  case round =>
    obtain ⟨rfl, rfl, rfl⟩ := hrel
    go_wp2_with fail
    go_ret2
    exact ⟨rfl, B1⟩
theorem count_any (xs : List ByteArray) (p : ByteArray) (ad : Option Addr) (cap : Nat) (w : World) (hx : TxSl w ad xs) (hB : ∀ i, (Tr.xa xs i).size ≤ 140737488355328) (hM : Mx w) :
    Calls Try.prog 5 #[.slice ad xs.length cap, .string p] w fun e w' => e = .returned (.tuple #[.int .i64 (Tr.cnN xs p : Nat), .int .i64 (Tr.cnE xs p)]) ∧ Below w.heap.size w w' := by
  unfold Tr.cnN Tr.cnE
  cases hm : Tr.many xs with
  | true => simpa using count_many xs p ad cap w hx hB hm
  | false =>
    by_cases h : p.size = 4
    · rcases hx with rfl | ⟨b, off, rfl, h2⟩
      · simpa [h, Tr.ct, Tr.ctK] using count_nil p ad cap w h
      · simpa [h] using count_some xs p b off cap w h2 hB hM hm h
    · simpa [h] using count_range xs p ad cap w hx hB hm h
end Go.Proofs.Ytbjbjbpgmojcbab
