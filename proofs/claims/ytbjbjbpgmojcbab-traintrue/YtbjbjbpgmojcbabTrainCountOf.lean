/- The document's own: in how many texts a piece stands (chapter 5). -/
import Derived.Test.YtbjbjbpgmojcbabTrainStands
namespace Go.Proofs.Ytbjbjbpgmojcbab
open Go.RowKit

set_option maxRecDepth 4000 in
set_option maxHeartbeats 1000000 in
theorem countOf_some (xs : List ByteArray) (p : ByteArray) (b off cap : Nat) (w : World) (hx : Tr.TxAt w b off xs) (hn : xs.length ≤ 12) (hp : p.size ≤ 140737488355328) (hB : ∀ i, (Tr.xa xs i).size ≤ 140737488355328) :
    Calls Try.prog 8 #[.slice (some ⟨b, off, none⟩) xs.length cap, .string p] w fun e w' => e = .returned (.int .i64 (Tr.ctK xs p xs.length : Nat)) ∧ Below w.heap.size w w' := by
  have HX : Hid (∀ w', Tr.TxAt w' b off xs → ∀ i, i < xs.length → w'.cell? ⟨b, off + i, none⟩ = some (.string (Tr.xa xs i))) := fun w' h => h.2
  have HB : Hid (∀ i, (Tr.xa xs i).size ≤ 140737488355328) := hB
  clear hB
  have hn' : (xs.length : Int) ≤ 12 := by omega
  obtain ⟨r, hr⟩ : ∃ r, Tr.ctK xs p xs.length = r := ⟨_, rfl⟩
  rw [hr]
  have Hr : Hid (Tr.ctK xs p xs.length = r) := hr
  clear hr
  go_enter Try.func8, Try.ntmps8
  go_wp2_with fail
  go_loopw [5, 6] (fun n i wr => ∃ k N : Nat, k ≤ xs.length ∧ i = .int .i64 k ∧ n = .int .i64 N ∧ Hid (Tr.ctK xs p k = N) ∧ Tr.TxAt wr b off xs ∧ Below w.heap.size w wr) (fun _ i _ => xs.length - (intOf i).toNat)
  case atStart => exact ⟨0, 0, by omega, rfl, rfl, rfl, hx, Below.refl _ _⟩
  case round =>
    clear hx
    obtain ⟨k, N, hk2, rfl, rfl, HL, hx, B1⟩ := hrel
    by_cases hlt : k < xs.length
    · have d1 : decide ((k : Int) < (xs.length : Int)) = true := by simp; omega
      have d1' : decide (k < xs.length) = true := by simp; omega
      have hki : (k : Int) < (xs.length : Int) := by omega
      have c1 := HX.out wr hx k hlt
      have c2 := fun w => stands_any p (Tr.xa xs k) w hp (HB.out k)
      have hN := Tr.ctK_le xs p k
      rw [HL.out] at hN
      have hNi : (N : Int) ≤ 12 := by omega
      have HN : Hid (Tr.ctK xs p (k + 1) = N + if Tr.st p (Tr.xa xs k) = true then 1 else 0) := by show _ = _; rw [Tr.ctK, HL.out]
      generalize Tr.xa xs k = X at *
      cases hs : Tr.st p X with
      | true =>
        rw [hs] at c2 HN
        have HN2 : Hid (Tr.ctK xs p (k + 1) = N + 1) := HN.out
        clear HN hs hN
        go_wp2_with fail
        refine (c2 _).mono ?_
        rintro e w2 ⟨rfl, G⟩
        have B2 := bch B1 G (Nat.le_refl _)
        have hx2 := hx.below G
        clear B1 G hx
        go_wp2_with fail
        go_roundw
        case rel => exact ⟨k + 1, N + 1, by omega, by go_num, by go_num, HN2, hx2, B2⟩
        case measure => simp [intOf]; omega
      | false =>
        rw [hs] at c2 HN
        have HN2 : Hid (Tr.ctK xs p (k + 1) = N) := HN.out
        clear HN hs hN
        go_wp2_with fail
        refine (c2 _).mono ?_
        rintro e w2 ⟨rfl, G⟩
        have B2 := bch B1 G (Nat.le_refl _)
        have hx2 := hx.below G
        clear B1 G hx
        go_wp2_with fail
        go_roundw
        case rel => exact ⟨k + 1, N, by omega, by go_num, rfl, HN2, hx2, B2⟩
        case measure => simp [intOf]; omega
    · obtain rfl : k = xs.length := by omega
      have HR : Hid (N = r) := HL.out.symm.trans Hr.out
      have d1 : decide ((xs.length : Int) < (xs.length : Int)) = false := by simp
      clear Hr HL
      go_wp2_with fail
      go_ret
      exact ⟨congrArg (fun x : Nat => Ending.returned (Value.int .i64 (x : Int))) HR.out, B1⟩

set_option maxRecDepth 4000 in
set_option maxHeartbeats 1000000 in
theorem countOf_nil (p : ByteArray) (ad : Option Addr) (cap : Nat) (w : World) :
    Calls Try.prog 8 #[.slice ad 0 cap, .string p] w fun e w' => e = .returned (.int .i64 0) ∧ Below w.heap.size w w' := by
  go_enter Try.func8, Try.ntmps8
  go_wp2_with fail
  go_loopw [5, 6] (fun n i wr => n = .int .i64 0 ∧ i = .int .i64 0 ∧ Below w.heap.size w wr) (fun _ i _ => 0)
  case atStart => exact ⟨rfl, rfl, Below.refl _ _⟩
  case round =>
    obtain ⟨rfl, rfl, B1⟩ := hrel
    go_wp2_with fail
    go_ret
    exact ⟨rfl, B1⟩

theorem countOf_any (xs : List ByteArray) (p : ByteArray) (ad : Option Addr) (cap : Nat) (w : World) (hx : TxSl w ad xs) (hn : xs.length ≤ 12) (hp : p.size ≤ 140737488355328) (hB : ∀ i, (Tr.xa xs i).size ≤ 140737488355328) :
    Calls Try.prog 8 #[.slice ad xs.length cap, .string p] w fun e w' => e = .returned (.int .i64 (Tr.ctK xs p xs.length : Nat)) ∧ Below w.heap.size w w' := by
  rcases hx with rfl | ⟨b, off, rfl, h2⟩
  · exact countOf_nil p ad cap w
  · exact countOf_some xs p b off cap w h2 hn hp hB
end Go.Proofs.Ytbjbjbpgmojcbab
