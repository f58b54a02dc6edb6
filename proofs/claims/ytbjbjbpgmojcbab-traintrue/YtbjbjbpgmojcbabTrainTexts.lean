/- The document's own: whether a list of texts is too much (chapter 5). -/
import Derived.Test.YtbjbjbpgmojcbabTrainBase
namespace Go.Proofs.Ytbjbjbpgmojcbab
open Go.RowKit

set_option maxRecDepth 4000 in
set_option maxHeartbeats 1000000 in
theorem textsError_some (xs : List ByteArray) (b off cap : Nat) (w : World) (hx : Tr.TxAt w b off xs) (hn : xs.length ≤ 12) :
    Calls Try.prog 7 #[.slice (some ⟨b, off, none⟩) xs.length cap] w fun e w' => e = .returned (.int .i64 (if (Tr.lgK xs xs.length).isSome = true then 2 else 0)) ∧ Below w.heap.size w w' := by
  have HX : Hid (∀ w', Tr.TxAt w' b off xs → ∀ i, i < xs.length → w'.cell? ⟨b, off + i, none⟩ = some (.string (Tr.xa xs i))) := fun w' h => h.2
  have hn' : (xs.length : Int) ≤ 12 := by omega
  obtain ⟨r, hr⟩ : ∃ r : Int, (if (Tr.lgK xs xs.length).isSome = true then (2 : Int) else 0) = r := ⟨_, rfl⟩
  rw [hr]
  have Hr : Hid ((if (Tr.lgK xs xs.length).isSome = true then (2 : Int) else 0) = r) := hr
  clear hr
  go_enter Try.func7, Try.ntmps7
  go_wp2_with fail
  go_loopw [3] (fun i wr => ∃ k : Nat, k ≤ xs.length ∧ i = .int .i64 k ∧ Hid (Tr.lgK xs k = none) ∧ Tr.TxAt wr b off xs ∧ Below w.heap.size w wr) (fun i _ => xs.length - (intOf i).toNat)
  case atStart => exact ⟨0, by omega, rfl, rfl, hx, Below.refl _ _⟩
  case round =>
    clear hx
    obtain ⟨k, hk2, rfl, HL, hx, B1⟩ := hrel
    by_cases hlt : k < xs.length
    · have d1 : decide ((k : Int) < (xs.length : Int)) = true := by simp; omega
      have d1' : decide (k < xs.length) = true := by simp; omega
      have hki : (k : Int) < (xs.length : Int) := by omega
      have c1 := HX.out wr hx k hlt
      by_cases hs : 512 < (Tr.xa xs k).size
      · have HN : Hid (Tr.lgK xs (k + 1) = some k) := by show _ = _; rw [Tr.lgK, HL.out]; exact if_pos hs
        have HR : Hid ((2 : Int) = r) := by
          have h9 := Tr.lgK_some HN.out (xs.length - (k + 1))
          rw [show k + 1 + (xs.length - (k + 1)) = xs.length by omega] at h9
          have := Hr.out
          rw [h9] at this
          exact this
        have hs' : (512 : Int) < ((Tr.xa xs k).size : Int) := by omega
        have d2 : decide ((512 : Int) < ((Tr.xa xs k).size : Int)) = true := decide_eq_true hs'
        generalize Tr.xa xs k = X at *
        clear HN hs
        go_wp2_with fail
        go_ret
        exact ⟨congrArg (fun x => Ending.returned (Value.int .i64 x)) HR.out, B1⟩
      · have HN : Hid (Tr.lgK xs (k + 1) = none) := by show _ = _; rw [Tr.lgK, HL.out]; exact if_neg hs
        have hs' : ((Tr.xa xs k).size : Int) ≤ 512 := by omega
        have d2 : decide ((512 : Int) < ((Tr.xa xs k).size : Int)) = false := decide_eq_false (by omega)
        generalize Tr.xa xs k = X at *
        clear hs
        go_wp2_with fail
        go_roundw
        case rel => exact ⟨k + 1, by omega, by go_num, HN, hx, B1⟩
        case measure => simp [intOf]; omega
    · obtain rfl : k = xs.length := by omega
      have HR : Hid ((0 : Int) = r) := by have := Hr.out; rw [HL.out] at this; exact this
      have d1 : decide ((xs.length : Int) < (xs.length : Int)) = false := by simp
      clear Hr
      go_wp2_with fail
      go_ret
      exact ⟨congrArg (fun x => Ending.returned (Value.int .i64 x)) HR.out, B1⟩

set_option maxRecDepth 4000 in
set_option maxHeartbeats 1000000 in
theorem textsError_nil (ad : Option Addr) (cap : Nat) (w : World) :
    Calls Try.prog 7 #[.slice ad 0 cap] w fun e w' => e = .returned (.int .i64 0) ∧ Below w.heap.size w w' := by
  go_enter Try.func7, Try.ntmps7
  go_wp2_with fail
  go_loopw [3] (fun i wr => i = .int .i64 0 ∧ Below w.heap.size w wr) (fun i _ => 0)
  case atStart => exact ⟨rfl, Below.refl _ _⟩
  case round =>
    obtain ⟨rfl, B1⟩ := hrel
    go_wp2_with fail
    go_ret
    exact ⟨rfl, B1⟩

set_option maxRecDepth 4000 in
set_option maxHeartbeats 1000000 in
theorem textsError_any (xs : List ByteArray) (ad : Option Addr) (cap : Nat) (w : World) (hx : TxSl w ad xs) :
    Calls Try.prog 7 #[.slice ad xs.length cap] w fun e w' => e = .returned (.int .i64 (if Tr.many xs = true then 2 else 0)) ∧ Below w.heap.size w w' := by
  unfold Tr.many
  by_cases hn : 12 < xs.length
  · have hn' : (12 : Int) < (xs.length : Int) := by omega
    rw [decide_eq_true hn]
    go_enter Try.func7, Try.ntmps7
    go_wp2_with fail
    go_ret
    exact ⟨rfl, Below.refl _ _⟩
  · rw [decide_eq_false hn, Bool.false_or]
    rcases hx with rfl | ⟨b, off, rfl, h2⟩
    · exact textsError_nil ad cap w
    · exact textsError_some xs b off cap w h2 (by omega)
end Go.Proofs.Ytbjbjbpgmojcbab
