/- The document's own: whether a piece stands in a text, and in how many texts (chapter 5). -/
import Derived.Test.YtbjbjbpgmojcbabTrainTexts
namespace Go.Proofs.Ytbjbjbpgmojcbab
open Go.RowKit

theorem toList_inj {a b : ByteArray} (h : a.toList = b.toList) : a = b := by
  rw [ByteArray.toList_eq, ByteArray.toList_eq] at h
  cases a; cases b
  simpa using h
theorem beq_same (a b : ByteArray) : (a.toList == b.toList) = decide (a = b) := by
  by_cases h : a = b
  · subst h; simp
  · rw [decide_eq_false h, Bool.eq_false_iff]
    intro e
    exact h (toList_inj (by simpa using e))

set_option maxRecDepth 4000 in
set_option maxHeartbeats 1000000 in
theorem stands_any (p t : ByteArray) (w : World) (hp : p.size ≤ 140737488355328) (ht : t.size ≤ 140737488355328) :
    Calls Try.prog 18 #[.string p, .string t] w fun e w' => e = .returned (.bool (Tr.st p t)) ∧ Below w.heap.size w w' := by
  obtain ⟨r, hr⟩ : ∃ r, Tr.st p t = r := ⟨_, rfl⟩
  rw [hr]
  have Hr : Hid (Tr.stK p t (t.size + 1) = r) := hr
  clear hr
  go_enter Try.func18, Try.ntmps18
  go_wp2_with fail
  go_loopw [5] (fun i wr => ∃ k : Nat, k ≤ t.size + 1 ∧ i = .int .i64 k ∧ Hid (Tr.stK p t k = false) ∧ Below w.heap.size w wr) (fun i _ => t.size + 1 - (intOf i).toNat)
  case atStart => exact ⟨0, by omega, rfl, rfl, Below.refl _ _⟩
  case round =>
    obtain ⟨k, hk2, rfl, HL, B1⟩ := hrel
    obtain ⟨J, hJ⟩ : ∃ J, k + p.size = J := ⟨_, rfl⟩
    have m1 : (k : Int) + (p.size : Int) = (J : Int) := by omega
    have w1 : IntKind.i64.wrap (J : Int) = (J : Int) := IntWalk.i64_in _ ⟨by omega, by omega⟩
    by_cases hlt : J ≤ t.size
    · have d1 : decide ((J : Int) ≤ (t.size : Int)) = true := by simp; omega
      have hJi : (J : Int) ≤ (t.size : Int) := by omega
      have hkJ : (k : Int) ≤ (J : Int) := by omega
      have hkJn : k ≤ J := by omega
      have hkt : k < t.size + 1 := by omega
      have HS := beq_same (t.extract k J) p
      obtain ⟨S, hS⟩ : ∃ S, t.extract k J = S := ⟨_, rfl⟩
      rw [hS] at HS
      by_cases he : S = p
      · have HN : Hid (Tr.stK p t (k + 1) = true) := by show _ = _; rw [Tr.stK, hJ, hS, decide_eq_true ⟨hlt, he⟩, Bool.or_true]
        have HR : Hid (true = r) := by
          have h9 := Tr.stK_true HN.out (t.size + 1 - (k + 1))
          rw [show k + 1 + (t.size + 1 - (k + 1)) = t.size + 1 by omega] at h9
          exact h9.symm.trans Hr.out
        rw [decide_eq_true he] at HS
        clear HN he hJ Hr HL
        go_wp2_with fail
        go_ret
        exact ⟨congrArg (fun x => Ending.returned (Value.bool x)) HR.out, B1⟩
      · have HN : Hid (Tr.stK p t (k + 1) = false) := by show _ = _; rw [Tr.stK, hJ, hS, HL.out, decide_eq_false (fun h9 => he h9.2), Bool.or_false]
        rw [decide_eq_false he] at HS
        clear he hJ HL
        go_wp2_with fail
        go_roundw
        case rel => exact ⟨k + 1, by omega, by go_num, HN, B1⟩
        case measure => simp [intOf]; omega
    · have d1 : decide ((J : Int) ≤ (t.size : Int)) = false := by simp; omega
      have hJi : (t.size : Int) < (J : Int) := by omega
      have HR : Hid (false = r) := by
        have h9 := Tr.stK_end (p := p) (t := t) (k := k) (by omega) (t.size + 1 - k)
        rw [show k + (t.size + 1 - k) = t.size + 1 by omega] at h9
        exact (HL.out.symm.trans h9.symm).trans Hr.out
      clear Hr HL hJ
      go_wp2_with fail
      go_ret
      exact ⟨congrArg (fun x => Ending.returned (Value.bool x)) HR.out, B1⟩
end Go.Proofs.Ytbjbjbpgmojcbab
