/- What train.Count comes to; which piece of several is the first that does not stand in the dictionary. -/
import Derived.Test.YtbjbjbpgmojcbabTrainRanked
namespace Go.Proofs.Ytbjbjbpgmojcbab
open Go.RowKit

namespace Tr
/-- The first of the first k that does not stand in d. -/
def fnK (L : List ByteArray) (d : ByteArray) : Nat → Option Nat
  | 0 => none
  | k + 1 => match fnK L d k with
    | some i => some i
    | none => if st (xa L k) d = true then none else some k
theorem fnK_some {L : List ByteArray} {d : ByteArray} {k i : Nat} (h : fnK L d k = some i) : ∀ j, fnK L d (k + j) = some i := by
  intro j
  induction j with
  | zero => exact h
  | succ j ih => rw [← Nat.add_assoc, fnK, ih]
theorem fnK_spec {L : List ByteArray} {d : ByteArray} : ∀ {k : Nat}, match fnK L d k with
    | none => ∀ j, j < k → st (xa L j) d = true
    | some i => i < k ∧ st (xa L i) d = false ∧ ∀ j, j < i → st (xa L j) d = true
  | 0 => by intro j h; omega
  | k + 1 => by
    have ih := fnK_spec (L := L) (d := d) (k := k)
    rw [fnK]
    cases h : fnK L d k with
    | some i => rw [h] at ih; exact ⟨by have := ih.1; omega, ih.2⟩
    | none =>
      rw [h] at ih
      simp only at ih ⊢
      by_cases hs : st (xa L k) d = true
      · rw [if_pos hs]
        intro j hj
        by_cases e : j = k
        · subst e; exact hs
        · exact ih j (by omega)
      · rw [if_neg hs]
        exact ⟨by omega, by simpa using hs, ih⟩
def fix (L : List ByteArray) (d : ByteArray) : Int := match fnK L d L.length with | none => -1 | some i => (i : Int)
end Tr

set_option maxRecDepth 4000 in
set_option maxHeartbeats 1000000 in
theorem notIn_any (p d : ByteArray) (bx : Nat) (w : World) (hc : w.cell? ⟨bx, 0, none⟩ = some (.string d)) (hM : Mx w) (hd : d.size ≤ 4000000000) (hp : 0 < p.size) :
    Calls Try.prog 16 #[.string p, .pointer (some ⟨bx, 0, none⟩)] w fun e w' => e = .returned (.bool (!Tr.st p d)) ∧ w' = w := by
  have c1 := contains_any d p w hM hd hp
  generalize Tr.st p d = r at *
  go_enter Try.func16, Try.ntmps16
  go_wp2_with fail
  refine c1.mono ?_
  rintro e w2 ⟨rfl, rfl⟩
  go_wp2_with fail
  go_ret
  exact ⟨rfl, rfl⟩

set_option maxRecDepth 4000 in
set_option maxHeartbeats 1000000 in
theorem firstNot_some (L : List ByteArray) (d : ByteArray) (b off cap bx : Nat) (w : World) (hx : Tr.TxAt w b off L) (hn : L.length ≤ 100000) (hc : w.cell? ⟨bx, 0, none⟩ = some (.string d)) (hM : Mx w) (hd : d.size ≤ 4000000000) (hp : ∀ i, i < L.length → (Tr.xa L i).size = 4) :
    Calls Try.prog 15 #[.slice (some ⟨b, off, none⟩) L.length cap, .func (.func 16) #[] #[.pointer (some ⟨bx, 0, none⟩)]] w fun e w' => e = .returned (.int .i64 (Tr.fix L d)) ∧ w' = w := by
  have HX : Hid (∀ i, i < L.length → w.cell? ⟨b, off + i, none⟩ = some (.string (Tr.xa L i))) := hx.2
  have HP : Hid (∀ i, i < L.length → Calls Try.prog 16 #[.string (Tr.xa L i), .pointer (some ⟨bx, 0, none⟩)] w fun e w' => e = .returned (.bool (!Tr.st (Tr.xa L i) d)) ∧ w' = w) := fun i hi => notIn_any _ d bx w hc hM hd (by rw [hp i hi]; omega)
  clear hp hc hM hx
  obtain ⟨r, hr⟩ : ∃ r, Tr.fix L d = r := ⟨_, rfl⟩
  rw [hr]
  have Hr : Hid ((match Tr.fnK L d L.length with | none => (-1 : Int) | some i => (i : Int)) = r) := hr
  clear hr
  go_enter Try.func15, Try.ntmps15
  go_wp2_with fail
  go_loopw [8] (fun i wr => ∃ k : Nat, k ≤ L.length ∧ i = .int .i64 k ∧ Hid (Tr.fnK L d k = none) ∧ wr = w) (fun i _ => L.length - (intOf i).toNat)
  case atStart => exact ⟨0, by omega, rfl, rfl, rfl⟩
  case round =>
    obtain ⟨k, hk2, rfl, HL, rfl⟩ := hrel
    by_cases hlt : k < L.length
    · have d1 : decide ((k : Int) < (L.length : Int)) = true := by simp; omega
      have d1' : decide (k < L.length) = true := by simp; omega
      have hki : (k : Int) < (L.length : Int) := by omega
      have c1 := HX.out k hlt
      have c2 := HP.out k hlt
      cases hs : Tr.st (Tr.xa L k) d with
      | false =>
        have HN : Hid (Tr.fnK L d (k + 1) = some k) := by show _ = _; rw [Tr.fnK, HL.out]; simp only; rw [hs]; rfl
        have HR : Hid ((k : Int) = r) := by
          have h9 := Tr.fnK_some HN.out (L.length - (k + 1))
          rw [show k + 1 + (L.length - (k + 1)) = L.length by omega] at h9
          have := Hr.out
          rw [h9] at this
          exact this
        rw [hs] at c2
        generalize Tr.xa L k = X at *
        clear HN hs
        go_wp2_with fail
        refine c2.mono ?_
        rintro e w2 ⟨rfl, rfl⟩
        go_wp2_with fail
        go_ret
        exact ⟨congrArg (fun x => Ending.returned (Value.int .i64 x)) HR.out, rfl⟩
      | true =>
        have HN : Hid (Tr.fnK L d (k + 1) = none) := by show _ = _; rw [Tr.fnK, HL.out]; exact if_pos hs
        rw [hs] at c2
        generalize Tr.xa L k = X at *
        clear hs
        go_wp2_with fail
        refine c2.mono ?_
        rintro e w2 ⟨rfl, rfl⟩
        go_wp2_with fail
        go_roundw
        case rel => exact ⟨k + 1, by omega, by go_num, HN, by trivial⟩
        case measure => simp [intOf]; omega
    · obtain rfl : k = L.length := by omega
      have HR : Hid ((-1 : Int) = r) := by have := Hr.out; rw [HL.out] at this; exact this
      have d1 : decide ((L.length : Int) < (L.length : Int)) = false := by simp
      clear Hr
      go_wp2_with fail
      go_ret
      exact ⟨congrArg (fun x => Ending.returned (Value.int .i64 x)) HR.out, rfl⟩
set_option maxRecDepth 4000 in
set_option maxHeartbeats 1000000 in
theorem firstNot_nil (ad : Option Addr) (cap : Nat) (fv : Value) (w : World) :
    Calls Try.prog 15 #[.slice ad 0 cap, fv] w fun e w' => e = .returned (.int .i64 (-1)) ∧ w' = w := by
  go_enter Try.func15, Try.ntmps15
  go_wp2_with fail
  go_loopw [8] (fun i wr => i = .int .i64 0 ∧ wr = w) (fun i _ => 0)
  case atStart => exact ⟨rfl, rfl⟩
  case round =>
    obtain ⟨rfl, rfl⟩ := hrel
    go_wp2_with fail
    go_ret
    exact ⟨rfl, rfl⟩
theorem firstNot_any (lo : Nat) (L : List ByteArray) (d : ByteArray) (ad : Option Addr) (cap bx : Nat) (w : World) (hx : Tr.TxFar lo w ad L) (hn : L.length ≤ 100000) (hc : w.cell? ⟨bx, 0, none⟩ = some (.string d)) (hM : Mx w) (hd : d.size ≤ 4000000000) (hp : ∀ i, i < L.length → (Tr.xa L i).size = 4) :
    Calls Try.prog 15 #[.slice ad L.length cap, .func (.func 16) #[] #[.pointer (some ⟨bx, 0, none⟩)]] w fun e w' => e = .returned (.int .i64 (Tr.fix L d)) ∧ w' = w := by
  rcases hx with rfl | ⟨b, off, rfl, _, h2⟩
  · exact firstNot_nil ad cap _ w
  · exact firstNot_some L d b off cap bx w h2 hn hc hM hd hp
end Go.Proofs.Ytbjbjbpgmojcbab
