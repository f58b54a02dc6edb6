/- Rows of texts, and whether a list of texts is too much: chapter 5. -/
import Derived.Test.YtbjbjbpgmojcbabBch
import Derived.Test.YtbjbjbpgmojcbabTrainPlain
import Derived.Test.YtbjbjbpgmojcbabProg
import Derived.WalkKit
import Derived.WalkSpells
import Derived.WalkLawsBesides
namespace Go.Proofs.Ytbjbjbpgmojcbab
open Go.RowKit

namespace Tr
/-- Texts that lie in a row. -/
def TxAt (w : World) (b off : Nat) (xs : List ByteArray) : Prop := b < w.heap.size ∧ ∀ i, i < xs.length → w.cell? ⟨b, off + i, none⟩ = some (.string (xa xs i))
theorem TxAt.below {w w' : World} {b off : Nat} {xs : List ByteArray} (h : TxAt w b off xs) (hb : Below w.heap.size w w') : TxAt w' b off xs := ⟨Nat.lt_of_lt_of_le h.1 hb.size, fun i hi => by rw [← h.2 i hi]; exact hb.cell (p := ⟨b, off + i, none⟩) h.1⟩
/-- The first text that is too long, of the first k. -/
def lgK (xs : List ByteArray) : Nat → Option Nat
  | 0 => none
  | k + 1 => match lgK xs k with
    | some i => some i
    | none => if 512 < (xa xs k).size then some k else none
theorem lgK_some {xs : List ByteArray} {k i : Nat} (h : lgK xs k = some i) : ∀ j, lgK xs (k + j) = some i := by
  intro j
  induction j with
  | zero => exact h
  | succ j ih => rw [← Nat.add_assoc, lgK, ih]
def many (xs : List ByteArray) : Bool := decide (12 < xs.length) || (lgK xs xs.length).isSome
end Tr

set_option maxHeartbeats 400000 in
theorem tooLong_any (t : ByteArray) (w : World) :
    Calls Try.prog 20 #[.string t] w fun e w' => e = .returned (.bool (decide ((512 : Int) < (t.size : Int)))) ∧ Below w.heap.size w w' := by
  go_enter Try.func20, Try.ntmps20
  go_wp2_with fail
  go_ret
  exact ⟨rfl, Below.refl _ _⟩

set_option maxRecDepth 4000 in
set_option maxHeartbeats 1000000 in
theorem firstLong_any (xs : List ByteArray) (b off cap : Nat) (w : World) (hx : Tr.TxAt w b off xs) (hn2 : xs.length ≤ 1000) (hB : ∀ i, (Tr.xa xs i).size ≤ 140737488355328) :
    Calls Try.prog 15 #[.slice (some ⟨b, off, none⟩) xs.length cap, .func (.func 20) #[] #[]] w fun e w' => e = .returned (.int .i64 (match Tr.lgK xs xs.length with | none => -1 | some i => (i : Int))) ∧ Below w.heap.size w w' := by
  have HX : Hid (∀ w', Tr.TxAt w' b off xs → ∀ i, i < xs.length → w'.cell? ⟨b, off + i, none⟩ = some (.string (Tr.xa xs i))) := fun w' h => h.2
  have HB : Hid (∀ i, (Tr.xa xs i).size ≤ 140737488355328) := hB
  clear hB
  obtain ⟨r, hr⟩ : ∃ r, (match Tr.lgK xs xs.length with | none => (-1 : Int) | some i => (i : Int)) = r := ⟨_, rfl⟩
  rw [hr]
  have Hr : Hid ((match Tr.lgK xs xs.length with | none => (-1 : Int) | some i => (i : Int)) = r) := hr
  clear hr
  go_enter Try.func15, Try.ntmps15
  go_wp2_with fail
  go_loopw [8] (fun i wr => ∃ k : Nat, k ≤ xs.length ∧ i = .int .i64 k ∧ Hid (Tr.lgK xs k = none) ∧ Tr.TxAt wr b off xs ∧ Below w.heap.size w wr) (fun i _ => xs.length - (intOf i).toNat)
  case atStart => exact ⟨0, by omega, rfl, rfl, hx, Below.refl _ _⟩
  case round =>
    clear hx
    obtain ⟨k, hk2, rfl, HL, hx, B1⟩ := hrel
    by_cases hlt : k < xs.length
    · have d1 : decide ((k : Int) < (xs.length : Int)) = true := by simp; omega
      have d1' : decide (k < xs.length) = true := by simp; omega
      have hki : (k : Int) < (xs.length : Int) := by omega
      have c1 := HX.out wr hx k hlt
      have z1 := HB.out k
      have c2 := fun w => tooLong_any (Tr.xa xs k) w
      by_cases hs : 512 < (Tr.xa xs k).size
      · have HN : Hid (Tr.lgK xs (k + 1) = some k) := by show _ = _; rw [Tr.lgK, HL.out]; exact if_pos hs
        have HR : Hid ((k : Int) = r) := by
          have h9 := Tr.lgK_some HN.out (xs.length - (k + 1))
          rw [show k + 1 + (xs.length - (k + 1)) = xs.length by omega] at h9
          have := Hr.out
          rw [h9] at this
          exact this
        have d2 : decide ((512 : Int) < ((Tr.xa xs k).size : Int)) = true := decide_eq_true (by omega)
        rw [d2] at c2
        generalize Tr.xa xs k = X at *
        clear HN hs d2
        go_wp2_with fail
        refine (c2 _).mono ?_
        rintro e w2 ⟨rfl, G⟩
        have B2 := bch B1 G (Nat.le_refl _)
        go_wp2_with fail
        go_ret
        exact ⟨congrArg (fun x => Ending.returned (Value.int .i64 x)) HR.out, B2⟩
      · have HN : Hid (Tr.lgK xs (k + 1) = none) := by show _ = _; rw [Tr.lgK, HL.out]; exact if_neg hs
        have d2 : decide ((512 : Int) < ((Tr.xa xs k).size : Int)) = false := decide_eq_false (by omega)
        rw [d2] at c2
        generalize Tr.xa xs k = X at *
        clear hs d2
        go_wp2_with fail
        refine (c2 _).mono ?_
        rintro e w2 ⟨rfl, G⟩
        have B2 := bch B1 G (Nat.le_refl _)
        have hx2 := hx.below G
        clear B1 G hx
        go_wp2_with fail
        go_roundw
        case rel => exact ⟨k + 1, by omega, by go_num, HN, hx2, B2⟩
        case measure => simp [intOf]; omega
    · obtain rfl : k = xs.length := by omega
      have HR : Hid ((-1 : Int) = r) := by have := Hr.out; rw [HL.out] at this; exact this
      have d1 : decide ((xs.length : Int) < (xs.length : Int)) = false := by simp
      clear Hr
      go_wp2_with fail
      go_ret
      exact ⟨congrArg (fun x => Ending.returned (Value.int .i64 x)) HR.out, B1⟩

set_option maxRecDepth 4000 in
set_option maxHeartbeats 1000000 in
theorem firstLong_nil (ad : Option Addr) (cap : Nat) (w : World) :
    Calls Try.prog 15 #[.slice ad 0 cap, .func (.func 20) #[] #[]] w fun e w' => e = .returned (.int .i64 (-1)) ∧ Below w.heap.size w w' := by
  go_enter Try.func15, Try.ntmps15
  go_wp2_with fail
  go_loopw [8] (fun i wr => i = .int .i64 0 ∧ Below w.heap.size w wr) (fun i _ => 0)
  case atStart => exact ⟨rfl, Below.refl _ _⟩
  case round =>
    obtain ⟨rfl, B1⟩ := hrel
    go_wp2_with fail
    go_ret
    exact ⟨rfl, B1⟩

/-- A slice of texts. -/
def TxSl (w : World) (ad : Option Addr) (xs : List ByteArray) : Prop := xs = [] ∨ ∃ b off, ad = some ⟨b, off, none⟩ ∧ Tr.TxAt w b off xs
theorem TxSl.below {w w' : World} {ad : Option Addr} {xs : List ByteArray} (h : TxSl w ad xs) (hb : Below w.heap.size w w') : TxSl w' ad xs := by
  rcases h with h | ⟨b, off, h1, h2⟩
  · exact .inl h
  · exact .inr ⟨b, off, h1, h2.below hb⟩
theorem firstLong_all (xs : List ByteArray) (ad : Option Addr) (cap : Nat) (w : World) (hx : TxSl w ad xs) (hn2 : xs.length ≤ 1000) (hB : ∀ i, (Tr.xa xs i).size ≤ 140737488355328) :
    Calls Try.prog 15 #[.slice ad xs.length cap, .func (.func 20) #[] #[]] w fun e w' => e = .returned (.int .i64 (match Tr.lgK xs xs.length with | none => -1 | some i => (i : Int))) ∧ Below w.heap.size w w' := by
  rcases hx with rfl | ⟨b, off, rfl, h2⟩
  · exact firstLong_nil ad cap w
  · exact firstLong_any xs b off cap w h2 hn2 hB

set_option maxRecDepth 4000 in
set_option maxHeartbeats 1000000 in
theorem anyLong_any (xs : List ByteArray) (ad : Option Addr) (cap : Nat) (w : World) (hx : TxSl w ad xs) (hn2 : xs.length ≤ 1000) (hB : ∀ i, (Tr.xa xs i).size ≤ 140737488355328) :
    Calls Try.prog 19 #[.slice ad xs.length cap, .func (.func 20) #[] #[]] w fun e w' => e = .returned (.bool (Tr.lgK xs xs.length).isSome) ∧ Below w.heap.size w w' := by
  have c1 := firstLong_all xs ad cap w hx hn2 hB
  cases hq : Tr.lgK xs xs.length with
  | none =>
    rw [hq] at c1
    simp only at c1
    clear hq
    go_enter Try.func19, Try.ntmps19
    go_wp2_with fail
    refine c1.mono ?_
    rintro e w1 ⟨rfl, G⟩
    go_wp2_with fail
    go_ret
    exact ⟨rfl, G⟩
  | some i =>
    rw [hq] at c1
    simp only at c1
    clear hq
    have h0 : (0 : Int) ≤ (i : Int) := by omega
    have d0 : decide ((0 : Int) ≤ (i : Int)) = true := decide_eq_true h0
    go_enter Try.func19, Try.ntmps19
    go_wp2_with fail
    refine c1.mono ?_
    rintro e w1 ⟨rfl, G⟩
    go_wp2_with fail
    go_ret
    exact ⟨rfl, G⟩

set_option maxRecDepth 4000 in
set_option maxHeartbeats 1000000 in
theorem tooMany_any (xs : List ByteArray) (ad : Option Addr) (cap : Nat) (w : World) (hx : TxSl w ad xs) (hB : ∀ i, (Tr.xa xs i).size ≤ 140737488355328) :
    Calls Try.prog 12 #[.slice ad xs.length cap] w fun e w' => e = .returned (.bool (Tr.many xs)) ∧ Below w.heap.size w w' := by
  unfold Tr.many
  by_cases hn : 12 < xs.length
  · have hn' : (12 : Int) < (xs.length : Int) := by omega
    rw [decide_eq_true hn]
    go_enter Try.func12, Try.ntmps12
    go_wp2_with fail
    go_ret
    exact ⟨rfl, Below.refl _ _⟩
  · have hn' : (xs.length : Int) ≤ 12 := by omega
    have c1 := fun w hx => anyLong_any xs ad cap w hx (by omega) hB
    rw [decide_eq_false hn, Bool.false_or]
    generalize (Tr.lgK xs xs.length).isSome = r at *
    go_enter Try.func12, Try.ntmps12
    go_wp2_with fail
    refine (c1 _ hx).mono ?_
    rintro e w1 ⟨rfl, G⟩
    go_wp2_with fail
    go_ret
    exact ⟨rfl, G⟩
end Go.Proofs.Ytbjbjbpgmojcbab
