/- A part of the proof: what it leans on. -/
import Derived.Test.YtbjbjbpgmojcbabGreatLrBook14
import Derived.Test.YtbjbjbpgmojcbabGreatLrBook15
namespace Go.Proofs.YtbjbjbpgmojcbabGreat
open Go.RowKit
set_option maxRecDepth 8000 in
set_option maxHeartbeats 4000000 in
theorem logReplays_any (k n : Int) (nm tx : ByteArray) (s : ByteArray) (w : World) (hn : nm.size ≤ 140737488355328) (ht : tx.size ≤ 140737488355328) (hz : s.size ≤ 140737488355328) (hM : Mx w) :
    Calls Tryz.prog 11 #[.agg #[.int .i64 k, .int .i64 n, .string nm, .string tx], .string s] w fun e w' => e = .returned (.bool true) ∧ Below w.heap.size w w' := by
  have C1 : Hid (∀ w', Calls Tryz.prog 39 #[.agg #[.int .i64 k, .int .i64 n, .string nm, .string tx]] w' fun e w2 => e = .returned (.tuple #[.string (Im.wrtT ⟨k, n, nm, tx⟩), .int .i64 (Im.actE ⟨k, n, nm, tx⟩)]) ∧ Below w'.heap.size w' w2) := fun w' => logWrite_any k n nm tx w' (by omega) (by omega)
  have C2 : Hid (∀ w', Calls Tryz.prog 40 #[.agg #[.int .i64 k, .int .i64 n, .string nm, .string tx]] w' fun e w2 => e = .returned (.int .i64 (Im.actE ⟨k, n, nm, tx⟩)) ∧ Below w'.heap.size w' w2) := fun w' => actError_any k n nm tx w'
  have C3 : Hid (Im.actE ⟨k, n, nm, tx⟩ = 0 → ∀ w', Calls Tryz.prog 41 #[.agg #[.int .i64 k, .int .i64 n, .string nm, .string tx]] w' fun e w2 => e = .returned (.string (Im.wrtT ⟨k, n, nm, tx⟩)) ∧ Below w'.heap.size w' w2) := fun h0 w' => by
    have h9 := actBytes_any k n nm tx w' h0
    rw [show Im.wrtT ⟨k, n, nm, tx⟩ = ⟨(Im.actB ⟨k, n, nm, tx⟩).toArray⟩ by unfold Im.wrtT; rw [if_pos h0]]
    exact h9
  have C4 : Hid (∀ w', Calls Tryz.prog 42 #[.string s] w' fun e w2 => RpSaid (Im.rplL s) (Im.rplN s) (Im.rplE s) w' e w2) := fun w' => replay_any s w'
  have C6 : Hid (∀ w', Calls Tryz.prog 43 #[.string s] w' fun e w2 => RpSaid (Im.rplL s) (Im.rplN s) (Im.rplE s) w' e w2) := fun w' => replayOf_any s w' (by omega)
  have C5 : Hid (∀ w', Below w.heap.size w w' → Calls Tryz.prog 38 #[] w' fun e w2 => e = .returned (.bool true) ∧ Below w'.heap.size w' w2) := fun w' h9 => logBegun_any w' (hM.below h9)
  have hl := (Im.rpl_ok s).2.1
  have K1 : Hid (∀ w' x x' p p', XSl w' x (Im.rplL s) → XSl w' x' (Im.rplL s) → Calls Tryz.prog 44 #[.slice x (Im.rplL s).length p, .slice x' (Im.rplL s).length p'] w' fun e w2 => e = .returned (.bool true) ∧ Below w'.heap.size w' w2) := fun w' x x' p p' hv hv' => sameActs_any x x' p p' _ w' hv hv' (by omega)
  have O1 : Hid (∀ (w : World) (e : Ending) (w' : World), RpSaid (Im.rplL s) (Im.rplN s) (Im.rplE s) w e w' → ∃ x p, e = .returned (.tuple #[.slice x (Im.rplL s).length p, .int .i64 (Im.rplN s : Nat), .int .i64 (Im.rplE s)]) ∧ XSl w' x (Im.rplL s) ∧ Below w.heap.size w w') := fun _ _ _ h => h.open
  have HNO : Hid (Im.actE ⟨k, n, nm, tx⟩ ≠ 0 → Im.wrtT ⟨k, n, nm, tx⟩ = ⟨#[]⟩) := fun h0 => by unfold Im.wrtT; rw [if_neg h0]
  clear hM hn ht hl
  generalize Im.actE ⟨k, n, nm, tx⟩ = AE at *
  generalize Im.wrtT ⟨k, n, nm, tx⟩ = T at *
  generalize Im.rplN s = RN at *
  generalize Im.rplE s = RE at *
  generalize Im.rplL s = l at *
  generalize l.length = N at *
  have hTT : (T.toList == T.toList) = true := by simp
  have h1 : (AE == AE) = true := by simp
  have h2 : (RE == RE) = true := by simp
  have h3 : ((RN : Int) == (RN : Int)) = true := by simp
  have B := alloc_below w (.cells #[.int .i64 k, .int .i64 n, .string nm, .string tx] 54 (0, 0))
  have X := XB.new w 54 k n nm tx
  go_enter Tryz.func11, Tryz.ntmps11
  go_wp2_with fail
  generalize (w.alloc (.cells #[.int .i64 k, .int .i64 n, .string nm, .string tx] 54 (0, 0))) = u0 at *
  refine (C1.out _).mono ?_
  rintro e w1 ⟨rfl, G⟩
  have X := X.next G
  have B := bch B G (Nat.le_refl _)
  clear G C1
  obtain ⟨y0, y1, y2, y3, _⟩ := id X
  go_wp2_with fail
  clear y0 y1 y2 y3
  refine (C2.out _).mono ?_
  rintro e w2 ⟨rfl, G⟩
  have X := X.next G
  have B := bch B G (Nat.le_refl _)
  clear G C2
  by_cases hA : AE = 0
  · have CB := C3.out hA
    subst hA
    obtain ⟨y0, y1, y2, y3, _⟩ := id X
    go_wp2_with fail
    clear y0 y1 y2 y3
    refine (CB _).mono ?_
    rintro e w3 ⟨rfl, G⟩
    have B := bch B G (Nat.le_refl _)
    clear G CB C3 HNO
    go_wp2_with fail
    refine (C4.out _).mono ?_
    intro e w4 h1
    obtain ⟨x4, p4, rfl, V4, G⟩ := O1.out _ _ _ h1
    have B := bch B G (Nat.le_refl _)
    clear G h1 C4
    go_wp2_with fail
    refine (C6.out _).mono ?_
    intro e w5 h1
    obtain ⟨x5, p5, rfl, V5, G⟩ := O1.out _ _ _ h1
    have B := bch B G (Nat.le_refl _)
    have V4 := V4.below G
    clear G h1 C6
    go_wp2_with fail
    refine (C5.out _ B).mono ?_
    rintro e w6 ⟨rfl, G⟩
    have B := bch B G (Nat.le_refl _)
    have V4 := V4.below G
    have V5 := V5.below G
    clear G C5
    go_wp2_with fail
    refine (K1.out _ _ _ _ _ V4 V5).mono ?_
    rintro e w7 ⟨rfl, G⟩
    have B := bch B G (Nat.le_refl _)
    go_wp2_with fail
    go_ret
    exact ⟨rfl, B⟩
  · have dA : (AE == 0) = false := by simpa using hA
    have hT := HNO.out hA
    subst hT
    clear C3 HNO
    go_wp2_with fail
    refine (C4.out _).mono ?_
    intro e w4 h1
    obtain ⟨x4, p4, rfl, V4, G⟩ := O1.out _ _ _ h1
    have B := bch B G (Nat.le_refl _)
    clear G h1 C4
    go_wp2_with fail
    refine (C6.out _).mono ?_
    intro e w5 h1
    obtain ⟨x5, p5, rfl, V5, G⟩ := O1.out _ _ _ h1
    have B := bch B G (Nat.le_refl _)
    have V4 := V4.below G
    clear G h1 C6
    go_wp2_with fail
    refine (C5.out _ B).mono ?_
    rintro e w6 ⟨rfl, G⟩
    have B := bch B G (Nat.le_refl _)
    have V4 := V4.below G
    have V5 := V5.below G
    clear G C5
    go_wp2_with fail
    refine (K1.out _ _ _ _ _ V4 V5).mono ?_
    rintro e w7 ⟨rfl, G⟩
    have B := bch B G (Nat.le_refl _)
    go_wp2_with fail
    go_ret
    exact ⟨rfl, B⟩
end Go.Proofs.YtbjbjbpgmojcbabGreat
