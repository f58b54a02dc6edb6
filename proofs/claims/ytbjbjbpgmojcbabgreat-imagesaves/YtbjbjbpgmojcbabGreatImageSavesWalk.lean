/- A part of the proof: what it leans on. -/
import Derived.Test.YtbjbjbpgmojcbabGreatImBook13
import Derived.Test.YtbjbjbpgmojcbabGreatImBook15
namespace Go.Proofs.YtbjbjbpgmojcbabGreat
open Go.RowKit
namespace Im
theorem frm_opn {s : ByteArray} (h : ¬ 16384 < s.size) : opnA s = frmA s ∧ opnE s = if frmB s = true then 0 else 1 := by
  unfold opnA opnE frmA frmB
  rw [if_neg h, if_neg h]
  cases opn s with
  | none => exact ⟨rfl, rfl⟩
  | some a => exact ⟨rfl, rfl⟩
end Im
theorem SaneA.opn (s : ByteArray) : SaneA (Im.opnA s) := by
  unfold Im.opnA
  split
  · exact sane_az
  · split
    · exact sane_az
    · rename_i a h
      exact OkA.sane (Im.chk_ok (Im.opn_is.1 h).1).1
set_option maxRecDepth 8000 in
set_option maxHeartbeats 4000000 in
theorem imageSaves_any (ad af : Option Addr) (cd cf : Nat) (a : Ar.A) (s : ByteArray) (w : World) (h : ArV w ad af a) (hs : SaneA a) (hz : s.size ≤ 140737488355328) (hM : Mx w) :
    Calls Tryz.prog 8 #[av ad cd af cf a, .string s] w fun e w' => e = .returned (.bool true) ∧ Below w.heap.size w w' := by
  have C1 : Hid (∀ w', Below w.heap.size w w' → Calls Tryz.prog 31 #[av ad cd af cf a] w' fun e w2 => e = .returned (.tuple #[.string (Im.savT a), .int .i64 (Im.savE a)]) ∧ Below w'.heap.size w' w2) := fun w' h9 => imgSave_any ad af cd cf a w' (h.below h9) hs
  have C2 : Hid (∀ w', Below w.heap.size w w' → Calls Tryz.prog 32 #[av ad cd af cf a] w' fun e w2 => e = .returned (.tuple #[.string (Im.savT a), .int .i64 (Im.savE a)]) ∧ Below w'.heap.size w' w2) := fun w' h9 => saveOf_any ad af cd cf a w' (h.below h9) hs
  have C3 : Hid (∀ w', Calls Tryz.prog 33 #[.string s] w' fun e w2 => ArSaid w' (Im.opnA s) (Im.opnE s) e w2) := fun w' => imgOpen_any s w' (by omega)
  have C5 : Hid (∀ w', Below w.heap.size w w' → Calls Tryz.prog 34 #[] w' fun e w2 => e = .returned (.bool true) ∧ Below w'.heap.size w' w2) := fun w' h9 => imageBegun_any w' (hM.below h9)
  have sO := SaneA.opn s
  have K1 : Hid (∀ w' x y p q x' y' p' q', ArV w' x y (Im.opnA s) → ArV w' x' y' (Im.opnA s) → Calls Tryz.prog 20 #[av x p y q (Im.opnA s), av x' p' y' q' (Im.opnA s)] w' fun e w2 => e = .returned (.bool true) ∧ Below w'.heap.size w' w2) := fun w' x y p q x' y' p' q' hv hv' => same_any x y x' y' p q p' q' _ w' hv hv' sO.nd sO.nf
  have O1 : Hid (∀ (w : World) (e : Ending) (w' : World), ArSaid w (Im.opnA s) (Im.opnE s) e w' → ∃ x p y q, e = .returned (.tuple #[.agg #[.slice x (Im.opnA s).dicts.length p, .slice y (Im.opnA s).files.length q], .int .i64 (Im.opnE s)]) ∧ ArV w' x y (Im.opnA s) ∧ Below w.heap.size w w') := fun _ _ _ h => h.open
  clear h hs sO hM
  unfold av at C1 C2 K1 ⊢
  generalize Im.savT a = T at *
  generalize Im.savE a = E at *
  generalize a.dicts.length = D at *
  generalize a.files.length = N at *
  have hTT : (T.toList == T.toList) = true := by simp
  have hEE : (E == E) = true := by simp
  have XA := Bx.new w (.slice ad D cd) (.slice af N cf)
  have B1 := alloc_below w (.cells #[.slice ad D cd, .slice af N cf] 25 (0, 0))
  by_cases hbig : 16384 < s.size
  · have e1 : Im.opnA s = Ar.az := if_pos hbig
    have e2 : Im.opnE s = 2 := if_pos hbig
    have K2 : Hid (∀ w' x y p q, ArV w' x y Ar.az → Calls Tryz.prog 20 #[.agg #[.slice x (0 : Nat) p, .slice y (0 : Nat) q], .agg #[.slice none 0 0, .slice none 0 0]] w' fun e w2 => e = .returned (.bool true) ∧ Below w'.heap.size w' w2) := fun w' x y p q hv => by
      have h9 := K1.out w' x y p q none none 0 0 (by rw [e1]; exact hv) (by rw [e1]; exact ⟨.inl rfl, .inl rfl⟩)
      rw [e1] at h9
      exact h9
    rw [e1, e2] at O1
    rw [e1, e2] at C3
    clear e1 e2 K1
    have d1 : decide ((16384 : Int) < (s.size : Int)) = true := decide_eq_true (by omega)
    simp only [show Ar.az.dicts.length = 0 from rfl, show Ar.az.files.length = 0 from rfl] at O1
    go_enter Tryz.func8, Tryz.ntmps8
    go_wp2_with fail
    generalize (w.alloc (.cells #[.slice ad D cd, .slice af N cf] 25 (0, 0))) = u0 at *
    refine (C1.out _ B1).mono ?_
    rintro e u1 ⟨rfl, G⟩
    have X1 := XA.next G
    have B2 := bch B1 G (Nat.le_refl _)
    have x0 := X1.c0
    have x1 := X1.c1
    clear XA B1 G C1
    go_wp2_with fail
    clear x0 x1
    refine (C2.out _ B2).mono ?_
    rintro e u2 ⟨rfl, G⟩
    have B3 := bch B2 G (Nat.le_refl _)
    clear X1 B2 G C2
    go_wp2_with fail
    refine (C3.out _).mono ?_
    intro e u3 h1
    obtain ⟨xB, pB, yB, qB, rfl, VB, G⟩ := O1.out _ _ _ h1
    have GA := alloc_below u3 (.cells #[.slice xB 0 pB, .slice yB 0 qB] 25 (0, 0))
    have XB := Bx.new u3 (.slice xB 0 pB) (.slice yB 0 qB)
    have VB := VB.below GA
    have B4 := bch (bch B3 G (Nat.le_refl _)) GA (Nat.le_refl _)
    clear h1 G GA B3 C3 O1
    generalize hu : (u3.alloc (.cells #[.slice xB 0 pB, .slice yB 0 qB] 25 (0, 0))) = u4 at *
    go_wp2_with fail
    clear hu
    generalize u3.heap.size = bB at *
    refine (C5.out _ B4).mono ?_
    rintro e z1 ⟨rfl, G⟩
    have XB := XB.next G
    have VB := VB.below G
    have B5 := bch B4 G (Nat.le_refl _)
    clear G B4 C5
    have k0 := XB.c0
    have k1 := XB.c1
    go_wp2_with fail
    refine (K2.out _ _ _ _ _ VB).mono ?_
    rintro e z2 ⟨rfl, G⟩
    have B6 := bch B5 G (Nat.le_refl _)
    go_wp2_with fail
    go_ret
    exact ⟨rfl, B6⟩
  · have d1 : decide ((16384 : Int) < (s.size : Int)) = false := decide_eq_false (by omega)
    obtain ⟨e1, e2⟩ := Im.frm_opn hbig
    have C4 : Hid (∀ w', Calls Tryz.prog 35 #[.string s] w' fun e w2 => AfSaid (Im.frmA s) (Im.frmB s) w' e w2) := fun w' => archiveFrom_any s w' (by omega)
    rw [e1, e2] at O1
    rw [e1, e2] at C3
    rw [e1] at K1
    have O4 : Hid (∀ (w : World) (e : Ending) (w' : World), AfSaid (Im.frmA s) (Im.frmB s) w e w' → ∃ x p y q, e = .returned (.tuple #[.agg #[.slice x (Im.frmA s).dicts.length p, .slice y (Im.frmA s).files.length q], .bool (Im.frmB s)]) ∧ ArV w' x y (Im.frmA s) ∧ Below w.heap.size w w') := fun _ _ _ h => h
    clear e1 e2
    generalize Im.frmA s = A at *
    generalize A.dicts.length = D1 at *
    generalize A.files.length = N1 at *
    cases hb : Im.frmB s
    all_goals
      rw [hb] at O1 C3 C4 O4
      simp only [if_true, if_false, Bool.false_eq_true] at O1 C3
      clear hb
      go_enter Tryz.func8, Tryz.ntmps8
      go_wp2_with fail
      generalize (w.alloc (.cells #[.slice ad D cd, .slice af N cf] 25 (0, 0))) = u0 at *
      refine (C1.out _ B1).mono ?_
      rintro e u1 ⟨rfl, G⟩
      have X1 := XA.next G
      have B2 := bch B1 G (Nat.le_refl _)
      have x0 := X1.c0
      have x1 := X1.c1
      clear XA B1 G C1
      go_wp2_with fail
      clear x0 x1
      refine (C2.out _ B2).mono ?_
      rintro e u2 ⟨rfl, G⟩
      have B3 := bch B2 G (Nat.le_refl _)
      clear X1 B2 G C2
      go_wp2_with fail
      refine (C3.out _).mono ?_
      intro e u3 h1
      obtain ⟨xB, pB, yB, qB, rfl, VB, G⟩ := O1.out _ _ _ h1
      have GA := alloc_below u3 (.cells #[.slice xB D1 pB, .slice yB N1 qB] 25 (0, 0))
      have XB := Bx.new u3 (.slice xB D1 pB) (.slice yB N1 qB)
      have VB := VB.below GA
      have B4 := bch (bch B3 G (Nat.le_refl _)) GA (Nat.le_refl _)
      clear h1 G GA B3 C3 O1
      generalize hu : (u3.alloc (.cells #[.slice xB D1 pB, .slice yB N1 qB] 25 (0, 0))) = u4 at *
      go_wp2_with fail
      clear hu
      generalize u3.heap.size = bB at *
      refine (C4.out _).mono ?_
      intro e u5 h1
      obtain ⟨xX, pX, yX, qX, rfl, VX, G⟩ := O4.out _ _ _ h1
      have GA := alloc_below u5 (.cells #[.slice xX D1 pX, .slice yX N1 qX] 25 (0, 0))
      have XX := Bx.new u5 (.slice xX D1 pX) (.slice yX N1 qX)
      have XB := (XB.next G).next GA
      have VB := (VB.below G).below GA
      have VX := VX.below GA
      have B5 := bch (bch B4 G (Nat.le_refl _)) GA (Nat.le_refl _)
      clear h1 G GA B4 C4 O4
      generalize hu : (u5.alloc (.cells #[.slice xX D1 pX, .slice yX N1 qX] 25 (0, 0))) = u6 at *
      go_wp2_with fail
      clear hu
      generalize u5.heap.size = bX at *
      refine (C5.out _ B5).mono ?_
      rintro e z1 ⟨rfl, G⟩
      have XB := XB.next G
      have XX := XX.next G
      have VB := VB.below G
      have VX := VX.below G
      have B6 := bch B5 G (Nat.le_refl _)
      clear G B5 C5
      have k0 := XB.c0
      have k1 := XB.c1
      have k2 := XX.c0
      have k3 := XX.c1
      go_wp2_with fail
      refine (K1.out _ _ _ _ _ _ _ _ _ VB VX).mono ?_
      rintro e z2 ⟨rfl, G⟩
      have B7 := bch B6 G (Nat.le_refl _)
      go_wp2_with fail
      go_ret
      exact ⟨rfl, B7⟩
end Go.Proofs.YtbjbjbpgmojcbabGreat
