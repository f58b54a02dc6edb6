/- A part of the proof: what it leans on. -/
import Derived.Test.YtbjbjbpgmojcbabGreatImBook13
namespace Go.Proofs.YtbjbjbpgmojcbabGreat
open Go.RowKit
namespace Im
theorem sav_opn {a : Ar.A} (h : savE a = 0) : opnE (savT a) = 0 ∧ opnA (savT a) = a ∧ (savT a).size ≤ 16384 := by
  have h1 : Ar.chk a = 0 := by
    by_cases hk : Ar.chk a = 0
    · exact hk
    · unfold savE at h; rw [if_pos hk] at h; exact absurd h hk
  have h2 : ¬ 16384 < (img a).size := fun hb => by
    unfold savE at h
    rw [if_neg (by simpa using h1), if_pos hb] at h
    cases h
  obtain ⟨e1, e2⟩ := opn_img h1 h2
  rw [(sav_ok h1 h2).2]
  exact ⟨e1, e2, by omega⟩
theorem opn_sav {s : ByteArray} (h : opnE s = 0) : savE (opnA s) = 0 ∧ savT (opnA s) = s := by
  unfold opnE at h
  by_cases hb : 16384 < s.size
  · rw [if_pos hb] at h; cases h
  · rw [if_neg hb] at h
    cases ho : opn s with
    | none => rw [ho] at h; cases h
    | some a =>
      obtain ⟨h1, h2⟩ := opn_is.1 ho
      have e : opnA s = a := by unfold opnA; rw [if_neg hb, ho]
      have hz : ¬ 16384 < (img a).size := by rw [h2]; exact hb
      obtain ⟨k1, k2⟩ := sav_ok h1 hz
      rw [e, k2, h2]
      exact ⟨k1, rfl⟩
end Im
theorem SaneA.open (s : ByteArray) : SaneA (Im.opnA s) := by
  unfold Im.opnA
  split
  · exact sane_az
  · split
    · exact sane_az
    · rename_i a h
      exact OkA.sane (Im.chk_ok (Im.opn_is.1 h).1).1
set_option maxRecDepth 8000 in
set_option maxHeartbeats 4000000 in
theorem imageBack_any (ad af : Option Addr) (cd cf : Nat) (a : Ar.A) (s : ByteArray) (w : World) (h : ArV w ad af a) (hs : SaneA a) (hz : s.size ≤ 140737488355328) (hM : Mx w) :
    Calls Tryz.prog 9 #[av ad cd af cf a, .string s] w fun e w' => e = .returned (.bool true) ∧ Below w.heap.size w w' := by
  have C1 : Hid (∀ w', Below w.heap.size w w' → Calls Tryz.prog 31 #[av ad cd af cf a] w' fun e w2 => e = .returned (.tuple #[.string (Im.savT a), .int .i64 (Im.savE a)]) ∧ Below w'.heap.size w' w2) := fun w' h9 => imgSave_any ad af cd cf a w' (h.below h9) hs
  have C2 : Hid (Im.savE a = 0 → ∀ w', Calls Tryz.prog 33 #[.string (Im.savT a)] w' fun e w2 => ArSaid w' a 0 e w2) := fun h0 w' => by
    obtain ⟨e1, e2, e3⟩ := Im.sav_opn h0
    have h9 := imgOpen_any (Im.savT a) w' (by omega)
    rw [e1, e2] at h9
    exact h9
  have C3 : Hid (∀ w', Calls Tryz.prog 33 #[.string s] w' fun e w2 => ArSaid w' (Im.opnA s) (Im.opnE s) e w2) := fun w' => imgOpen_any s w' (by omega)
  have C4 : Hid (Im.opnE s = 0 → ∀ w' x y p q, ArV w' x y (Im.opnA s) → Calls Tryz.prog 31 #[av x p y q (Im.opnA s)] w' fun e w2 => e = .returned (.tuple #[.string s, .int .i64 0]) ∧ Below w'.heap.size w' w2) := fun h0 w' x y p q hv => by
    obtain ⟨e1, e2⟩ := Im.opn_sav h0
    have h9 := imgSave_any x y p q (Im.opnA s) w' hv (SaneA.open s)
    rw [e1, e2] at h9
    exact h9
  have C5 : Hid (∀ w', Below w.heap.size w w' → Calls Tryz.prog 34 #[] w' fun e w2 => e = .returned (.bool true) ∧ Below w'.heap.size w' w2) := fun w' h9 => imageBegun_any w' (hM.below h9)
  have K1 : Hid (∀ w' x y p q, Below w.heap.size w w' → ArV w' x y a → Calls Tryz.prog 20 #[av x p y q a, av ad cd af cf a] w' fun e w2 => e = .returned (.bool true) ∧ Below w'.heap.size w' w2) := fun w' x y p q h9 hv => same_any x y ad af p q cd cf _ w' hv (h.below h9) hs.nd hs.nf
  have O1 : Hid (∀ (w : World) (e : Ending) (w' : World), ArSaid w a 0 e w' → ∃ x p y q, e = .returned (.tuple #[.agg #[.slice x a.dicts.length p, .slice y a.files.length q], .int .i64 0]) ∧ ArV w' x y a ∧ Below w.heap.size w w') := fun _ _ _ h => h.open
  have O2 : Hid (∀ (w : World) (e : Ending) (w' : World), ArSaid w (Im.opnA s) (Im.opnE s) e w' → ∃ x p y q, e = .returned (.tuple #[.agg #[.slice x (Im.opnA s).dicts.length p, .slice y (Im.opnA s).files.length q], .int .i64 (Im.opnE s)]) ∧ ArV w' x y (Im.opnA s) ∧ Below w.heap.size w w') := fun _ _ _ h => h.open
  clear h hs hM
  unfold av at C1 C4 K1 ⊢
  generalize Im.savT a = T at *
  generalize Im.savE a = E at *
  generalize Im.opnA s = A at *
  generalize Im.opnE s = F at *
  generalize a.dicts.length = D at *
  generalize a.files.length = N at *
  generalize A.dicts.length = D1 at *
  generalize A.files.length = N1 at *
  have hSS : (s.toList == s.toList) = true := by simp
  have XA := Bx.new w (.slice ad D cd) (.slice af N cf)
  have B1 := alloc_below w (.cells #[.slice ad D cd, .slice af N cf] 25 (0, 0))
  go_enter Tryz.func9, Tryz.ntmps9
  go_wp2_with fail
  generalize (w.alloc (.cells #[.slice ad D cd, .slice af N cf] 25 (0, 0))) = u0 at *
  refine (C1.out _ B1).mono ?_
  rintro e u1 ⟨rfl, G⟩
  have XA := XA.next G
  have B2 := bch B1 G (Nat.le_refl _)
  clear B1 G C1
  by_cases hE : E = 0
  · have CO := C2.out hE
    subst hE
    go_wp2_with fail
    refine (CO _).mono ?_
    intro e u2 h1
    obtain ⟨xB, pB, yB, qB, rfl, VB, G⟩ := O1.out _ _ _ h1
    have GA := alloc_below u2 (.cells #[.slice xB D pB, .slice yB N qB] 25 (0, 0))
    have XB := Bx.new u2 (.slice xB D pB) (.slice yB N qB)
    have VB := VB.below GA
    have XA := (XA.next G).next GA
    have B3 := bch (bch B2 G (Nat.le_refl _)) GA (Nat.le_refl _)
    clear h1 G GA B2 C2 CO O1
    have x0 := XA.c0
    have x1 := XA.c1
    have k0 := XB.c0
    have k1 := XB.c1
    generalize hu : (u2.alloc (.cells #[.slice xB D pB, .slice yB N qB] 25 (0, 0))) = u3 at *
    go_wp2_with fail
    clear hu x0 x1 k0 k1
    refine (K1.out _ _ _ _ _ B3 VB).mono ?_
    rintro e u9 ⟨rfl, G⟩
    have B2 := bch B3 G (Nat.le_refl _)
    clear B3 G K1 XA XB VB
    go_wp2_with fail
    refine (C3.out _).mono ?_
    intro e u4 h1
    obtain ⟨xC, pC, yC, qC, rfl, VC, G⟩ := O2.out _ _ _ h1
    have GA := alloc_below u4 (.cells #[.slice xC D1 pC, .slice yC N1 qC] 25 (0, 0))
    have XC := Bx.new u4 (.slice xC D1 pC) (.slice yC N1 qC)
    have VC := VC.below GA
    have B5 := bch (bch B2 G (Nat.le_refl _)) GA (Nat.le_refl _)
    clear h1 G GA B2 C3 O2
    generalize hu : (u4.alloc (.cells #[.slice xC D1 pC, .slice yC N1 qC] 25 (0, 0))) = u5 at *
    by_cases hF : F = 0
    · have CS := C4.out hF
      subst hF
      have k0 := XC.c0
      have k1 := XC.c1
      go_wp2_with fail
      clear k0 k1 hu
      refine (CS _ _ _ _ _ VC).mono ?_
      rintro e u6 ⟨rfl, G⟩
      have B6 := bch B5 G (Nat.le_refl _)
      clear B5 G CS
      go_wp2_with fail
      refine (C5.out _ B6).mono ?_
      rintro e z1 ⟨rfl, G⟩
      have B7 := bch B6 G (Nat.le_refl _)
      go_wp2_with fail
      go_ret
      exact ⟨rfl, B7⟩
    · have dF : (F == 0) = false := by simpa using hF
      go_wp2_with fail
      refine (C5.out _ B5).mono ?_
      rintro e z1 ⟨rfl, G⟩
      have B7 := bch B5 G (Nat.le_refl _)
      go_wp2_with fail
      go_ret
      exact ⟨rfl, B7⟩
  · have dE : (E == 0) = false := by simpa using hE
    clear C2 O1 K1
    go_wp2_with fail
    refine (C3.out _).mono ?_
    intro e u4 h1
    obtain ⟨xC, pC, yC, qC, rfl, VC, G⟩ := O2.out _ _ _ h1
    have GA := alloc_below u4 (.cells #[.slice xC D1 pC, .slice yC N1 qC] 25 (0, 0))
    have XC := Bx.new u4 (.slice xC D1 pC) (.slice yC N1 qC)
    have VC := VC.below GA
    have B5 := bch (bch B2 G (Nat.le_refl _)) GA (Nat.le_refl _)
    clear h1 G GA B2 C3 O2
    generalize hu : (u4.alloc (.cells #[.slice xC D1 pC, .slice yC N1 qC] 25 (0, 0))) = u5 at *
    by_cases hF : F = 0
    · have CS := C4.out hF
      subst hF
      have k0 := XC.c0
      have k1 := XC.c1
      go_wp2_with fail
      clear k0 k1 hu
      refine (CS _ _ _ _ _ VC).mono ?_
      rintro e u6 ⟨rfl, G⟩
      have B6 := bch B5 G (Nat.le_refl _)
      clear B5 G CS
      go_wp2_with fail
      refine (C5.out _ B6).mono ?_
      rintro e z1 ⟨rfl, G⟩
      have B7 := bch B6 G (Nat.le_refl _)
      go_wp2_with fail
      go_ret
      exact ⟨rfl, B7⟩
    · have dF : (F == 0) = false := by simpa using hF
      go_wp2_with fail
      refine (C5.out _ B5).mono ?_
      rintro e z1 ⟨rfl, G⟩
      have B7 := bch B5 G (Nat.le_refl _)
      go_wp2_with fail
      go_ret
      exact ⟨rfl, B7⟩
end Go.Proofs.YtbjbjbpgmojcbabGreat
