/- A part of the proof: what it leans on. -/
import Derived.Deep.RegionHeld3
import Derived.Test.YtbjbjbpgmojcbabGreatBookP13
import Derived.Test.YtbjbjbpgmojcbabGreatBookP16
namespace Go.Proofs.YtbjbjbpgmojcbabGreat
open Go.RowKit
set_option maxRecDepth 8000 in
set_option maxHeartbeats 8000000 in
theorem archPuts_any (ad af : Option Addr) (cd cf : Nat) (a : Ar.A) (name text : ByteArray) (dict : Int) (w : World) (h : ArV w ad af a) (hs : SaneA a) (hn : name.size ≤ 140737488355328) (ht : text.size ≤ 140737488355328) (hM : Mx w) :
    Calls Tryz.prog 3 #[av ad cd af cf a, .string name, .string text, .int .i64 dict] w fun e w' => e = .returned (.bool true) ∧ Below w.heap.size w w' := by
  have C1 : Hid (∀ w', Below w.heap.size w w' → Calls Tryz.prog 13 #[av ad cd af cf a, .string name, .string text, .int .i64 dict] w' fun e w2 => ArSaid w' (Ar.putA a name text dict) (Ar.putE a name text dict) e w2) := fun w' h9 => archPut_any ad af cd cf a name text dict w' (h.below h9) hs hn ht
  have C2 : Hid (∀ w', Below w.heap.size w w' → Calls Tryz.prog 14 #[av ad cd af cf a, .string name] w' fun e w2 => ArSaid w' (Ar.dropA a name) (Ar.getE a name) e w2) := fun w' h9 => archDrop_any ad af cd cf a name w' (h.below h9) hs
  have C3 : Hid (∀ w', Below w.heap.size w w' → Calls Tryz.prog 15 #[av ad cd af cf a, .string name, .string text, .int .i64 dict] w' fun e w2 => ArSaid w' (Ar.putA a name text dict) (Ar.putE a name text dict) e w2) := fun w' h9 => putOf_any ad af cd cf a name text dict w' (h.below h9) hs hn
  have C4 : Hid (∀ w', Below w.heap.size w w' → Calls Tryz.prog 16 #[av ad cd af cf a, .string name] w' fun e w2 => ArSaid w' (Ar.dropA a name) (Ar.getE a name) e w2) := fun w' h9 => dropOf_any ad af cd cf a name w' (h.below h9) hs
  have C5 : Hid (∀ w', Below w.heap.size w w' → Calls Tryz.prog 17 #[] w' fun e w2 => e = .returned (.bool true) ∧ Below w'.heap.size w' w2) := fun w' h9 => archBegun_any w' (hM.below h9)
  have C6 : Hid (∀ w', Below w.heap.size w w' → Calls Tryz.prog 18 #[av ad cd af cf a] w' fun e w2 => e = .returned (.int .i64 (Ar.chk a)) ∧ Below w'.heap.size w' w2) := fun w' h9 => archCheck_any ad af cd cf a w' (h.below h9) hs
  have C7 : Hid (∀ w', Below w.heap.size w w' → Calls Tryz.prog 19 #[av ad cd af cf a] w' fun e w2 => e = .returned (.int .i64 (Ar.chk a)) ∧ Below w'.heap.size w' w2) := fun w' h9 => checkArch_any ad af cd cf a w' (h.below h9) hs
  have sB : SaneA (Ar.putA a name text dict) := hs.put hn
  have sC : SaneA (Ar.dropA a name) := hs.drop name
  have K1 : Hid (∀ w' x y p q x' y' p' q', ArV w' x y (Ar.putA a name text dict) → ArV w' x' y' (Ar.putA a name text dict) → Calls Tryz.prog 20 #[av x p y q (Ar.putA a name text dict), av x' p' y' q' (Ar.putA a name text dict)] w' fun e w2 => e = .returned (.bool true) ∧ Below w'.heap.size w' w2) := fun w' x y p q x' y' p' q' hv hv' => same_any x y x' y' p q p' q' _ w' hv hv' sB.nd sB.nf
  have K2 : Hid (∀ w' x y p q x' y' p' q', ArV w' x y (Ar.dropA a name) → ArV w' x' y' (Ar.dropA a name) → Calls Tryz.prog 20 #[av x p y q (Ar.dropA a name), av x' p' y' q' (Ar.dropA a name)] w' fun e w2 => e = .returned (.bool true) ∧ Below w'.heap.size w' w2) := fun w' x y p q x' y' p' q' hv hv' => same_any x y x' y' p q p' q' _ w' hv hv' sC.nd sC.nf
  have O1 : Hid (∀ (w : World) (e : Ending) (w' : World), ArSaid w (Ar.putA a name text dict) (Ar.putE a name text dict) e w' → ∃ x p y q, e = .returned (.tuple #[.agg #[.slice x (Ar.putA a name text dict).dicts.length p, .slice y (Ar.putA a name text dict).files.length q], .int .i64 (Ar.putE a name text dict)]) ∧ ArV w' x y (Ar.putA a name text dict) ∧ Below w.heap.size w w') := fun _ _ _ h => h.open
  have O2 : Hid (∀ (w : World) (e : Ending) (w' : World), ArSaid w (Ar.dropA a name) (Ar.getE a name) e w' → ∃ x p y q, e = .returned (.tuple #[.agg #[.slice x (Ar.dropA a name).dicts.length p, .slice y (Ar.dropA a name).files.length q], .int .i64 (Ar.getE a name)]) ∧ ArV w' x y (Ar.dropA a name) ∧ Below w.heap.size w w') := fun _ _ _ h => h.open
  clear h hs sB sC hM hn ht
  unfold av at C1 C2 C3 C4 C6 C7 K1 K2 ⊢
  generalize Ar.putA a name text dict = b at *
  generalize Ar.putE a name text dict = pe at *
  generalize Ar.dropA a name = c at *
  generalize Ar.getE a name = de at *
  generalize Ar.chk a = ck at *
  generalize a.dicts.length = D at *
  generalize a.files.length = N at *
  generalize b.dicts.length = D1 at *
  generalize b.files.length = N1 at *
  generalize c.dicts.length = D2 at *
  generalize c.files.length = N2 at *
  go_enter Tryz.func3, Tryz.ntmps3
  go_wp2_with fail
  have XA := Bx.new w (.slice ad D cd) (.slice af N cf)
  have B1 := alloc_below w (.cells #[.slice ad D cd, .slice af N cf] 25 (0, 0))
  generalize (w.alloc (.cells #[.slice ad D cd, .slice af N cf] 25 (0, 0))) = u0 at *
  refine (C1.out _ B1).mono ?_
  intro e v1 h1
  obtain ⟨xB, pB, yB, qB, rfl, VB, G⟩ := O1.out _ _ _ h1
  have GA := alloc_below v1 (.cells #[.slice xB D1 pB, .slice yB N1 qB] 25 (0, 0))
  have XA := (XA.next G).next GA
  have VB := VB.below GA
  have XB := Bx.new v1 (.slice xB D1 pB) (.slice yB N1 qB)
  have B1' := bch (bch B1 G (Nat.le_refl _)) GA (Nat.le_refl _)
  have B1 := B1'
  clear B1'
  have x0 := XA.c0
  have x1 := XA.c1
  have hxl := XA.lt
  clear h1 G GA
  generalize hu1 : (v1.alloc (.cells #[.slice xB D1 pB, .slice yB N1 qB] 25 (0, 0))) = u1 at *
  go_wp2_with fail
  clear hu1 x0 x1 hxl
  generalize v1.heap.size = bB at *
  refine (C2.out _ B1).mono ?_
  intro e v2 h1
  obtain ⟨xC, pC, yC, qC, rfl, VC, G⟩ := O2.out _ _ _ h1
  have GA := alloc_below v2 (.cells #[.slice xC D2 pC, .slice yC N2 qC] 25 (0, 0))
  have XA := (XA.next G).next GA
  have XB := (XB.next G).next GA
  have VB := (VB.below G).below GA
  have VC := VC.below GA
  have XC := Bx.new v2 (.slice xC D2 pC) (.slice yC N2 qC)
  have B1' := bch (bch B1 G (Nat.le_refl _)) GA (Nat.le_refl _)
  have B1 := B1'
  clear B1'
  have x0 := XA.c0
  have x1 := XA.c1
  have hxl := XA.lt
  clear h1 G GA
  generalize hu2 : (v2.alloc (.cells #[.slice xC D2 pC, .slice yC N2 qC] 25 (0, 0))) = u2 at *
  go_wp2_with fail
  clear hu2 x0 x1 hxl
  generalize v2.heap.size = bC at *
  refine (C3.out _ B1).mono ?_
  intro e v3 h1
  obtain ⟨xX, pX, yX, qX, rfl, VX, G⟩ := O1.out _ _ _ h1
  have GA := alloc_below v3 (.cells #[.slice xX D1 pX, .slice yX N1 qX] 25 (0, 0))
  have XA := (XA.next G).next GA
  have XB := (XB.next G).next GA
  have XC := (XC.next G).next GA
  have VB := (VB.below G).below GA
  have VC := (VC.below G).below GA
  have VX := VX.below GA
  have XX := Bx.new v3 (.slice xX D1 pX) (.slice yX N1 qX)
  have B1' := bch (bch B1 G (Nat.le_refl _)) GA (Nat.le_refl _)
  have B1 := B1'
  clear B1'
  have x0 := XA.c0
  have x1 := XA.c1
  have hxl := XA.lt
  clear h1 G GA
  generalize hu3 : (v3.alloc (.cells #[.slice xX D1 pX, .slice yX N1 qX] 25 (0, 0))) = u3 at *
  go_wp2_with fail
  clear hu3 x0 x1 hxl
  generalize v3.heap.size = bX at *
  refine (C4.out _ B1).mono ?_
  intro e v4 h1
  obtain ⟨xY, pY, yY, qY, rfl, VY, G⟩ := O2.out _ _ _ h1
  have GA := alloc_below v4 (.cells #[.slice xY D2 pY, .slice yY N2 qY] 25 (0, 0))
  have XA := (XA.next G).next GA
  have XB := (XB.next G).next GA
  have XC := (XC.next G).next GA
  have XX := (XX.next G).next GA
  have VB := (VB.below G).below GA
  have VC := (VC.below G).below GA
  have VX := (VX.below G).below GA
  have VY := VY.below GA
  have XY := Bx.new v4 (.slice xY D2 pY) (.slice yY N2 qY)
  have B1' := bch (bch B1 G (Nat.le_refl _)) GA (Nat.le_refl _)
  have B1 := B1'
  clear B1'
  have x0 := XA.c0
  have x1 := XA.c1
  have hxl := XA.lt
  clear h1 G GA
  generalize hu4 : (v4.alloc (.cells #[.slice xY D2 pY, .slice yY N2 qY] 25 (0, 0))) = u4 at *
  go_wp2_with fail
  clear hu4 x0 x1 hxl
  generalize v4.heap.size = bY at *
  have HS : Hid (∀ w', Below u4.heap.size u4 w' → w'.cell? ⟨w.heap.size, 0, none⟩ = some (.slice ad D cd) ∧ w'.cell? ⟨w.heap.size, 1, none⟩ = some (.slice af N cf) ∧ w'.cell? ⟨bB, 0, none⟩ = some (.slice xB D1 pB) ∧ w'.cell? ⟨bB, 1, none⟩ = some (.slice yB N1 qB) ∧ w'.cell? ⟨bC, 0, none⟩ = some (.slice xC D2 pC) ∧ w'.cell? ⟨bC, 1, none⟩ = some (.slice yC N2 qC) ∧ w'.cell? ⟨bX, 0, none⟩ = some (.slice xX D1 pX) ∧ w'.cell? ⟨bX, 1, none⟩ = some (.slice yX N1 qX) ∧ w'.cell? ⟨bY, 0, none⟩ = some (.slice xY D2 pY) ∧ w'.cell? ⟨bY, 1, none⟩ = some (.slice yY N2 qY)) := fun w' h9 => ⟨(XA.next h9).c0, (XA.next h9).c1, (XB.next h9).c0, (XB.next h9).c1, (XC.next h9).c0, (XC.next h9).c1, (XX.next h9).c0, (XX.next h9).c1, (XY.next h9).c0, (XY.next h9).c1⟩
  have D5 : Hid (∀ w', Below u4.heap.size u4 w' → Calls Tryz.prog 17 #[] w' fun e w2 => e = .returned (.bool true) ∧ Below w'.heap.size w' w2) := fun w' h9 => C5.out w' (bch B1 h9 (Nat.le_refl _))
  have D6 : Hid (∀ w', Below u4.heap.size u4 w' → Calls Tryz.prog 18 #[.agg #[.slice ad D cd, .slice af N cf]] w' fun e w2 => e = .returned (.int .i64 ck) ∧ Below w'.heap.size w' w2) := fun w' h9 => C6.out w' (bch B1 h9 (Nat.le_refl _))
  have D7 : Hid (∀ w', Below u4.heap.size u4 w' → Calls Tryz.prog 19 #[.agg #[.slice ad D cd, .slice af N cf]] w' fun e w2 => e = .returned (.int .i64 ck) ∧ Below w'.heap.size w' w2) := fun w' h9 => C7.out w' (bch B1 h9 (Nat.le_refl _))
  have D8 : Hid (∀ w', Below u4.heap.size u4 w' → Calls Tryz.prog 20 #[.agg #[.slice xB D1 pB, .slice yB N1 qB], .agg #[.slice xX D1 pX, .slice yX N1 qX]] w' fun e w2 => e = .returned (.bool true) ∧ Below w'.heap.size w' w2) := fun w' h9 => K1.out w' _ _ _ _ _ _ _ _ (VB.below h9) (VX.below h9)
  have D9 : Hid (∀ w', Below u4.heap.size u4 w' → Calls Tryz.prog 20 #[.agg #[.slice xC D2 pC, .slice yC N2 qC], .agg #[.slice xY D2 pY, .slice yY N2 qY]] w' fun e w2 => e = .returned (.bool true) ∧ Below w'.heap.size w' w2) := fun w' h9 => K2.out w' _ _ _ _ _ _ _ _ (VC.below h9) (VY.below h9)
  clear XA XB XC XX XY VB VC VX VY C1 C2 C3 C4 C5 C6 C7 K1 K2 O1 O2
  go_region_held3 (fun w' => w'.cell? ⟨w.heap.size, 0, none⟩ = some (.slice ad D cd) ∧ w'.cell? ⟨w.heap.size, 1, none⟩ = some (.slice af N cf) ∧ w'.cell? ⟨bB, 0, none⟩ = some (.slice xB D1 pB) ∧ w'.cell? ⟨bB, 1, none⟩ = some (.slice yB N1 qB) ∧ w'.cell? ⟨bC, 0, none⟩ = some (.slice xC D2 pC) ∧ w'.cell? ⟨bC, 1, none⟩ = some (.slice yC N2 qC) ∧ w'.cell? ⟨bX, 0, none⟩ = some (.slice xX D1 pX) ∧ w'.cell? ⟨bX, 1, none⟩ = some (.slice yX N1 qX) ∧ w'.cell? ⟨bY, 0, none⟩ = some (.slice xY D2 pY) ∧ w'.cell? ⟨bY, 1, none⟩ = some (.slice yY N2 qY))
    (first | (exact HS.out _ ((Below.refl _ _).drew)) | (exact HS.out _ E1) | (exact HS.out _ E2) | (exact HS.out _ E3) | (exact HS.out _ E4) | (exact HS.out _ E5))
    (first
      | (go_at_call 17; refine (D5.out _ ((Below.refl _ _).drew)).mono ?_; rintro e t1 ⟨rfl, G1⟩; have E1 : Below u4.heap.size u4 t1 := bch ((Below.refl _ _).drew) G1 (Nat.le_refl _))
      | (go_at_call 18; refine (D6.out _ E1).mono ?_; rintro e t2 ⟨rfl, G2⟩; have E2 : Below u4.heap.size u4 t2 := bch E1 G2 (Nat.le_refl _))
      | (go_at_call 19; refine (D7.out _ E2).mono ?_; rintro e t3 ⟨rfl, G3⟩; have E3 : Below u4.heap.size u4 t3 := bch E2 G3 (Nat.le_refl _))
      | (go_at_call 20; refine (D8.out _ E3).mono ?_; rintro e t4 ⟨rfl, G4⟩; have E4 : Below u4.heap.size u4 t4 := bch E3 G4 (Nat.le_refl _); clear D8)
      | (go_at_call 20; refine (D9.out _ E4).mono ?_; rintro e t5 ⟨rfl, G5⟩; have E5 : Below u4.heap.size u4 t5 := bch E4 G5 (Nat.le_refl _)))
  all_goals
    have B9 := bch B1 E5 (Nat.le_refl _)
    go_wp2_with fail
    go_ret
    exact ⟨rfl, B9⟩
end Go.Proofs.YtbjbjbpgmojcbabGreat
