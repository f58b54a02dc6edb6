/- TrainTells: every call of Count and Train, as the document has them. -/
import Derived.Test.YtbjbjbpgmojcbabTrainBegun
namespace Go.Proofs.Ytbjbjbpgmojcbab
open Go.RowKit

set_option maxRecDepth 4000 in
set_option maxHeartbeats 8000000 in
theorem trainTells_any (xs : List ByteArray) (ad : Option Addr) (cap : Nat) (p : ByteArray) (size : Int) (w : World) (hx : TxSl w ad xs) (hB : ∀ i, (Tr.xa xs i).size ≤ 140737488355328) (hp : p.size ≤ 140737488355328) (hM : Mx w) :
    Calls Try.prog 3 #[.slice ad xs.length cap, .string p, .int .i64 size] w fun e w' => e = .returned (.bool true) ∧ Below w.heap.size w w' := by
  have HX : Hid (∀ w', Below w.heap.size w w' → TxSl w' ad xs) := fun w' h => hx.below h
  have HM : Hid (∀ w', Below w.heap.size w w' → Mx w') := fun w' h => hM.below h
  clear hM
  cases hm : Tr.many xs with
  | true =>
    have hX : True := trivial
    have c1 := fun w hx => count_many xs p ad cap w hx hB hm
    have c2 := fun w hx => train_many xs size ad cap w hx hB hm
    have c3 := fun w hx => textsError_any xs ad cap w hx
    rw [hm] at c3
    clear hX hB hm
    go_enter Try.func3, Try.ntmps3
    go_wp2_with fail
    refine (c1 _ hx).mono ?_
    rintro e w1 ⟨rfl, B1⟩
    clear c1
    go_wp2_with fail
    refine (c2 _ (HX.out _ B1)).mono ?_
    rintro e w2 ⟨rfl, G⟩
    replace B1 := bch B1 G (Nat.le_refl _)
    clear c2 G
    go_wp2_with fail
    refine (c3 _ (HX.out _ B1)).mono ?_
    rintro e w3 ⟨rfl, G⟩
    replace B1 := bch B1 G (Nat.le_refl _)
    clear c3 G
    go_wp2_with fail
    refine (trainBegun_any _ (HM.out _ B1)).mono ?_
    rintro e w6 ⟨rfl, G⟩
    replace B1 := bch B1 G (Nat.le_refl _)
    clear G
    go_wp2_with fail
    go_ret
    exact ⟨by simp, B1⟩
  | false =>
    have hX := Tr.many_false hm
    by_cases hp4 : p.size = 4
    · by_cases hsz : 0 ≤ size ∧ size ≤ 256
      · have c1 := fun w hx hM => count_any xs p ad cap w hx hB hM
        have en : Tr.cnN xs p = Tr.ct xs p := by simp [Tr.cnN, Tr.cnE, hm, hp4]
        have ee : Tr.cnE xs p = 0 := by simp [Tr.cnE, hm, hp4]
        rw [en, ee] at c1
        have c4 := fun w hx => countOf_any xs p ad cap w hx hX.1 hp hB
        have hcl : (Tr.ct xs p : Int) ≤ 12 := by have := Tr.ctK_le xs p xs.length; have := hX.1; show ((Tr.ctK xs p xs.length : Nat) : Int) ≤ 12; omega
        change ∀ w, TxSl w ad xs → Calls _ _ _ _ fun e w' => e = .returned (.int .i64 (Tr.ct xs p : Nat)) ∧ _ at c4
        generalize Tr.ct xs p = N at c1 c4 hcl
        have h4' : (p.size : Int) = 4 := by omega
        have d1 : ((p.size : Int) != 4) = false := by simpa using h4'
        have d2 : (p.size == 4) = true := by simpa using hp4
        clear en ee
        have c2 := fun w hx hM => train_ok xs size ad cap w hx hB hM hm hsz.1 hsz.2
        have c5 := fun w hx => trainOf_any xs size ad cap w hx hX.1 hX.2 hsz.1 hsz.2
        have hRs : (Tr.trn xs size.toNat).size ≤ 256 := by have := (Tr.trn_good xs size.toNat).most; have := hsz.1; have := hsz.2; omega
        generalize Tr.trn xs size.toNat = R at c2 c5 hRs
        have e0 : decide (size < 0) = false := decide_eq_false (by omega)
        have e1 : decide ((256 : Int) < size) = false := decide_eq_false (by omega)
        have c3 := fun w hx => textsError_any xs ad cap w hx
        rw [hm] at c3
        clear hX hB hm
        go_enter Try.func3, Try.ntmps3
        go_wp2_with fail
        refine (c1 _ hx (HM.out _ (Below.refl _ _))).mono ?_
        rintro e w1 ⟨rfl, B1⟩
        clear c1
        go_wp2_with fail
        refine (c2 _ (HX.out _ B1) (HM.out _ B1)).mono ?_
        rintro e w2 ⟨rfl, G⟩
        replace B1 := bch B1 G (Nat.le_refl _)
        clear c2 G
        go_wp2_with fail
        refine (c3 _ (HX.out _ B1)).mono ?_
        rintro e w3 ⟨rfl, G⟩
        replace B1 := bch B1 G (Nat.le_refl _)
        clear c3 G
        go_wp2_with fail
        refine (c4 _ (HX.out _ B1)).mono ?_
        rintro e w4 ⟨rfl, G⟩
        replace B1 := bch B1 G (Nat.le_refl _)
        clear c4 G
        go_wp2_with fail
        refine (c5 _ (HX.out _ B1)).mono ?_
        rintro e w5 ⟨rfl, G⟩
        replace B1 := bch B1 G (Nat.le_refl _)
        clear c5 G
        go_wp2_with fail
        refine (trainBegun_any _ (HM.out _ B1)).mono ?_
        rintro e w6 ⟨rfl, G⟩
        replace B1 := bch B1 G (Nat.le_refl _)
        clear G
        go_wp2_with fail
        go_ret
        exact ⟨by simp, B1⟩
      · have c1 := fun w hx hM => count_any xs p ad cap w hx hB hM
        have en : Tr.cnN xs p = Tr.ct xs p := by simp [Tr.cnN, Tr.cnE, hm, hp4]
        have ee : Tr.cnE xs p = 0 := by simp [Tr.cnE, hm, hp4]
        rw [en, ee] at c1
        have c4 := fun w hx => countOf_any xs p ad cap w hx hX.1 hp hB
        have hcl : (Tr.ct xs p : Int) ≤ 12 := by have := Tr.ctK_le xs p xs.length; have := hX.1; show ((Tr.ctK xs p xs.length : Nat) : Int) ≤ 12; omega
        change ∀ w, TxSl w ad xs → Calls _ _ _ _ fun e w' => e = .returned (.int .i64 (Tr.ct xs p : Nat)) ∧ _ at c4
        generalize Tr.ct xs p = N at c1 c4 hcl
        have h4' : (p.size : Int) = 4 := by omega
        have d1 : ((p.size : Int) != 4) = false := by simpa using h4'
        have d2 : (p.size == 4) = true := by simpa using hp4
        clear en ee
        have c2 := fun w hx => train_range xs size ad cap w hx hB hm (by omega)
        have e0 : decide (size < 0) = true ∨ (decide (size < 0) = false ∧ decide ((256 : Int) < size) = true) := by by_cases h : size < 0 <;> simp [h]; omega
        have c3 := fun w hx => textsError_any xs ad cap w hx
        rw [hm] at c3
        clear hX hB hm
        rcases e0 with e0 | ⟨e0, e1⟩
        all_goals
          go_enter Try.func3, Try.ntmps3
          go_wp2_with fail
          refine (c1 _ hx (HM.out _ (Below.refl _ _))).mono ?_
          rintro e w1 ⟨rfl, B1⟩
          clear c1
          go_wp2_with fail
          refine (c2 _ (HX.out _ B1)).mono ?_
          rintro e w2 ⟨rfl, G⟩
          replace B1 := bch B1 G (Nat.le_refl _)
          clear c2 G
          go_wp2_with fail
          refine (c3 _ (HX.out _ B1)).mono ?_
          rintro e w3 ⟨rfl, G⟩
          replace B1 := bch B1 G (Nat.le_refl _)
          clear c3 G
          go_wp2_with fail
          refine (c4 _ (HX.out _ B1)).mono ?_
          rintro e w4 ⟨rfl, G⟩
          replace B1 := bch B1 G (Nat.le_refl _)
          clear c4 G
          go_wp2_with fail
          refine (trainBegun_any _ (HM.out _ B1)).mono ?_
          rintro e w6 ⟨rfl, G⟩
          replace B1 := bch B1 G (Nat.le_refl _)
          clear G
          go_wp2_with fail
          go_ret
          exact ⟨by simp, B1⟩
    · by_cases hsz : 0 ≤ size ∧ size ≤ 256
      · have c1 := fun w hx => count_range xs p ad cap w hx hB hm hp4
        have h4' : ¬ (p.size : Int) = 4 := by omega
        have d1 : ((p.size : Int) != 4) = true := by simpa using h4'
        have d2 : (p.size == 4) = false := by simpa using hp4
        have d3 : ((p.size : Int) == 4) = false := by simpa using h4'
        have c2 := fun w hx hM => train_ok xs size ad cap w hx hB hM hm hsz.1 hsz.2
        have c5 := fun w hx => trainOf_any xs size ad cap w hx hX.1 hX.2 hsz.1 hsz.2
        have hRs : (Tr.trn xs size.toNat).size ≤ 256 := by have := (Tr.trn_good xs size.toNat).most; have := hsz.1; have := hsz.2; omega
        generalize Tr.trn xs size.toNat = R at c2 c5 hRs
        have e0 : decide (size < 0) = false := decide_eq_false (by omega)
        have e1 : decide ((256 : Int) < size) = false := decide_eq_false (by omega)
        have c3 := fun w hx => textsError_any xs ad cap w hx
        rw [hm] at c3
        clear hX hB hm
        go_enter Try.func3, Try.ntmps3
        go_wp2_with fail
        refine (c1 _ hx).mono ?_
        rintro e w1 ⟨rfl, B1⟩
        clear c1
        go_wp2_with fail
        refine (c2 _ (HX.out _ B1) (HM.out _ B1)).mono ?_
        rintro e w2 ⟨rfl, G⟩
        replace B1 := bch B1 G (Nat.le_refl _)
        clear c2 G
        go_wp2_with fail
        refine (c3 _ (HX.out _ B1)).mono ?_
        rintro e w3 ⟨rfl, G⟩
        replace B1 := bch B1 G (Nat.le_refl _)
        clear c3 G
        go_wp2_with fail
        refine (c5 _ (HX.out _ B1)).mono ?_
        rintro e w5 ⟨rfl, G⟩
        replace B1 := bch B1 G (Nat.le_refl _)
        clear c5 G
        go_wp2_with fail
        refine (trainBegun_any _ (HM.out _ B1)).mono ?_
        rintro e w6 ⟨rfl, G⟩
        replace B1 := bch B1 G (Nat.le_refl _)
        clear G
        go_wp2_with fail
        go_ret
        exact ⟨by simp, B1⟩
      · have c1 := fun w hx => count_range xs p ad cap w hx hB hm hp4
        have h4' : ¬ (p.size : Int) = 4 := by omega
        have d1 : ((p.size : Int) != 4) = true := by simpa using h4'
        have d2 : (p.size == 4) = false := by simpa using hp4
        have d3 : ((p.size : Int) == 4) = false := by simpa using h4'
        have c2 := fun w hx => train_range xs size ad cap w hx hB hm (by omega)
        have e0 : decide (size < 0) = true ∨ (decide (size < 0) = false ∧ decide ((256 : Int) < size) = true) := by by_cases h : size < 0 <;> simp [h]; omega
        have c3 := fun w hx => textsError_any xs ad cap w hx
        rw [hm] at c3
        clear hX hB hm
        rcases e0 with e0 | ⟨e0, e1⟩
        all_goals
          go_enter Try.func3, Try.ntmps3
          go_wp2_with fail
          refine (c1 _ hx).mono ?_
          rintro e w1 ⟨rfl, B1⟩
          clear c1
          go_wp2_with fail
          refine (c2 _ (HX.out _ B1)).mono ?_
          rintro e w2 ⟨rfl, G⟩
          replace B1 := bch B1 G (Nat.le_refl _)
          clear c2 G
          go_wp2_with fail
          refine (c3 _ (HX.out _ B1)).mono ?_
          rintro e w3 ⟨rfl, G⟩
          replace B1 := bch B1 G (Nat.le_refl _)
          clear c3 G
          go_wp2_with fail
          refine (trainBegun_any _ (HM.out _ B1)).mono ?_
          rintro e w6 ⟨rfl, G⟩
          replace B1 := bch B1 G (Nat.le_refl _)
          clear G
          go_wp2_with fail
          go_ret
          exact ⟨by simp, B1⟩
end Go.Proofs.Ytbjbjbpgmojcbab
