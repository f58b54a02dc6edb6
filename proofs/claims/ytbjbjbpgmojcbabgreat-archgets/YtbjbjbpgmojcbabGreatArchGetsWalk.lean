/- A part of the proof: what it leans on. -/
import Derived.Test.YtbjbjbpgmojcbabGreatBook13
import Derived.Test.YtbjbjbpgmojcbabGreatBook14
namespace Go.Proofs.YtbjbjbpgmojcbabGreat
open Go.RowKit
set_option maxRecDepth 4000 in
set_option maxHeartbeats 2000000 in
theorem archGets_any (ad af : Option Addr) (cd cf : Nat) (a : Ar.A) (name : ByteArray) (i n : Int) (w : World) (h : ArV w ad af a) (hs : SaneA a) (_hn : name.size ≤ 140737488355328) (hi : -9223372036854775808 ≤ i ∧ i ≤ 9223372036854775807) (hk : -9223372036854775808 ≤ n ∧ n ≤ 9223372036854775807) (hM : Mx w) :
    Calls Tryz.prog 4 #[av ad cd af cf a, .string name, .int .i64 i, .int .i64 n] w fun e w' => e = .returned (.bool true) ∧ Below w.heap.size w w' := by
  have C1 : Hid (∀ w', Below w.heap.size w w' → Calls Tryz.prog 21 #[av ad cd af cf a, .string name] w' fun e w2 => e = .returned (.tuple #[.string (Ar.getT a name), .int .i64 (Ar.getE a name)]) ∧ Below w'.heap.size w' w2) := fun w' h9 => archGet_any ad af cd cf a name w' (h.below h9) hs
  have C2 : Hid (∀ w', Below w.heap.size w w' → Calls Tryz.prog 22 #[av ad cd af cf a, .string name, .int .i64 i, .int .i64 n] w' fun e w2 => e = .returned (.tuple #[.string (Ar.rngT a name i n), .int .i64 (Ar.rngE a name i n)]) ∧ Below w'.heap.size w' w2) := fun w' h9 => archRange_any ad af cd cf a name i n w' (h.below h9) hs hi hk
  have C3 : Hid (∀ w', Below w.heap.size w w' → Calls Tryz.prog 23 #[av ad cd af cf a, .string name] w' fun e w2 => e = .returned (.tuple #[.string (Ar.getT a name), .int .i64 (Ar.getE a name)]) ∧ Below w'.heap.size w' w2) := fun w' h9 => getOf_from ad af cd cf a name w' (h.below h9) hs (fun w2 h8 => checkArch_any ad af cd cf a w2 (h.below (bch h9 h8 (Nat.le_refl _))) hs)
  have C4 : Hid (∀ w', Below w.heap.size w w' → Calls Tryz.prog 24 #[av ad cd af cf a, .string name, .int .i64 i, .int .i64 n] w' fun e w2 => e = .returned (.tuple #[.string (Ar.rngT a name i n), .int .i64 (Ar.rngE a name i n)]) ∧ Below w'.heap.size w' w2) := fun w' h9 => rangeOf_from ad af cd cf a name i n w' (h.below h9) hs hi hk (fun w2 h8 => checkArch_any ad af cd cf a w2 (h.below (bch h9 h8 (Nat.le_refl _))) hs)
  have C5 : Hid (∀ w', Below w.heap.size w w' → Calls Tryz.prog 17 #[] w' fun e w2 => e = .returned (.bool true) ∧ Below w'.heap.size w' w2) := fun w' h9 => archBegun_any w' (hM.below h9)
  unfold av at C1 C2 C3 C4 ⊢
  clear h hs hM
  generalize Ar.getT a name = gt at *
  generalize Ar.getE a name = ge at *
  generalize Ar.rngT a name i n = rt at *
  generalize Ar.rngE a name i n = re at *
  generalize a.dicts.length = D at *
  generalize a.files.length = N at *
  go_enter Tryz.func4, Tryz.ntmps4
  go_wp2_with fail
  have X1 := Bx.new w (.slice ad D cd) (.slice af N cf)
  have B1 := alloc_below w (.cells #[.slice ad D cd, .slice af N cf] 25 (0, 0))
  generalize (w.alloc (.cells #[.slice ad D cd, .slice af N cf] 25 (0, 0))) = w1 at *
  refine (C1.out _ B1).mono ?_
  rintro e w2 ⟨rfl, G⟩
  have X2 := X1.next G
  have B2 := bch B1 G (Nat.le_refl _)
  have x0 := X2.c0
  have x1 := X2.c1
  clear G X1 B1 C1
  go_wp2_with fail
  refine (C2.out _ B2).mono ?_
  rintro e w3 ⟨rfl, G⟩
  have X3 := X2.next G
  have B3 := bch B2 G (Nat.le_refl _)
  clear x0 x1
  have x0 := X3.c0
  have x1 := X3.c1
  clear G X2 B2 C2
  go_wp2_with fail
  refine (C3.out _ B3).mono ?_
  rintro e w4 ⟨rfl, G⟩
  have X4 := X3.next G
  have B4 := bch B3 G (Nat.le_refl _)
  clear x0 x1
  have x0 := X4.c0
  have x1 := X4.c1
  clear G X3 B3 C3
  go_wp2_with fail
  refine (C4.out _ B4).mono ?_
  rintro e w5 ⟨rfl, G⟩
  have B5 := bch B4 G (Nat.le_refl _)
  clear G X4 B4 C4 x0 x1
  go_wp2_with fail
  refine (C5.out _ B5).mono ?_
  rintro e w6 ⟨rfl, G⟩
  have B6 := bch B5 G (Nat.le_refl _)
  clear G B5 C5
  go_wp2_with fail
  go_ret
  exact ⟨rfl, B6⟩
end Go.Proofs.YtbjbjbpgmojcbabGreat
