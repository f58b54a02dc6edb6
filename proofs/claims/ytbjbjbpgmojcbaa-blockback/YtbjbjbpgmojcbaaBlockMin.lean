/- The shortest of several texts: slices.MinFunc as block.Pack calls it. -/
import Derived.Test.YtbjbjbpgmojcbaaBlockUnpack
namespace Go.Proofs.Ytbjbjbpgmojcbaa
open Go.RowKit

namespace Bk
def xa (xs : List ByteArray) (i : Nat) : ByteArray := xs.getD i ⟨#[]⟩
/-- The first of the shortest of the first i. -/
def mnK (xs : List ByteArray) : Nat → ByteArray
  | 0 => xa xs 0
  | i + 1 => if (xa xs i).size < (mnK xs i).size then xa xs i else mnK xs i
theorem mnK_one (xs : List ByteArray) : mnK xs 1 = xa xs 0 := by rw [mnK, mnK, if_neg (by omega)]
/-- Texts that lie in a row. -/
def TxAt (w : World) (g : Nat) (xs : List ByteArray) : Prop := g < w.heap.size ∧ ∀ i, i < xs.length → w.cell? ⟨g, i, none⟩ = some (.string (xa xs i))
theorem TxAt.below {w w' : World} {g : Nat} {xs : List ByteArray} (h : TxAt w g xs) (hb : Below w.heap.size w w') : TxAt w' g xs := ⟨Nat.lt_of_lt_of_le h.1 hb.size, fun i hi => by rw [← h.2 i hi]; exact hb.cell (p := ⟨g, i, none⟩) h.1⟩
theorem mnK_size {xs : List ByteArray} {B : Nat} (h : ∀ i, (xa xs i).size ≤ B) : ∀ i, (mnK xs i).size ≤ B := by
  intro i
  induction i with
  | zero => exact h 0
  | succ i ih =>
    rw [mnK]
    split
    · exact h i
    · exact ih
end Bk

set_option maxHeartbeats 400000 in
theorem packLess_any (a b : ByteArray) (w : World) (ha : a.size ≤ 140737488355328) (hb : b.size ≤ 140737488355328) :
    Calls Try.prog 77 #[.string a, .string b] w fun e w' => e = .returned (.int .i64 ((a.size : Int) - (b.size : Int))) ∧ Below w.heap.size w w' := by
  have ha' : (a.size : Int) ≤ 140737488355328 := by omega
  have hb' : (b.size : Int) ≤ 140737488355328 := by omega
  go_enter Try.func77, Try.ntmps77
  go_wp2_with fail
  go_ret
  exact ⟨rfl, Below.refl _ _⟩

set_option maxRecDepth 4000 in
set_option maxHeartbeats 1000000 in
theorem minFunc_any (xs : List ByteArray) (g cap : Nat) (w : World) (hx : Bk.TxAt w g xs) (hn : 1 ≤ xs.length) (hn2 : xs.length ≤ 1000) (hB : ∀ i, (Bk.xa xs i).size ≤ 1000000) :
    Calls Try.prog 76 #[.slice (some ⟨g, 0, none⟩) xs.length cap, .func (.func 77) #[] #[]] w fun e w' => e = .returned (.string (Bk.mnK xs xs.length)) ∧ Below w.heap.size w w' := by
  have HX : Hid (∀ w', Bk.TxAt w' g xs → ∀ i, i < xs.length → w'.cell? ⟨g, i, none⟩ = some (.string (Bk.xa xs i))) := fun w' h => h.2
  have c0 := HX.out w hx 0 (by omega)
  have HB : Hid (∀ i, (Bk.xa xs i).size ≤ 1000000) := hB
  obtain ⟨r, hr⟩ : ∃ r, Bk.mnK xs xs.length = r := ⟨_, rfl⟩
  rw [hr]
  have Hr : Hid (Bk.mnK xs xs.length = r) := hr
  have HM1 : Hid (Bk.mnK xs 1 = Bk.xa xs 0) := Bk.mnK_one xs
  have dn : decide ((xs.length : Int) < 1) = false := decide_eq_false (by omega)
  have dn' : decide (xs.length < 1) = false := decide_eq_false (by omega)
  have hn' : (1 : Int) ≤ (xs.length : Int) := by omega
  have hn3 : (0 : Int) < (xs.length : Int) := by omega
  clear hr hB
  go_enter Try.func76, Try.ntmps76
  go_wp2_with fail
  go_loopw [5, 6] (fun m i wr => ∃ k : Nat, 1 ≤ k ∧ k ≤ xs.length ∧ i = .int .i64 k ∧ m = .string (Bk.mnK xs k) ∧ Bk.TxAt wr g xs ∧ Below w.heap.size w wr) (fun _ i _ => xs.length - (intOf i).toNat)
  case atStart => exact ⟨1, by omega, hn, rfl, by rw [HM1.out], hx, Below.refl _ _⟩
  case round =>
    clear c0 hx
    obtain ⟨k, hk1, hk2, rfl, rfl, hx, B1⟩ := hrel
    by_cases hlt : k < xs.length
    · have d1 : decide ((k : Int) < (xs.length : Int)) = true := by simp; omega
      have d1' : decide (k < xs.length) = true := by simp; omega
      have hki : (k : Int) < (xs.length : Int) := by omega
      have c1 := HX.out wr hx k hlt
      have z1 := HB.out k
      have z2 := Bk.mnK_size HB.out k
      have c2 := fun w => packLess_any (Bk.xa xs k) (Bk.mnK xs k) w (by omega) (by omega)
      have HN : Hid (Bk.mnK xs (k + 1) = if (Bk.xa xs k).size < (Bk.mnK xs k).size then Bk.xa xs k else Bk.mnK xs k) := rfl
      obtain ⟨X, hXe⟩ : ∃ X, Bk.xa xs k = X := ⟨_, rfl⟩
      rw [hXe] at c1 z1 c2 HN
      have HXk : Hid (Bk.xa xs k = X) := hXe
      clear hXe
      generalize Bk.mnK xs k = M at *
      by_cases hs : X.size < M.size
      · have d2 : decide ((X.size : Int) - (M.size : Int) < 0) = true := decide_eq_true (by omega)
        have HN2 : Hid (Bk.mnK xs (k + 1) = X) := HN.out.trans (if_pos hs)
        clear HN
        go_wp2_with fail
        refine (c2 _).mono ?_
        rintro e w2 ⟨rfl, G⟩
        have x2 := hx.below G
        have B2 := bch B1 G (Nat.le_refl _)
        have c3 := HX.out w2 x2 k hlt
        rw [show Bk.xa xs k = X from HXk.out] at c3
        clear hx B1 G c2 c1
        go_wp2_with fail
        go_roundw
        case rel => exact ⟨k + 1, by omega, by omega, by go_num, by rw [HN2.out], x2, B2⟩
        case measure => simp [intOf]; omega
      · have d2 : decide ((X.size : Int) - (M.size : Int) < 0) = false := decide_eq_false (by omega)
        have HN2 : Hid (Bk.mnK xs (k + 1) = M) := HN.out.trans (if_neg hs)
        clear HN
        go_wp2_with fail
        refine (c2 _).mono ?_
        rintro e w2 ⟨rfl, G⟩
        have x2 := hx.below G
        have B2 := bch B1 G (Nat.le_refl _)
        clear hx B1 G c2 c1
        go_wp2_with fail
        go_roundw
        case rel => exact ⟨k + 1, by omega, by omega, by go_num, by rw [HN2.out], x2, B2⟩
        case measure => simp [intOf]; omega
    · obtain rfl : k = xs.length := by omega
      have d1 : decide ((xs.length : Int) < (xs.length : Int)) = false := by simp
      have d1' : decide (xs.length < xs.length) = false := by simp
      rw [Hr.out]
      go_wp2_with fail
      go_ret
      exact ⟨rfl, B1⟩
end Go.Proofs.Ytbjbjbpgmojcbaa
