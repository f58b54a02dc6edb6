/- What the document's own Pack comes to. -/
import Derived.Test.YtbjbjbpgmojcbaaRefThird
import Derived.Test.YtbjbjbpgmojcbaaToksParseOf
import Derived.Test.YtbjbjbpgmojcbaaBlockBackMath
namespace Go.Proofs.Ytbjbjbpgmojcbaa
open Go.RowKit
set_option linter.unusedVariables false

namespace Bk
def bst (text s : ByteArray) : ByteArray := if s.size < text.size then (⟨#[1]⟩ : ByteArray) ++ s else (⟨#[0]⟩ : ByteArray) ++ text
theorem min_bks (text s : ByteArray) : mnK (bks text s) (bks text s).length = if s.size = 0 then bst text s else if ((⟨#[2]⟩ : ByteArray) ++ enc s).size < (bst text s).size then (⟨#[2]⟩ : ByteArray) ++ enc s else bst text s := by
  have e2 : ∀ r, mnK (((⟨#[0]⟩ : ByteArray) ++ text) :: ((⟨#[1]⟩ : ByteArray) ++ s) :: r) 2 = bst text s := by
    intro r
    rw [mnK, mnK_one]
    show (if ((⟨#[1]⟩ : ByteArray) ++ s).size < ((⟨#[0]⟩ : ByteArray) ++ text).size then (⟨#[1]⟩ : ByteArray) ++ s else (⟨#[0]⟩ : ByteArray) ++ text) = _
    rw [one_size, one_size, bst]
    by_cases h : s.size < text.size
    · rw [if_pos (by omega), if_pos h]
    · rw [if_neg (by omega), if_neg h]
  unfold bks
  by_cases h0 : s.size = 0
  · rw [if_pos h0, if_pos h0]
    exact e2 []
  · rw [if_neg h0, if_neg h0]
    show mnK _ 3 = _
    rw [mnK, e2]
    rfl
end Bk
theorem tokBytes_P (dict text : ByteArray) (hd : dict.size ≤ 256) (ht : text.size ≤ 512) (ad : Option Addr) (cap : Nat) (w : World) (h : SlAt w ad (Tk.P (dict ++ text) dict.size dict.size)) :
    Calls Try.prog 34 #[.slice ad (Tk.P (dict ++ text) dict.size dict.size).length cap] w fun e w' => e = .returned (.string (Bk.tk dict text)) ∧ Below w.heap.size w w' :=
  tokBytes_any ad cap _ w h (check_small (parse_plays dict text hd ht).1)

set_option maxRecDepth 4000 in
set_option maxHeartbeats 1000000 in
theorem packOf_110 (dict text s : ByteArray) (w : World) (hd : dict.size ≤ 256) (ht : text.size ≤ 512) (hS : Bk.tk dict text = s) (hs : s.size ≤ 1024) (hp : s.size < text.size) (hz : s.size = 0) :
    Calls Try.prog 49 #[.string dict, .string text] w fun e w' => e = .returned (.string ((⟨#[1]⟩ : ByteArray) ++ s)) ∧ Below w.heap.size w w' := by
  have c1 := fun w => parseOf_ok dict text w hd ht
  have c2 := fun ad cap w h => tokBytes_P dict text hd ht ad cap w h
  rw [hS] at c2
  have c3 := fun w => third_any s w hs
  have z2 := Bk.enc_size s hs
  have x0 := Bk.one_size 0 text
  have x1 := Bk.one_size 1 s
  have x2 := Bk.one_size 2 (Bk.enc s)
  generalize Tk.P (dict ++ text) dict.size dict.size = L at *
  generalize (⟨#[2]⟩ : ByteArray) ++ Bk.enc s = T at *
  generalize Bk.enc s = En at *
  have hT : T.size ≤ 20000 := by omega
  have hT' : (T.size : Int) ≤ 20000 := by omega
  have hs' : (s.size : Int) ≤ 1024 := by omega
  have ht' : (text.size : Int) ≤ 512 := by omega
  have hw1 : wrap64 ((s.size : Int) + 1) = (s.size : Int) + 1 := w64 (by omega) (by omega)
  have hp1 : decide ((s.size : Int) + 1 < (text.size : Int) + 1) = true := by simp; omega
  have hp3 : decide ((s.size : Int) < (text.size : Int)) = true := by simp; omega
  have hp2 : decide ((s.size : Int) + 1 < 1 + (text.size : Int)) = true := by simp; omega
  have hp4 : (s.size : Int) + 1 < 1 + (text.size : Int) := by omega
  have hs0 : s = ⟨#[]⟩ := by
    apply ByteArray.ext
    exact Array.eq_empty_of_size_eq_zero hz
  have hem : s.toList.isEmpty = true := by rw [hs0, ByteArray.toList_eq]; rfl
  clear hs0 hS hz c3
  clear hp hd ht hs x0 x1
  go_enter Try.func49, Try.ntmps49
  go_wp2_with fail
  refine (c1 _).mono ?_
  rintro e w1 ⟨G1, ad, cap, rfl, S1⟩
  go_wp2_with fail
  refine (c2 ad cap _ S1).mono ?_
  rintro e w2 ⟨rfl, G2⟩
  have B2 := bch G1 G2 (Nat.le_refl _)
  clear G1 G2 S1 c1 c2
  go_wp2_with fail
  go_ret
  exact ⟨rfl, B2⟩

set_option maxRecDepth 4000 in
set_option maxHeartbeats 1000000 in
theorem packOf_100 (dict text s : ByteArray) (w : World) (hd : dict.size ≤ 256) (ht : text.size ≤ 512) (hS : Bk.tk dict text = s) (hs : s.size ≤ 1024) (hp : ¬ s.size < text.size) (hz : s.size = 0) :
    Calls Try.prog 49 #[.string dict, .string text] w fun e w' => e = .returned (.string ((⟨#[0]⟩ : ByteArray) ++ text)) ∧ Below w.heap.size w w' := by
  have c1 := fun w => parseOf_ok dict text w hd ht
  have c2 := fun ad cap w h => tokBytes_P dict text hd ht ad cap w h
  rw [hS] at c2
  have c3 := fun w => third_any s w hs
  have z2 := Bk.enc_size s hs
  have x0 := Bk.one_size 0 text
  have x1 := Bk.one_size 1 s
  have x2 := Bk.one_size 2 (Bk.enc s)
  generalize Tk.P (dict ++ text) dict.size dict.size = L at *
  generalize (⟨#[2]⟩ : ByteArray) ++ Bk.enc s = T at *
  generalize Bk.enc s = En at *
  have hT : T.size ≤ 20000 := by omega
  have hT' : (T.size : Int) ≤ 20000 := by omega
  have hs' : (s.size : Int) ≤ 1024 := by omega
  have ht' : (text.size : Int) ≤ 512 := by omega
  have hw1 : wrap64 ((s.size : Int) + 1) = (s.size : Int) + 1 := w64 (by omega) (by omega)
  have hp1 : decide ((s.size : Int) + 1 < (text.size : Int) + 1) = false := by simp; omega
  have hp3 : decide ((s.size : Int) < (text.size : Int)) = false := by simp; omega
  have hp2 : decide ((s.size : Int) + 1 < 1 + (text.size : Int)) = false := by simp; omega
  have hp4 : 1 + (text.size : Int) ≤ (s.size : Int) + 1 := by omega
  have hs0 : s = ⟨#[]⟩ := by
    apply ByteArray.ext
    exact Array.eq_empty_of_size_eq_zero hz
  have hem : s.toList.isEmpty = true := by rw [hs0, ByteArray.toList_eq]; rfl
  clear hs0 hS hz c3
  clear hp hd ht hs x0 x1
  go_enter Try.func49, Try.ntmps49
  go_wp2_with fail
  refine (c1 _).mono ?_
  rintro e w1 ⟨G1, ad, cap, rfl, S1⟩
  go_wp2_with fail
  refine (c2 ad cap _ S1).mono ?_
  rintro e w2 ⟨rfl, G2⟩
  have B2 := bch G1 G2 (Nat.le_refl _)
  clear G1 G2 S1 c1 c2
  go_wp2_with fail
  go_ret
  exact ⟨rfl, B2⟩

set_option maxRecDepth 4000 in
set_option maxHeartbeats 1000000 in
theorem packOf_011 (dict text s : ByteArray) (w : World) (hd : dict.size ≤ 256) (ht : text.size ≤ 512) (hS : Bk.tk dict text = s) (hs : s.size ≤ 1024) (hp : s.size < text.size) (hz : s.size ≠ 0) (hr : (Bk.enc s).size + 1 < s.size + 1) :
    Calls Try.prog 49 #[.string dict, .string text] w fun e w' => e = .returned (.string ((⟨#[2]⟩ : ByteArray) ++ Bk.enc s)) ∧ Below w.heap.size w w' := by
  have c1 := fun w => parseOf_ok dict text w hd ht
  have c2 := fun ad cap w h => tokBytes_P dict text hd ht ad cap w h
  rw [hS] at c2
  have c3 := fun w => third_any s w hs
  have z2 := Bk.enc_size s hs
  have x0 := Bk.one_size 0 text
  have x1 := Bk.one_size 1 s
  have x2 := Bk.one_size 2 (Bk.enc s)
  generalize Tk.P (dict ++ text) dict.size dict.size = L at *
  generalize (⟨#[2]⟩ : ByteArray) ++ Bk.enc s = T at *
  generalize Bk.enc s = En at *
  have hT : T.size ≤ 20000 := by omega
  have hT' : (T.size : Int) ≤ 20000 := by omega
  have hs' : (s.size : Int) ≤ 1024 := by omega
  have ht' : (text.size : Int) ≤ 512 := by omega
  have hw1 : wrap64 ((s.size : Int) + 1) = (s.size : Int) + 1 := w64 (by omega) (by omega)
  have hp1 : decide ((s.size : Int) + 1 < (text.size : Int) + 1) = true := by simp; omega
  have hp3 : decide ((s.size : Int) < (text.size : Int)) = true := by simp; omega
  have hp2 : decide ((s.size : Int) + 1 < 1 + (text.size : Int)) = true := by simp; omega
  have hp4 : (s.size : Int) + 1 < 1 + (text.size : Int) := by omega
  have hem : s.toList.isEmpty = false := by
    rw [ByteArray.toList_eq]
    cases hq : s.data.toList with
    | nil => exact absurd (by rw [← Cd.size_list, hq]; rfl) hz
    | cons a b => rfl
  have hr1 : decide ((T.size : Int) < 1 + (s.size : Int)) = true := by rw [x2]; simp; omega
  have hr2 : (T.size : Int) < 1 + (s.size : Int) := by omega
  clear hS hr hz x2 z2
  clear hp hd ht hs x0 x1
  go_enter Try.func49, Try.ntmps49
  go_wp2_with fail
  refine (c1 _).mono ?_
  rintro e w1 ⟨G1, ad, cap, rfl, S1⟩
  go_wp2_with fail
  refine (c2 ad cap _ S1).mono ?_
  rintro e w2 ⟨rfl, G2⟩
  have B2 := bch G1 G2 (Nat.le_refl _)
  clear G1 G2 S1 c1 c2
  go_wp2_with fail
  refine (c3 _).mono ?_
  rintro e w3 ⟨rfl, G3⟩
  have B3 := bch B2 G3 (Nat.le_refl _)
  clear B2 G3 c3
  go_wp2_with fail
  go_ret
  exact ⟨rfl, B3⟩

set_option maxRecDepth 4000 in
set_option maxHeartbeats 1000000 in
theorem packOf_010 (dict text s : ByteArray) (w : World) (hd : dict.size ≤ 256) (ht : text.size ≤ 512) (hS : Bk.tk dict text = s) (hs : s.size ≤ 1024) (hp : s.size < text.size) (hz : s.size ≠ 0) (hr : ¬ (Bk.enc s).size + 1 < s.size + 1) :
    Calls Try.prog 49 #[.string dict, .string text] w fun e w' => e = .returned (.string ((⟨#[1]⟩ : ByteArray) ++ s)) ∧ Below w.heap.size w w' := by
  have c1 := fun w => parseOf_ok dict text w hd ht
  have c2 := fun ad cap w h => tokBytes_P dict text hd ht ad cap w h
  rw [hS] at c2
  have c3 := fun w => third_any s w hs
  have z2 := Bk.enc_size s hs
  have x0 := Bk.one_size 0 text
  have x1 := Bk.one_size 1 s
  have x2 := Bk.one_size 2 (Bk.enc s)
  generalize Tk.P (dict ++ text) dict.size dict.size = L at *
  generalize (⟨#[2]⟩ : ByteArray) ++ Bk.enc s = T at *
  generalize Bk.enc s = En at *
  have hT : T.size ≤ 20000 := by omega
  have hT' : (T.size : Int) ≤ 20000 := by omega
  have hs' : (s.size : Int) ≤ 1024 := by omega
  have ht' : (text.size : Int) ≤ 512 := by omega
  have hw1 : wrap64 ((s.size : Int) + 1) = (s.size : Int) + 1 := w64 (by omega) (by omega)
  have hp1 : decide ((s.size : Int) + 1 < (text.size : Int) + 1) = true := by simp; omega
  have hp3 : decide ((s.size : Int) < (text.size : Int)) = true := by simp; omega
  have hp2 : decide ((s.size : Int) + 1 < 1 + (text.size : Int)) = true := by simp; omega
  have hp4 : (s.size : Int) + 1 < 1 + (text.size : Int) := by omega
  have hem : s.toList.isEmpty = false := by
    rw [ByteArray.toList_eq]
    cases hq : s.data.toList with
    | nil => exact absurd (by rw [← Cd.size_list, hq]; rfl) hz
    | cons a b => rfl
  have hr1 : decide ((T.size : Int) < 1 + (s.size : Int)) = false := by rw [x2]; simp; omega
  have hr2 : 1 + (s.size : Int) ≤ (T.size : Int) := by omega
  clear hS hr hz x2 z2
  clear hp hd ht hs x0 x1
  go_enter Try.func49, Try.ntmps49
  go_wp2_with fail
  refine (c1 _).mono ?_
  rintro e w1 ⟨G1, ad, cap, rfl, S1⟩
  go_wp2_with fail
  refine (c2 ad cap _ S1).mono ?_
  rintro e w2 ⟨rfl, G2⟩
  have B2 := bch G1 G2 (Nat.le_refl _)
  clear G1 G2 S1 c1 c2
  go_wp2_with fail
  refine (c3 _).mono ?_
  rintro e w3 ⟨rfl, G3⟩
  have B3 := bch B2 G3 (Nat.le_refl _)
  clear B2 G3 c3
  go_wp2_with fail
  go_ret
  exact ⟨rfl, B3⟩

set_option maxRecDepth 4000 in
set_option maxHeartbeats 1000000 in
theorem packOf_001 (dict text s : ByteArray) (w : World) (hd : dict.size ≤ 256) (ht : text.size ≤ 512) (hS : Bk.tk dict text = s) (hs : s.size ≤ 1024) (hp : ¬ s.size < text.size) (hz : s.size ≠ 0) (hr : (Bk.enc s).size + 1 < text.size + 1) :
    Calls Try.prog 49 #[.string dict, .string text] w fun e w' => e = .returned (.string ((⟨#[2]⟩ : ByteArray) ++ Bk.enc s)) ∧ Below w.heap.size w w' := by
  have c1 := fun w => parseOf_ok dict text w hd ht
  have c2 := fun ad cap w h => tokBytes_P dict text hd ht ad cap w h
  rw [hS] at c2
  have c3 := fun w => third_any s w hs
  have z2 := Bk.enc_size s hs
  have x0 := Bk.one_size 0 text
  have x1 := Bk.one_size 1 s
  have x2 := Bk.one_size 2 (Bk.enc s)
  generalize Tk.P (dict ++ text) dict.size dict.size = L at *
  generalize (⟨#[2]⟩ : ByteArray) ++ Bk.enc s = T at *
  generalize Bk.enc s = En at *
  have hT : T.size ≤ 20000 := by omega
  have hT' : (T.size : Int) ≤ 20000 := by omega
  have hs' : (s.size : Int) ≤ 1024 := by omega
  have ht' : (text.size : Int) ≤ 512 := by omega
  have hw1 : wrap64 ((s.size : Int) + 1) = (s.size : Int) + 1 := w64 (by omega) (by omega)
  have hp1 : decide ((s.size : Int) + 1 < (text.size : Int) + 1) = false := by simp; omega
  have hp3 : decide ((s.size : Int) < (text.size : Int)) = false := by simp; omega
  have hp2 : decide ((s.size : Int) + 1 < 1 + (text.size : Int)) = false := by simp; omega
  have hp4 : 1 + (text.size : Int) ≤ (s.size : Int) + 1 := by omega
  have hem : s.toList.isEmpty = false := by
    rw [ByteArray.toList_eq]
    cases hq : s.data.toList with
    | nil => exact absurd (by rw [← Cd.size_list, hq]; rfl) hz
    | cons a b => rfl
  have hr1 : decide ((T.size : Int) < 1 + (text.size : Int)) = true := by rw [x2]; simp; omega
  have hr2 : (T.size : Int) < 1 + (text.size : Int) := by omega
  clear hS hr hz x2 z2
  clear hp hd ht hs x0 x1
  go_enter Try.func49, Try.ntmps49
  go_wp2_with fail
  refine (c1 _).mono ?_
  rintro e w1 ⟨G1, ad, cap, rfl, S1⟩
  go_wp2_with fail
  refine (c2 ad cap _ S1).mono ?_
  rintro e w2 ⟨rfl, G2⟩
  have B2 := bch G1 G2 (Nat.le_refl _)
  clear G1 G2 S1 c1 c2
  go_wp2_with fail
  refine (c3 _).mono ?_
  rintro e w3 ⟨rfl, G3⟩
  have B3 := bch B2 G3 (Nat.le_refl _)
  clear B2 G3 c3
  go_wp2_with fail
  go_ret
  exact ⟨rfl, B3⟩

set_option maxRecDepth 4000 in
set_option maxHeartbeats 1000000 in
theorem packOf_000 (dict text s : ByteArray) (w : World) (hd : dict.size ≤ 256) (ht : text.size ≤ 512) (hS : Bk.tk dict text = s) (hs : s.size ≤ 1024) (hp : ¬ s.size < text.size) (hz : s.size ≠ 0) (hr : ¬ (Bk.enc s).size + 1 < text.size + 1) :
    Calls Try.prog 49 #[.string dict, .string text] w fun e w' => e = .returned (.string ((⟨#[0]⟩ : ByteArray) ++ text)) ∧ Below w.heap.size w w' := by
  have c1 := fun w => parseOf_ok dict text w hd ht
  have c2 := fun ad cap w h => tokBytes_P dict text hd ht ad cap w h
  rw [hS] at c2
  have c3 := fun w => third_any s w hs
  have z2 := Bk.enc_size s hs
  have x0 := Bk.one_size 0 text
  have x1 := Bk.one_size 1 s
  have x2 := Bk.one_size 2 (Bk.enc s)
  generalize Tk.P (dict ++ text) dict.size dict.size = L at *
  generalize (⟨#[2]⟩ : ByteArray) ++ Bk.enc s = T at *
  generalize Bk.enc s = En at *
  have hT : T.size ≤ 20000 := by omega
  have hT' : (T.size : Int) ≤ 20000 := by omega
  have hs' : (s.size : Int) ≤ 1024 := by omega
  have ht' : (text.size : Int) ≤ 512 := by omega
  have hw1 : wrap64 ((s.size : Int) + 1) = (s.size : Int) + 1 := w64 (by omega) (by omega)
  have hp1 : decide ((s.size : Int) + 1 < (text.size : Int) + 1) = false := by simp; omega
  have hp3 : decide ((s.size : Int) < (text.size : Int)) = false := by simp; omega
  have hp2 : decide ((s.size : Int) + 1 < 1 + (text.size : Int)) = false := by simp; omega
  have hp4 : 1 + (text.size : Int) ≤ (s.size : Int) + 1 := by omega
  have hem : s.toList.isEmpty = false := by
    rw [ByteArray.toList_eq]
    cases hq : s.data.toList with
    | nil => exact absurd (by rw [← Cd.size_list, hq]; rfl) hz
    | cons a b => rfl
  have hr1 : decide ((T.size : Int) < 1 + (text.size : Int)) = false := by rw [x2]; simp; omega
  have hr2 : 1 + (text.size : Int) ≤ (T.size : Int) := by omega
  clear hS hr hz x2 z2
  clear hp hd ht hs x0 x1
  go_enter Try.func49, Try.ntmps49
  go_wp2_with fail
  refine (c1 _).mono ?_
  rintro e w1 ⟨G1, ad, cap, rfl, S1⟩
  go_wp2_with fail
  refine (c2 ad cap _ S1).mono ?_
  rintro e w2 ⟨rfl, G2⟩
  have B2 := bch G1 G2 (Nat.le_refl _)
  clear G1 G2 S1 c1 c2
  go_wp2_with fail
  refine (c3 _).mono ?_
  rintro e w3 ⟨rfl, G3⟩
  have B3 := bch B2 G3 (Nat.le_refl _)
  clear B2 G3 c3
  go_wp2_with fail
  go_ret
  exact ⟨rfl, B3⟩

theorem packOf_ok (dict text : ByteArray) (w : World) (hd : dict.size ≤ 256) (ht : text.size ≤ 512) :
    Calls Try.prog 49 #[.string dict, .string text] w fun e w' => e = .returned (.string (Bk.pak dict text).1) ∧ Below w.heap.size w w' := by
  have e : (Bk.pak dict text).1 = Bk.mnK (Bk.bks text (Bk.tk dict text)) (Bk.bks text (Bk.tk dict text)).length := by rw [Bk.pak, if_neg (by omega)]
  rw [e, Bk.min_bks]
  have hs := Bk.tk_size hd ht
  have h1 := Bk.one_size 1 (Bk.tk dict text)
  have h0 := Bk.one_size 0 text
  have h2 := Bk.one_size 2 (Bk.enc (Bk.tk dict text))
  unfold Bk.bst
  by_cases hp : (Bk.tk dict text).size < text.size
  · rw [if_pos hp]
    by_cases hz : (Bk.tk dict text).size = 0
    · rw [if_pos hz]
      exact packOf_110 dict text _ w hd ht rfl hs hp hz
    · rw [if_neg hz]
      by_cases hr : (Bk.enc (Bk.tk dict text)).size + 1 < (Bk.tk dict text).size + 1
      · rw [if_pos (by rw [h1, h2]; exact hr)]
        exact packOf_011 dict text _ w hd ht rfl hs hp hz hr
      · rw [if_neg (by rw [h1, h2]; exact hr)]
        exact packOf_010 dict text _ w hd ht rfl hs hp hz hr
  · rw [if_neg hp]
    by_cases hz : (Bk.tk dict text).size = 0
    · rw [if_pos hz]
      exact packOf_100 dict text _ w hd ht rfl hs hp hz
    · rw [if_neg hz]
      by_cases hr : (Bk.enc (Bk.tk dict text)).size + 1 < text.size + 1
      · rw [if_pos (by rw [h0, h2]; exact hr)]
        exact packOf_001 dict text _ w hd ht rfl hs hp hz hr
      · rw [if_neg (by rw [h0, h2]; exact hr)]
        exact packOf_000 dict text _ w hd ht rfl hs hp hz hr
end Go.Proofs.Ytbjbjbpgmojcbaa
