/- What the order of train.ranked comes to: falling counts, and of one count rising bytes. -/
import Derived.Test.YtbjbjbpgmojcbabTrainCounted
namespace Go.Proofs.Ytbjbjbpgmojcbab
open Go.RowKit Go.Maps Go.WideMaps

namespace Tr
def cmpf (xs : List ByteArray) (a b : ByteArray) : Int := if ct xs a = ct xs b then Lib.compareBytes a.data.toList b.data.toList else (ct xs b : Int) - (ct xs a : Int)
theorem cmpf_lt (xs : List ByteArray) (a b : ByteArray) : decide (cmpf xs a b < 0) = lt xs a b := by
  unfold cmpf lt
  by_cases h : ct xs a = ct xs b
  · rw [if_pos h, cmpB_bl]; simp [h]
  · rw [if_neg h]
    by_cases h2 : ct xs b < ct xs a
    · simp [h2]; omega
    · rw [decide_eq_false h2, Bool.false_or, show (ct xs a == ct xs b) = false from by simpa using h, Bool.false_and]; exact decide_eq_false (by omega)
theorem CM.at_is {xs : List ByteArray} {D : DataW Unit} (h3 : ∀ q : ByteArray, q.size = 4 → D.atKey (kl q) (i64 0) = i64 (ct xs q)) (p : ByteArray) (hp : p.size = 4) (c : Int) (h9 : D.atKey (kl p) (.lit (.int .i64 0)) = .lit (.int .i64 c)) : c = (ct xs p : Int) := by
  have h8 := h9.symm.trans (h3 p hp)
  simpa [i64] using h8
end Tr

set_option maxRecDepth 4000 in
set_option maxHeartbeats 1000000 in
theorem rankCmp_any (xs : List ByteArray) (hn : xs.length ≤ 12) (a b : ByteArray) (ha : a.size = 4) (hb : b.size = 4) (bx mb : Nat) (w : World) (hc : w.cell? ⟨bx, 0, none⟩ = some (.map (some mb))) (hC : Tr.CM w mb 6144 (Tr.ct xs)) :
    Calls Try.prog 24 #[.string a, .string b, .pointer (some ⟨bx, 0, none⟩)] w fun e w' => e = .returned (.int .i64 (Tr.cmpf xs a b)) ∧ w' = w := by
  obtain ⟨D, hown, hD2, hD3, hD4⟩ := hC
  have hka : keyOf Try.prog 9 (.string a) = some (Tr.kl a) := keyOf_string_mk Try.underlying9 (by rw [ha]; decide)
  have hkb : keyOf Try.prog 9 (.string b) = some (Tr.kl b) := keyOf_string_mk Try.underlying9 (by rw [hb]; decide)
  have hata := Tr.CM.at_is hD3 a ha
  have hatb := Tr.CM.at_is hD3 b hb
  have l1 := Tr.ctK_le xs a xs.length
  have l2 := Tr.ctK_le xs b xs.length
  have c9 := Try.strings_Compare a b w
  unfold Tr.cmpf
  change Tr.ct xs a ≤ _ at l1
  change Tr.ct xs b ≤ _ at l2
  generalize Tr.ct xs a = A at *
  generalize Tr.ct xs b = B at *
  have hA : (A : Int) ≤ 12 := by omega
  have hB : (B : Int) ≤ 12 := by omega
  clear hD2 hD3 hD4 ha hb
  by_cases h : A = B
  · subst h
    rw [if_pos rfl]
    generalize Lib.compareBytes a.data.toList b.data.toList = r at *
    go_enter Try.func24, Try.ntmps24
    go_wp2_with (first
      | (at_lookup; refine wpList_lookup_own_int _ rfl _ _ 41 rfl 9 3 .i64 keyS Try.underlying41 Try.underlying3 (zeroI _) mb 6144 _ rfl hown _ _ rfl hka ?_; intro c hat hwc; obtain rfl := hata c hat; clear hat hwc)
      | (at_lookup; refine wpList_lookup_own_int _ rfl _ _ 41 rfl 9 3 .i64 keyS Try.underlying41 Try.underlying3 (zeroI _) mb 6144 _ rfl hown _ _ rfl hkb ?_; intro c hat hwc; obtain rfl := hatb c hat; clear hat hwc)
      | fail)
    refine c9.mono ?_
    rintro e w2 ⟨rfl, rfl⟩
    go_wp2_with fail
    go_ret
    exact ⟨rfl, rfl⟩
  · rw [if_neg h]
    have h' : ¬ (A : Int) = (B : Int) := by omega
    have d1 : decide ((A : Int) = (B : Int)) = false := decide_eq_false h'
    have d2 : ((A : Int) == (B : Int)) = false := by simpa using h'
    have d3 : ((A : Int) != (B : Int)) = true := by simpa using h'
    go_enter Try.func24, Try.ntmps24
    go_wp2_with (first
      | (at_lookup; refine wpList_lookup_own_int _ rfl _ _ 41 rfl 9 3 .i64 keyS Try.underlying41 Try.underlying3 (zeroI _) mb 6144 _ rfl hown _ _ rfl hka ?_; intro c hat hwc; obtain rfl := hata c hat; clear hat hwc)
      | (at_lookup; refine wpList_lookup_own_int _ rfl _ _ 41 rfl 9 3 .i64 keyS Try.underlying41 Try.underlying3 (zeroI _) mb 6144 _ rfl hown _ _ rfl hkb ?_; intro c hat hwc; obtain rfl := hatb c hat; clear hat hwc)
      | fail)
    go_ret
    exact ⟨rfl, rfl⟩
end Go.Proofs.Ytbjbjbpgmojcbab
