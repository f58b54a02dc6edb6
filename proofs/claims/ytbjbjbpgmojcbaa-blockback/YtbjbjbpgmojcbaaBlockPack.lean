/- What block.Pack comes to. -/
import Derived.Test.YtbjbjbpgmojcbaaBlockMin
import Derived.Test.YtbjbjbpgmojcbaaToksParse2
namespace Go.Proofs.Ytbjbjbpgmojcbaa
open Go.RowKit

namespace Bk
/-- What is behind the byte of a block 1. -/
def tk (dict text : ByteArray) : ByteArray := ⟨(tbs (Tk.P (dict ++ text) dict.size dict.size)).toArray⟩
/-- The blocks, one behind the other. -/
def bks (text s : ByteArray) : List ByteArray := if s.size = 0 then [(⟨#[0]⟩ : ByteArray) ++ text, (⟨#[1]⟩ : ByteArray) ++ s] else [(⟨#[0]⟩ : ByteArray) ++ text, (⟨#[1]⟩ : ByteArray) ++ s, (⟨#[2]⟩ : ByteArray) ++ enc s]
/-- What Pack tells. -/
def pak (dict text : ByteArray) : ByteArray × Int := if 256 < dict.size ∨ 512 < text.size then (⟨#[]⟩, 2) else (mnK (bks text (tk dict text)) (bks text (tk dict text)).length, 0)
theorem tk_size {dict text : ByteArray} (hd : dict.size ≤ 256) (ht : text.size ≤ 512) : (tk dict text).size ≤ 1024 := by
  rcases Nat.lt_or_ge 1024 (tk dict text).size with h | h
  · have h1 := read_long0 hd h
    have h2 := read_write (parse_plays dict text hd ht).1
    rw [tk] at h1
    rw [h1] at h2
    cases h2
  · exact h
theorem enc_size (s : ByteArray) (h : s.size ≤ 1024) : (enc s).size ≤ 10000 := by
  have z1 : (⟨(jn (Cd.bld (hv s)).1).toArray⟩ : ByteArray).size = 8 := by
    show (jn _).toArray.size = _
    simp [jn, jnK_len]
  have z2 : (⟨(Nm.nb s.size).toArray⟩ : ByteArray).size ≤ 5 := by
    have := Nm.nb_len5 s.size (by omega)
    show (Nm.nb s.size).toArray.size ≤ _
    simpa using this
  have z3 : (Cd.wrt (Cd.bld (hv s)).1 s).1.size ≤ 5000 := by
    have z : (⟨#[]⟩ : ByteArray).size ≤ 5000 := by decide
    unfold Cd.wrt
    split
    · exact z
    · rename_i hc
      split
      · exact z
      · cases hq : Cd.wrK (Cd.bld (hv s)).1 s s.size with
        | none => exact z
        | some bs =>
          simp only
          rw [Cd.size_pk]
          have := Cd.wrK_len (Cd.chk_zero (Decidable.not_not.1 hc)).1 _ bs hq
          omega
  unfold enc
  rw [ByteArray.size_append, ByteArray.size_append]
  omega
end Bk
theorem info_str : (Try.prog.info? 9).map (fun i => (i.zero, i.size, i.bytes)) = some (some (.string ⟨#[]⟩), 1, 16) := by kernel_rfl
theorem own_lit2 (w : World) (a b : ByteArray) : (w.alloc (.cells #[.string a, .string b] 9)).ownsRow w.heap.size 9 1 (.slice (some ⟨w.heap.size, 0, none⟩) 2 2) 2 [.string a, .string b] :=
  ⟨rfl, .inr ⟨w.heap.size, 2, #[.string a, .string b], rfl, Nat.le_refl _, heap_alloc_last w _, Nat.le_refl _, by decide, rfl, rfl⟩⟩
theorem tx_lit2 (w : World) (a b : ByteArray) : Bk.TxAt (w.alloc (.cells #[.string a, .string b] 9)) w.heap.size [a, b] := by
  refine ⟨by simp, fun i hi => ?_⟩
  rw [cell_of_row _ w.heap.size i _ _ _ (heap_alloc_last w _)]
  match i, hi with
  | 0, _ => rfl
  | 1, _ => rfl
theorem own_tx3 {w : World} {base : Nat} {v : Value} {a b c : ByteArray} (h : w.ownsRow base 9 1 v 3 [.string a, .string b, .string c]) : ∃ g cap, v = .slice (some ⟨g, 0, none⟩) 3 cap ∧ Bk.TxAt w g [a, b, c] := by
  rcases h.2 with ⟨_, h0⟩ | ⟨g, cap, cur, rfl, hb, hg, hnc, hcm, hcs, htk⟩
  · omega
  · refine ⟨g, cap, rfl, (Array.getElem?_eq_some_iff.1 hg).1, fun i hi => ?_⟩
    rw [cell_of_row w g i _ _ _ hg]
    have h1 : cur.toList[i]? = (cur.toList.take (3 * 1))[i]? := by rw [List.getElem?_take, if_pos (by simpa using hi)]
    rw [← Array.getElem?_toList, h1, htk]
    match i, hi with
    | 0, _ => rfl
    | 1, _ => rfl
    | 2, _ => rfl
theorem one_str (x : ByteArray) : ∀ u ∈ [Value.string x], u.oneCell' = true := by intro u hu; simp at hu; subst hu; rfl

set_option maxRecDepth 4000 in
set_option maxHeartbeats 1000000 in
theorem pack_any (dict text : ByteArray) (w : World) (hd0 : dict.size ≤ 140737488355328) (ht0 : text.size ≤ 140737488355328) :
    Calls Try.prog 48 #[.string dict, .string text] w fun e w' => e = .returned (.tuple #[.string (Bk.pak dict text).1, .int .i64 (Bk.pak dict text).2]) ∧ Below w.heap.size w w' := by
  by_cases hm : 256 < dict.size ∨ 512 < text.size
  · have e : Bk.pak dict text = (⟨#[]⟩, 2) := if_pos hm
    rw [e]
    have c1 := fun w => parse_many dict text w hm
    clear e hm
    go_enter Try.func48, Try.ntmps48
    go_wp2_with fail
    refine (c1 _).mono ?_
    rintro e w1 ⟨rfl, G⟩
    go_wp2_with fail
    go_ret2
    exact ⟨rfl, G⟩
  · have hd : dict.size ≤ 256 := by omega
    have ht : text.size ≤ 512 := by omega
    have e : Bk.pak dict text = (Bk.mnK (Bk.bks text (Bk.tk dict text)) (Bk.bks text (Bk.tk dict text)).length, 0) := if_neg hm
    rw [e]
    have c1 := fun w => parse_ok dict text w hd ht
    have q1 := parse_plays dict text hd ht
    have q2 := small_sane (check_small q1.1)
    have z1 := Bk.tk_size hd ht
    have c2 := fun ad cap w hl => write_any dict ad cap (Tk.P (dict ++ text) dict.size dict.size) w hl q2
    have hX : writeOf dict (Tk.P (dict ++ text) dict.size dict.size) = Bk.tk dict text := by unfold writeOf; rw [if_neg (by rw [q1.1]; decide)]; rfl
    rw [q1.1, hX] at c2
    generalize Bk.tk dict text = s at *
    generalize Tk.P (dict ++ text) dict.size dict.size = L at *
    have c3 := fun w => encode_any s w z1
    have z2 := Bk.enc_size s z1
    clear e hm q1 q2 hX
    by_cases hs : s.size = 0
    · have hb : Bk.bks text s = [(⟨#[0]⟩ : ByteArray) ++ text, (⟨#[1]⟩ : ByteArray) ++ s] := if_pos hs
      rw [hb]
      have hs0 : s = ⟨#[]⟩ := by
        apply ByteArray.ext
        exact Array.eq_empty_of_size_eq_zero hs
      have y1 : ((⟨#[0]⟩ : ByteArray) ++ text).size ≤ 1000000 := by rw [ByteArray.size_append]; have : (⟨#[0]⟩ : ByteArray).size = 1 := rfl; omega
      have y2 : ((⟨#[1]⟩ : ByteArray) ++ s).size ≤ 1000000 := by rw [ByteArray.size_append]; have : (⟨#[1]⟩ : ByteArray).size = 1 := rfl; omega
      have hB : ∀ i, (Bk.xa [(⟨#[0]⟩ : ByteArray) ++ text, (⟨#[1]⟩ : ByteArray) ++ s] i).size ≤ 1000000 := fun i => by
        match i with
        | 0 => exact y1
        | 1 => exact y2
        | i + 2 => exact (by decide : (⟨#[]⟩ : ByteArray).size ≤ 1000000)
      have c4 := fun g cap w hx => minFunc_any [(⟨#[0]⟩ : ByteArray) ++ text, (⟨#[1]⟩ : ByteArray) ++ s] g cap w hx (by simp) (by simp) hB
      generalize Bk.mnK [(⟨#[0]⟩ : ByteArray) ++ text, (⟨#[1]⟩ : ByteArray) ++ s] [(⟨#[0]⟩ : ByteArray) ++ text, (⟨#[1]⟩ : ByteArray) ++ s].length = R at *
      have hem : s.toList.isEmpty = true := by rw [hs0, ByteArray.toList_eq]; rfl
      have Hs0 : Hid (s = ⟨#[]⟩) := hs0
      clear hb hB hs0 hs c3 z2
      go_enter Try.func48, Try.ntmps48
      go_wp2_with fail
      refine (c1 _).mono ?_
      rintro e w1 ⟨G1, pd, pc, rfl, Z1⟩
      go_wp2_with fail
      refine (c2 pd pc _ Z1).mono ?_
      rintro e w2 ⟨rfl, G2⟩
      have B2 := bch G1 G2 (Nat.le_refl _)
      clear c1 c2 G1 G2 Z1
      go_wp2_with fail
      have O2 := tx_lit2 w2 ((⟨#[0]⟩ : ByteArray) ++ text) ((⟨#[1]⟩ : ByteArray) ++ s)
      have B3 : Below w.heap.size w (w2.alloc (.cells #[.string ((⟨#[0]⟩ : ByteArray) ++ text), .string ((⟨#[1]⟩ : ByteArray) ++ s)] 9)) := B2.alloc B2.size _
      refine (c4 _ _ _ O2).mono ?_
      rintro e w5 ⟨rfl, G5⟩
      have B6 := bch B3 G5 (Nat.le_refl _)
      go_wp2_with fail
      go_ret2
      exact ⟨rfl, B6⟩
    · have hb : Bk.bks text s = [(⟨#[0]⟩ : ByteArray) ++ text, (⟨#[1]⟩ : ByteArray) ++ s, (⟨#[2]⟩ : ByteArray) ++ Bk.enc s] := if_neg hs
      rw [hb]
      have hne : s.toList.isEmpty = false := by
        rw [ByteArray.toList_eq, Bool.eq_false_iff]
        intro e
        rw [List.isEmpty_iff] at e
        apply hs
        have := congrArg List.length e
        rw [Cd.size_list] at this
        simpa using this
      have y1 : ((⟨#[0]⟩ : ByteArray) ++ text).size ≤ 1000000 := by rw [ByteArray.size_append]; have : (⟨#[0]⟩ : ByteArray).size = 1 := rfl; omega
      have y2 : ((⟨#[1]⟩ : ByteArray) ++ s).size ≤ 1000000 := by rw [ByteArray.size_append]; have : (⟨#[1]⟩ : ByteArray).size = 1 := rfl; omega
      have y3 : ((⟨#[2]⟩ : ByteArray) ++ Bk.enc s).size ≤ 1000000 := by rw [ByteArray.size_append]; have : (⟨#[2]⟩ : ByteArray).size = 1 := rfl; omega
      have hB : ∀ i, (Bk.xa [(⟨#[0]⟩ : ByteArray) ++ text, (⟨#[1]⟩ : ByteArray) ++ s, (⟨#[2]⟩ : ByteArray) ++ Bk.enc s] i).size ≤ 1000000 := fun i => by
        match i with
        | 0 => exact y1
        | 1 => exact y2
        | 2 => exact y3
        | i + 3 => exact (by decide : (⟨#[]⟩ : ByteArray).size ≤ 1000000)
      have c4 := fun g cap w hx => minFunc_any [(⟨#[0]⟩ : ByteArray) ++ text, (⟨#[1]⟩ : ByteArray) ++ s, (⟨#[2]⟩ : ByteArray) ++ Bk.enc s] g cap w hx (by simp) (by simp) hB
      generalize Bk.mnK [(⟨#[0]⟩ : ByteArray) ++ text, (⟨#[1]⟩ : ByteArray) ++ s, (⟨#[2]⟩ : ByteArray) ++ Bk.enc s] [(⟨#[0]⟩ : ByteArray) ++ text, (⟨#[1]⟩ : ByteArray) ++ s, (⟨#[2]⟩ : ByteArray) ++ Bk.enc s].length = R at *
      generalize Bk.enc s = en at *
      clear hb hB
      go_enter Try.func48, Try.ntmps48
      go_wp2_with fail
      refine (c1 _).mono ?_
      rintro e w1 ⟨G1, pd, pc, rfl, Z1⟩
      go_wp2_with fail
      refine (c2 pd pc _ Z1).mono ?_
      rintro e w2 ⟨rfl, G2⟩
      have B2 := bch G1 G2 (Nat.le_refl _)
      clear c1 c2 G1 G2 Z1
      go_wp2_with fail
      have O2 := own_lit2 w2 ((⟨#[0]⟩ : ByteArray) ++ text) ((⟨#[1]⟩ : ByteArray) ++ s)
      have B3 : Below w.heap.size w (w2.alloc (.cells #[.string ((⟨#[0]⟩ : ByteArray) ++ text), .string ((⟨#[1]⟩ : ByteArray) ++ s)] 9)) := B2.alloc B2.size _
      have Hg2 : Hid (w.heap.size ≤ w2.heap.size ∧ w2.heap.size < (w2.alloc (.cells #[.string ((⟨#[0]⟩ : ByteArray) ++ text), .string ((⟨#[1]⟩ : ByteArray) ++ s)] 9)).heap.size) := ⟨B2.size, by simp⟩
      generalize w2.alloc (.cells #[.string ((⟨#[0]⟩ : ByteArray) ++ text), .string ((⟨#[1]⟩ : ByteArray) ++ s)] 9) = wa at *
      generalize w2.heap.size = g2 at *
      obtain ⟨t0, et0⟩ : ∃ t, (⟨#[0]⟩ : ByteArray) ++ text = t := ⟨_, rfl⟩
      obtain ⟨t1, et1⟩ : ∃ t, (⟨#[1]⟩ : ByteArray) ++ s = t := ⟨_, rfl⟩
      rw [et0, et1] at c4 O2
      rw [et0] at y1
      rw [et1] at y2
      rw [et0, et1]
      clear et0 et1
      refine (c3 _).mono ?_
      rintro e w3 ⟨rfl, G3⟩
      have O3 := own_below O2 G3
      have B4 := bch B3 G3 (Nat.le_refl _)
      have hg3 : g2 ≤ w3.heap.size := by have := Hg2.out; have := G3.size; omega
      clear O2 B3 G3 c3 B2
      obtain ⟨i0, hi, hz0, hz1, hz2⟩ := info_parts info_str
      go_wp2_with (at_builtin; go_must (refine wpList_append_own _ rfl _ _ 106 rfl g2 9 i0 (.string ⟨#[]⟩) 1 16 Try.underlying106 hi hz0 hz1 hz2 rfl (by decide) _ _ _ rfl (O3.alloc _) ⟨w3.heap.size, 0, none⟩ 1 1 [.string ((⟨#[2]⟩ : ByteArray) ++ en)] rfl rfl (cell_one_new _ _ _) (one_str _) (ml_le (by omega)) (by omega) (by simp; omega) ?_; intro v' w4 hown' hgrow _))
      obtain ⟨g, cap, hv, hx⟩ := own_tx3 hown'
      subst hv
      have B5 : Below w.heap.size w w4 := (B4.alloc B4.size _).grown hgrow (by have := B4.size; simp; omega) (fun k hk => by have h9 := (O3.lt k hk).1; have h8 := Hg2.out.1; omega)
      refine (c4 g cap _ hx).mono ?_
      rintro e w5 ⟨rfl, G5⟩
      have B6 := bch B5 G5 (Nat.le_refl _)
      go_wp2_with fail
      go_ret2
      exact ⟨rfl, B6⟩
end Go.Proofs.Ytbjbjbpgmojcbaa
