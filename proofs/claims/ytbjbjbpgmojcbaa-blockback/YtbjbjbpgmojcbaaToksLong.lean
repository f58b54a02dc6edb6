/- What toks' longest finds. -/
import Derived.Test.YtbjbjbpgmojcbaaToksGroups
import Derived.Test.YtbjbjbpgmojcbaaToksCome
namespace Go.Proofs.Ytbjbjbpgmojcbaa
open Go.RowKit Go.Maps Go.ChangeShapes

theorem past_look {w : World} {base gp bm r : Nat} {No : Nat → Prop} {s k : ByteArray} (h : PastAt w base gp bm No s r) (hr : r < 1000000) (hk : k.size ≤ maxLen) :
    ∃ ad cap, (∀ w', w'.heap[bm]? = w.heap[bm]? → (Instr.lookup 78 (.map (some bm)) (.string k) false).run Try.prog w' = .ok (.slice ad (Tk.plc s.data.toList k.data.toList r).length cap) w') ∧
      (Tk.plc s.data.toList k.data.toList r = [] ∨ ∃ g, ad = some ⟨g, 0, none⟩ ∧ ∀ i p, (Tk.plc s.data.toList k.data.toList r)[i]? = some p → w.cell? ⟨g, i, none⟩ = some (.int .i64 (p : Nat))) := by
  obtain ⟨D, hm, ho, hsh, hrd⟩ := h.map
  have hr2 : r < maxLen := by unfold maxLen; omega
  obtain ⟨v, zs, hrun, hat, hoi, hzl, hback⟩ := ho.at slaw Try.underlying78 (zeroInts w) hr2 (skey k hk)
  have hz : zs = (Tk.plc s.data.toList k.data.toList r).map (fun p : Nat => (p : Int)) := lits_inj ((items_row hoi).symm.trans ((congrArg items hat).symm.trans (hrd k.data.toList)))
  subst hz
  have hrun' : ∀ w', w'.heap[bm]? = w.heap[bm]? → (Instr.lookup 78 (.map (some bm)) (.string k) false).run Try.prog w' = .ok v w' := fun w' hw' => by
    obtain ⟨es, clock, hb, F, _⟩ := ho
    exact look_same slaw Try.underlying78 (zeroInts w) (zeroInts w') hb hw' F (skey k hk) hrun
  rcases hoi.1.2 with ⟨rfl, h0⟩ | ⟨g, cap, cur, rfl, _⟩
  · have h1 : Tk.plc s.data.toList k.data.toList r = [] := List.eq_nil_of_length_eq_zero (by simpa using h0)
    refine ⟨none, 0, fun w' hw' => ?_, .inl h1⟩
    rw [h1]
    exact hrun' w' hw'
  · refine ⟨some ⟨g, 0, none⟩, cap, fun w' hw' => ?_, .inr ⟨g, rfl, fun i p hp => ?_⟩⟩
    · have := hrun' w' hw'
      simpa using this
    · have hi : i < (Tk.plc s.data.toList k.data.toList r).length := (List.getElem?_eq_some_iff.1 hp).1
      have := hoi.1.cellAt i (by simpa using hi)
      rw [this]
      simp [hp]

/-- A piece of a text. -/
theorem slice_at (s : ByteArray) (i j : Int) (a b : Nat) (hi : i = (a : Int)) (hj : j = (b : Int)) (hab : a ≤ b) (hb : b ≤ s.size) (w : World) : (Instr.slice 9 (.string s) (some (.int .i64 i)) (some (.int .i64 j)) none).run Try.prog w = .ok (.string (s.extract a b)) w := by
  subst hi hj
  have := run_slice_string (P := Try.prog) w 9 s .i64 .i64 (a : Int) (b : Int) Try.underlying9 (by omega) (by omega) (by omega)
  simpa using this

set_option maxRecDepth 4000 in
set_option maxHeartbeats 1000000 in
theorem longest_short (gp : Nat) (s : ByteArray) (a : Nat) (w : World) (hc : w.cell? ⟨gp, 0, none⟩ = some (.string s)) (hs : s.size ≤ 2000) (hm : s.size < a + 3) (ha : a ≤ s.size) :
    Calls Try.prog 59 #[.pointer (some ⟨gp, 0, none⟩), .int .i64 a] w fun e w' => e = .returned (.tuple #[.int .i64 0, .int .i64 0]) ∧ ∃ n, w' = w.drewN n := by
  have _hs := hs
  have hw : IntKind.i64.wrap ((s.size : Int) - (a : Int)) = (s.size : Int) - (a : Int) := IntWalk.i64_in _ ⟨by omega, by omega⟩
  have d1 : decide ((s.size : Int) - (a : Int) < 3) = true := by simp; omega
  go_enter Try.func59, Try.ntmps59
  go_wp2_with fail
  go_ret2
  exact ⟨rfl, 0, rfl⟩

theorem fold_take {l : List UInt8} {a m j p : Nat} {zs : List Nat} {b : Nat × Nat} (h : zs[j]? = some p) : ((zs.take (j + 1)).reverse).foldl (Tk.stp l a m) b = ((zs.take j).reverse).foldl (Tk.stp l a m) (Tk.stp l a m b p) := by
  rw [List.take_add_one, h]
  simp

set_option maxRecDepth 4000 in
set_option maxHeartbeats 2000000 in
theorem longest_many (gp bm g cap : Nat) (s : ByteArray) (a m : Nat) (zs : List Nat) (ad : Option Addr) (w : World) (hc : w.cell? ⟨gp, 0, none⟩ = some (.string s)) (hc1 : w.cell? ⟨gp, 1, none⟩ = some (.map (some bm))) (hs : s.size ≤ 2000) (hm : a + 3 ≤ s.size)
    (hmm : Hid (m = min 64 (s.size - a))) (hz : zs.length ≤ 2000)
    (hlk : ∀ w', w'.heap[bm]? = w.heap[bm]? → (Instr.lookup 78 (.map (some bm)) (.string (s.extract a (a + 3))) false).run Try.prog w' = .ok (.slice ad zs.length cap) w')
    (hcl : zs = [] ∨ (ad = some ⟨g, 0, none⟩ ∧ ∀ i p, zs[i]? = some p → p < a ∧ w.cell? ⟨g, i, none⟩ = some (.int .i64 (p : Nat)))) :
    Calls Try.prog 59 #[.pointer (some ⟨gp, 0, none⟩), .int .i64 a] w fun e w' => e = .returned (.tuple #[.int .i64 ((zs.reverse.foldl (Tk.stp s.data.toList a m) (0, 0)).1 : Nat), .int .i64 ((zs.reverse.foldl (Tk.stp s.data.toList a m) (0, 0)).2 : Nat)]) ∧ ∃ n, w' = w.drewN n := by
  have hw : IntKind.i64.wrap ((s.size : Int) - (a : Int)) = (s.size : Int) - (a : Int) := IntWalk.i64_in _ ⟨by omega, by omega⟩
  have hw2 : IntKind.i64.wrap ((a : Int) + 3) = (a : Int) + 3 := IntWalk.i64_in _ ⟨by omega, by omega⟩
  have d1 : decide ((m : Int) < 3) = false := by have := hmm.out; simp; omega
  have hmin : min ((s.size : Int) - (a : Int)) 64 = (m : Int) := by have := hmm.out; omega
  have hlk1 : ∀ n, (Instr.lookup 78 (.map (some bm)) (.string (s.extract a (a + 3))) false).run Try.prog (w.drewN n) = .ok (.slice ad zs.length cap) (w.drewN n) := fun n => hlk _ rfl
  have hsl := slice_at s (a : Int) ((a : Int) + 3) a (a + 3) rfl (by omega) (by omega) (by omega)
  have hsn : ¬ (64 : Int) < (m : Int) := by have := hmm.out; omega
  obtain ⟨bb, hbb⟩ : ∃ bb, zs.reverse.foldl (Tk.stp s.data.toList a m) (0, 0) = bb := ⟨_, rfl⟩
  rw [hbb]
  have HB : Hid (zs.reverse.foldl (Tk.stp s.data.toList a m) (0, 0) = bb) := hbb
  clear hbb hlk
  go_enter Try.func59, Try.ntmps59
  go_wp2_with fail
  go_quiet (fail)
  go_wp2_with fail
  go_loopw [10, 7, 8, 11] (fun x y z _ wr => ∃ (i : Int) (j far n : Nat), x = .int .i64 i ∧ Hid (i = (j : Int) - 1) ∧ j ≤ zs.length ∧ y = .int .i64 far ∧ z = .int .i64 n ∧ far ≤ a ∧ n ≤ m ∧ Hid (((zs.take j).reverse).foldl (Tk.stp s.data.toList a m) (far, n) = bb) ∧ ∃ k, wr = w.drewN k) (fun x _ _ _ _ => (intOf x + 1).toNat)
  case atStart => exact ⟨_, zs.length, 0, 0, rfl, rfl, Nat.le_refl _, rfl, rfl, by omega, by omega, by show _ = _; rw [List.take_length]; exact HB.out, _, rfl⟩
  case round =>
    obtain ⟨i, j, far, n, rfl, hi, hj, rfl, rfl, hfar, hn, hfold, kk, rfl⟩ := hrel
    cases j with
    | zero =>
      have h1 : i = -1 := by have := hi.out; omega
      subst h1
      have HE : Hid (bb = (far, n)) := by
        show _ = _
        rw [← hfold.out]; rfl
      clear hfold hcl hi
      go_wp2_with fail
      go_ret2
      rw [HE.out]
      exact ⟨rfl, _, rfl⟩
    | succ j =>
      have h1 : i = (j : Int) := by have := hi.out; omega
      subst h1
      clear hi
      by_cases hfull : n < m
      · have d2 : decide ((n : Int) < (m : Int)) = true := by simp; omega
        have d2' : decide (n < m) = true := by simp; omega
        obtain ⟨p, hp⟩ : ∃ p, zs[j]? = some p := ⟨zs[j], List.getElem?_eq_getElem (by omega)⟩
        rcases hcl with h0 | ⟨rfl, hcell⟩
        · rw [h0] at hj; simp at hj
        · obtain ⟨hpa, hce⟩ := hcell j p hp
          have hfs := fold_take (l := s.data.toList) (a := a) (m := m) (b := (far, n)) hp
          have hcd : (w.drewN kk).cell? ⟨gp, 0, none⟩ = some (.string s) := hc
          have hced : ∀ k, (w.drewN k).cell? ⟨g, j, none⟩ = some (.int .i64 (p : Nat)) := fun _ => hce
          have hm3 := hmm.out
          have hal := alike_any gp s p a m (w.drewN kk) hcd hs (by omega) (by omega)
          have hjl : j < zs.length := by omega
          have hjl2 : (j : Int) < (zs.length : Int) := by omega
          have hkm := Tk.alk_le s.data.toList m p a
          have hwp : IntKind.i64.wrap ((a : Int) - (p : Int)) = (a : Int) - (p : Int) := IntWalk.i64_in _ ⟨by omega, by omega⟩
          obtain ⟨k, hk⟩ : ∃ k, Tk.alk s.data.toList p a m = k := ⟨_, rfl⟩
          rw [hk] at hal hkm
          by_cases hbig : n < k
          · have HF : Hid (((zs.take j).reverse).foldl (Tk.stp s.data.toList a m) (a - p, k) = bb) := by
              show _ = _
              rw [← hfold.out, hfs]
              unfold Tk.stp
              rw [hk, if_pos (by exact hbig)]
            have d3 : decide ((n : Int) < (k : Int)) = true := by simp; omega
            have d3' : decide (n < k) = true := by simp; omega
            have HM : Hid (m = min 64 (s.size - a)) := hm3
            clear hm3 hfs hfold hk hp hcell
            go_wp2_with (go_at_call 85; go_must (refine hal.mono ?_; rintro e w1 ⟨rfl, k2, rfl⟩; rw [drew2]))
            go_roundw
            case rel => exact ⟨_, j, a - p, k, rfl, by show _ = _; omega, by omega, by simp; omega, rfl, by omega, hkm, HF, _, rfl⟩
            case measure => simp [intOf]
          · have HF : Hid (((zs.take j).reverse).foldl (Tk.stp s.data.toList a m) (far, n) = bb) := by
              show _ = _
              rw [← hfold.out, hfs]
              unfold Tk.stp
              rw [hk, if_neg (by exact hbig)]
            have d3 : decide ((n : Int) < (k : Int)) = false := by simp; omega
            have d3' : decide (n < k) = false := by simp; omega
            have HM : Hid (m = min 64 (s.size - a)) := hm3
            clear hm3 hfs hfold hk hp hcell
            go_wp2_with (go_at_call 85; go_must (refine hal.mono ?_; rintro e w1 ⟨rfl, k2, rfl⟩; rw [drew2]))
            go_roundw
            case rel => exact ⟨_, j, far, n, rfl, by show _ = _; omega, by omega, rfl, rfl, hfar, hn, HF, _, rfl⟩
            case measure => simp [intOf]
      · have d2 : decide ((n : Int) < (m : Int)) = false := by simp; omega
        have d2' : decide (n < m) = false := by simp; omega
        have HE : Hid (bb = (far, n)) := by
          show _ = _
          rw [← hfold.out, Tk.over_full (by simp; omega)]
        clear hfold hcl
        go_wp2_with fail
        go_ret2
        rw [HE.out]
        exact ⟨rfl, _, rfl⟩
end Go.Proofs.Ytbjbjbpgmojcbaa
