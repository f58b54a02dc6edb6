/- What train.counted comes to: of each piece in how many texts it stands. -/
import Derived.Test.YtbjbjbpgmojcbabTrainMaps
namespace Go.Proofs.Ytbjbjbpgmojcbab
open Go.RowKit Go.Maps Go.WideMaps

set_option maxRecDepth 4000 in
set_option maxHeartbeats 2000000 in
theorem counted_some (xs : List ByteArray) (b off cap : Nat) (w : World) (hx : Tr.TxAt w b off xs) (hn : xs.length ≤ 12) (hB : ∀ i, (Tr.xa xs i).size ≤ 512) (hM : Mx w) :
    Calls Try.prog 22 #[.slice (some ⟨b, off, none⟩) xs.length cap] w fun e w' => e = .returned (.map (some w.heap.size)) ∧ Tr.CM w' w.heap.size 6144 (Tr.ct xs) ∧ Below w.heap.size w w' := by
  have HX : Hid (∀ w', Tr.TxAt w' b off xs → ∀ i, i < xs.length → w'.cell? ⟨b, off + i, none⟩ = some (.string (Tr.xa xs i))) := fun w' h => h.2
  have HB : Hid (∀ i, (Tr.xa xs i).size ≤ 512) := hB
  clear hB
  have hn' : (xs.length : Int) ≤ 12 := by omega
  have hmm := @run_makeMap Try.prog
  have HX0 : Hid (∀ w', Below w.heap.size w w' → Tr.TxAt w' b off xs ∧ Mx w') := fun w' h => ⟨hx.below h, hM.below h⟩
  go_enter Try.func22, Try.ntmps22
  go_wp2_with fail
  go_loopw [11] (fun i wr => ∃ k : Nat, k ≤ xs.length ∧ i = .int .i64 k ∧ Tr.CM wr w.heap.size (512 * k) (fun q => Tr.ctK xs q k) ∧ Tr.TxAt wr b off xs ∧ Mx wr ∧ Below w.heap.size w wr) (fun i _ => xs.length - (intOf i).toNat)
  case atStart => exact ⟨0, by omega, rfl, Tr.CM.made _, hx.below ((Below.refl _ _).alloc (Nat.le_refl _) _), hM.below ((Below.refl _ _).alloc (Nat.le_refl _) _), (Below.refl _ _).alloc (Nat.le_refl _) _⟩
  case round =>
    clear hx hM hmm
    obtain ⟨k, hk2, rfl, hC, hx, hM, B1⟩ := hrel
    by_cases hlt : k < xs.length
    · have d1 : decide ((k : Int) < (xs.length : Int)) = true := by simp; omega
      have d1' : decide (k < xs.length) = true := by simp; omega
      have hki : (k : Int) < (xs.length : Int) := by omega
      have c1 := HX.out wr hx k hlt
      have hXs := HB.out k
      obtain ⟨X, hX⟩ : ∃ X, Tr.xa xs k = X := ⟨_, rfl⟩
      rw [hX] at c1 hXs
      have HXk : Hid (Tr.xa xs k = X) := hX
      clear hX
      go_wp2_with fail
      go_loopw [19] (fun i wr2 => ∃ j : Nat, j ≤ X.size - 3 ∧ i = .int .i64 j ∧ Tr.CM wr2 w.heap.size (512 * k + j) (Tr.cn xs k j) ∧ Tr.TxAt wr2 b off xs ∧ Mx wr2 ∧ Below w.heap.size w wr2) (fun i _ => X.size - 3 - (intOf i).toNat)
      case atStart => exact ⟨0, by omega, rfl, hC.same (by omega) (fun q _ => (Tr.cn_zero xs k q).symm), hx, hM, B1⟩
      case round =>
        clear c1 hC hx hM B1
        obtain ⟨j, hj2, rfl, hC, hx, hM, B1⟩ := hrel
        by_cases hjl : j < X.size - 3
        · have e1 : decide ((j : Int) < (X.size : Int) - 4 + 1) = true := decide_eq_true (by omega)
          have hji : (j : Int) + 4 ≤ (X.size : Int) := by omega
          have hjn : j + 4 ≤ X.size := by omega
          have hj5 : (j : Int) ≤ 512 := by omega
          obtain ⟨P, hP⟩ : ∃ P, X.extract j (j + 4) = P := ⟨_, rfl⟩
          have HP : Hid (Tr.pc X j = P) := hP
          have hP4 : Hid (P.size = 4) := by show _ = _; rw [← HP.out]; exact Tr.pc_size hjl
          have HI : Hid (decide (Lib.index X.data.toList P.data.toList = (j : Int)) = !Tr.stK P X j) := Tr.index_iff X P (by rw [hP4.out]; omega) j (by rw [hP4.out]; omega) (by rw [hP4.out]; exact HP.out)
          have c2 := index_any X P _ hM (by omega)
          generalize Lib.index X.data.toList P.data.toList = r at *
          cases hs : Tr.stK P X j with
          | true =>
            have HN : Hid (∀ q : ByteArray, q.size = 4 → Tr.cn xs k j q = Tr.cn xs k (j + 1) q) := fun q hq => (Tr.cn_old (by rw [HXk.out, HP.out]; exact hs) hq).symm
            have hr : ¬ r = (j : Int) := of_decide_eq_false (by rw [HI.out, hs]; rfl)
            have e2 : decide (r = (j : Int)) = false := decide_eq_false hr
            have e3 : (r == (j : Int)) = false := by simpa using hr
            clear hr hs HI
            go_wp2_with fail
            refine c2.mono ?_
            rintro e w2 ⟨rfl, rfl⟩
            go_wp2_with fail
            go_roundw
            case rel => exact ⟨j + 1, by omega, by go_num, hC.same (by omega) HN.out, hx, hM, B1⟩
            case measure => simp [intOf]; omega
          | false =>
            have HN : Hid (Tr.cn xs k (j + 1) P = Tr.cn xs k j P + 1) := by
              have := Tr.cn_new (xs := xs) (k := k) (i := j) (by rw [HXk.out]; exact hjl) (by rw [HXk.out, HP.out]; exact hs)
              rw [HXk.out, HP.out] at this
              exact this
            have HO : Hid (∀ q : ByteArray, q.size = 4 → q ≠ P → Tr.cn xs k (j + 1) q = Tr.cn xs k j q) := fun q hq hne => Tr.cn_other hq (by rw [HXk.out, HP.out]; exact hne)
            have hr : r = (j : Int) := of_decide_eq_true (by rw [HI.out, hs]; rfl)
            subst hr
            obtain ⟨D, hown, hD2, hD3, hD4⟩ := hC
            have hkey : keyOf Try.prog 9 (.string P) = some (Tr.kl P) := keyOf_string_mk Try.underlying9 (by rw [hP4.out]; decide)
            have hcn := Tr.cn_le xs k j P
            clear hs HI
            go_wp2_with fail
            refine c2.mono ?_
            rintro e w2 ⟨rfl, rfl⟩
            obtain ⟨C, hC⟩ : ∃ C : Nat, Tr.cn xs k j P = C := ⟨_, rfl⟩
            have HC : Hid (Tr.cn xs k j P = C) := hC
            rw [hC] at hcn
            clear hC
            have hci : (C : Int) ≤ 13 := by omega
            have wf1 : (Lit.int .i64 ((C : Int) + 1)).wf = true := WalkArith.wf_i64 (by omega)
            have hat0 : ∀ c : Int, D.atKey (Tr.kl P) (.lit (.int .i64 0)) = .lit (.int .i64 c) → c = (C : Int) := by
              intro c h9
              have h8 := h9.symm.trans (hD3 P hP4.out)
              rw [HC.out] at h8
              simpa [Tr.i64] using h8
            go_wp2_with (first
              | (at_lookup; refine wpList_lookup_own_int _ rfl _ _ 41 rfl 9 3 .i64 keyS Try.underlying41 Try.underlying3 (zeroI _) w.heap.size (512 * k + j) _ rfl hown _ _ rfl hkey ?_; intro c hat hwc; obtain rfl := hat0 c hat; clear hat hwc)
              | (at_mapUpdate; refine wpList_mapUpdate_own _ rfl _ _ _ 41 rfl 9 3 keyS Try.underlying41 _ w.heap.size (512 * k + j) _ rfl hown (by unfold maxLen; omega) _ _ _ rfl rfl hkey _ [] (plainElem_int Try.underlying3 wf1) ?_; intro w1 hown1 hgrow1)
              | fail)
            have hC2 : Tr.CM w1 w.heap.size (512 * k + (j + 1)) (Tr.cn xs k (j + 1)) := Tr.CM.put hP4.out hD2 hD3 hD4 (by rw [HN.out, HC.out]; exact hown1) HN.out HO.out
            have B2 := B1.grown hgrow1 B1.size (fun j hj => by cases hj; exact Nat.le_refl _)
            clear hown hown1 hgrow1 B1 hx hM
            go_roundw
            case rel => exact ⟨j + 1, by omega, by go_num, hC2, (HX0.out _ B2).1, (HX0.out _ B2).2, B2⟩
            case measure => simp [intOf]; omega
        · have e1 : decide ((j : Int) < (X.size : Int) - 4 + 1) = false := decide_eq_false (by omega)
          have hC2 : Tr.CM wr w.heap.size (512 * (k + 1)) (fun q => Tr.ctK xs q (k + 1)) := hC.same (by omega) (fun q hq => Tr.cn_end hq (by rw [HXk.out]; omega))
          clear hC
          go_wp2_with fail
          go_roundw
          case rel => exact ⟨k + 1, by omega, by go_num, hC2, hx, hM, B1⟩
          case measure => simp [intOf]; omega
    · obtain rfl : k = xs.length := by omega
      have d1 : decide ((xs.length : Int) < (xs.length : Int)) = false := by simp
      go_wp2_with fail
      go_ret
      exact ⟨rfl, hC.same (by omega) (fun _ _ => rfl), B1⟩

set_option maxRecDepth 4000 in
set_option maxHeartbeats 1000000 in
theorem counted_nil (ad : Option Addr) (cap : Nat) (w : World) :
    Calls Try.prog 22 #[.slice ad 0 cap] w fun e w' => e = .returned (.map (some w.heap.size)) ∧ Tr.CM w' w.heap.size 6144 (Tr.ct []) ∧ Below w.heap.size w w' := by
  have hmm := @run_makeMap Try.prog
  go_enter Try.func22, Try.ntmps22
  go_wp2_with fail
  go_loopw [11] (fun i wr => i = .int .i64 0 ∧ Tr.CM wr w.heap.size 0 (Tr.ct []) ∧ Below w.heap.size w wr) (fun i _ => 0)
  case atStart => exact ⟨rfl, Tr.CM.made _, (Below.refl _ _).alloc (Nat.le_refl _) _⟩
  case round =>
    obtain ⟨rfl, hC, B1⟩ := hrel
    go_wp2_with fail
    go_ret
    exact ⟨rfl, hC.same (by omega) (fun _ _ => rfl), B1⟩
theorem counted_any (xs : List ByteArray) (ad : Option Addr) (cap : Nat) (w : World) (hx : TxSl w ad xs) (hn : xs.length ≤ 12) (hB : ∀ i, (Tr.xa xs i).size ≤ 512) (hM : Mx w) :
    Calls Try.prog 22 #[.slice ad xs.length cap] w fun e w' => e = .returned (.map (some w.heap.size)) ∧ Tr.CM w' w.heap.size 6144 (Tr.ct xs) ∧ Below w.heap.size w w' := by
  rcases hx with rfl | ⟨b, off, rfl, h2⟩
  · exact counted_nil ad cap w
  · exact counted_some xs b off cap w h2 hn hB hM
end Go.Proofs.Ytbjbjbpgmojcbab
