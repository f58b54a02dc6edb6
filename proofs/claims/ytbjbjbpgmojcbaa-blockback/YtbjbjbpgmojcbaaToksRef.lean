/- What chapter 2's own CheckToks comes to. -/
import Derived.Test.YtbjbjbpgmojcbaaToksPlay
namespace Go.Proofs.Ytbjbjbpgmojcbaa
open Go.RowKit

set_option maxHeartbeats 400000 in
theorem within_yes (n a b : Int) (w : World) (h1 : a ≤ n) (h2 : n ≤ b) :
    Calls Try.prog 55 #[.int .i64 n, .int .i64 a, .int .i64 b] w fun e w' => e = .returned (.bool true) ∧ w' = w := by
  have d1 : decide (a ≤ n) = true := by simpa using h1
  have d2 : decide (n ≤ b) = true := by simpa using h2
  go_enter Try.func55, Try.ntmps55
  go_wp2_with fail
  go_ret
  exact ⟨rfl, rfl⟩

set_option maxHeartbeats 400000 in
theorem within_no (n a b : Int) (w : World) (h : ¬ (a ≤ n ∧ n ≤ b)) :
    Calls Try.prog 55 #[.int .i64 n, .int .i64 a, .int .i64 b] w fun e w' => e = .returned (.bool false) ∧ w' = w := by
  by_cases h1 : a ≤ n
  · have d1 : decide (a ≤ n) = true := by simpa using h1
    have d2 : decide (n ≤ b) = false := by simp; omega
    clear h
    go_enter Try.func55, Try.ntmps55
    go_wp2_with fail
    go_ret
    exact ⟨rfl, rfl⟩
  · have d1 : decide (a ≤ n) = false := by simp; omega
    clear h
    go_enter Try.func55, Try.ntmps55
    go_wp2_with fail
    go_ret
    exact ⟨rfl, rfl⟩

/-- Does a Lit stand right ahead of place k? -/
def prevLit (l : List Tk.T) (k : Nat) : Bool := decide (0 < k) && decide ((l[k - 1]?.map (fun t => t.lit.size)).getD 0 ≠ 0)

set_option maxHeartbeats 1000000 in
theorem ref_many (dict : ByteArray) (ad : Option Addr) (n cap : Nat) (w : World) (hd : 256 < dict.size) :
    Calls Try.prog 27 #[.string dict, .slice ad n cap] w fun e w' => e = .returned (.tuple #[.string ⟨#[]⟩, .int .i64 2]) ∧ Below w.heap.size w w' := by
  have h : decide ((256 : Int) < (dict.size : Int)) = true := by simp; omega
  have h' : (256 : Int) < (dict.size : Int) := by omega
  go_enter Try.func27, Try.ntmps27
  go_wp2_with fail
  go_ret2
  exact ⟨rfl, Below.refl _ _⟩

set_option maxHeartbeats 1000000 in
theorem ref_nil (dict : ByteArray) (ad : Option Addr) (cap : Nat) (w : World) (hd : dict.size ≤ 256) :
    Calls Try.prog 27 #[.string dict, .slice ad 0 cap] w fun e w' => e = .returned (.tuple #[.string ⟨#[]⟩, .int .i64 0]) ∧ Below w.heap.size w w' := by
  have h : decide ((256 : Int) < (dict.size : Int)) = false := by simp; omega
  have h' : (dict.size : Int) ≤ 256 := by omega
  have he : dict.extract dict.size dict.size = ⟨#[]⟩ := by
    apply Nm.ba_ext
    rw [Lib.extract_data]
    simp
  go_enter Try.func27, Try.ntmps27
  go_wp2_with fail
  refine wp_loop_rounds 1 ?_
  rw [rounds_succ]
  go_wp2_with fail
  go_ret2
  exact ⟨rfl, Below.refl _ _⟩

theorem size_list (S : ByteArray) : S.data.toList.length = S.size := by simp

set_option maxRecDepth 4000 in
set_option maxHeartbeats 4000000 in
theorem ref_some (dict : ByteArray) (b off cap : Nat) (l : List Tk.T) (w : World) (hd : dict.size ≤ 256) (hb : b < w.heap.size) (hl : TkAt w b off l) (hs : Sane l) :
    Calls Try.prog 27 #[.string dict, .slice (some ⟨b, off, none⟩) l.length cap] w fun e w' => e = .returned (.tuple #[.string (if (Tk.run dict.size dict.data.toList false l).1 ≠ 0 then ⟨#[]⟩ else ⟨((Tk.run dict.size dict.data.toList false l).2.drop dict.size).toArray⟩), .int .i64 (Tk.run dict.size dict.data.toList false l).1]) ∧ Below w.heap.size w w' := by
  have h : decide ((256 : Int) < (dict.size : Int)) = false := by simp; omega
  have h' : (dict.size : Int) ≤ 256 := by omega
  have hn := hs.1
  have hn' : (l.length : Int) ≤ 140737488355328 := by omega
  generalize hR : Tk.run dict.size dict.data.toList false l = R at *
  obtain ⟨E, hE⟩ : ∃ E : Int, R.1 = E := ⟨_, rfl⟩
  obtain ⟨Z, hZ⟩ : ∃ Z : ByteArray, (if R.1 ≠ 0 then (⟨#[]⟩ : ByteArray) else ⟨(R.2.drop dict.size).toArray⟩) = Z := ⟨_, rfl⟩
  rw [hZ, hE]
  have HZ0 : Hid (∀ e x, R = (e, x) → e ≠ 0 → E = e ∧ Z = ⟨#[]⟩) := by
    intro e x he hne
    subst he
    exact ⟨hE.symm, by rw [← hZ, if_pos hne]⟩
  have HZ1 : Hid (∀ x, R = (0, x) → E = 0 ∧ Z = ⟨(x.drop dict.size).toArray⟩) := by
    intro x he
    subst he
    exact ⟨hE.symm, by rw [← hZ, if_neg (by simp)]⟩
  have HR : Hid (Tk.run dict.size dict.data.toList false l = R) := hR
  clear hR hE hZ
  go_enter Try.func27, Try.ntmps27
  go_wp2_with fail
  go_loopw [6, 7] (fun x i wr => ∃ (k : Nat) (S : ByteArray) (p : Bool), k ≤ l.length ∧ i = .int .i64 k ∧ x = .string S ∧ Hid (Tk.run dict.size S.data.toList p (l.drop k) = R) ∧ Hid (p = prevLit l k) ∧
      dict.size ≤ S.size ∧ S.size ≤ dict.size + 512 ∧ Below w.heap.size w wr)
    (fun _ i _ => l.length - (intOf i).toNat)
  case atStart => exact ⟨0, dict, false, by omega, rfl, rfl, HR, rfl, by omega, by omega, Below.refl _ _⟩
  case round =>
    obtain ⟨k, S, p, hk, rfl, rfl, hrun, hp, hs1, hs2, G⟩ := hrel
    have hS : (S.size : Int) ≤ 1000 := by omega
    by_cases hlt : k < l.length
    · have hdrop : l.drop k = l[k] :: l.drop (k + 1) := List.drop_eq_getElem_cons hlt
      obtain ⟨c0, c1, c2⟩ := hl k hlt
      have hlit := hs.2 l[k] (List.getElem_mem hlt)
      rw [← G.cell (by exact hb)] at c0 c1 c2
      rw [hdrop] at hrun
      have HP : Hid (0 < k → wr.cell? ⟨b, off + (k - 1) * 3, none⟩ = some (.string (l[k - 1]'(by omega)).lit)) := by
        intro hk0
        rw [G.cell (by exact hb)]
        exact (hl (k - 1) (by omega)).1
      have HQ : Hid (prevLit l (k + 1) = decide (l[k].lit.size ≠ 0)) := by
        show _ = _
        simp [prevLit, List.getElem?_eq_getElem hlt]
      generalize l[k] = t at *
      have hgs := G.size
      have hpl : k = 0 ∨ 0 < k := by omega
      clear hdrop hl hs
      by_cases h0 : t.lit.size ≠ 0
      · have hE0 := empty_not h0
        by_cases hf : t.far ≠ 0
        · have hf' : (t.far != 0) = true := by simp [hf]
          have he : Tk.err dict.size S.data.toList p t = 1 := by
            unfold Tk.err
            rw [if_pos h0, if_pos (Or.inl hf)]
          have HX : Hid (E = 1 ∧ Z = ⟨#[]⟩) := HZ0.out _ _ (hrun.out.symm.trans (Tk.run_bad (by rw [he]; omega))) (by rw [he]; omega) |>.imp (fun h => h.trans he) id
          go_wp2_with fail
          go_ret2
          exact ⟨by rw [HX.out.1, HX.out.2]; rfl, G.alloc hgs _⟩
        · have hf' : (t.far != 0) = false := by simpa using hf
          by_cases hn : t.len ≠ 0
          · have hn' : (t.len != 0) = true := by simp [hn]
            have he : Tk.err dict.size S.data.toList p t = 1 := by
              unfold Tk.err
              rw [if_pos h0, if_pos (Or.inr (Or.inl hn))]
            have HX : Hid (E = 1 ∧ Z = ⟨#[]⟩) := HZ0.out _ _ (hrun.out.symm.trans (Tk.run_bad (by rw [he]; omega))) (by rw [he]; omega) |>.imp (fun h => h.trans he) id
            go_wp2_with fail
            go_ret2
            exact ⟨by rw [HX.out.1, HX.out.2]; rfl, G.alloc hgs _⟩
          · have hn' : (t.len != 0) = false := by simpa using hn
            cases hpt : p with
            | true =>
              have hk0 : 0 < k := by
                have := hp.out
                rw [hpt] at this
                rcases hpl with h | h
                · subst h; simp [prevLit] at this
                · exact h
              have c3 := HP.out hk0
              have hq : (l[k - 1]'(by omega)).lit.size ≠ 0 := by
                have := hp.out
                rw [hpt] at this
                simp [prevLit, List.getElem?_eq_getElem (show k - 1 < l.length by omega)] at this
                exact fun e => this.2 (by simpa using e)
              have hqe := empty_not hq
              generalize (l[k - 1]'(by omega)).lit = q at *
              have hbw : b < wr.heap.size := Nat.lt_of_lt_of_le hb G.size
              have c4 : ∀ o, (wr.alloc o).cell? ⟨b, off + (k - 1) * 3, none⟩ = some (.string q) := fun o => (((Below.refl wr.heap.size wr).alloc (Nat.le_refl _) o).cell (by exact hbw)).trans c3
              have hk0' : decide ((0 : Int) < (k : Int)) = true := by simp; omega
              have hk0'' : decide (0 < k) = true := by simp; omega
              have hi1 : (0 : Int) ≤ (k : Int) - 1 := by omega
              have hi2 : (k : Int) - 1 < (l.length : Int) := by omega
              have he : Tk.err dict.size S.data.toList p t = 1 := by
                unfold Tk.err
                rw [if_pos h0, if_pos (Or.inr (Or.inr hpt))]
              clear hpl HQ
              have HX : Hid (E = 1 ∧ Z = ⟨#[]⟩) := HZ0.out _ _ (hrun.out.symm.trans (Tk.run_bad (by rw [he]; omega))) (by rw [he]; omega) |>.imp (fun h => h.trans he) id
              go_wp2_with fail
              go_ret2
              exact ⟨by rw [HX.out.1, HX.out.2]; rfl, G.alloc hgs _⟩
            | false =>
              rcases hpl with hk0 | hk0
              · have hk0' : decide ((0 : Int) < (k : Int)) = false := by simp; omega
                have hk0'' : decide (0 < k) = false := by simp; omega
                clear hk0
                by_cases hbig : 512 < (S.size : Int) - dict.size + t.lit.size
                · have hb' : decide (512 - ((S.size : Int) - (dict.size : Int)) < (t.lit.size : Int)) = true := by simp; omega
                  have he : Tk.err dict.size S.data.toList p t = 2 := by
                    unfold Tk.err
                    rw [if_pos h0, if_neg (by simp [hf, hn, hpt]), if_pos (by rw [size_list]; exact hbig)]
                  clear HQ hbig
                  have HX : Hid (E = 2 ∧ Z = ⟨#[]⟩) := HZ0.out _ _ (hrun.out.symm.trans (Tk.run_bad (by rw [he]; omega))) (by rw [he]; omega) |>.imp (fun h => h.trans he) id
                  go_wp2_with fail
                  go_ret2
                  exact ⟨by rw [HX.out.1, HX.out.2]; rfl, G.alloc hgs _⟩
                · have hb' : decide (512 - ((S.size : Int) - (dict.size : Int)) < (t.lit.size : Int)) = false := by simp; omega
                  have hb2 : (t.lit.size : Int) ≤ 512 := by omega
                  have Hle : Hid ((S.size : Int) - dict.size + t.lit.size ≤ 512) := by show _ ≤ _; omega
                  have he : Tk.err dict.size S.data.toList p t = 0 := by
                    unfold Tk.err
                    rw [if_pos h0, if_neg (by simp [hf, hn, hpt]), if_neg (by rw [size_list]; exact hbig)]
                  have HX : Hid (Tk.run dict.size (S ++ t.lit).data.toList (decide (t.lit.size ≠ 0)) (l.drop (k + 1)) = R) := by
                    show _ = _
                    rw [← hrun.out, Tk.run_good he]
                    unfold Tk.make
                    rw [if_pos h0, Nm.appd]
                  clear hbig he
                  go_wp2_with fail
                  go_roundw
                  case rel => exact ⟨k + 1, S ++ t.lit, _, by omega, by go_num, rfl, HX, HQ.out.symm, by rw [Nm.apps]; omega, by have := Hle.out; rw [Nm.apps]; omega, G.alloc hgs _⟩
                  case measure => simp [intOf]; omega
              · have c3 := HP.out hk0
                have hq : (l[k - 1]'(by omega)).lit.size = 0 := by
                  have := hp.out
                  rw [hpt] at this
                  simp [prevLit, List.getElem?_eq_getElem (show k - 1 < l.length by omega), hk0] at this
                  simpa using this
                have hqe := empty_of hq
                generalize (l[k - 1]'(by omega)).lit = q at *
                have hbw : b < wr.heap.size := Nat.lt_of_lt_of_le hb G.size
                have c4 : ∀ o, (wr.alloc o).cell? ⟨b, off + (k - 1) * 3, none⟩ = some (.string q) := fun o => (((Below.refl wr.heap.size wr).alloc (Nat.le_refl _) o).cell (by exact hbw)).trans c3
                have hk0' : decide ((0 : Int) < (k : Int)) = true := by simp; omega
                have hk0'' : decide (0 < k) = true := by simp; omega
                have hi1 : (0 : Int) ≤ (k : Int) - 1 := by omega
                have hi2 : (k : Int) - 1 < (l.length : Int) := by omega
                by_cases hbig : 512 < (S.size : Int) - dict.size + t.lit.size
                · have hb' : decide (512 - ((S.size : Int) - (dict.size : Int)) < (t.lit.size : Int)) = true := by simp; omega
                  have he : Tk.err dict.size S.data.toList p t = 2 := by
                    unfold Tk.err
                    rw [if_pos h0, if_neg (by simp [hf, hn, hpt]), if_pos (by rw [size_list]; exact hbig)]
                  clear HQ hbig
                  have HX : Hid (E = 2 ∧ Z = ⟨#[]⟩) := HZ0.out _ _ (hrun.out.symm.trans (Tk.run_bad (by rw [he]; omega))) (by rw [he]; omega) |>.imp (fun h => h.trans he) id
                  go_wp2_with fail
                  go_ret2
                  exact ⟨by rw [HX.out.1, HX.out.2]; rfl, G.alloc hgs _⟩
                · have hb' : decide (512 - ((S.size : Int) - (dict.size : Int)) < (t.lit.size : Int)) = false := by simp; omega
                  have hb2 : (t.lit.size : Int) ≤ 512 := by omega
                  have Hle : Hid ((S.size : Int) - dict.size + t.lit.size ≤ 512) := by show _ ≤ _; omega
                  have he : Tk.err dict.size S.data.toList p t = 0 := by
                    unfold Tk.err
                    rw [if_pos h0, if_neg (by simp [hf, hn, hpt]), if_neg (by rw [size_list]; exact hbig)]
                  have HX : Hid (Tk.run dict.size (S ++ t.lit).data.toList (decide (t.lit.size ≠ 0)) (l.drop (k + 1)) = R) := by
                    show _ = _
                    rw [← hrun.out, Tk.run_good he]
                    unfold Tk.make
                    rw [if_pos h0, Nm.appd]
                  clear hbig he
                  go_wp2_with fail
                  go_roundw
                  case rel => exact ⟨k + 1, S ++ t.lit, _, by omega, by go_num, rfl, HX, HQ.out.symm, by rw [Nm.apps]; omega, by have := Hle.out; rw [Nm.apps]; omega, G.alloc hgs _⟩
                  case measure => simp [intOf]; omega
      · have h00 : t.lit.size = 0 := by omega
        have hE0 := empty_of h00
        have HL : Hid (S.data.toList.length = S.size) := size_list S
        clear HP hp hpl
        by_cases ha : 3 ≤ t.len ∧ t.len ≤ 64
        · obtain ⟨ha1, ha2⟩ := ha
          by_cases hbf : 1 ≤ t.far ∧ t.far ≤ (S.size : Int)
          · obtain ⟨hb1, hb2⟩ := hbf
            by_cases hbig : 512 < (S.size : Int) - dict.size + t.len
            · have hb' : decide (512 - ((S.size : Int) - (dict.size : Int)) < t.len) = true := by simp; omega
              have he : Tk.err dict.size S.data.toList p t = 2 := by
                unfold Tk.err
                rw [if_neg h0, if_neg (by rw [size_list]; simp; omega), if_pos (by rw [size_list]; exact hbig)]
              clear HQ hbig
              have HX : Hid (E = 2 ∧ Z = ⟨#[]⟩) := HZ0.out _ _ (hrun.out.symm.trans (Tk.run_bad (by rw [he]; omega))) (by rw [he]; omega) |>.imp (fun h => h.trans he) id
              go_wp2_with fail
              refine (within_yes t.len 3 64 _ ha1 ha2).mono ?_
              rintro e w9 ⟨rfl, rfl⟩
              go_wp2_with fail
              refine (within_yes t.far 1 S.size _ hb1 hb2).mono ?_
              rintro e w9 ⟨rfl, rfl⟩
              go_wp2_with fail
              go_ret2
              exact ⟨by rw [HX.out.1, HX.out.2]; rfl, G.alloc hgs _⟩
            · have hb' : decide (512 - ((S.size : Int) - (dict.size : Int)) < t.len) = false := by simp; omega
              have he : Tk.err dict.size S.data.toList p t = 0 := by
                unfold Tk.err
                rw [if_neg h0, if_neg (by rw [size_list]; simp; omega), if_neg (by rw [size_list]; exact hbig)]
              obtain ⟨F, hF⟩ := Int.eq_ofNat_of_zero_le (a := t.far) (by omega)
              have HX : Hid (Tk.run dict.size (Tk.copy F t.len.toNat S.data.toList) (decide (t.lit.size ≠ 0)) (l.drop (k + 1)) = R) := by
                show _ = _
                rw [← hrun.out, Tk.run_good he]
                unfold Tk.make
                rw [if_neg h0, hF, Int.toNat_natCast]
              have Hle : Hid ((S.size : Int) - dict.size + t.len ≤ 512) := by show _ ≤ _; omega
              have hc1 := within_yes t.len 3 64
              have hc2 := within_yes t.far 1 S.size
              rw [hF] at c1 hb1 hb2 hc2
              clear hbig he hrun hF
              go_wp2_with fail
              refine (hc1 _ ha1 ha2).mono ?_
              rintro e w9 ⟨rfl, rfl⟩
              go_wp2_with fail
              refine (hc2 _ hb1 hb2).mono ?_
              rintro e w9 ⟨rfl, rfl⟩
              clear hc1 hc2
              go_wp2_with fail
              have hl0 : 0 ≤ t.len := by omega
              go_loop [6, 9] (fun x i => ∃ (j : Nat) (X : ByteArray), (j : Int) ≤ t.len ∧ i = .int .i64 j ∧ x = .string X ∧ Hid (X.data.toList = Tk.copy F j S.data.toList) ∧ Hid (X.size = S.size + j) ∧ S.size ≤ X.size ∧ X.size ≤ S.size + 64) (fun _ i => 64 - (intOf i).toNat)
              case atStart => exact ⟨0, S, by omega, rfl, rfl, rfl, rfl, by omega, by omega⟩
              case round =>
                obtain ⟨j, X, hj, rfl, rfl, hX, hXs, hX1, hX2⟩ := hrel
                have hXb : (X.size : Int) ≤ 2000 := by omega
                by_cases hjl : (j : Int) < t.len
                · have hjd : decide ((j : Int) < t.len) = true := by simpa using hjl
                  have hi1 : (0 : Int) ≤ (X.size : Int) - (F : Int) := by omega
                  have hi2 : (X.size : Int) - (F : Int) ≤ (X.size : Int) - (F : Int) + 1 := by omega
                  have hi3 : (X.size : Int) - (F : Int) + 1 ≤ (X.size : Int) := by omega
                  have HN : Hid ((X ++ X.extract (X.size - F) (X.size - F + 1)).data.toList = Tk.copy F (j + 1) S.data.toList) := by
                    show _ = _
                    rw [Nm.appd, Lib.extract_data, Tk.copy_succ, ← hX.out, size_list, show X.size - F + 1 - (X.size - F) = 1 by omega]
                    have hlt2 : X.size - F < X.data.toList.length := by rw [size_list]; omega
                    rw [List.drop_eq_getElem_cons hlt2, List.take_succ_cons, List.take_zero, List.getD_eq_getElem?_getD, List.getElem?_eq_getElem hlt2]
                    rfl
                  have HNS : Hid ((X ++ X.extract (X.size - F) (X.size - F + 1)).size = S.size + (j + 1)) := by
                    show _ = _
                    rw [Nm.apps, ← size_list (X.extract _ _), Lib.extract_data, List.length_take, List.length_drop, size_list, hXs.out]
                    omega
                  go_wp2_with fail
                  go_round
                  case rel => exact ⟨j + 1, _, by omega, by go_num, rfl, HN, HNS, by rw [HNS.out]; omega, by rw [HNS.out]; omega⟩
                  case measure => simp [intOf]; omega
                · have hjd : decide ((j : Int) < t.len) = false := by simp; omega
                  have hjt : j = t.len.toNat := by omega
                  go_wp2_with fail
                  go_roundw
                  case rel =>
                    have := Hle.out
                    have := hXs.out
                    refine ⟨k + 1, X, _, by omega, by go_num, rfl, ?_, HQ.out.symm, by omega, by omega, G.alloc hgs _⟩
                    rw [hX.out, hjt]
                    exact HX
                  case measure => simp [intOf]; omega
          · have he : Tk.err dict.size S.data.toList p t = 1 := by
              unfold Tk.err
              rw [if_neg h0, if_pos (by rw [size_list]; omega)]
            clear HQ
            have HX : Hid (E = 1 ∧ Z = ⟨#[]⟩) := HZ0.out _ _ (hrun.out.symm.trans (Tk.run_bad (by rw [he]; omega))) (by rw [he]; omega) |>.imp (fun h => h.trans he) id
            go_wp2_with fail
            refine (within_yes t.len 3 64 _ ha1 ha2).mono ?_
            rintro e w9 ⟨rfl, rfl⟩
            go_wp2_with fail
            refine (within_no t.far 1 S.size _ hbf).mono ?_
            rintro e w9 ⟨rfl, rfl⟩
            go_wp2_with fail
            go_ret2
            exact ⟨by rw [HX.out.1, HX.out.2]; rfl, G.alloc hgs _⟩
        · have he : Tk.err dict.size S.data.toList p t = 1 := by
            unfold Tk.err
            rw [if_neg h0, if_pos (by rw [size_list]; omega)]
          clear HQ
          have HX : Hid (E = 1 ∧ Z = ⟨#[]⟩) := HZ0.out _ _ (hrun.out.symm.trans (Tk.run_bad (by rw [he]; omega))) (by rw [he]; omega) |>.imp (fun h => h.trans he) id
          go_wp2_with fail
          refine (within_no t.len 3 64 _ ha).mono ?_
          rintro e w9 ⟨rfl, rfl⟩
          go_wp2_with fail
          go_ret2
          exact ⟨by rw [HX.out.1, HX.out.2]; rfl, G.alloc hgs _⟩
    · have hd1 : decide ((k : Int) < (l.length : Int)) = false := by simp; omega
      have hd2 : decide (k < l.length) = false := by simp; omega
      have HX : Hid (E = 0 ∧ Z = ⟨(S.data.toList.drop dict.size).toArray⟩) := by
        refine HZ1.out _ ?_
        rw [← hrun.out, List.drop_eq_nil_of_le (by omega)]
        rfl
      have HE : Hid (S.extract dict.size S.size = ⟨(S.data.toList.drop dict.size).toArray⟩) := by
        show _ = _
        apply Nm.ba_ext
        rw [Lib.extract_data, List.take_of_length_le]
        rw [List.length_drop, size_list]
        exact Nat.le_refl _
      have hi1 : (dict.size : Int) ≤ (S.size : Int) := by omega
      clear hl hs hrun hp
      go_wp2_with fail
      go_ret2
      exact ⟨by rw [HX.out.1, HX.out.2, ← HE.out]; rfl, G⟩

theorem ref_any (dict : ByteArray) (ad : Option Addr) (cap : Nat) (l : List Tk.T) (w : World) (hl : SlAt w ad l) (hs : Sane l) :
    Calls Try.prog 27 #[.string dict, .slice ad l.length cap] w fun e w' => e = .returned (.tuple #[.string (playOf dict l), .int .i64 (checkOf dict l)]) ∧ Below w.heap.size w w' := by
  unfold playOf checkOf
  by_cases hd : 256 < dict.size
  · rw [if_pos hd]
    simp only [ne_eq, Int.reduceEq, not_false_eq_true, if_true]
    exact ref_many dict ad _ cap w hd
  · rw [if_neg hd]
    rcases hl with rfl | ⟨b, off, rfl, hb, ht⟩
    · have e : (Tk.run dict.size dict.data.toList false []) = (0, dict.data.toList) := rfl
      rw [e, if_neg (by simp), List.drop_eq_nil_of_le (by simp)]
      exact ref_nil dict ad cap w (by omega)
    · exact ref_some dict b off cap l w (by omega) hb ht hs
end Go.Proofs.Ytbjbjbpgmojcbaa
