/- What toks.Check answers: chapter 2's B1. -/
import Derived.Test.YtbjbjbpgmojcbaaToksCheck
namespace Go.Proofs.Ytbjbjbpgmojcbaa
open Go.RowKit

/-- Check's answer. -/
def checkOf (dict : ByteArray) (l : List Tk.T) : Int := if 256 < dict.size then 2 else (Tk.run dict.size dict.data.toList false l).1

theorem fits_len {D M : Int} {L : Bool} {lit : ByteArray} {far len : Int} (h : fits D M L lit far len = true) : 0 ≤ len ∧ len ≤ 64 := by
  unfold fits at h
  split at h
  · have := of_decide_eq_true h
    omega
  · have := of_decide_eq_true h
    omega

set_option maxHeartbeats 1000000 in
theorem check_many (dict : ByteArray) (ad : Option Addr) (n cap : Nat) (w : World) (hd : 256 < dict.size) :
    Calls Try.prog 29 #[.string dict, .slice ad n cap] w fun e w' => e = .returned (.int .i64 2) ∧ Below w.heap.size w w' := by
  have h : decide ((256 : Int) < (dict.size : Int)) = true := by simp; omega
  have h' : (256 : Int) < (dict.size : Int) := by omega
  go_enter Try.func29, Try.ntmps29
  go_wp2_with fail
  go_ret
  exact ⟨rfl, Below.refl _ _⟩

set_option maxHeartbeats 1000000 in
theorem check_nil (dict : ByteArray) (ad : Option Addr) (cap : Nat) (w : World) (hd : dict.size ≤ 256) :
    Calls Try.prog 29 #[.string dict, .slice ad 0 cap] w fun e w' => e = .returned (.int .i64 0) ∧ Below w.heap.size w w' := by
  have h : decide ((256 : Int) < (dict.size : Int)) = false := by simp; omega
  have h' : (dict.size : Int) ≤ 256 := by omega
  go_enter Try.func29, Try.ntmps29
  go_wp2_with fail
  refine wp_loop_rounds 1 ?_
  rw [rounds_succ]
  go_wp2_with fail
  go_ret
  exact ⟨rfl, (Below.refl _ _).alloc (Nat.le_refl _) _⟩

set_option maxHeartbeats 1000000 in
theorem check_some (dict : ByteArray) (b off cap : Nat) (l : List Tk.T) (w : World) (hd : dict.size ≤ 256) (hb : b < w.heap.size) (hl : TkAt w b off l) (hs : Sane l) :
    Calls Try.prog 29 #[.string dict, .slice (some ⟨b, off, none⟩) l.length cap] w fun e w' => e = .returned (.int .i64 (Tk.run dict.size dict.data.toList false l).1) ∧ Below w.heap.size w w' := by
  have h : decide ((256 : Int) < (dict.size : Int)) = false := by simp; omega
  have h' : (dict.size : Int) ≤ 256 := by omega
  have hn := hs.1
  have hn' : (l.length : Int) ≤ 140737488355328 := by omega
  go_enter Try.func29, Try.ntmps29
  go_wp2_with fail
  go_loopw [17] (fun i wr => ∃ (k : Nat) (s : List UInt8) (p : Bool), k ≤ l.length ∧ i = .int .i64 k ∧ Hid (Tk.run dict.size dict.data.toList false l = Tk.run dict.size s p (l.drop k)) ∧
      dict.size ≤ s.length ∧ s.length ≤ dict.size + 512 ∧ MkAt wr w.heap.size w.heap.size dict.size ((s.length : Int) - dict.size) p ∧ Below w.heap.size w wr)
    (fun i _ => l.length - (intOf i).toNat)
  case atStart =>
    refine ⟨0, dict.data.toList, false, by omega, rfl, rfl, ?_, ?_, ?_, (Below.refl _ _).alloc (Nat.le_refl _) _⟩
    · simp
    · simp
    · have e : ((dict.data.toList.length : Int) - dict.size) = 0 := by simp
      rw [e]
      exact ⟨Nat.le_refl _, by simp, by rw [World.cell?_alloc_mark]; rfl, by rw [World.cell?_alloc_mark]; rfl, by rw [World.cell?_alloc_mark]; rfl, by rw [World.frozen?_alloc_mark]; simp, by rw [World.frozen?_alloc_mark]; simp⟩
  case round =>
    obtain ⟨k, s, p, hk, rfl, hrun, hs1, hs2, hm, G⟩ := hrel
    by_cases hlt : k < l.length
    · have hdrop : l.drop k = l[k] :: l.drop (k + 1) := List.drop_eq_getElem_cons hlt
      have hef := err_fits dict.size s p l[k] _ rfl
      obtain ⟨c0, c1, c2⟩ := hl k hlt
      have hlit := hs.2 l[k] (List.getElem_mem hlt)
      rw [← G.cell (by exact hb)] at c0 c1 c2
      generalize l[k] = t at *
      have Hm : Hid (MkAt wr w.heap.size w.heap.size dict.size ((s.length : Int) - dict.size) p) := hm
      have hM0 : 0 ≤ (s.length : Int) - dict.size := by omega
      have hM1 : (s.length : Int) - dict.size ≤ 512 := by omega
      have hD0 : (0 : Int) ≤ (dict.size : Int) := by omega
      have HE : Hid (Tk.err dict.size s p t = if fits dict.size ((s.length : Int) - dict.size) p t.lit t.far t.len = false then 1 else if 512 < (s.length : Int) - dict.size + t.lit.size + t.len then 2 else 0) := hef
      have HR : Hid (Tk.run dict.size dict.data.toList false l = Tk.run dict.size s p (t :: l.drop (k + 1))) := by
        show _ = _
        rw [hrun.out, hdrop]
      have hgs := G.size
      have hgs2 := hm.2.1
      clear hm hef hdrop hrun hl hs
      cases hF : fits dict.size ((s.length : Int) - dict.size) p t.lit t.far t.len with
      | false =>
        have HX : Hid ((Tk.run dict.size dict.data.toList false l).1 = 1) := by
          have he : Tk.err dict.size s p t = 1 := by rw [HE.out, if_pos hF]
          show _ = _
          rw [HR.out, Tk.run_bad (by omega), he]
        go_wp2_with fail
        refine (add_form w.heap.size w.heap.size dict.size ((s.length : Int) - dict.size) p t.lit t.far t.len _ (Hm.out.alloc _) hD0 h' hM0 hM1 hF).mono ?_
        rintro e w1 ⟨rfl, hb1⟩
        go_wp2_with fail
        go_ret
        exact ⟨by rw [HX.out]; rfl, bch (G.alloc hgs _) hb1 (Nat.le_refl _)⟩
      | true =>
        have hln := fits_len hF
        by_cases hbig : 512 < (s.length : Int) - dict.size + t.lit.size + t.len
        · have HX : Hid ((Tk.run dict.size dict.data.toList false l).1 = 2) := by
            have he : Tk.err dict.size s p t = 2 := by rw [HE.out, if_neg (by rw [hF]; simp), if_pos hbig]
            show _ = _
            rw [HR.out, Tk.run_bad (by omega), he]
          go_wp2_with fail
          refine (add_many w.heap.size w.heap.size dict.size ((s.length : Int) - dict.size) p t.lit t.far t.len _ (Hm.out.alloc _) hD0 h' hM0 hM1 hlit hln hF hbig).mono ?_
          rintro e w1 ⟨rfl, hb1⟩
          go_wp2_with fail
          go_ret
          exact ⟨by rw [HX.out]; rfl, bch (G.alloc hgs _) hb1 (Nat.le_refl _)⟩
        · have he : Tk.err dict.size s p t = 0 := by rw [HE.out, if_neg (by rw [hF]; simp), if_neg hbig]
          have hmk := Tk.make_ok he
          have HX : Hid (Tk.run dict.size dict.data.toList false l = Tk.run dict.size (Tk.make s t) (decide (t.lit.size ≠ 0)) (l.drop (k + 1))) := by
            show _ = _
            rw [HR.out, Tk.run_good he]
          have HK : Hid ((Tk.make s t).length = s.length + t.lit.size + t.len.toNat) := hmk.1
          have HD : Hid ((!t.lit.toList.isEmpty) = decide (t.lit.size ≠ 0)) := by
            show _ = _
            by_cases h0 : t.lit.size = 0
            · rw [empty_of h0]; simp [h0]
            · rw [empty_not h0]; simp [h0]
          clear he hmk
          go_wp2_with fail
          refine (add_ok w.heap.size w.heap.size dict.size ((s.length : Int) - dict.size) p t.lit t.far t.len _ (Hm.out.alloc _) hD0 h' hM0 hM1 hln hF (by omega)).mono ?_
          rintro e w1 ⟨rfl, hb1, hm1, _⟩
          have HM1 : Hid (MkAt w1 w.heap.size w.heap.size dict.size ((s.length : Int) - dict.size + t.lit.size + t.len) (!t.lit.toList.isEmpty)) := hm1
          clear hm1
          go_wp2_with fail
          go_roundw
          case rel =>
            have hk1 := HK.out
            refine ⟨k + 1, Tk.make s t, decide (t.lit.size ≠ 0), by omega, by go_num, HX, by omega, by omega, ?_, (G.alloc hgs _).trans hb1⟩
            rw [← HD.out, show ((Tk.make s t).length : Int) - dict.size = (s.length : Int) - dict.size + t.lit.size + t.len by omega]
            exact HM1.out
          case measure => simp [intOf]; omega
    · have HX : Hid ((Tk.run dict.size dict.data.toList false l).1 = 0) := by
        show _ = _
        rw [hrun.out, List.drop_eq_nil_of_le (by omega)]
        rfl
      clear hm hrun hl hs
      go_wp2_with fail
      go_ret
      exact ⟨by rw [HX.out]; rfl, G⟩

theorem check_any (dict : ByteArray) (ad : Option Addr) (cap : Nat) (l : List Tk.T) (w : World) (hl : SlAt w ad l) (hs : Sane l) :
    Calls Try.prog 29 #[.string dict, .slice ad l.length cap] w fun e w' => e = .returned (.int .i64 (checkOf dict l)) ∧ Below w.heap.size w w' := by
  unfold checkOf
  by_cases hd : 256 < dict.size
  · rw [if_pos hd]
    exact check_many dict ad _ cap w hd
  · rw [if_neg hd]
    rcases hl with rfl | ⟨b, off, rfl, hb, ht⟩
    · exact check_nil dict ad cap w (by omega)
    · exact check_some dict b off cap l w (by omega) hb ht hs
end Go.Proofs.Ytbjbjbpgmojcbaa
