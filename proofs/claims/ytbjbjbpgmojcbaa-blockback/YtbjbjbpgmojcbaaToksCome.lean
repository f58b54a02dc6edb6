/- What chapter 2's own come, and toks' alike, come to. -/
import Derived.Test.YtbjbjbpgmojcbaaToksFind
import Derived.Test.YtbjbjbpgmojcbaaNumsWalks
import Derived.BigQuiet
import Derived.Deep.QuietTactic
namespace Go.Proofs.Ytbjbjbpgmojcbaa
open Go.RowKit

theorem byte_eq (s : ByteArray) (a b : Nat) (ha : a < s.size) (hb : b < s.size) : ((s[a].toNat : Int) == (s[b].toNat : Int)) = decide (s.data.toList[a]? = s.data.toList[b]?) := by
  rw [Nm.at_list s a ha, Nm.at_list s b hb]
  by_cases h : s[a] = s[b]
  · simp [h]
  · have : ¬ (s[a].toNat : Int) = (s[b].toNat : Int) := fun e => h (UInt8.toNat_inj.1 (by omega))
    simp [h, this]

theorem drew2 (w : World) (n m : Nat) : (w.drewN n).drewN m = w.drewN (n + m) := by simp [World.drewN, Nat.add_assoc]

theorem idx_at (s : ByteArray) (i : Int) (n : Nat) (h : i = (n : Int)) (hn : n < s.size) (w : World) : (Instr.index 9 (.string s) (.int .i64 i)).run Try.prog w = .ok (.int .u8 (s[n].toNat : Int)) w := by
  subst h
  rw [run_index_string w _ _ _ _ Try.underlying9]
  simp [hn]

set_option maxRecDepth 4000 in
set_option maxHeartbeats 1000000 in
theorem come_any (s : ByteArray) (at_ far : Nat) (w : World) (hs : s.size ≤ 2000) (ha : at_ ≤ s.size) (hf1 : 1 ≤ far) (hf : far ≤ at_) :
    Calls Try.prog 60 #[.string s, .int .i64 at_, .int .i64 far] w fun e w' => e = .returned (.int .i64 (Tk.alk s.data.toList (at_ - far) at_ (min 64 (s.size - at_)) : Nat)) ∧ Below w.heap.size w w' := by
  have hs2 : (s.size : Int) ≤ 2000 := by omega
  have ha2 : (at_ : Int) ≤ 2000 := by omega
  have hf2 : (far : Int) ≤ (at_ : Int) := by omega
  go_enter Try.func60, Try.ntmps60
  go_wp2_with fail
  go_loopw [7] (fun x wr => ∃ k : Nat, k ≤ 64 ∧ at_ + k ≤ s.size ∧ x = .int .i64 k ∧ Hid (∀ j, j < k → s.data.toList[at_ - far + j]? = s.data.toList[at_ + j]?) ∧ Below w.heap.size w wr) (fun x _ => 64 - (intOf x).toNat)
  case atStart => exact ⟨0, by omega, by omega, rfl, fun j h => by omega, Below.refl _ _⟩
  case round =>
    obtain ⟨k, hk, hka, rfl, hall, G⟩ := hrel
    have hr1 : IntKind.i64.wrap ((at_ : Int) + (k : Int)) = (at_ : Int) + (k : Int) := IntWalk.i64_in _ ⟨by omega, by omega⟩
    have hr2 : IntKind.i64.wrap ((at_ : Int) + (k : Int) - (far : Int)) = (at_ : Int) + (k : Int) - (far : Int) := IntWalk.i64_in _ ⟨by omega, by omega⟩
    by_cases h64 : k < 64
    · have d1 : decide ((k : Int) < 64) = true := by simp; omega
      have d1' : decide (k < 64) = true := by simp; omega
      by_cases hend : at_ + k < s.size
      · have d2 : decide ((at_ : Int) + (k : Int) < (s.size : Int)) = true := by simp; omega
        have hb := byte_eq s (at_ + k) (at_ + k - far) hend (by omega)
        have hx1 := idx_at s ((at_ : Int) + (k : Int)) (at_ + k) (by omega) hend
        have hx2 := idx_at s ((at_ : Int) + (k : Int) - (far : Int)) (at_ + k - far) (by omega) (by omega)
        generalize (s[at_ + k].toNat : Int) = x at *
        generalize (s[at_ + k - far].toNat : Int) = y at *
        by_cases he : s.data.toList[at_ + k]? = s.data.toList[at_ + k - far]?
        · rw [decide_eq_true he] at hb
          have HE : Hid (s.data.toList[at_ - far + k]? = s.data.toList[at_ + k]?) := by
            show _ = _
            rw [he, show at_ - far + k = at_ + k - far by omega]
          clear he
          go_wp2_with fail
          go_quiet (fail)
          go_wp2_with fail
          go_roundw
          case rel =>
            refine ⟨k + 1, by omega, by omega, by go_num, ?_, below_drewN G _⟩
            intro j hj
            by_cases hjk : j = k
            · subst hjk; exact HE.out
            · exact hall.out j (by omega)
          case measure => simp [intOf]; omega
        · rw [decide_eq_false he] at hb
          have HE : Hid (Tk.alk s.data.toList (at_ - far) at_ (min 64 (s.size - at_)) = k) := by
            refine Tk.alk_eq _ _ _ _ _ (by omega) hall.out (Or.inr (fun e => he ?_))
            rw [← e, show at_ - far + k = at_ + k - far by omega]
          clear he
          go_wp2_with fail
          go_quiet (fail)
          go_wp2_with fail
          go_ret
          exact ⟨by rw [HE.out]; rfl, below_drewN G _⟩
      · have d2 : decide ((at_ : Int) + (k : Int) < (s.size : Int)) = false := by simp; omega
        have HE : Hid (Tk.alk s.data.toList (at_ - far) at_ (min 64 (s.size - at_)) = k) := Tk.alk_eq _ _ _ _ _ (by omega) hall.out (Or.inl (by omega))
        go_wp2_with fail
        go_quiet (fail)
        go_wp2_with fail
        go_ret
        exact ⟨by rw [HE.out]; rfl, below_drewN G _⟩
    · have d1 : decide ((k : Int) < 64) = false := by simp; omega
      have d1' : decide (k < 64) = false := by simp; omega
      have HE : Hid (Tk.alk s.data.toList (at_ - far) at_ (min 64 (s.size - at_)) = k) := Tk.alk_eq _ _ _ _ _ (by omega) hall.out (Or.inl (by omega))
      go_wp2_with fail
      go_quiet (fail)
      go_wp2_with fail
      go_ret
      exact ⟨by rw [HE.out]; rfl, below_drewN G _⟩

set_option maxRecDepth 4000 in
set_option maxHeartbeats 1000000 in
theorem alike_any (gp : Nat) (s : ByteArray) (a b m : Nat) (w : World) (hc : w.cell? ⟨gp, 0, none⟩ = some (.string s)) (hs : s.size ≤ 2000) (ha : a + m ≤ s.size) (hb0 : b + m ≤ s.size) :
    Calls Try.prog 85 #[.pointer (some ⟨gp, 0, none⟩), .int .i64 a, .int .i64 b, .int .i64 m] w fun e w' => e = .returned (.int .i64 (Tk.alk s.data.toList a b m : Nat)) ∧ ∃ n, w' = w.drewN n := by
  have hs2 : (s.size : Int) ≤ 2000 := by omega
  have hm2 : (m : Int) ≤ 2000 := by omega
  go_enter Try.func85, Try.ntmps85
  go_wp2_with fail
  go_loopw [9] (fun x wr => ∃ k : Nat, k ≤ m ∧ x = .int .i64 k ∧ Hid (∀ j, j < k → s.data.toList[a + j]? = s.data.toList[b + j]?) ∧ ∃ n, wr = w.drewN n) (fun x _ => m - (intOf x).toNat)
  case atStart => exact ⟨0, by omega, rfl, fun j h => by omega, 0, rfl⟩
  case round =>
    obtain ⟨k, hk, rfl, hall, n, rfl⟩ := hrel
    by_cases h64 : k < m
    · have d1 : decide ((k : Int) < (m : Int)) = true := by simp; omega
      have d1' : decide (k < m) = true := by simp; omega
      have hr1 : IntKind.i64.wrap ((a : Int) + (k : Int)) = (a : Int) + (k : Int) := IntWalk.i64_in _ ⟨by omega, by omega⟩
      have hr2 : IntKind.i64.wrap ((b : Int) + (k : Int)) = (b : Int) + (k : Int) := IntWalk.i64_in _ ⟨by omega, by omega⟩
      have hb := byte_eq s (a + k) (b + k) (by omega) (by omega)
      have hx1 := idx_at s ((a : Int) + (k : Int)) (a + k) (by omega) (by omega)
      have hx2 := idx_at s ((b : Int) + (k : Int)) (b + k) (by omega) (by omega)
      generalize (s[a + k].toNat : Int) = x at *
      generalize (s[b + k].toNat : Int) = y at *
      by_cases he : s.data.toList[a + k]? = s.data.toList[b + k]?
      · rw [decide_eq_true he] at hb
        have HE : Hid (s.data.toList[a + k]? = s.data.toList[b + k]?) := he
        clear he
        go_wp2_with fail
        go_quiet (fail)
        go_wp2_with fail
        go_roundw
        case rel =>
          refine ⟨k + 1, by omega, by go_num, ?_, _, rfl⟩
          intro j hj
          by_cases hjk : j = k
          · subst hjk; exact HE.out
          · exact hall.out j (by omega)
        case measure => simp [intOf]; omega
      · rw [decide_eq_false he] at hb
        have HE : Hid (Tk.alk s.data.toList a b m = k) := Tk.alk_eq _ _ _ _ _ (by omega) hall.out (Or.inr he)
        clear he
        go_wp2_with fail
        go_quiet (fail)
        go_wp2_with fail
        go_ret
        exact ⟨by rw [HE.out]; rfl, _, drew2 _ _ _⟩
    · have d1 : decide ((k : Int) < (m : Int)) = false := by simp; omega
      have d1' : decide (k < m) = false := by simp; omega
      have HE : Hid (Tk.alk s.data.toList a b m = k) := Tk.alk_eq _ _ _ _ _ (by omega) hall.out (Or.inl (by omega))
      go_wp2_with fail
      go_quiet (fail)
      go_wp2_with fail
      go_ret
      exact ⟨by rw [HE.out]; rfl, _, drew2 _ _ _⟩
end Go.Proofs.Ytbjbjbpgmojcbaa
