/- What SameToks comes to. -/
import Derived.Test.YtbjbjbpgmojcbaaToksCheck
namespace Go.Proofs.Ytbjbjbpgmojcbaa
open Go.RowKit

/-- Two toks are the same. -/
def eqT (a b : Tk.T) : Bool := a.lit.toList == b.lit.toList && (a.far == b.far && a.len == b.len)
/-- Two lists of toks are the same. -/
def sameB : List Tk.T → List Tk.T → Bool
  | [], [] => true
  | a :: l, b :: m => eqT a b && sameB l m
  | _, _ => false

theorem eqT_iff (a b : Tk.T) : eqT a b = true ↔ a = b := by
  obtain ⟨x, f, n⟩ := a
  obtain ⟨y, g, m⟩ := b
  unfold eqT
  simp only [Bool.and_eq_true, beq_iff_eq, Tk.T.mk.injEq]
  constructor
  · rintro ⟨h, h1, h2⟩
    refine ⟨Nm.ba_ext ?_, h1, h2⟩
    rw [← Lib.toList_data, ← Lib.toList_data, h]
  · rintro ⟨h, h1, h2⟩
    exact ⟨by rw [h], h1, h2⟩
theorem sameB_iff : ∀ (l m : List Tk.T), sameB l m = true ↔ l = m := by
  intro l
  induction l with
  | nil => intro m; cases m <;> simp [sameB]
  | cons a l ih => intro m; cases m <;> simp [sameB, eqT_iff, ih]
theorem sameB_refl (l : List Tk.T) : sameB l l = true := (sameB_iff l l).2 rfl
theorem sameB_not {l m : List Tk.T} (h : l ≠ m) : sameB l m = false := by
  cases e : sameB l m with
  | false => rfl
  | true => exact absurd ((sameB_iff l m).1 e) h

theorem tok_equalIn (d : Nat) (x y : ByteArray) (a b c e : Int) (w : World) :
    (Op.equalIn (d + 2) 73 (.agg #[.string x, .int .i64 a, .int .i64 b]) (.agg #[.string y, .int .i64 c, .int .i64 e])).run Try.prog w = .ok (x.toList == y.toList && (a == c && b == e)) w := by
  have hp : Try.prog.stoodInHeld 73 = false := by kernel_rfl
  have hu : Try.prog.underlying 73 = some (.struct (Try.prog.fieldsOf 73)) := by kernel_rfl
  rw [run_equalIn_agg w (d + 1) _ _ _ hu hp]
  simp [go_sem, Op.eqFields, Try.underlying73, Try.underlying9, Try.underlying3, Program.fieldsOf]
  by_cases h1 : x.toList = y.toList <;> by_cases h2 : a = c <;> by_cases h3 : b = e <;> simp [h1, h2, h3]

set_option maxHeartbeats 1000000 in
theorem same_len (ad bd : Option Addr) (n m c1 c2 : Nat) (w : World) (h : n ≠ m) :
    Calls Try.prog 31 #[.slice ad n c1, .slice bd m c2] w fun e w' => e = .returned (.bool false) ∧ Below w.heap.size w w' := by
  have h1 : ((n : Int) != (m : Int)) = true := by rw [bne_iff_ne]; omega
  go_enter Try.func31, Try.ntmps31
  go_wp2_with fail
  go_ret
  exact ⟨rfl, Below.refl _ _⟩

set_option maxHeartbeats 1000000 in
theorem same_nil (ad bd : Option Addr) (c1 c2 : Nat) (w : World) :
    Calls Try.prog 31 #[.slice ad 0 c1, .slice bd 0 c2] w fun e w' => e = .returned (.bool true) ∧ Below w.heap.size w w' := by
  go_enter Try.func31, Try.ntmps31
  go_wp2_with fail
  refine wp_loop_rounds 1 ?_
  rw [rounds_succ]
  go_wp2_with fail
  go_ret
  exact ⟨rfl, Below.refl _ _⟩

set_option maxRecDepth 4000 in
set_option maxHeartbeats 1000000 in
theorem same_some (b off b2 off2 c1 c2 : Nat) (l l2 : List Tk.T) (w : World) (hl : TkAt w b off l) (hl2 : TkAt w b2 off2 l2) (hn : l.length ≤ 140737488355328) (he : l.length = l2.length) :
    Calls Try.prog 31 #[.slice (some ⟨b, off, none⟩) l.length c1, .slice (some ⟨b2, off2, none⟩) l.length c2] w fun e w' => e = .returned (.bool (sameB l l2)) ∧ Below w.heap.size w w' := by
  have hn' : (l.length : Int) ≤ 140737488355328 := by omega
  have HE : Hid (l.length = l2.length) := he
  clear he
  go_enter Try.func31, Try.ntmps31
  go_wp2_with fail
  go_loopw [5] (fun i wr => ∃ (k : Nat), k ≤ l.length ∧ i = .int .i64 k ∧ Hid (l.take k = l2.take k) ∧ ∃ n, wr = w.drewN n)
    (fun i _ => l.length - (intOf i).toNat)
  case atStart => exact ⟨0, by omega, rfl, rfl, 0, rfl⟩
  case round =>
    obtain ⟨k, hk, rfl, hp, n, rfl⟩ := hrel
    by_cases hlt : k < l.length
    · obtain ⟨a0, a1, a2⟩ := hl k hlt
      obtain ⟨d0, d1, d2⟩ := hl2 k (by rw [← HE.out]; exact hlt)
      have hi1 : (0 : Int) ≤ (k : Int) := by omega
      have hi2 : (k : Int) < (l.length : Int) := by omega
      have hm : Try.prog.eqGuardType Try.prog.depth 73 = false := by kernel_rfl
      have hlt2 : k < l2.length := by rw [← HE.out]; exact hlt
      have heq := tok_equalIn 9998 l[k].lit l2[k].lit l[k].far l[k].len l2[k].far l2[k].len
      have HT : Hid (l.take (k + 1) = l.take k ++ [l[k]] ∧ l2.take (k + 1) = l2.take k ++ [l2[k]]) := ⟨by simp, by simp⟩
      have HG : Hid (l[k]? = some l[k] ∧ l2[k]? = some l2[k]) := ⟨List.getElem?_eq_getElem hlt, List.getElem?_eq_getElem hlt2⟩
      clear hl hl2
      generalize l[k] = t1 at *
      generalize l2[k] = t2 at *
      cases hq : eqT t1 t2 with
      | true =>
        have hq' : (t1.lit.toList == t2.lit.toList && (t1.far == t2.far && t1.len == t2.len)) = true := hq
        rw [hq'] at heq
        have HQ : Hid (t1 = t2) := (eqT_iff t1 t2).1 hq
        clear hq hq'
        go_wp2_with fail
        go_quiet (fail)
        go_wp2_with fail
        go_roundw
        case rel => exact ⟨k + 1, by omega, by go_num, by show _ = _; rw [HT.out.1, HT.out.2, hp.out, HQ.out], _, rfl⟩
        case measure => simp [intOf]; omega
      | false =>
        have hq' : (t1.lit.toList == t2.lit.toList && (t1.far == t2.far && t1.len == t2.len)) = false := hq
        rw [hq'] at heq
        have HQ : Hid (sameB l l2 = false) := by
          refine sameB_not (fun e => ?_)
          subst e
          have := HG.out.1.symm.trans HG.out.2
          simp only [Option.some.injEq] at this
          rw [(eqT_iff t1 t2).2 this] at hq
          cases hq
        clear hq hq'
        go_wp2_with fail
        go_quiet (fail)
        go_wp2_with fail
        go_ret
        exact ⟨by rw [HQ.out]; rfl, below_drewN (below_drewN (Below.refl _ _) _) _⟩
    · have HQ : Hid (sameB l l2 = true) := by
        refine (sameB_iff l l2).2 ?_
        have h1 := hp.out
        rw [List.take_of_length_le (by omega), List.take_of_length_le (by have := HE.out; omega)] at h1
        exact h1
      have hd1 : decide ((k : Int) < (l.length : Int)) = false := by simp; omega
      have hd2 : decide (k < l.length) = false := by simp; omega
      clear hl hl2
      go_wp2_with fail
      go_ret
      exact ⟨by rw [HQ.out]; rfl, below_drewN (Below.refl _ _) _⟩

theorem same_any (ad bd : Option Addr) (c1 c2 : Nat) (l l2 : List Tk.T) (w : World) (h1 : SlAt w ad l) (h2 : SlAt w bd l2) (hn : l.length ≤ 140737488355328) :
    Calls Try.prog 31 #[.slice ad l.length c1, .slice bd l2.length c2] w fun e w' => e = .returned (.bool (sameB l l2)) ∧ Below w.heap.size w w' := by
  by_cases he : l.length = l2.length
  · rcases h1 with rfl | ⟨b, off, rfl, hb, ht⟩
    · have : l2 = [] := List.eq_nil_of_length_eq_zero he.symm
      subst this
      exact same_nil ad bd c1 c2 w
    · rcases h2 with rfl | ⟨b2, off2, rfl, hb2, ht2⟩
      · have : l = [] := List.eq_nil_of_length_eq_zero he
        subst this
        exact same_nil _ bd c1 c2 w
      · rw [← he]
        exact same_some b off b2 off2 c1 c2 l l2 w ht ht2 hn he
  · rw [sameB_not (fun e => he (by rw [e]))]
    exact same_len ad bd _ _ c1 c2 w he
end Go.Proofs.Ytbjbjbpgmojcbaa
