/- What toks.take comes to. -/
import Derived.Test.YtbjbjbpgmojcbaaNumsTake
import Derived.Test.YtbjbjbpgmojcbaaToksDec
import Derived.Deep.DrawnRows
namespace Go.Proofs.Ytbjbjbpgmojcbaa
open Go.RowKit
attribute [local go_sem ↓] Go.wp_at_zero Go.wp_at_succ

/-- A box of three cells that the call made, behind what turned nothing old. -/
theorem box6 {w w1 : World} {x y z : Value} {T : TypeId} (hb : Below (w.alloc (.cells #[x, y, z] T)).heap.size (w.alloc (.cells #[x, y, z] T)) w1) :
    w1.cell? ⟨w.heap.size, 0, none⟩ = some x ∧ w1.cell? ⟨w.heap.size, 1, none⟩ = some y ∧ w1.cell? ⟨w.heap.size, 2, none⟩ = some z ∧
      w1.frozen? ⟨w.heap.size, 0, none⟩ = false ∧ w1.frozen? ⟨w.heap.size, 1, none⟩ = false ∧ w1.frozen? ⟨w.heap.size, 2, none⟩ = false := by
  refine ⟨(hb.cell (by simp)).trans ?_, (hb.cell (by simp)).trans ?_, (hb.cell (by simp)).trans ?_, (hb.frozen (by simp)).trans ?_, (hb.frozen (by simp)).trans ?_, (hb.frozen (by simp)).trans ?_⟩
  · rw [World.cell?_alloc_mark]; rfl
  · rw [World.cell?_alloc_mark]; rfl
  · rw [World.cell?_alloc_mark]; rfl
  · rw [World.frozen?_alloc_mark]; simp
  · rw [World.frozen?_alloc_mark]; simp
  · rw [World.frozen?_alloc_mark]; simp

theorem set3 {B : Nat} {a w : World} (h : Below B a w) {g : Nat} (hg : B ≤ g) (x y z : Value) : Below B a (((w.setCell ⟨g, 0, none⟩ x).setCell ⟨g, 1, none⟩ y).setCell ⟨g, 2, none⟩ z) :=
  ((h.setCell (p := ⟨g, 0, none⟩) hg _).setCell (p := ⟨g, 1, none⟩) hg _).setCell (p := ⟨g, 2, none⟩) hg _

set_option maxRecDepth 4000 in
set_option maxHeartbeats 1000000 in
theorem take1_form (s : ByteArray) (w : World) (hs : s.size ≤ 281474976710656) (h : Nm.from_ s.data.toList = none) :
    Calls Try.prog 62 #[.string s] w fun e w' => e = .returned (.tuple #[.agg #[.string ⟨#[]⟩, .int .i64 0, .int .i64 0], .string ⟨#[]⟩, .int .i64 1]) ∧ Below w.heap.size w w' := by
  have hc := fun w => take_no s w hs h
  clear h
  go_enter Try.func62, Try.ntmps62
  go_wp2_with fail
  refine (hc _).mono ?_
  rintro e w1 ⟨rfl, G⟩
  clear hc
  obtain ⟨q0, q1, q2, q3, q4, q5⟩ := box6 G
  have G1 := bch ((Below.refl _ _).alloc (Nat.le_refl _) _) G (Nat.le_refl _)
  go_wp2_with fail
  exact bodyPost_ret (v := .tuple #[.agg #[.string ⟨#[]⟩, .int .i64 0, .int .i64 0], .string ⟨#[]⟩, .int .i64 1]) (by simp [results, Try.results62, go_sem, q0, q1, q2]) rfl ⟨rfl, set3 G1 (Nat.le_refl _) _ _ _⟩

set_option maxRecDepth 4000 in
set_option maxHeartbeats 1000000 in
theorem take1_odd (s r : ByteArray) (w : World) (hs : s.size ≤ 281474976710656) (n k f j : Nat) (h : Nm.from_ s.data.toList = some (n, k)) (hr : s.extract k s.size = r) (ho : n % 2 = 1) (hf : Nm.from_ r.data.toList = some (f, j)) :
    Calls Try.prog 62 #[.string s] w fun e w' => e = .returned (.tuple #[.agg #[.string ⟨#[]⟩, .int .i64 f, .int .i64 (n / 2 : Nat)], .string (r.extract j r.size), .int .i64 0]) ∧ Below w.heap.size w w' := by
  have hc := fun w => take_yes s w n k hs h
  have hn : (n : Int) ≤ 2147483647 := by have := Nm.nb_from h; omega
  rw [hr] at hc
  have hc2 := fun w => take_yes r w f j (by rw [← hr]; exact Nm.ext_le hs) hf
  have ho1 : ((n : Int) % 2 == 1) = true := by simp; omega
  have ho2 : (n : Int) % 2 = 1 := by omega
  have hq : ((n / 2 : Nat) : Int) = (n : Int) / 2 := by omega
  rw [hq]
  clear h hf hr hq ho
  go_enter Try.func62, Try.ntmps62
  go_wp2_with fail
  refine (hc _).mono ?_
  rintro e w1 ⟨rfl, G⟩
  clear hc
  go_wp2_with fail
  refine (hc2 _).mono ?_
  rintro e w2 ⟨rfl, G2⟩
  clear hc2
  have G3 := bch G G2 (Nat.le_refl _)
  obtain ⟨q0, q1, q2, q3, q4, q5⟩ := box6 G3
  have G1 := bch ((Below.refl _ _).alloc (Nat.le_refl _) _) G3 (Nat.le_refl _)
  clear G G2 G3
  go_wp2_with fail
  exact bodyPost_ret (v := .tuple #[.agg #[.string ⟨#[]⟩, .int .i64 f, .int .i64 ((n : Int) / 2)], .string (r.extract j r.size), .int .i64 0]) (by simp [results, Try.results62, go_sem, q0, q1, q2]) rfl ⟨rfl, set3 G1 (Nat.le_refl _) _ _ _⟩

set_option maxRecDepth 4000 in
set_option maxHeartbeats 1000000 in
theorem take1_oddbad (s r : ByteArray) (w : World) (hs : s.size ≤ 281474976710656) (n k : Nat) (h : Nm.from_ s.data.toList = some (n, k)) (hr : s.extract k s.size = r) (ho : n % 2 = 1) (hf : Nm.from_ r.data.toList = none) :
    Calls Try.prog 62 #[.string s] w fun e w' => e = .returned (.tuple #[.agg #[.string ⟨#[]⟩, .int .i64 0, .int .i64 (n / 2 : Nat)], .string ⟨#[]⟩, .int .i64 1]) ∧ Below w.heap.size w w' := by
  have hc := fun w => take_yes s w n k hs h
  have hn : (n : Int) ≤ 2147483647 := by have := Nm.nb_from h; omega
  rw [hr] at hc
  have hc2 := fun w => take_no r w (by rw [← hr]; exact Nm.ext_le hs) hf
  have ho1 : ((n : Int) % 2 == 1) = true := by simp; omega
  have ho2 : (n : Int) % 2 = 1 := by omega
  have hq : ((n / 2 : Nat) : Int) = (n : Int) / 2 := by omega
  rw [hq]
  clear h hf hr hq ho
  go_enter Try.func62, Try.ntmps62
  go_wp2_with fail
  refine (hc _).mono ?_
  rintro e w1 ⟨rfl, G⟩
  clear hc
  go_wp2_with fail
  refine (hc2 _).mono ?_
  rintro e w2 ⟨rfl, G2⟩
  clear hc2
  have G3 := bch G G2 (Nat.le_refl _)
  obtain ⟨q0, q1, q2, q3, q4, q5⟩ := box6 G3
  have G1 := bch ((Below.refl _ _).alloc (Nat.le_refl _) _) G3 (Nat.le_refl _)
  clear G G2 G3
  go_wp2_with fail
  exact bodyPost_ret (v := .tuple #[.agg #[.string ⟨#[]⟩, .int .i64 0, .int .i64 ((n : Int) / 2)], .string ⟨#[]⟩, .int .i64 1]) (by simp [results, Try.results62, go_sem, q0, q1, q2]) rfl ⟨rfl, set3 G1 (Nat.le_refl _) _ _ _⟩

set_option maxRecDepth 4000 in
set_option maxHeartbeats 1000000 in
theorem take1_evenbad (s r : ByteArray) (w : World) (hs : s.size ≤ 281474976710656) (n k : Nat) (h : Nm.from_ s.data.toList = some (n, k)) (hr : s.extract k s.size = r) (ho : ¬ n % 2 = 1) (hbig : r.size < n / 2) :
    Calls Try.prog 62 #[.string s] w fun e w' => e = .returned (.tuple #[.agg #[.string ⟨#[]⟩, .int .i64 0, .int .i64 0], .string ⟨#[]⟩, .int .i64 1]) ∧ Below w.heap.size w w' := by
  have hc := fun w => take_yes s w n k hs h
  have hn : (n : Int) ≤ 2147483647 := by have := Nm.nb_from h; omega
  rw [hr] at hc
  have ho1 : ((n : Int) % 2 == 1) = false := by simp; omega
  have hb1 : decide ((r.size : Int) < (n : Int) / 2) = true := by simp; omega
  have hb2 : (r.size : Int) < (n : Int) / 2 := by omega
  clear h hr hbig ho
  go_enter Try.func62, Try.ntmps62
  go_wp2_with fail
  refine (hc _).mono ?_
  rintro e w1 ⟨rfl, G⟩
  clear hc
  obtain ⟨q0, q1, q2, q3, q4, q5⟩ := box6 G
  have G1 := bch ((Below.refl _ _).alloc (Nat.le_refl _) _) G (Nat.le_refl _)
  go_wp2_with fail
  exact bodyPost_ret (v := .tuple #[.agg #[.string ⟨#[]⟩, .int .i64 0, .int .i64 0], .string ⟨#[]⟩, .int .i64 1]) (by simp [results, Try.results62, go_sem, q0, q1, q2]) rfl ⟨rfl, set3 G1 (Nat.le_refl _) _ _ _⟩

set_option maxRecDepth 4000 in
set_option maxHeartbeats 1000000 in
theorem take1_even (s r : ByteArray) (w : World) (hs : s.size ≤ 281474976710656) (n k m : Nat) (h : Nm.from_ s.data.toList = some (n, k)) (hr : s.extract k s.size = r) (ho : ¬ n % 2 = 1) (hm : n / 2 = m) (hbig : m ≤ r.size) :
    Calls Try.prog 62 #[.string s] w fun e w' => e = .returned (.tuple #[.agg #[.string (r.extract 0 m), .int .i64 0, .int .i64 0], .string (r.extract m r.size), .int .i64 0]) ∧ Below w.heap.size w w' := by
  have hc := fun w => take_yes s w n k hs h
  have hn : (n : Int) ≤ 2147483647 := by have := Nm.nb_from h; omega
  rw [hr] at hc
  have hrs : r.size ≤ 281474976710656 := by rw [← hr]; exact Nm.ext_le hs
  have ho1 : ((n : Int) % 2 == 1) = false := by simp; omega
  have hq : (n : Int) / 2 = (m : Int) := by omega
  have hb1 : decide ((r.size : Int) < (m : Int)) = false := by simp; omega
  have hb3 : decide (r.size < m) = false := by simp; omega
  have hi1 : (0 : Int) ≤ (m : Int) := by omega
  have hi2 : (m : Int) ≤ (r.size : Int) := by omega
  clear h hr hbig ho hm
  go_enter Try.func62, Try.ntmps62
  go_wp2_with fail
  refine (hc _).mono ?_
  rintro e w1 ⟨rfl, G⟩
  clear hc
  go_wp2_with fail
  go_region_with (go_at_call 54; refine (clone_any _ _ (Nm.ext_le hrs)).mono ?_; rintro e w2 ⟨rfl, hb⟩; have G3 := bch G.drew hb (Nat.le_refl _); obtain ⟨q0, q1, q2, q3, q4, q5⟩ := box6 G3)
  all_goals go_wp2_with fail
  all_goals exact bodyPost_ret (v := .tuple #[.agg #[.string (r.extract 0 m), .int .i64 0, .int .i64 0], .string (r.extract m r.size), .int .i64 0]) (by simp [results, Try.results62, go_sem, q0, q1, q2]) rfl ⟨rfl, set3 (bch ((Below.refl _ _).alloc (Nat.le_refl _) _) G3 (Nat.le_refl _)) (Nat.le_refl _) _ _ _⟩

/-- Nothing is taken. -/
theorem take1_no (s : ByteArray) (w : World) (hs : s.size ≤ 281474976710656) (h : Tk.one s = none) :
    Calls Try.prog 62 #[.string s] w fun e w' => ∃ lit far len r, e = .returned (.tuple #[.agg #[.string lit, .int .i64 far, .int .i64 len], .string r, .int .i64 1]) ∧ Below w.heap.size w w' := by
  unfold Tk.one at h
  cases hf : Nm.from_ s.data.toList with
  | none => exact (take1_form s w hs hf).mono fun e w' he => ⟨_, _, _, _, he.1, he.2⟩
  | some x =>
    rw [hf] at h
    simp only at h
    by_cases ho : x.1 % 2 = 1
    · rw [if_pos ho] at h
      cases hg : Nm.from_ (s.extract x.2 s.size).data.toList with
      | none => exact (take1_oddbad s _ w hs x.1 x.2 hf rfl ho hg).mono fun e w' he => ⟨_, _, _, _, he.1, he.2⟩
      | some y => rw [hg] at h; simp at h
    · rw [if_neg ho] at h
      by_cases hl : s.size - x.2 < x.1 / 2
      · exact (take1_evenbad s _ w hs x.1 x.2 hf rfl ho (by rw [Tk.ext_size]; exact hl)).mono fun e w' he => ⟨_, _, _, _, he.1, he.2⟩
      · rw [if_neg hl] at h; simp at h

/-- A tok is taken. -/
theorem take1_yes (s : ByteArray) (w : World) (hs : s.size ≤ 281474976710656) (t : Tk.T) (k : Nat) (h : Tk.one s = some (t, k)) :
    Calls Try.prog 62 #[.string s] w fun e w' => e = .returned (.tuple #[.agg #[.string t.lit, .int .i64 t.far, .int .i64 t.len], .string (s.extract k s.size), .int .i64 0]) ∧ Below w.heap.size w w' := by
  unfold Tk.one at h
  cases hf : Nm.from_ s.data.toList with
  | none => rw [hf] at h; simp at h
  | some x =>
    rw [hf] at h
    simp only at h
    by_cases ho : x.1 % 2 = 1
    · rw [if_pos ho] at h
      cases hg : Nm.from_ (s.extract x.2 s.size).data.toList with
      | none => rw [hg] at h; simp at h
      | some y =>
        rw [hg] at h
        simp only [Option.some.injEq, Prod.mk.injEq] at h
        obtain ⟨rfl, rfl⟩ := h
        have hc := take1_odd s _ w hs x.1 x.2 y.1 y.2 hf rfl ho hg
        have e : (s.extract x.2 s.size).extract y.2 (s.extract x.2 s.size).size = s.extract (x.2 + y.2) s.size := by
          apply Nm.ba_ext
          rw [Tk.ext_end, Tk.ext_end, Tk.ext_end, List.drop_drop]
        rw [e] at hc
        exact hc
    · rw [if_neg ho] at h
      by_cases hl : s.size - x.2 < x.1 / 2
      · rw [if_pos hl] at h; simp at h
      · rw [if_neg hl] at h
        simp only [Option.some.injEq, Prod.mk.injEq] at h
        obtain ⟨rfl, rfl⟩ := h
        have hc := take1_even s _ w hs x.1 x.2 (x.1 / 2) hf rfl ho rfl (by rw [Tk.ext_size]; omega)
        have e1 : (s.extract x.2 s.size).extract 0 (x.1 / 2) = s.extract x.2 (x.2 + x.1 / 2) := by
          apply Nm.ba_ext
          rw [Tk.ext_data, Tk.ext_end, Tk.ext_data]
          simp
        have e2 : (s.extract x.2 s.size).extract (x.1 / 2) (s.extract x.2 s.size).size = s.extract (x.2 + x.1 / 2) s.size := by
          apply Nm.ba_ext
          rw [Tk.ext_end, Tk.ext_end, Tk.ext_end, List.drop_drop]
        rw [e1, e2] at hc
        exact hc
end Go.Proofs.Ytbjbjbpgmojcbaa
