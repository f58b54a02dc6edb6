/- A part of the proof: what it leans on. -/
import Derived.Deep.DrawnRows
import Derived.Deep.RegionHeld3
import Derived.OneCell
import Derived.BigRegion
import Derived.Test.YtbjbjbpgmojcbabGreatLrBook01
import Derived.Test.YtbjbjbpgmojcbabGreatLrBook02
import Derived.Test.YtbjbjbpgmojcbabGreatLrBook03
namespace Go.Proofs.YtbjbjbpgmojcbabGreat
open Go.RowKit
attribute [local go_sem ↓] Go.wp_at_zero Go.wp_at_succ
theorem box6 {w w1 : World} {x y z : Value} {T : TypeId} (hb : Below (w.alloc (.cells #[x, y, z] T)).heap.size (w.alloc (.cells #[x, y, z] T)) w1) :
    w1.cell? ⟨w.heap.size, 0, none⟩ = some x ∧ w1.cell? ⟨w.heap.size, 1, none⟩ = some y ∧ w1.cell? ⟨w.heap.size, 2, none⟩ = some z ∧
      w1.frozen? ⟨w.heap.size, 0, none⟩ = false ∧ w1.frozen? ⟨w.heap.size, 1, none⟩ = false ∧ w1.frozen? ⟨w.heap.size, 2, none⟩ = false := by
  refine ⟨(hb.cell (by simp)).trans ?_, (hb.cell (by simp)).trans ?_, (hb.cell (by simp)).trans ?_, (hb.frozen (by simp)).trans ?_, (hb.frozen (by simp)).trans ?_, (hb.frozen (by simp)).trans ?_⟩
  · rw [World.cell?_alloc_mark]; rfl
  · rw [World.cell?_alloc_mark]; rfl
  · rw [World.cell?_alloc_mark]; rfl
  · rw [World.frozen?_alloc_mark]; simp
  · rw [World.frozen?_alloc_mark]; simp
  · rw [World.frozen?_alloc_mark]; simp
theorem set3 {B : Nat} {a w : World} (h : Below B a w) {g : Nat} (hg : B ≤ g) (x y z : Value) : Below B a (((w.setCell ⟨g, 0, none⟩ x).setCell ⟨g, 1, none⟩ y).setCell ⟨g, 2, none⟩ z) :=
  ((h.setCell (p := ⟨g, 0, none⟩) hg _).setCell (p := ⟨g, 1, none⟩) hg _).setCell (p := ⟨g, 2, none⟩) hg _
set_option maxRecDepth 4000 in
set_option maxHeartbeats 1000000 in
theorem take1_form (s : ByteArray) (w : World) (hs : s.size ≤ 281474976710656) (h : Nm.from_ s.data.toList = none) :
    Calls Tryz.prog 208 #[.string s] w fun e w' => e = .returned (.tuple #[.agg #[.string ⟨#[]⟩, .int .i64 0, .int .i64 0], .string ⟨#[]⟩, .int .i64 1]) ∧ Below w.heap.size w w' := by
  have hc := fun w => take_no s w hs h
  clear h
  go_enter Tryz.func208, Tryz.ntmps208
  go_wp2_with fail
  refine (hc _).mono ?_
  rintro e w1 ⟨rfl, G⟩
  clear hc
  obtain ⟨q0, q1, q2, q3, q4, q5⟩ := box6 G
  have G1 := bch ((Below.refl _ _).alloc (Nat.le_refl _) _) G (Nat.le_refl _)
  go_wp2_with fail
  exact bodyPost_ret (v := .tuple #[.agg #[.string ⟨#[]⟩, .int .i64 0, .int .i64 0], .string ⟨#[]⟩, .int .i64 1]) (by simp [results, Tryz.results208, go_sem, q0, q1, q2]) rfl ⟨rfl, set3 G1 (Nat.le_refl _) _ _ _⟩
set_option maxRecDepth 4000 in
set_option maxHeartbeats 1000000 in
theorem take1_odd (s r : ByteArray) (w : World) (hs : s.size ≤ 281474976710656) (n k f j : Nat) (h : Nm.from_ s.data.toList = some (n, k)) (hr : s.extract k s.size = r) (ho : n % 2 = 1) (hf : Nm.from_ r.data.toList = some (f, j)) :
    Calls Tryz.prog 208 #[.string s] w fun e w' => e = .returned (.tuple #[.agg #[.string ⟨#[]⟩, .int .i64 f, .int .i64 (n / 2 : Nat)], .string (r.extract j r.size), .int .i64 0]) ∧ Below w.heap.size w w' := by
  have hc := fun w => take_yes s w n k hs h
  have hn : (n : Int) ≤ 2147483647 := by have := Nm.nb_from h; omega
  rw [hr] at hc
  have hc2 := fun w => take_yes r w f j (by rw [← hr]; exact Nm.ext_le hs) hf
  have ho1 : ((n : Int) % 2 == 1) = true := by simp; omega
  have ho2 : (n : Int) % 2 = 1 := by omega
  have hq : ((n / 2 : Nat) : Int) = (n : Int) / 2 := by omega
  rw [hq]
  clear h hf hr hq ho
  go_enter Tryz.func208, Tryz.ntmps208
  go_wp2_with fail
  refine (hc _).mono ?_
  rintro e w1 ⟨rfl, G⟩
  clear hc
  go_wp2_with fail
  refine (hc2 _).mono ?_
  rintro e w2 ⟨rfl, G2⟩
  clear hc2
  have G3 := bch G G2 (Nat.le_refl _)
  obtain ⟨q0, q1, q2, q3, q4, q5⟩ := box6 G3
  have G1 := bch ((Below.refl _ _).alloc (Nat.le_refl _) _) G3 (Nat.le_refl _)
  clear G G2 G3
  go_wp2_with fail
  exact bodyPost_ret (v := .tuple #[.agg #[.string ⟨#[]⟩, .int .i64 f, .int .i64 ((n : Int) / 2)], .string (r.extract j r.size), .int .i64 0]) (by simp [results, Tryz.results208, go_sem, q0, q1, q2]) rfl ⟨rfl, set3 G1 (Nat.le_refl _) _ _ _⟩
set_option maxRecDepth 4000 in
set_option maxHeartbeats 1000000 in
theorem take1_oddbad (s r : ByteArray) (w : World) (hs : s.size ≤ 281474976710656) (n k : Nat) (h : Nm.from_ s.data.toList = some (n, k)) (hr : s.extract k s.size = r) (ho : n % 2 = 1) (hf : Nm.from_ r.data.toList = none) :
    Calls Tryz.prog 208 #[.string s] w fun e w' => e = .returned (.tuple #[.agg #[.string ⟨#[]⟩, .int .i64 0, .int .i64 (n / 2 : Nat)], .string ⟨#[]⟩, .int .i64 1]) ∧ Below w.heap.size w w' := by
  have hc := fun w => take_yes s w n k hs h
  have hn : (n : Int) ≤ 2147483647 := by have := Nm.nb_from h; omega
  rw [hr] at hc
  have hc2 := fun w => take_no r w (by rw [← hr]; exact Nm.ext_le hs) hf
  have ho1 : ((n : Int) % 2 == 1) = true := by simp; omega
  have ho2 : (n : Int) % 2 = 1 := by omega
  have hq : ((n / 2 : Nat) : Int) = (n : Int) / 2 := by omega
  rw [hq]
  clear h hf hr hq ho
  go_enter Tryz.func208, Tryz.ntmps208
  go_wp2_with fail
  refine (hc _).mono ?_
  rintro e w1 ⟨rfl, G⟩
  clear hc
  go_wp2_with fail
  refine (hc2 _).mono ?_
  rintro e w2 ⟨rfl, G2⟩
  clear hc2
  have G3 := bch G G2 (Nat.le_refl _)
  obtain ⟨q0, q1, q2, q3, q4, q5⟩ := box6 G3
  have G1 := bch ((Below.refl _ _).alloc (Nat.le_refl _) _) G3 (Nat.le_refl _)
  clear G G2 G3
  go_wp2_with fail
  exact bodyPost_ret (v := .tuple #[.agg #[.string ⟨#[]⟩, .int .i64 0, .int .i64 ((n : Int) / 2)], .string ⟨#[]⟩, .int .i64 1]) (by simp [results, Tryz.results208, go_sem, q0, q1, q2]) rfl ⟨rfl, set3 G1 (Nat.le_refl _) _ _ _⟩
set_option maxRecDepth 4000 in
set_option maxHeartbeats 1000000 in
theorem take1_evenbad (s r : ByteArray) (w : World) (hs : s.size ≤ 281474976710656) (n k : Nat) (h : Nm.from_ s.data.toList = some (n, k)) (hr : s.extract k s.size = r) (ho : ¬ n % 2 = 1) (hbig : r.size < n / 2) :
    Calls Tryz.prog 208 #[.string s] w fun e w' => e = .returned (.tuple #[.agg #[.string ⟨#[]⟩, .int .i64 0, .int .i64 0], .string ⟨#[]⟩, .int .i64 1]) ∧ Below w.heap.size w w' := by
  have hc := fun w => take_yes s w n k hs h
  have hn : (n : Int) ≤ 2147483647 := by have := Nm.nb_from h; omega
  rw [hr] at hc
  have ho1 : ((n : Int) % 2 == 1) = false := by simp; omega
  have hb1 : decide ((r.size : Int) < (n : Int) / 2) = true := by simp; omega
  have hb2 : (r.size : Int) < (n : Int) / 2 := by omega
  clear h hr hbig ho
  go_enter Tryz.func208, Tryz.ntmps208
  go_wp2_with fail
  refine (hc _).mono ?_
  rintro e w1 ⟨rfl, G⟩
  clear hc
  obtain ⟨q0, q1, q2, q3, q4, q5⟩ := box6 G
  have G1 := bch ((Below.refl _ _).alloc (Nat.le_refl _) _) G (Nat.le_refl _)
  go_wp2_with fail
  exact bodyPost_ret (v := .tuple #[.agg #[.string ⟨#[]⟩, .int .i64 0, .int .i64 0], .string ⟨#[]⟩, .int .i64 1]) (by simp [results, Tryz.results208, go_sem, q0, q1, q2]) rfl ⟨rfl, set3 G1 (Nat.le_refl _) _ _ _⟩
set_option maxRecDepth 4000 in
set_option maxHeartbeats 1000000 in
theorem take1_even (s r : ByteArray) (w : World) (hs : s.size ≤ 281474976710656) (n k m : Nat) (h : Nm.from_ s.data.toList = some (n, k)) (hr : s.extract k s.size = r) (ho : ¬ n % 2 = 1) (hm : n / 2 = m) (hbig : m ≤ r.size) :
    Calls Tryz.prog 208 #[.string s] w fun e w' => e = .returned (.tuple #[.agg #[.string (r.extract 0 m), .int .i64 0, .int .i64 0], .string (r.extract m r.size), .int .i64 0]) ∧ Below w.heap.size w w' := by
  have hc := fun w => take_yes s w n k hs h
  have hn : (n : Int) ≤ 2147483647 := by have := Nm.nb_from h; omega
  rw [hr] at hc
  have hrs : r.size ≤ 281474976710656 := by rw [← hr]; exact Nm.ext_le hs
  have ho1 : ((n : Int) % 2 == 1) = false := by simp; omega
  have hq : (n : Int) / 2 = (m : Int) := by omega
  have hb1 : decide ((r.size : Int) < (m : Int)) = false := by simp; omega
  have hb3 : decide (r.size < m) = false := by simp; omega
  have hi1 : (0 : Int) ≤ (m : Int) := by omega
  have hi2 : (m : Int) ≤ (r.size : Int) := by omega
  clear h hr hbig ho hm
  go_enter Tryz.func208, Tryz.ntmps208
  go_wp2_with fail
  refine (hc _).mono ?_
  rintro e w1 ⟨rfl, G⟩
  clear hc
  go_wp2_with fail
  go_region_with (go_at_call 69; refine (clone_any _ _ (Nm.ext_le hrs)).mono ?_; rintro e w2 ⟨rfl, hb⟩; have G3 := bch G.drew hb (Nat.le_refl _); obtain ⟨q0, q1, q2, q3, q4, q5⟩ := box6 G3)
  all_goals go_wp2_with fail
  all_goals exact bodyPost_ret (v := .tuple #[.agg #[.string (r.extract 0 m), .int .i64 0, .int .i64 0], .string (r.extract m r.size), .int .i64 0]) (by simp [results, Tryz.results208, go_sem, q0, q1, q2]) rfl ⟨rfl, set3 (bch ((Below.refl _ _).alloc (Nat.le_refl _) _) G3 (Nat.le_refl _)) (Nat.le_refl _) _ _ _⟩
theorem take1_no (s : ByteArray) (w : World) (hs : s.size ≤ 281474976710656) (h : Tk.one s = none) :
    Calls Tryz.prog 208 #[.string s] w fun e w' => ∃ lit far len r, e = .returned (.tuple #[.agg #[.string lit, .int .i64 far, .int .i64 len], .string r, .int .i64 1]) ∧ Below w.heap.size w w' := by
  unfold Tk.one at h
  cases hf : Nm.from_ s.data.toList with
  | none => exact (take1_form s w hs hf).mono fun e w' he => ⟨_, _, _, _, he.1, he.2⟩
  | some x =>
    rw [hf] at h
    simp only at h
    by_cases ho : x.1 % 2 = 1
    · rw [if_pos ho] at h
      cases hg : Nm.from_ (s.extract x.2 s.size).data.toList with
      | none => exact (take1_oddbad s _ w hs x.1 x.2 hf rfl ho hg).mono fun e w' he => ⟨_, _, _, _, he.1, he.2⟩
      | some y => rw [hg] at h; simp at h
    · rw [if_neg ho] at h
      by_cases hl : s.size - x.2 < x.1 / 2
      · exact (take1_evenbad s _ w hs x.1 x.2 hf rfl ho (by rw [Tk.ext_size]; exact hl)).mono fun e w' he => ⟨_, _, _, _, he.1, he.2⟩
      · rw [if_neg hl] at h; simp at h
theorem take1_yes (s : ByteArray) (w : World) (hs : s.size ≤ 281474976710656) (t : Tk.T) (k : Nat) (h : Tk.one s = some (t, k)) :
    Calls Tryz.prog 208 #[.string s] w fun e w' => e = .returned (.tuple #[.agg #[.string t.lit, .int .i64 t.far, .int .i64 t.len], .string (s.extract k s.size), .int .i64 0]) ∧ Below w.heap.size w w' := by
  unfold Tk.one at h
  cases hf : Nm.from_ s.data.toList with
  | none => rw [hf] at h; simp at h
  | some x =>
    rw [hf] at h
    simp only at h
    by_cases ho : x.1 % 2 = 1
    · rw [if_pos ho] at h
      cases hg : Nm.from_ (s.extract x.2 s.size).data.toList with
      | none => rw [hg] at h; simp at h
      | some y =>
        rw [hg] at h
        simp only [Option.some.injEq, Prod.mk.injEq] at h
        obtain ⟨rfl, rfl⟩ := h
        have hc := take1_odd s _ w hs x.1 x.2 y.1 y.2 hf rfl ho hg
        have e : (s.extract x.2 s.size).extract y.2 (s.extract x.2 s.size).size = s.extract (x.2 + y.2) s.size := by
          apply Nm.ba_ext
          rw [Tk.ext_end, Tk.ext_end, Tk.ext_end, List.drop_drop]
        rw [e] at hc
        exact hc
    · rw [if_neg ho] at h
      by_cases hl : s.size - x.2 < x.1 / 2
      · rw [if_pos hl] at h; simp at h
      · rw [if_neg hl] at h
        simp only [Option.some.injEq, Prod.mk.injEq] at h
        obtain ⟨rfl, rfl⟩ := h
        have hc := take1_even s _ w hs x.1 x.2 (x.1 / 2) hf rfl ho rfl (by rw [Tk.ext_size]; omega)
        have e1 : (s.extract x.2 s.size).extract 0 (x.1 / 2) = s.extract x.2 (x.2 + x.1 / 2) := by
          apply Nm.ba_ext
          rw [Tk.ext_data, Tk.ext_end, Tk.ext_data]
          simp
        have e2 : (s.extract x.2 s.size).extract (x.1 / 2) (s.extract x.2 s.size).size = s.extract (x.2 + x.1 / 2) s.size := by
          apply Nm.ba_ext
          rw [Tk.ext_end, Tk.ext_end, Tk.ext_end, List.drop_drop]
        rw [e1, e2] at hc
        exact hc
end Go.Proofs.YtbjbjbpgmojcbabGreat
namespace Go.Proofs.YtbjbjbpgmojcbabGreat
open Go.RowKit
def tcs : List Tk.T → List Value
  | [] => []
  | t :: l => .string t.lit :: .int .i64 t.far :: .int .i64 t.len :: tcs l
theorem tcs_append (a b : List Tk.T) : tcs (a ++ b) = tcs a ++ tcs b := by
  induction a with
  | nil => rfl
  | cons t a ih => simp [tcs, ih]
theorem tcs_length (a : List Tk.T) : (tcs a).length = a.length * 3 := by
  induction a with
  | nil => rfl
  | cons t a ih => simp [tcs, ih]; omega
theorem tcs_at : ∀ (l : List Tk.T) (i : Nat) (h : i < l.length), (tcs l)[i * 3]? = some (.string l[i].lit) ∧ (tcs l)[i * 3 + 1]? = some (.int .i64 l[i].far) ∧ (tcs l)[i * 3 + 2]? = some (.int .i64 l[i].len) := by
  intro l
  induction l with
  | nil => intro i h; simp at h
  | cons t l ih =>
    intro i h
    cases i with
    | zero => simp [tcs]
    | succ i =>
      have := ih i (by simpa using h)
      rw [show (i + 1) * 3 = i * 3 + 3 by omega, show i * 3 + 3 + 1 = i * 3 + 1 + 3 by omega, show i * 3 + 3 + 2 = i * 3 + 2 + 3 by omega]
      simpa [tcs] using this
theorem info_tok : (Tryz.prog.info? 165).map (fun i => (i.zero, i.size, i.bytes)) = some (some (.agg #[.string ⟨#[]⟩, .int .i64 0, .int .i64 0]), 3, 32) := by kernel_rfl
theorem sl_of_row {w : World} {B n : Nat} {v : Value} {l : List Tk.T} (h : w.ownsRow B 165 3 v n (tcs l)) : ∃ ad cap, v = .slice ad l.length cap ∧ SlAt w ad l := by
  have hlen := h.1
  rw [tcs_length] at hlen
  have hn : n = l.length := by omega
  subst hn
  rcases h.2 with ⟨rfl, h0⟩ | ⟨g, cap, cur, rfl, hb, hg, hnc, hcm, hcs, htk⟩
  · have : l = [] := List.eq_nil_of_length_eq_zero h0
    subst this
    exact ⟨none, 0, rfl, .inl rfl⟩
  · refine ⟨some ⟨g, 0, none⟩, cap, rfl, .inr ⟨g, 0, rfl, (Array.getElem?_eq_some_iff.1 hg).1, fun i hi => ?_⟩⟩
    have hat : ∀ j u, (tcs l)[j]? = some u → w.cell? ⟨g, 0 + j, none⟩ = some u := by
      intro j u hj
      rw [Nat.zero_add, cell_of_row w g j cur _ _ hg]
      rw [← htk, List.getElem?_take] at hj
      split at hj
      · simpa using hj
      · simp at hj
    have := tcs_at l i hi
    exact ⟨hat _ _ this.1, hat _ _ this.2.1, hat _ _ this.2.2⟩
theorem one3 (x y z : Value) (hx : x.oneCell' = true) (hy : y.oneCell' = true) (hz : z.oneCell' = true) : ∀ u ∈ [x, y, z], u.oneCell' = true := by
  intro u hu
  simp at hu
  rcases hu with rfl | rfl | rfl <;> assumption
theorem news3 (w : World) (x y z : Value) (T : TypeId) : ∀ j u, [x, y, z][j]? = some u → (w.alloc (.cells #[x, y, z] T)).cell? ((⟨w.heap.size, 0, none⟩ : Addr).add j) = some u := by
  intro j u hj
  rw [addr_add, World.cell?_alloc_mark]
  simpa using hj
set_option maxRecDepth 4000 in
set_option maxHeartbeats 1000000 in
theorem read_long (dict s : ByteArray) (w : World) (hd : dict.size ≤ 256) (hs : 1024 < s.size) :
    Calls Tryz.prog 187 #[.string dict, .string s] w fun e w' => e = .returned (.tuple #[.slice none 0 0, .int .i64 1]) ∧ Below w.heap.size w w' := by
  have h : decide ((256 : Int) < (dict.size : Int)) = false := by simp; omega
  have h' : (dict.size : Int) ≤ 256 := by omega
  have h2 : decide ((1024 : Int) < (s.size : Int)) = true := by simp; omega
  have h2' : (1024 : Int) < (s.size : Int) := by omega
  go_enter Tryz.func187, Tryz.ntmps187
  go_wp2_with fail
  go_step3
  go_wp2_with fail
  rw [Exit.noGoto_ret]
  go_ret2
  exact ⟨rfl, Below.refl _ _⟩
def readOf (dict s : ByteArray) : Option (List Tk.T) :=
  match Tk.D s with
  | none => none
  | some l => if (Tk.run dict.size dict.data.toList false l).1 = 0 then some l else none
def strOf : Value → Nat | .string s => s.size | _ => 0
theorem own_below {w w' : World} {B n size : Nat} {e : TypeId} {v : Value} {xs : List Value} (h : w.ownsRow B e size v n xs) (hb : Below w.heap.size w w') : w'.ownsRow B e size v n xs :=
  h.kept (row := none) ⟨hb.os, hb.tape, hb.output, hb.size, fun k hk _ => hb.block k hk⟩ (by cases v.ownBlock <;> simp)
theorem own_but {w w' : World} {B B' g n size : Nat} {e : TypeId} {v : Value} {xs : List Value} (h : w.ownsRow B e size v n xs) (hb : Below B' w w') (hk : ∀ k, k < w.heap.size → k ≠ g → w'.heap[k]? = w.heap[k]?) (hg : g < B) : w'.ownsRow B e size v n xs :=
  h.kept (row := some g) ⟨hb.os, hb.tape, hb.output, hb.size, fun k hk1 hne => hk k hk1 (fun e => hne (by rw [e]))⟩ (.inr (fun e => by have := (h.lt g e).1; omega))
theorem box_but {w w' : World} {g : Nat} {x y z : Value} {T : TypeId} (hk : ∀ k, k < (w.alloc (.cells #[x, y, z] T)).heap.size → k ≠ g → w'.heap[k]? = (w.alloc (.cells #[x, y, z] T)).heap[k]?) (hg : g < w.heap.size) :
    w'.cell? ⟨w.heap.size, 0, none⟩ = some x ∧ w'.cell? ⟨w.heap.size, 1, none⟩ = some y ∧ w'.cell? ⟨w.heap.size, 2, none⟩ = some z := by
  have e : ∀ j, w'.cell? ⟨w.heap.size, j, none⟩ = (w.alloc (.cells #[x, y, z] T)).cell? ⟨w.heap.size, j, none⟩ := fun j => World.cell?_of_block (w := w.alloc (.cells #[x, y, z] T)) (hk w.heap.size (by simp) (by omega))
  refine ⟨?_, ?_, ?_⟩
  · rw [e, World.cell?_alloc_mark]; rfl
  · rw [e, World.cell?_alloc_mark]; rfl
  · rw [e, World.cell?_alloc_mark]; rfl
theorem MkAt.grown {w w' : World} {B g n : Nat} {D M : Int} {L : Bool} {v : Value} {xs : List Value} {e : TypeId} (h : MkAt w B g D M L) (ho : w.ownsRow (g + 1) e 3 v n xs) (hg : w.grownBy w' v.ownBlock) : MkAt w' B g D M L := by
  obtain ⟨a, b, c0, c1, c2, f1, f2⟩ := h
  have hb := hg.block g b (fun e => by have := (ho.lt g e.symm).1; omega)
  refine ⟨a, Nat.lt_of_lt_of_le b hg.size, ?_, ?_, ?_, ?_, ?_⟩
  · rw [World.cell?_of_block (w := w) (by exact hb)]; exact c0
  · rw [World.cell?_of_block (w := w) (by exact hb)]; exact c1
  · rw [World.cell?_of_block (w := w) (by exact hb)]; exact c2
  · rw [World.frozen?_of_block (w := w) (by exact hb)]; exact f1
  · rw [World.frozen?_of_block (w := w) (by exact hb)]; exact f2
theorem one_lit {S : ByteArray} {t : Tk.T} {k : Nat} (h : Tk.one S = some (t, k)) : t.lit.size ≤ S.size := by
  unfold Tk.one at h
  cases hf : Nm.from_ S.data.toList with
  | none => rw [hf] at h; simp at h
  | some x =>
    rw [hf] at h
    simp only at h
    split at h
    · split at h
      · simp at h
      · simp only [Option.some.injEq, Prod.mk.injEq] at h
        rw [← h.1]
        exact Nat.zero_le _
    · split at h
      · simp at h
      · simp only [Option.some.injEq, Prod.mk.injEq] at h
        rw [← h.1]
        exact Nm.ext_le (Nat.le_refl _)
theorem readOf_none {dict s S : ByteArray} {l : List Tk.T} (h1 : Tk.D s = (Tk.D S).map (l ++ ·)) (h2 : Tk.D S = none) : readOf dict s = none := by
  unfold readOf
  rw [h1, h2]
  rfl
theorem readOf_bad {dict s S S2 : ByteArray} {l : List Tk.T} {t : Tk.T} {k : Nat} {st : List UInt8} {p : Bool} (h1 : Tk.D s = (Tk.D S).map (l ++ ·)) (h2 : Tk.one S = some (t, k)) (h3 : S.extract k S.size = S2)
    (h4 : ∀ m, Tk.run dict.size dict.data.toList false (l ++ m) = Tk.run dict.size st p m) (h5 : Tk.err dict.size st p t ≠ 0) : readOf dict s = none := by
  unfold readOf
  rw [h1, Tk.D_some h2, h3]
  cases Tk.D S2 with
  | none => rfl
  | some m =>
    simp only [Option.map_some]
    rw [h4, Tk.run_bad h5, if_neg h5]
theorem readOf_end {dict s S : ByteArray} {l : List Tk.T} {st : List UInt8} {p : Bool} (h1 : Tk.D s = (Tk.D S).map (l ++ ·)) (h2 : S.size = 0)
    (h4 : ∀ m, Tk.run dict.size dict.data.toList false (l ++ m) = Tk.run dict.size st p m) : readOf dict s = some l := by
  unfold readOf
  rw [h1, Tk.D_nil h2]
  simp only [Option.map_some, List.append_nil]
  have := h4 []
  rw [List.append_nil] at this
  rw [this]
  rfl
set_option maxRecDepth 4000 in
set_option maxHeartbeats 4000000 in
theorem read_short (dict s : ByteArray) (w : World) (hd : dict.size ≤ 256) (hs : s.size ≤ 1024) :
    Calls Tryz.prog 187 #[.string dict, .string s] w fun e w' => Below w.heap.size w w' ∧
      ((readOf dict s = none ∧ e = .returned (.tuple #[.slice none 0 0, .int .i64 1])) ∨ ∃ l ad cap, readOf dict s = some l ∧ e = .returned (.tuple #[.slice ad l.length cap, .int .i64 0]) ∧ SlAt w' ad l) := by
  have h : decide ((256 : Int) < (dict.size : Int)) = false := by simp; omega
  have h' : (dict.size : Int) ≤ 256 := by omega
  have h2 : decide ((1024 : Int) < (s.size : Int)) = false := by simp; omega
  have h2' : (s.size : Int) ≤ 1024 := by omega
  obtain ⟨i0, hi, hz0, hz1, hz2⟩ := info_parts info_tok
  generalize hRO : readOf dict s = RO at *
  have HRO : Hid (readOf dict s = RO) := hRO
  clear hRO
  go_enter Tryz.func187, Tryz.ntmps187
  go_wp2_with fail
  go_step3
  go_wp2_with fail
  go_step3
  go_wp2_with fail
  go_loopw [1, 6] (fun x v wr => ∃ (S : ByteArray) (l : List Tk.T) (st : List UInt8) (p : Bool), x = .string S ∧ wr.ownsRow (w.heap.size + 1) 165 3 v l.length (tcs l) ∧ Hid (Tk.D s = (Tk.D S).map (l ++ ·)) ∧
      Hid (∀ m, Tk.run dict.size dict.data.toList false (l ++ m) = Tk.run dict.size st p m) ∧ l.length + dict.size ≤ st.length ∧ st.length ≤ dict.size + 512 ∧ MkAt wr w.heap.size w.heap.size dict.size ((st.length : Int) - dict.size) p ∧ S.size ≤ 1024 ∧ Below w.heap.size w wr)
    (fun x _ _ => strOf x)
  case atStart =>
    refine ⟨s, [], dict.data.toList, false, rfl, World.ownsRow_nil _ _ _ _, ?_, fun m => rfl, by simp, by simp, ?_, hs, (Below.refl _ _).alloc (Nat.le_refl _) _⟩
    · show _ = _
      cases Tk.D s <;> rfl
    · have e : ((dict.data.toList.length : Int) - dict.size) = 0 := by simp
      rw [e]
      exact ⟨Nat.le_refl _, by simp, by rw [World.cell?_alloc_mark]; rfl, by rw [World.cell?_alloc_mark]; rfl, by rw [World.cell?_alloc_mark]; rfl, by rw [World.frozen?_alloc_mark]; simp, by rw [World.frozen?_alloc_mark]; simp⟩
  case round =>
    obtain ⟨S, l, st, p, rfl, hown, hD, hrun, hs1, hs2, hm, hS, G⟩ := hrel
    by_cases h0 : S.size = 0
    · have hE0 := empty_of h0
      have HX : Hid (RO = some l) := by
        show _ = _
        rw [← HRO.out]
        exact readOf_end hD.out h0 hrun.out
      clear hm
      go_wp2_with fail
      try rw [Exit.noGoto_ret]
      go_ret2
      obtain ⟨ad, cap, hv, hsl⟩ := sl_of_row hown
      exact ⟨G, .inr ⟨l, ad, cap, HX.out, by rw [← hv]; rfl, hsl⟩⟩
    · have hE0 := empty_not h0
      have hgs := G.size
      have hgm := hm.2.1
      cases ho : Tk.one S with
      | none =>
        have HX : Hid (RO = none) := by
          show _ = _
          rw [← HRO.out]
          exact readOf_none hD.out (Tk.D_none h0 ho)
        have hc := fun w => take1_no S w (by omega) ho
        clear hm hD hrun ho
        go_wp2_with fail
        refine (hc _).mono ?_
        rintro e w1 ⟨lit, far, len, r, rfl, hb1⟩
        clear hc
        go_wp2_with fail
        try rw [Exit.noGoto_ret]
        go_ret2
        exact ⟨(bch G hb1 (Nat.le_refl _)).alloc (Nat.le_trans hgs hb1.size) _, .inl ⟨HX.out, rfl⟩⟩
      | some x =>
        obtain ⟨t, kk⟩ := x
        have hc := fun w => take1_yes S w (by omega) t kk ho
        have hpos := Tk.one_pos ho
        obtain ⟨S2, hS2⟩ : ∃ S2, S.extract kk S.size = S2 := ⟨_, rfl⟩
        rw [hS2] at hc
        have hS2s : S2.size < S.size := by rw [← hS2, Tk.ext_size]; omega
        have hS2b : S2.size ≤ 1024 := by omega
        have hlit : t.lit.size ≤ 140737488355328 := by
          have := one_lit ho
          omega
        have HB : Hid (Tk.err dict.size st p t ≠ 0 → RO = none) := by
          intro he
          rw [← HRO.out]
          exact readOf_bad hD.out ho hS2 hrun.out he
        have HD2 : Hid (Tk.D s = (Tk.D S2).map ((l ++ [t]) ++ ·)) := by
          show _ = _
          rw [hD.out, Tk.D_some ho, hS2]
          cases Tk.D S2 <;> simp
        have hef := err_fits dict.size st p t _ rfl
        have HE : Hid (Tk.err dict.size st p t = if fits dict.size ((st.length : Int) - dict.size) p t.lit t.far t.len = false then 1 else if 512 < (st.length : Int) - dict.size + t.lit.size + t.len then 2 else 0) := hef
        have Hm : Hid (MkAt wr w.heap.size w.heap.size dict.size ((st.length : Int) - dict.size) p) := hm
        have HO : Hid (wr.ownsRow (w.heap.size + 1) 165 3 u6 l.length (tcs l)) := hown
        have hM0 : 0 ≤ (st.length : Int) - dict.size := by omega
        have hM1 : (st.length : Int) - dict.size ≤ 512 := by omega
        have hD0 : (0 : Int) ≤ (dict.size : Int) := by omega
        have HS : Hid (S2.size < S.size) := hS2s
        clear hm hD ho hef hown hS2 hpos hS2s
        cases hF : fits dict.size ((st.length : Int) - dict.size) p t.lit t.far t.len with
        | false =>
          have HX : Hid (RO = none) := HB.out (by rw [HE.out, if_pos hF]; omega)
          go_wp2_with fail
          refine (hc _).mono ?_
          rintro e w1 ⟨rfl, hb1⟩
          clear hc
          have Hm1 := (Hm.out.below hb1)
          have G1 := bch G hb1 (Nat.le_refl _)
          have hgs1 := G1.size
          go_wp2_with (go_at_call 178; go_must (refine (add_form w.heap.size w.heap.size dict.size ((st.length : Int) - dict.size) p t.lit t.far t.len _ (Hm1.alloc _) hD0 h' hM0 hM1 hF).mono ?_; rintro e w3 ⟨rfl, hb3⟩))
          try rw [Exit.noGoto_ret]
          go_ret2
          exact ⟨bch (G1.alloc hgs1 _) hb3 (Nat.le_refl _), .inl ⟨HX.out, rfl⟩⟩
        | true =>
          have hln := fits_len hF
          by_cases hbig : 512 < (st.length : Int) - dict.size + t.lit.size + t.len
          · have HX : Hid (RO = none) := HB.out (by rw [HE.out, if_neg (by rw [hF]; simp), if_pos hbig]; omega)
            go_wp2_with fail
            refine (hc _).mono ?_
            rintro e w1 ⟨rfl, hb1⟩
            clear hc
            have Hm1 := (Hm.out.below hb1)
            have G1 := bch G hb1 (Nat.le_refl _)
            have hgs1 := G1.size
            go_wp2_with (go_at_call 178; go_must (refine (add_many w.heap.size w.heap.size dict.size ((st.length : Int) - dict.size) p t.lit t.far t.len _ (Hm1.alloc _) hD0 h' hM0 hM1 hlit hln hF hbig).mono ?_; rintro e w3 ⟨rfl, hb3⟩))
            try rw [Exit.noGoto_ret]
            go_ret2
            exact ⟨bch (G1.alloc hgs1 _) hb3 (Nat.le_refl _), .inl ⟨HX.out, rfl⟩⟩
          · have he : Tk.err dict.size st p t = 0 := by rw [HE.out, if_neg (by rw [hF]; simp), if_neg hbig]
            have hmk := Tk.make_ok he
            have HK : Hid ((Tk.make st t).length = st.length + t.lit.size + t.len.toNat) := hmk.1
            have HL : Hid (1 ≤ t.lit.size + t.len.toNat) := by
              show _ ≤ _
              by_cases h0 : t.lit.size = 0
              · have := hmk.2.2.1 h0; omega
              · omega
            have HRn : Hid (∀ m, Tk.run dict.size dict.data.toList false ((l ++ [t]) ++ m) = Tk.run dict.size (Tk.make st t) (decide (t.lit.size ≠ 0)) m) := by
              intro m
              rw [List.append_assoc, hrun.out]
              exact Tk.run_good he
            have HD : Hid ((!t.lit.toList.isEmpty) = decide (t.lit.size ≠ 0)) := by
              show _ = _
              by_cases h0 : t.lit.size = 0
              · rw [empty_of h0]; simp [h0]
              · rw [empty_not h0]; simp [h0]
            have hl512 : l.length ≤ 512 := by omega
            clear he hmk
            go_wp2_with fail
            refine (hc _).mono ?_
            rintro e w1 ⟨rfl, hb1⟩
            clear hc
            have Hm1 := (Hm.out.below hb1)
            have G1 := bch G hb1 (Nat.le_refl _)
            have hgs1 := G1.size
            have hgm1 : w.heap.size < w1.heap.size := Nat.lt_of_lt_of_le hgm hb1.size
            have HO1 := own_below HO.out hb1
            go_wp2_with (first | (go_at_call 178; go_must (refine (add_ok w.heap.size w.heap.size dict.size ((st.length : Int) - dict.size) p t.lit t.far t.len _ (Hm1.alloc _) hD0 h' hM0 hM1 hln hF (by omega)).mono ?_; rintro e w3 ⟨rfl, hb3, hm3, hk3⟩; obtain ⟨q0, q1, q2⟩ := box_but hk3.out hgm1; have HO3 := own_but (HO1.alloc _) hb3 hk3.out (Nat.lt_succ_self _); have hgs3 := hb3.size)) | (at_builtin; go_must (refine wpList_append_own _ rfl _ _ 131 rfl (w.heap.size + 1) 165 i0 (.agg #[.string ⟨#[]⟩, .int .i64 0, .int .i64 0]) 3 32 Tryz.underlying131 hi hz0 hz1 hz2 rfl (by decide) _ _ _ rfl (HO3.alloc _) ⟨w3.heap.size, 0, none⟩ 1 1 [.string t.lit, .int .i64 t.far, .int .i64 t.len] rfl rfl (news3 _ _ _ _ _) (one3 _ _ _ rfl rfl rfl) (ml_le (by omega)) (by omega) (by simp at hgs3 ⊢; omega) ?_; intro v4 w4 hown4 hgrow4 _)))
            go_roundw
            case rel =>
              have hkl := HK.out
              have hl1 := HL.out
              have htc : tcs (l ++ [t]) = tcs l ++ [.string t.lit, .int .i64 t.far, .int .i64 t.len] := tcs_append _ _
              refine ⟨S2, l ++ [t], Tk.make st t, decide (t.lit.size ≠ 0), rfl, by rw [htc, List.length_append]; exact hown4, HD2, HRn, by simp; omega, by omega, ?_, hS2b, ?_⟩
              · rw [← HD.out, show ((Tk.make st t).length : Int) - dict.size = (st.length : Int) - dict.size + t.lit.size + t.len by omega]
                exact (hm3.alloc _).grown (HO3.alloc _) hgrow4
              · have hB3 := (G1.alloc hgs1 _).trans hb3
                exact (hB3.alloc hB3.size _).grown hgrow4 (by have := hB3.size; simp; omega) (fun k hk => by have := (HO3.lt k hk).1; omega)
            case measure => exact HS.out
theorem read_any (dict s : ByteArray) (w : World) (hd : dict.size ≤ 256) (hlong : 1024 < s.size → readOf dict s = none) :
    Calls Tryz.prog 187 #[.string dict, .string s] w fun e w' => Below w.heap.size w w' ∧
      ((readOf dict s = none ∧ e = .returned (.tuple #[.slice none 0 0, .int .i64 1])) ∨ ∃ l ad cap, readOf dict s = some l ∧ e = .returned (.tuple #[.slice ad l.length cap, .int .i64 0]) ∧ SlAt w' ad l) := by
  by_cases hs : s.size ≤ 1024
  · exact read_short dict s w hd hs
  · exact (read_long dict s w hd (by omega)).mono fun e w' he => ⟨he.2, .inl ⟨hlong (by omega), he.1⟩⟩
end Go.Proofs.YtbjbjbpgmojcbabGreat
namespace Go.Proofs.YtbjbjbpgmojcbabGreat
open Go.RowKit Go.Maps Go.ChangeShapes
theorem info_int : (Tryz.prog.info? 3).map (fun i => (i.zero, i.size, i.bytes)) = some (some (.int .i64 0), 1, 8) := by kernel_rfl
theorem win_ext (s : ByteArray) (r : Nat) : Tk.win s.data.toList r = (s.extract r (r + 3)).data.toList := by
  rw [Tk.ext_data, show r + 3 - r = 3 by omega]
  rfl
theorem longest_any {w : World} {base gp bm r : Nat} {No : Nat → Prop} {s : ByteArray} (a : Nat) (h : PastAt w base gp bm No s r) (hr : a + 3 ≤ s.size → r = a) (ha : a ≤ s.size) (hs : s.size ≤ 2000) :
    Calls Tryz.prog 157 #[.pointer (some ⟨gp, 0, none⟩), .int .i64 a] w fun e w' => e = .returned (.tuple #[.int .i64 ((Tk.lng s.data.toList a).1 : Nat), .int .i64 ((Tk.lng s.data.toList a).2 : Nat)]) ∧ ∃ n, w' = w.drewN n := by
  have hl : s.data.toList.length = s.size := by simp
  by_cases hm : a + 3 ≤ s.size
  · obtain rfl := hr hm
    obtain ⟨ad, cap, hlk, hcl⟩ := past_look h (by omega) (k := s.extract r (r + 3)) (Nat.le_trans (Nm.ext_le (Nat.le_refl _)) (by unfold maxLen; omega))
    rw [← win_ext] at hlk hcl
    have hlng : Tk.lng s.data.toList r = (Tk.plc s.data.toList (Tk.win s.data.toList r) r).reverse.foldl (Tk.stp s.data.toList r (Tk.most s.data.toList r)) (0, 0) := by
      unfold Tk.lng
      rw [if_neg (by unfold Tk.most; omega)]
    rw [hlng]
    have hlen := Tk.plc_len s.data.toList (Tk.win s.data.toList r) r
    rcases hcl with h0 | ⟨g, rfl, hcell⟩
    · exact longest_many gp bm 0 cap s r _ _ ad w h.c0 h.c1 hs hm (by show _ = _; unfold Tk.most; rw [hl]) (by omega) hlk (.inl h0)
    · exact longest_many gp bm g cap s r _ _ _ w h.c0 h.c1 hs hm (by show _ = _; unfold Tk.most; rw [hl]) (by omega) hlk (.inr ⟨rfl, fun i p hp => ⟨Tk.plc_lt (List.mem_of_getElem? hp), hcell i p hp⟩⟩)
  · have hlng : Tk.lng s.data.toList a = (0, 0) := by
      unfold Tk.lng
      rw [if_pos (by unfold Tk.most; omega)]
    rw [hlng]
    exact longest_short gp s a w h.c0 hs (by omega) ha
def cellInt (w : World) (p : Addr) : Nat := match w.cell? p with | some v => (intOf v).toNat | none => 0
set_option maxRecDepth 4000 in
set_option maxHeartbeats 2000000 in
theorem reach_any {w : World} {base gp bm r : Nat} {No : Nat → Prop} {s : ByteArray} (a : Nat) (h : PastAt w base gp bm No s r) (hno : ∀ g, No g → g < w.heap.size) (hr : r ≤ a) (ha : a ≤ s.size) (hs : s.size ≤ 2000) :
    Calls Tryz.prog 156 #[.pointer (some ⟨gp, 0, none⟩), .int .i64 a] w fun e w' => e = .returned (.tuple #[]) ∧ Keeps w w' base gp bm No ∧ ∃ r', r ≤ r' ∧ r' ≤ a ∧ (a + 3 ≤ s.size → r' = a) ∧ PastAt w' base gp bm No s r' := by
  obtain ⟨i0, hi, hz0, hz1, hz2⟩ := info_parts info_int
  go_enter Tryz.func156, Tryz.ntmps156
  go_wp2_with fail
  go_loopw [4] (fun _ wr => ∃ q : Nat, r ≤ q ∧ q ≤ a ∧ PastAt wr base gp bm No s q ∧ Keeps w wr base gp bm No) (fun _ wr => a - cellInt wr ⟨gp, 2, none⟩)
  case atStart => exact ⟨r, Nat.le_refl _, hr, h, Keeps.refl _ _ _ _ _⟩
  case round =>
    obtain ⟨q, hq1, hq2, hp, G⟩ := hrel
    have Hp : Hid (PastAt wr base gp bm No s q) := hp
    obtain ⟨c0, c1, c2, f2, hgb, hne, hbs, -⟩ := hp
    have hw3 : IntKind.i64.wrap ((q : Int) + 3) = (q : Int) + 3 := IntWalk.i64_in _ ⟨by omega, by omega⟩
    by_cases h1 : q < a
    · have d1 : decide ((q : Int) < (a : Int)) = true := by simp; omega
      have d1' : decide (q < a) = true := by simp; omega
      by_cases h2 : q + 3 ≤ s.size
      · have d2 : decide ((q : Int) + 3 ≤ (s.size : Int)) = true := by simp; omega
        have hsl := slice_at s (q : Int) ((q : Int) + 3) q (q + 3) rfl (by omega) (by omega) (by omega)
        go_wp2_with fail
        go_quiet (fail)
        go_wp2_with fail
        go_quiet (fail)
        go_wp2_with fail
        generalize hW : (wr.drewN _).drewN _ = W
        have hbel : Below wr.heap.size wr W := by rw [← hW]; exact below_drewN (below_drewN (Below.refl _ _) _) _
        have hpW := Hp.out.below hbel
        have hsz : wr.heap.size = W.heap.size := by rw [← hW]; rfl
        clear hW
        obtain ⟨v, zs, hlk, hoi, hzl, hback⟩ := past_round hpW (by omega) (k := s.extract q (q + 3)) (Nat.le_trans (Nm.ext_le (Nat.le_refl _)) (by unfold maxLen; omega)) (win_ext s q)
        have hbmW : bm < W.heap.size := by
          obtain ⟨D, _, ho, _⟩ := hpW.map
          obtain ⟨es, clock, hb, _⟩ := ho
          exact (Array.getElem?_eq_some_iff.1 hb).1
        have hgpW : gp < W.heap.size := Nat.lt_of_lt_of_le hgb hpW.bs
        have hbsW := hpW.bs
        have HpW : Hid (PastAt W base gp bm No s q) := hpW
        have e0 := hpW.c0
        have e1 := hpW.c1
        have e2 := hpW.c2
        have ef := hpW.f2
        have C2 : Hid (wr.cell? ⟨gp, 2, none⟩ = some (.int .i64 (q : Nat))) := c2
        clear hpW c0 c1 c2 f2
        have hlk1 : (Instr.lookup 173 (.map (some bm)) (.string (s.extract q (q + 3))) false).run Tryz.prog W.drew = .ok v W.drew := hlk _ rfl
        have hlk2 : ∀ o, (Instr.lookup 173 (.map (some bm)) (.string (s.extract q (q + 3))) false).run Tryz.prog (W.alloc o).drew = .ok v (W.alloc o).drew := fun o => hlk _ (Below.heap_alloc W o bm hbmW)
        clear hlk
        have hoiD : ∀ o, (W.drew.alloc o).ownsRow base 3 1 v zs.length (zs.map (Value.int .i64)) := fun o => (own_below hoi (Below.refl _ _).drew).alloc o
        have hnov : ∀ g, v.ownBlock = some g → base ≤ g := fun g hg => (hoi.lt g hg).1
        have hnw := World.new_ne W.drew ⟨gp, 1, none⟩ e1
        have hnw2 := World.new_ne W.drew ⟨gp, 2, none⟩ e2
        have hnoW : ∀ g, No g → g < W.heap.size := fun g hg => by have := hno g hg; have := G.size; omega
        have HG : Hid (Keeps w W base gp bm No) := G.trans (Keeps.of_below hbel)
        have HL : Hid (∀ w1 g cp, W.grownBy w1 v.ownBlock → w1.ownsRow base 3 1 (.slice (some ⟨g, 0, none⟩) (zs.length + 1) cp) (zs.length + 1) (zs.map (Value.int .i64) ++ [.int .i64 (q : Nat)]) → (v.ownBlock = some g ∨ W.heap.size ≤ g) →
            ∃ w2, (Instr.mapUpdate 173 (.map (some bm)) (.string (s.extract q (q + 3))) (.slice (some ⟨g, 0, none⟩) (zs.length + 1) cp)).run Tryz.prog w1 = .ok () w2 ∧
              (w1.cell? ⟨gp, 1, none⟩ = some (.map (some bm)) ∧ w1.cell? ⟨gp, 2, none⟩ = some (.int .i64 (q : Nat))) ∧ (w2.cell? ⟨gp, 1, none⟩ = some (.map (some bm)) ∧ w2.cell? ⟨gp, 2, none⟩ = some (.int .i64 (q : Nat))) ∧ w2.frozen? ⟨gp, 2, none⟩ = false ∧
              Hid (PastAt (w2.setCell ⟨gp, 2, none⟩ (.int .i64 ((q + 1 : Nat) : Int))) base gp bm No s (q + 1)) ∧ Hid (Keeps w (w2.setCell ⟨gp, 2, none⟩ (.int .i64 ((q + 1 : Nat) : Int))) base gp bm No)) := by
          intro w1 g cp hg1 hown1 hloc
          obtain ⟨w2, hrun2, hg2, hmap2, hk2⟩ := hback w1 _ hg1 hown1 (hloc.imp id (fun hge => ⟨g, rfl, hge, fun hN => by have := hnoW g hN; omega⟩))
          have hne1 : some gp ≠ v.ownBlock := fun e => by have := hnov gp e.symm; omega
          have x1 : w1.cell? ⟨gp, 1, none⟩ = some (.map (some bm)) := (hg1.cell_far _ hgpW hne1).trans e1
          have x2 : w1.cell? ⟨gp, 2, none⟩ = some (.int .i64 (q : Nat)) := (hg1.cell_far _ hgpW hne1).trans e2
          have hbk : gp ≠ bm := hne
          have y0 := (hk2.cell (p := ⟨gp, 0, none⟩) hgpW hbk hbk (.inl hgb)).trans e0
          have y1 := (hk2.cell (p := ⟨gp, 1, none⟩) hgpW hbk hbk (.inl hgb)).trans e1
          have y2 := (hk2.cell (p := ⟨gp, 2, none⟩) hgpW hbk hbk (.inl hgb)).trans e2
          have yf := (hk2.frozen (p := ⟨gp, 2, none⟩) hgpW hbk hbk (.inl hgb)).trans ef
          exact ⟨w2, hrun2, ⟨x1, x2⟩, ⟨y1, y2⟩, yf, past_next y0 y1 y2 yf hgb hne (Nat.le_trans hbsW hk2.size) hmap2, (HG.out.trans (hk2.wide gp)).setCell _ _⟩
        clear hback HpW hnoW
        go_region_held3 (fun w' => w'.cell? ⟨gp, 1, none⟩ = some (.map (some bm)) ∧ w'.cell? ⟨gp, 2, none⟩ = some (.int .i64 (q : Nat))) (first | go_keep | (constructor <;> assumption)) (first | (refine step_append_lies _ rfl _ _ 191 rfl base 3 i0 (.int .i64 0) 1 8 Tryz.underlying191 hi hz0 hz1 hz2 rfl (by decide) v _ _ rfl (hoiD _) ⟨W.drew.heap.size, 0, none⟩ 1 1 [.int .i64 (q : Nat)] rfl rfl (cell_one_new _ _ _) (ints_oneCell .i64 [(q : Int)]) (by decide) (by unfold maxLen; omega) (by omega) (by simp; omega) _ rfl ?_; intro g cp w1 hown1 hgrow1 hat1 hlt1; obtain ⟨w2, hrun2, ⟨k1, k2⟩, ⟨k3, k4⟩, k5, HP2, HK2⟩ := HL.out w1 g cp ((World.grownBy_alloc W _ _).trans ⟨hgrow1.os, hgrow1.tape, hgrow1.output, hgrow1.size, hgrow1.block⟩) hown1 (hat1.imp id (fun e => by rw [e]; simp))))
        all_goals
          go_wp2_with fail
          go_roundw
          case rel => exact ⟨q + 1, by omega, by omega, HP2.out, HK2.out⟩
          case measure =>
            unfold cellInt
            have hx : (w2.setCell ⟨gp, 2, none⟩ (.int .i64 ((q : Int) + 1))).cell? ⟨gp, 2, none⟩ = some (.int .i64 ((q + 1 : Nat) : Int)) := HP2.out.c2
            rw [hx, C2.out]
            simp [intOf]
            omega
      · have d2 : decide ((q : Int) + 3 ≤ (s.size : Int)) = false := by simp; omega
        go_wp2_with fail
        go_quiet (fail)
        go_wp2_with fail
        go_end0
        exact ⟨rfl, G.trans (Keeps.of_below (below_drewN (Below.refl _ _) _)), q, hq1, hq2, fun _ => by omega, Hp.out.below (below_drewN (Below.refl _ _) _)⟩
    · have d1 : decide ((q : Int) < (a : Int)) = false := by simp; omega
      have d1' : decide (q < a) = false := by simp; omega
      go_wp2_with fail
      go_quiet (fail)
      go_wp2_with fail
      go_end0
      exact ⟨rfl, G.trans (Keeps.of_below (below_drewN (Below.refl _ _) _)), q, hq1, hq2, fun _ => by omega, Hp.out.below (below_drewN (Below.refl _ _) _)⟩
end Go.Proofs.YtbjbjbpgmojcbabGreat
namespace Go.Proofs.YtbjbjbpgmojcbabGreat
open Go.RowKit Go.Maps Go.ChangeShapes
structure Ord (B bm gp ga gf gl base : Nat) : Prop where
  b : B ≤ bm
  p : bm < gp
  a : gp < ga
  f : ga < gf
  l : gf < gl
  s : gl < base
structure PS (w : World) (bm gp ga gf gl base : Nat) (s : ByteArray) (r a f : Nat) (v : Value) (l : List Tk.T) : Prop where
  past : PastAt w base gp bm (fun g => v.ownBlock = some g) s r
  ca : w.cell? ⟨ga, 0, none⟩ = some (.int .i64 (a : Nat))
  fa : w.frozen? ⟨ga, 0, none⟩ = false
  cf : w.cell? ⟨gf, 0, none⟩ = some (.int .i64 (f : Nat))
  ff : w.frozen? ⟨gf, 0, none⟩ = false
  cl : w.cell? ⟨gl, 0, none⟩ = some v
  fl : w.frozen? ⟨gl, 0, none⟩ = false
  own : w.ownsRow base 165 3 v l.length (tcs l)
section
variable {w w' : World} {B bm gp ga gf gl base : Nat} {s : ByteArray} {r a f : Nat} {v : Value} {l : List Tk.T}
theorem PS.bs (h : PS w bm gp ga gf gl base s r a f v l) : base ≤ w.heap.size := h.past.bs
theorem PS.below (h : PS w bm gp ga gf gl base s r a f v l) (O : Ord B bm gp ga gf gl base) (hb : Below w.heap.size w w') : PS w' bm gp ga gf gl base s r a f v l := by
  have hs := h.bs
  obtain ⟨o1, o2, o3, o4, o5, o6⟩ := O
  refine ⟨h.past.below hb, ?_, ?_, ?_, ?_, ?_, ?_, own_below h.own hb⟩
  · exact (hb.cell (by show ga < _; omega)).trans h.ca
  · exact (hb.frozen (by show ga < _; omega)).trans h.fa
  · exact (hb.cell (by show gf < _; omega)).trans h.cf
  · exact (hb.frozen (by show gf < _; omega)).trans h.ff
  · exact (hb.cell (by show gl < _; omega)).trans h.cl
  · exact (hb.frozen (by show gl < _; omega)).trans h.fl
theorem PS.reach {r' : Nat} (h : PS w bm gp ga gf gl base s r a f v l) (O : Ord B bm gp ga gf gl base) (hk : Keeps w w' base gp bm (fun g => v.ownBlock = some g)) (hp : PastAt w' base gp bm (fun g => v.ownBlock = some g) s r') : PS w' bm gp ga gf gl base s r' a f v l := by
  have hs := h.bs
  obtain ⟨o1, o2, o3, o4, o5, o6⟩ := O
  refine ⟨hp, ?_, ?_, ?_, ?_, ?_, ?_, ?_⟩
  · exact (hk.cell (by show ga < _; omega) (by show ga ≠ _; omega) (by show ga ≠ _; omega) (.inl (by show ga < _; omega))).trans h.ca
  · exact (hk.frozen (by show ga < _; omega) (by show ga ≠ _; omega) (by show ga ≠ _; omega) (.inl (by show ga < _; omega))).trans h.fa
  · exact (hk.cell (by show gf < _; omega) (by show gf ≠ _; omega) (by show gf ≠ _; omega) (.inl (by show gf < _; omega))).trans h.cf
  · exact (hk.frozen (by show gf < _; omega) (by show gf ≠ _; omega) (by show gf ≠ _; omega) (.inl (by show gf < _; omega))).trans h.ff
  · exact (hk.cell (by show gl < _; omega) (by show gl ≠ _; omega) (by show gl ≠ _; omega) (.inl (by show gl < _; omega))).trans h.cl
  · exact (hk.frozen (by show gl < _; omega) (by show gl ≠ _; omega) (by show gl ≠ _; omega) (.inl (by show gl < _; omega))).trans h.fl
  · rcases h.own.2 with ⟨e1, e2⟩ | ⟨g, cap, cur, rfl, hg, hh, hrest⟩
    · exact ⟨h.own.1, .inl ⟨e1, e2⟩⟩
    · have hlt := (Array.getElem?_eq_some_iff.1 hh).1
      exact ⟨h.own.1, .inr ⟨g, cap, cur, rfl, hg, (hk.block g hlt (by omega) (by omega) (.inr rfl)).trans hh, hrest⟩⟩
theorem PastAt.other {No : Nat → Prop} {g : Nat} (h : PastAt w base gp bm No s r) (hg : w.grownBy w' (some g)) (h1 : g ≠ gp) (h2 : g ≠ bm) (h3 : g < base) : PastAt w' base gp bm No s r := by
  obtain ⟨D, hm, ho, hsh, hr⟩ := h.map
  have hlt : gp < w.heap.size := Nat.lt_of_lt_of_le h.gb h.bs
  have hbm : bm < w.heap.size := by obtain ⟨es, clock, hb, _⟩ := ho; exact (Array.getElem?_eq_some_iff.1 hb).1
  have hne : some gp ≠ some g := by simp; exact fun e => h1 e.symm
  have hne2 : some bm ≠ some g := by simp; exact fun e => h2 e.symm
  exact ⟨(hg.cell_far ⟨gp, 0, none⟩ hlt hne).trans h.c0, (hg.cell_far ⟨gp, 1, none⟩ hlt hne).trans h.c1, (hg.cell_far ⟨gp, 2, none⟩ hlt hne).trans h.c2, (hg.frozen_far ⟨gp, 2, none⟩ hlt hne).trans h.f2, h.gb, h.ne, Nat.le_trans h.bs hg.size, D, hm,
    ho.kept hg hne2 (ho.rowsAbove (fun j hj => by cases hj; exact h3)), hsh.kept hg hbm hne2, hr⟩
theorem grown_set (w : World) (g o : Nat) (u : Value) : w.grownBy (w.setCell ⟨g, o, none⟩ u) (some g) := ⟨rfl, rfl, rfl, by simp, fun k _ h2 => Below.heap_setCell _ _ _ _ (fun e => h2 (by rw [e]))⟩
theorem set_far (w : World) (p q : Addr) (u : Value) (h : p.block ≠ q.block) : (w.setCell p u).cell? q = w.cell? q := World.cell?_setCell_other w p q u (fun e => h (by rw [e]))
theorem PS.setAt (h : PS w bm gp ga gf gl base s r a f v l) (O : Ord B bm gp ga gf gl base) (a' : Nat) : PS (w.setCell ⟨ga, 0, none⟩ (.int .i64 (a' : Nat))) bm gp ga gf gl base s r a' f v l := by
  obtain ⟨o1, o2, o3, o4, o5, o6⟩ := O
  have hg := grown_set w ga 0 (.int .i64 (a' : Nat))
  refine ⟨h.past.other hg (by omega) (by omega) (by omega), World.cell?_setCell_same w _ _ h.ca, ?_, ?_, ?_, ?_, ?_, h.own.kept hg (.inr (fun e => by have := (h.own.lt ga e).1; omega))⟩
  · rw [World.frozen?_setCell]; exact h.fa
  · rw [set_far _ _ _ _ (by show ga ≠ gf; omega)]; exact h.cf
  · rw [World.frozen?_setCell]; exact h.ff
  · rw [set_far _ _ _ _ (by show ga ≠ gl; omega)]; exact h.cl
  · rw [World.frozen?_setCell]; exact h.fl
theorem PS.setFrom (h : PS w bm gp ga gf gl base s r a f v l) (O : Ord B bm gp ga gf gl base) (f' : Nat) : PS (w.setCell ⟨gf, 0, none⟩ (.int .i64 (f' : Nat))) bm gp ga gf gl base s r a f' v l := by
  obtain ⟨o1, o2, o3, o4, o5, o6⟩ := O
  have hg := grown_set w gf 0 (.int .i64 (f' : Nat))
  refine ⟨h.past.other hg (by omega) (by omega) (by omega), ?_, ?_, World.cell?_setCell_same w _ _ h.cf, ?_, ?_, ?_, h.own.kept hg (.inr (fun e => by have := (h.own.lt gf e).1; omega))⟩
  · rw [set_far _ _ _ _ (by show gf ≠ ga; omega)]; exact h.ca
  · rw [World.frozen?_setCell]; exact h.fa
  · rw [World.frozen?_setCell]; exact h.ff
  · rw [set_far _ _ _ _ (by show gf ≠ gl; omega)]; exact h.cl
  · rw [World.frozen?_setCell]; exact h.fl
theorem PS.laid {g cp : Nat} {t : Tk.T} (h : PS w bm gp ga gf gl base s r a f v l) (O : Ord B bm gp ga gf gl base)
    (hown : w'.ownsRow base 165 3 (.slice (some ⟨g, 0, none⟩) (l.length + 1) cp) (l.length + 1) (tcs l ++ [.string t.lit, .int .i64 t.far, .int .i64 t.len])) (hg : w.grownBy w' v.ownBlock) (hat : v.ownBlock = some g ∨ w.heap.size ≤ g) :
    PS (w'.setCell ⟨gl, 0, none⟩ (.slice (some ⟨g, 0, none⟩) (l.length + 1) cp)) bm gp ga gf gl base s r a f (.slice (some ⟨g, 0, none⟩) (l.length + 1) cp) (l ++ [t]) ∧ w'.cell? ⟨gl, 0, none⟩ = some v ∧ w'.frozen? ⟨gl, 0, none⟩ = false := by
  have hs := h.bs
  obtain ⟨o1, o2, o3, o4, o5, o6⟩ := O
  have hnv : ∀ k, k < base → some k ≠ v.ownBlock := fun k hk e => by have := (h.own.lt k e.symm).1; omega
  have hlt : ∀ k, k < base → k < w.heap.size := fun k hk => by omega
  have hc : ∀ k o, k < base → w'.cell? ⟨k, o, none⟩ = w.cell? ⟨k, o, none⟩ := fun k o hk => hg.cell_far _ (hlt k hk) (hnv k hk)
  have hf : ∀ k o, k < base → w'.frozen? ⟨k, o, none⟩ = w.frozen? ⟨k, o, none⟩ := fun k o hk => hg.frozen_far _ (hlt k hk) (hnv k hk)
  obtain ⟨D, hm, ho, hsh, hr⟩ := h.past.map
  have hsh2 : w.Shuns bm (fun k => (Value.slice (some ⟨g, 0, none⟩) (l.length + 1) cp).ownBlock = some k) := hsh.reno ho (fun k hk => by
    have e : g = k := by simpa [Value.ownBlock] using hk
    subst e
    exact hat)
  have hp' : PastAt w' base gp bm (fun k => (Value.slice (some ⟨g, 0, none⟩) (l.length + 1) cp).ownBlock = some k) s r :=
    ⟨(hc gp 0 h.past.gb).trans h.past.c0, (hc gp 1 h.past.gb).trans h.past.c1, (hc gp 2 h.past.gb).trans h.past.c2, (hf gp 2 h.past.gb).trans h.past.f2, h.past.gb, h.past.ne, Nat.le_trans hs hg.size, D, hm,
      ho.kept hg (hnv bm (by omega)) (hsh.rowsOff (fun j hj => hj)), hsh2.kept hg (hlt bm (by omega)) (hnv bm (by omega)), hr⟩
  have hg2 := grown_set w' gl 0 (.slice (some ⟨g, 0, none⟩) (l.length + 1) cp)
  have hcl : w'.cell? ⟨gl, 0, none⟩ = some v := (hc gl 0 o6).trans h.cl
  refine ⟨⟨hp'.other hg2 (by omega) (by omega) o6, ?_, ?_, ?_, ?_, World.cell?_setCell_same w' _ _ hcl, ?_, ?_⟩, hcl, (hf gl 0 o6).trans h.fl⟩
  · rw [set_far _ _ _ _ (by show gl ≠ ga; omega)]; exact (hc ga 0 (by omega)).trans h.ca
  · rw [World.frozen?_setCell]; exact (hf ga 0 (by omega)).trans h.fa
  · rw [set_far _ _ _ _ (by show gl ≠ gf; omega)]; exact (hc gf 0 (by omega)).trans h.cf
  · rw [World.frozen?_setCell]; exact (hf gf 0 (by omega)).trans h.ff
  · rw [World.frozen?_setCell]; exact (hf gl 0 o6).trans h.fl
  · rw [tcs_append, List.length_append]
    exact hown.kept hg2 (.inr (fun e => by have := (hown.lt gl e).1; omega))
end
end Go.Proofs.YtbjbjbpgmojcbabGreat
namespace Go.Proofs.YtbjbjbpgmojcbabGreat
open Go.RowKit
theorem heap_set {w : World} {g k : Nat} {c : Array Value} {t : TypeId} {fz : Nat × Nat} (h : w.heap[g]? = some (.cells c t fz)) (x : Value) : (w.setCell ⟨g, k, none⟩ x).heap[g]? = some (.cells (c.setIfInBounds k x) t fz) := by
  show (w.heap.modify g _)[g]? = _
  rw [Array.getElem?_modify, if_pos rfl, h]
  rfl
theorem heap_far {w : World} {g q k : Nat} (h : q ≠ g) (x : Value) : (w.setCell ⟨q, k, none⟩ x).heap[g]? = w.heap[g]? := by
  show (w.heap.modify q _)[g]? = _
  rw [Array.getElem?_modify, if_neg h]
theorem BitsAt.laid {w : World} {gb g cap : Nat} {bs : List Bool} {b : Bool} {t : Int} (hgb : gb < w.heap.size) (hc : w.heap[gb]? = some (.cells #[.slice (some ⟨g, 0, none⟩) (Cd.pk1 bs).length cap, .int .i64 (bs.length : Nat)] 200 (0, 0)))
    (hg : gb + 1 ≤ g) (ho : (w.setCell ⟨g, bs.length / 8, none⟩ (.int .u8 t)).ownsRow (gb + 1) 5 1 (.slice (some ⟨g, 0, none⟩) (Cd.pk1 bs).length cap) (Cd.pk (bs ++ [b])).length (bcs (Cd.pk (bs ++ [b])))) :
    BitsAt (((w.setCell ⟨g, bs.length / 8, none⟩ (.int .u8 t)).drew).setCell ⟨gb, 1, none⟩ (.int .i64 ((bs.length : Nat) + 1 : Int))) gb (bs ++ [b]) := by
  refine ⟨by simpa [World.setCell] using hgb, .slice (some ⟨g, 0, none⟩) (Cd.pk1 bs).length cap, ?_, ?_⟩
  · have h1 : ((w.setCell ⟨g, bs.length / 8, none⟩ (.int .u8 t)).drew).heap[gb]? = some (.cells #[.slice (some ⟨g, 0, none⟩) (Cd.pk1 bs).length cap, .int .i64 (bs.length : Nat)] 200 (0, 0)) := by
      show (w.setCell ⟨g, bs.length / 8, none⟩ (.int .u8 t)).heap[gb]? = _
      rw [heap_far (by omega)]
      exact hc
    have h2 := heap_set (k := 1) h1 (.int .i64 ((bs.length : Nat) + 1 : Int))
    rw [h2]
    simp
  · have ho2 : ((w.setCell ⟨g, bs.length / 8, none⟩ (.int .u8 t)).drew).ownsRow (gb + 1) 5 1 (.slice (some ⟨g, 0, none⟩) (Cd.pk1 bs).length cap) (Cd.pk (bs ++ [b])).length (bcs (Cd.pk (bs ++ [b]))) := ho
    exact ownsRow_setCell_below ho2 (a := ⟨gb, 1, none⟩) (by show gb < gb + 1; omega) _
theorem bit_ready {w : World} {gb : Nat} {bs : List Bool} {v : Value} (hgb : gb < w.heap.size) (hc : w.heap[gb]? = some (.cells #[v, .int .i64 (bs.length : Nat)] 200 (0, 0)))
    (ho : w.ownsRow (gb + 1) 5 1 v (Cd.pk1 bs).length (bcs (Cd.pk1 bs))) (b : Bool) :
    ∃ (g cap : Nat) (t x : Int), v = .slice (some ⟨g, 0, none⟩) (bs.length / 8 + 1) cap ∧ g ≠ gb ∧ w.cell? ⟨gb, 0, none⟩ = some (.slice (some ⟨g, 0, none⟩) (bs.length / 8 + 1) cap) ∧ w.cell? ⟨gb, 1, none⟩ = some (.int .i64 (bs.length : Nat)) ∧
      w.cell? ⟨g, bs.length / 8, none⟩ = some (.int .u8 x) ∧ w.frozen? ⟨g, bs.length / 8, none⟩ = false ∧ w.frozen? ⟨gb, 1, none⟩ = false ∧ 0 ≤ x ∧ x ≤ 255 ∧
      Hid (bits BinOp.or IntKind.u8 x ((Cd.bv b : Nat) * 2 ^ (7 - bs.length % 8) % 256) = t) ∧
      Hid (BitsAt (((w.setCell ⟨g, bs.length / 8, none⟩ (.int .u8 t)).drew).setCell ⟨gb, 1, none⟩ (.int .i64 ((bs.length : Nat) + 1 : Int))) gb (bs ++ [b])) ∧
      Hid (∀ a : World, Below gb a w → Below gb a (((w.setCell ⟨g, bs.length / 8, none⟩ (.int .u8 t)).drew).setCell ⟨gb, 1, none⟩ (.int .i64 ((bs.length : Nat) + 1 : Int)))) := by
  have hl := Cd.pk1_len bs
  obtain ⟨g, cap, rfl, hg, hgl, hcell, hfz, hset⟩ := row_form ho (by intro e; rw [e] at hl; simp at hl)
  have hn : bs.length = 8 * (bs.length / 8) + bs.length % 8 := by omega
  have hb := Cd.byt_new bs b (bs.length / 8) (bs.length % 8) (by omega) hn
  have hlt := Cd.byt_lt bs (bs.length / 8)
  obtain ⟨hf1, hf2⟩ := byte_form (b := b) (show bs.length % 8 < 8 by omega) hlt hb.2
  have hx := hcell (bs.length / 8) _ (Cd.pk1_at bs (by omega))
  have e8 : ∀ n, n < 256 → (UInt8.ofNat n).toNat = n := fun n h => by simp; omega
  rw [e8 _ hlt] at hx
  have hs := hset (bs.length / 8) (UInt8.ofNat (Cd.byt bs (bs.length / 8) + Cd.bv b * 2 ^ (7 - bs.length % 8))) (by omega)
  rw [← Cd.pk_snoc bs b, e8 _ hf2] at hs
  have hc' : w.heap[gb]? = some (.cells #[.slice (some ⟨g, 0, none⟩) (Cd.pk1 bs).length cap, .int .i64 (bs.length : Nat)] 200 (0, 0)) := hc
  refine ⟨g, cap, _, _, by rw [hl], by omega, ?_, ?_, hx, hfz _, by simp [World.frozen?, hc], by omega, by omega, hf1, BitsAt.laid hgb hc' hg hs, fun a ha => ?_⟩
  · rw [cell_of_row w gb 0 _ _ _ hc, ← hl]; rfl
  · rw [cell_of_row w gb 1 _ _ _ hc]; rfl
  · exact ((ha.setCell (p := ⟨g, bs.length / 8, none⟩) (by show gb ≤ g; omega) _).drew).setCell (p := ⟨gb, 1, none⟩) (Nat.le_refl _) _
theorem bit_grown {a wr w1 : World} {gb : Nat} {b2 : List Bool} {v v' : Value} {o : Obj} (hgb : gb < wr.heap.size) (hc : wr.heap[gb]? = some (.cells #[v, .int .i64 (b2.length : Nat)] 200 (0, 0)))
    (ho : wr.ownsRow (gb + 1) 5 1 v (Cd.pk b2).length (bcs (Cd.pk b2))) (hr : b2.length % 8 = 0) (hown : w1.ownsRow (gb + 1) 5 1 v' ((Cd.pk b2).length + 1) (bcs (Cd.pk b2) ++ [.int .u8 0])) (hg : (wr.alloc o).grownBy w1 v.ownBlock)
    (G : Below gb a wr) (b : Bool) :
    w1.cell? ⟨gb, 0, none⟩ = some v ∧ w1.frozen? ⟨gb, 0, none⟩ = false ∧ Hid (Below gb a (w1.setCell ⟨gb, 0, none⟩ v')) ∧ ∃ (g cap : Nat) (t x : Int), v' = .slice (some ⟨g, 0, none⟩) (b2.length / 8 + 1) cap ∧ g ≠ gb ∧ (w1.setCell ⟨gb, 0, none⟩ v').cell? ⟨gb, 0, none⟩ = some (.slice (some ⟨g, 0, none⟩) (b2.length / 8 + 1) cap) ∧ (w1.setCell ⟨gb, 0, none⟩ v').cell? ⟨gb, 1, none⟩ = some (.int .i64 (b2.length : Nat)) ∧
      (w1.setCell ⟨gb, 0, none⟩ v').cell? ⟨g, b2.length / 8, none⟩ = some (.int .u8 x) ∧ (w1.setCell ⟨gb, 0, none⟩ v').frozen? ⟨g, b2.length / 8, none⟩ = false ∧ (w1.setCell ⟨gb, 0, none⟩ v').frozen? ⟨gb, 1, none⟩ = false ∧ 0 ≤ x ∧ x ≤ 255 ∧
      Hid (bits BinOp.or IntKind.u8 x ((Cd.bv b : Nat) * 2 ^ (7 - b2.length % 8) % 256) = t) ∧
      Hid (BitsAt ((((w1.setCell ⟨gb, 0, none⟩ v').setCell ⟨g, b2.length / 8, none⟩ (.int .u8 t)).drew).setCell ⟨gb, 1, none⟩ (.int .i64 ((b2.length : Nat) + 1 : Int))) gb (b2 ++ [b])) ∧
      Hid (∀ a : World, Below gb a (w1.setCell ⟨gb, 0, none⟩ v') → Below gb a ((((w1.setCell ⟨gb, 0, none⟩ v').setCell ⟨g, b2.length / 8, none⟩ (.int .u8 t)).drew).setCell ⟨gb, 1, none⟩ (.int .i64 ((b2.length : Nat) + 1 : Int)))) := by
  have hne : some gb ≠ v.ownBlock := fun e => by have := (ho.lt gb e.symm).1; omega
  have hblk : w1.heap[gb]? = wr.heap[gb]? := by
    rw [hg.block gb (by simp; omega) hne]
    exact ((Below.refl wr.heap.size wr).alloc (Nat.le_refl _) o).block gb hgb
  have hc1 : w1.heap[gb]? = some (.cells #[v, .int .i64 (b2.length : Nat)] 200 (0, 0)) := hblk.trans hc
  have hB1 : Below gb a w1 := (G.alloc (Nat.le_of_lt hgb) o).grown hg (by simp; omega) (fun k hk => by have := (ho.lt k hk).1; omega)
  have hgb1 : gb < w1.heap.size := (Array.getElem?_eq_some_iff.1 hc1).1
  refine ⟨by rw [cell_of_row w1 gb 0 _ _ _ hc1]; rfl, by simp [World.frozen?, hc1], hB1.setCell (p := ⟨gb, 0, none⟩) (Nat.le_refl _) _, ?_⟩
  have hp1 : Cd.pk1 b2 = Cd.pk b2 ++ [0] := by unfold Cd.pk1; rw [if_pos hr]
  have hc2 := heap_set (k := 0) hc1 v'
  refine bit_ready (w := w1.setCell ⟨gb, 0, none⟩ v') (v := v') (by simpa [World.setCell] using hgb1) (by rw [hc2]; rfl) ?_ b
  refine ownsRow_setCell_below (a := ⟨gb, 0, none⟩) ?_ (by show gb < gb + 1; omega) _
  rw [hp1, List.length_append, bcs_append]
  exact hown
set_option maxRecDepth 4000 in
set_option maxHeartbeats 4000000 in
theorem bitsPut_any (gb : Nat) (bs : List Bool) (word : Int) (n : Nat) (w : World) (hB : BitsAt w gb bs) (h0 : 0 ≤ word) (h1 : word ≤ 1048576) (hn : n ≤ 15) (hl : bs.length ≤ 40000) :
    Calls Tryz.prog 183 #[.pointer (some ⟨gb, 0, none⟩), .int .i64 word, .int .i64 (n : Int)] w fun e w' => e = .returned (.tuple #[]) ∧ Below gb w w' ∧ BitsAt w' gb (bs ++ Cd.wb word n) := by
  obtain ⟨i0, hi, hz0, hz1, hz2⟩ := info_parts info_u8
  have hn' : (n : Int) ≤ 15 := by omega
  go_enter Tryz.func183, Tryz.ntmps183
  go_wp2_with fail
  go_loopw [6] (fun i wr => ∃ (k : Nat) (K : Int) (b2 : List Bool), i = .int .i64 K ∧ Hid (K = (k : Int) - 1) ∧ k ≤ n ∧ Hid (b2 ++ Cd.wb word k = bs ++ Cd.wb word n) ∧ b2.length ≤ 40015 ∧ BitsAt wr gb b2 ∧ Below gb w wr) (fun i _ => (intOf i + 1).toNat)
  case atStart => exact ⟨n, (n : Int) - 1, bs, by go_num, rfl, Nat.le_refl _, rfl, by omega, hB, Below.refl _ _⟩
  case round =>
    clear hB
    obtain ⟨k, K, b2, rfl, HK, hk, hE, hb2, hB, G⟩ := hrel
    cases k with
    | zero =>
      obtain rfl : K = -1 := by have := HK.out; omega
      have hE' : b2 = bs ++ Cd.wb word n := by have := hE.out; rwa [Cd.wb, List.append_nil] at this
      subst hE'
      go_wp2_with fail
      go_end0
      exact ⟨rfl, G, hB⟩
    | succ k =>
      have hKk : K = k := by have := HK.out; omega
      have hK0 : 0 ≤ K := by omega
      have hK1 : K ≤ 14 := by omega
      have dK : decide (0 ≤ K) = true := by simpa using hK0
      have HE2 : Hid ((b2 ++ [decide (word / 2 ^ k % 2 = 1)]) ++ Cd.wb word k = bs ++ Cd.wb word n) := by
        have := hE.out
        rw [Cd.wb] at this
        show _ = _
        rw [← this, List.append_assoc]
        rfl
      have HBF : bits BinOp.and IntKind.i64 (word / 2 ^ K.toNat) 1 % 256 = (Cd.bv (decide (word / 2 ^ k % 2 = 1)) : Nat) := bit_form h0 h1 hKk
      obtain ⟨hgb, v, hc, ho⟩ := hB
      have HK1 : Hid (K = (k : Nat)) := hKk
      have Hk : Hid (k ≤ n) := by show _ ≤ _; omega
      obtain ⟨N, hN⟩ : ∃ N : Nat, b2.length = N := ⟨_, rfl⟩
      have hN8 : (N : Int).tmod 8 = (N % 8 : Nat) := by rw [Int.tmod_eq_emod_of_nonneg (by omega)]; omega
      have hN9 : (N : Int).tdiv 8 = (N / 8 : Nat) := by rw [Int.tdiv_eq_ediv_of_nonneg (by omega)]; omega
      clear hKk HK hE
      by_cases hr : b2.length % 8 = 0
      · have d0 : (((N % 8 : Nat) : Int) == 0) = true := by simp; omega
        have hlen : (Cd.pk b2).length ≤ 6000 := by rw [Cd.pk_len]; omega
        have HNl : Hid (b2.length = N) := hN
        have hNb : N ≤ 40015 := by omega
        have hv0 : wr.cell? ⟨gb, 0, none⟩ = some v := by rw [cell_of_row wr gb 0 _ _ _ hc]; rfl
        have hv1 : wr.cell? ⟨gb, 1, none⟩ = some (.int .i64 (N : Nat)) := by rw [cell_of_row wr gb 1 _ _ _ hc, ← hN]; rfl
        have hle : gb + 1 ≤ (wr.alloc (.cells #[.int .u8 0] 5)).heap.size := by simp; omega
        have Hc : Hid (wr.heap[gb]? = some (.cells #[v, .int .i64 (b2.length : Nat)] 200 (0, 0))) := hc
        have Hr : Hid (b2.length % 8 = 0) := hr
        clear hN hr hc
        go_wp2_with (at_builtin; go_must (refine wpList_append_own _ rfl _ _ 93 rfl (gb + 1) 5 i0 (.int .u8 0) 1 1 Tryz.underlying93 hi hz0 hz1 hz2 rfl (by decide) _ _ _ rfl (ho.alloc _) ⟨wr.heap.size, 0, none⟩ 1 1 [.int .u8 0] rfl rfl (cell_one_new _ _ _) (one_u8 _) (ml_le (by omega)) (by omega) hle ?_; intro v' w1 hown' hgrow _; obtain ⟨y1, y2, y3, g, cap, t, x, rfl, q1, q2, q3, q4, q5, q6, q7, q8, Q1, Q2, Q3⟩ := bit_grown hgb Hc.out ho Hr.out hown' hgrow G (decide (word / 2 ^ k % 2 = 1)); have HB3 := Q3.out w y3.out; rw [HNl.out] at q2 q3 q4 q5 q6 Q1 Q2 HB3))
        rw [HNl.out]
        have HQ2 := Q2
        have HQ1 := Q1.out
        generalize w1.setCell ⟨gb, 0, none⟩ (.slice (some ⟨g, 0, none⟩) (N / 8 + 1) cap) = wq at *
        have z1 : ((wq.setCell ⟨g, N / 8, none⟩ (.int .u8 t)).drew).cell? ⟨gb, 1, none⟩ = some (.int .i64 (N : Nat)) := by
          show (wq.setCell ⟨g, N / 8, none⟩ (.int .u8 t)).cell? ⟨gb, 1, none⟩ = _
          rw [set_far _ _ _ _ (by exact q1)]
          exact q3
        have z2 : ((wq.setCell ⟨g, N / 8, none⟩ (.int .u8 t)).drew).frozen? ⟨gb, 1, none⟩ = false := by
          show (wq.setCell ⟨g, N / 8, none⟩ (.int .u8 t)).frozen? ⟨gb, 1, none⟩ = _
          rw [World.frozen?_setCell]
          exact q6
        have HLn : Hid (b2.length + 1 ≤ 40015) := by
          have := congrArg List.length HE2.out
          simp [Cd.wb_len] at this
          show _ ≤ _
          omega
        generalize Cd.bv (decide (word / 2 ^ k % 2 = 1)) = bb at *
        clear Q1 Q2 Q3 y1 y2 y3 hv0 hv1 ho hown' hgrow hlen hle
        go_wp2_with fail
        go_region
        go_wp2_with fail
        go_roundw
        case rel => exact ⟨k, K - 1, b2 ++ [decide (word / 2 ^ k % 2 = 1)], by go_num, by have := HK1.out; show _ = _; omega, Hk.out, HE2, by have := HLn.out; simp; omega, HQ2.out, HB3⟩
        case measure => simp [intOf]; omega
      · have hp1 : Cd.pk1 b2 = Cd.pk b2 := by unfold Cd.pk1; rw [if_neg hr]
        rw [← hp1] at ho
        obtain ⟨g, cap, t, x, rfl, q1, q2, q3, q4, q5, q6, q7, q8, Q1, Q2, Q3⟩ := bit_ready hgb hc ho (decide (word / 2 ^ k % 2 = 1))
        clear hp1 ho hc
        have HB3 := Q3.out w G
        rw [hN] at q2 q3 q4 q5 Q1 Q2 HB3
        have HQ2 : Hid (BitsAt (((wr.setCell ⟨g, N / 8, none⟩ (.int .u8 t)).drew).setCell ⟨gb, 1, none⟩ (.int .i64 ((N : Nat) + 1 : Int))) gb (b2 ++ [decide (word / 2 ^ k % 2 = 1)])) := Q2.out
        have d0 : (((N % 8 : Nat) : Int) == 0) = false := by simp; omega
        have HLn : Hid (b2.length + 1 ≤ 40015) := by
          have := congrArg List.length HE2.out
          simp [Cd.wb_len] at this
          show _ ≤ _
          omega
        have HQ1 := Q1.out
        generalize Cd.bv (decide (word / 2 ^ k % 2 = 1)) = bb at *
        clear Q1 Q2 Q3
        have hNb : N ≤ 40015 := by omega
        have HNl : Hid (b2.length = N) := hN
        clear hN hr
        have z1 : ((wr.setCell ⟨g, N / 8, none⟩ (.int .u8 t)).drew).cell? ⟨gb, 1, none⟩ = some (.int .i64 (N : Nat)) := by
          show (wr.setCell ⟨g, N / 8, none⟩ (.int .u8 t)).cell? ⟨gb, 1, none⟩ = _
          rw [set_far _ _ _ _ (by exact q1)]
          exact q3
        have z2 : ((wr.setCell ⟨g, N / 8, none⟩ (.int .u8 t)).drew).frozen? ⟨gb, 1, none⟩ = false := by
          show (wr.setCell ⟨g, N / 8, none⟩ (.int .u8 t)).frozen? ⟨gb, 1, none⟩ = _
          rw [World.frozen?_setCell]
          exact q6
        go_wp2_with fail
        go_region
        go_wp2_with fail
        go_roundw
        case rel => exact ⟨k, K - 1, b2 ++ [decide (word / 2 ^ k % 2 = 1)], by go_num, by have := HK1.out; show _ = _; omega, Hk.out, HE2, by have := HLn.out; simp; omega, HQ2.out, HB3⟩
        case measure => simp [intOf]; omega
end Go.Proofs.YtbjbjbpgmojcbabGreat
namespace Go.Proofs.YtbjbjbpgmojcbabGreat
open Go.RowKit
namespace Cd
theorem wI_v (f : Nat → Int) (n : Int) (x : Int × (Nat → Int)) (M : Int) (h0 : 0 ≤ x.1) (h1 : x.1 + 16 ≤ M) (hx : ∀ i, 0 ≤ x.2 i ∧ x.2 i ≤ M) : ∀ k, k ≤ 16 → ∀ i, 0 ≤ (wI f n x k).2 i ∧ (wI f n x k).2 i ≤ M := by
  intro k
  induction k with
  | zero => intro _; exact hx
  | succ k ih =>
    intro hk i
    have hb := wI_b f n x k
    have := ih (by omega) i
    rw [wI]
    split
    · simp only
      unfold upd
      split
      · omega
      · exact this
    · exact this
theorem wO_v (f : Nat → Int) : ∀ n, n ≤ 15 → ∀ i, 0 ≤ (wO f n).2 i ∧ (wO f n).2 i ≤ 1048576 := by
  intro n
  induction n with
  | zero => intro _ i; simp [wO]
  | succ n ih =>
    intro hn
    have hb := wO_b f n
    have h2 : (2 : Int) ^ n ≤ 2 ^ 14 := pow_le_of (by omega)
    rw [wO]
    exact wI_v f _ ((wO f n).1 * 2, (wO f n).2) 1048576 (show 0 ≤ (wO f n).1 * 2 by omega) (show (wO f n).1 * 2 + 16 ≤ 1048576 by omega) (ih (by omega)) 16 (Nat.le_refl _)
theorem wds_v (f : Nat → Int) (i : Nat) : 0 ≤ wds f i ∧ wds f i ≤ 1048576 := wO_v f 15 (Nat.le_refl _) i
def cw (f : Nat → Int) (s : Nat) : List Bool := wb (wds f s) (f s).toNat
def at8 (s : ByteArray) (k : Nat) : Nat := (s.data.toList[k]?.getD 0).toNat
theorem at8_lt (s : ByteArray) (k : Nat) : at8 s k < 256 := (s.data.toList[k]?.getD 0).toNat_lt
def wrK (f : Nat → Int) (s : ByteArray) : Nat → Option (List Bool)
  | 0 => some []
  | k + 1 => match wrK f s k with
    | none => none
    | some bs => if f (at8 s k / 16) = 0 ∨ f (at8 s k % 16) = 0 then none else some (bs ++ cw f (at8 s k / 16) ++ cw f (at8 s k % 16))
theorem wrK_none {f : Nat → Int} {s : ByteArray} {k : Nat} (h : wrK f s k = none) : ∀ j, wrK f s (k + j) = none := by
  intro j
  induction j with
  | zero => exact h
  | succ j ih => rw [← Nat.add_assoc, wrK, ih]
theorem wrK_next {f : Nat → Int} {s : ByteArray} {k : Nat} {bs : List Bool} (h : wrK f s k = some bs) (h1 : ¬ (f (at8 s k / 16) = 0 ∨ f (at8 s k % 16) = 0)) : wrK f s (k + 1) = some (bs ++ cw f (at8 s k / 16) ++ cw f (at8 s k % 16)) := by
  rw [wrK, h]
  simp only
  rw [if_neg h1]
theorem wrK_stop {f : Nat → Int} {s : ByteArray} {k n : Nat} {bs : List Bool} (hk : k < n) (h : wrK f s k = some bs) (h1 : f (at8 s k / 16) = 0 ∨ f (at8 s k % 16) = 0) : wrK f s n = none := by
  have : wrK f s (k + 1) = none := by rw [wrK, h]; simp only; rw [if_pos h1]
  have h2 := wrK_none this (n - (k + 1))
  rwa [show k + 1 + (n - (k + 1)) = n by omega] at h2
theorem cw_len {f : Nat → Int} (h : InR f 15 16) {i : Nat} (hi : i < 16) : (cw f i).length ≤ 15 := by
  rw [cw, wb_len]
  have := h i hi
  omega
theorem wrK_len {f : Nat → Int} {s : ByteArray} (h : InR f 15 16) : ∀ k bs, wrK f s k = some bs → bs.length ≤ 30 * k := by
  intro k
  induction k with
  | zero => intro bs h; simp [wrK] at h; subst h; simp
  | succ k ih =>
    intro bs hb
    rw [wrK] at hb
    have hlt := at8_lt s k
    cases hq : wrK f s k with
    | none => rw [hq] at hb; simp at hb
    | some b2 =>
      rw [hq] at hb
      simp only at hb
      split at hb
      · simp at hb
      · simp only [Option.some.injEq] at hb
        subst hb
        have h1 := ih b2 hq
        have h2 := cw_len h (i := at8 s k / 16) (by omega)
        have h3 := cw_len h (i := at8 s k % 16) (by omega)
        simp only [List.length_append]
        omega
def wrt (f : Nat → Int) (s : ByteArray) : ByteArray × Int :=
  if chk f ≠ 0 then (⟨#[]⟩, chk f) else if 1024 < s.size then (⟨#[]⟩, 2) else match wrK f s s.size with | none => (⟨#[]⟩, 5) | some bs => (⟨(pk bs).toArray⟩, 0)
end Cd
theorem BitsAt.below {w w' : World} {gb : Nat} {bs : List Bool} (h : BitsAt w gb bs) (hb : Below w.heap.size w w') : BitsAt w' gb bs := by
  obtain ⟨h1, v, h2, h3⟩ := h
  refine ⟨Nat.lt_of_lt_of_le h1 hb.size, v, by rw [hb.block gb h1]; exact h2, ?_⟩
  refine ⟨h3.1, ?_⟩
  rcases h3.2 with h | ⟨g, cap, cur, rfl, e1, e2, e3⟩
  · exact .inl h
  · exact .inr ⟨g, cap, cur, rfl, e1, by rw [hb.block g (Array.getElem?_eq_some_iff.1 e2).1]; exact e2, e3⟩
theorem bits_new (w : World) : BitsAt (w.alloc (.cells #[.slice none 0 0, .int .i64 0] 200)) w.heap.size [] :=
  ⟨by simp, .slice none 0 0, heap_alloc_last w _, World.ownsRow_nil _ _ _ _⟩
theorem RowAt.keep {B g : Nat} {w w' : World} {f : Nat → Int} (h : RowAt w g f) (hb : Below B w w') (hg : g < B) : RowAt w' g f := ⟨Nat.lt_of_lt_of_le h.1 hb.size, by rw [hb.block g hg]; exact h.2⟩
set_option maxRecDepth 4000 in
set_option maxHeartbeats 4000000 in
theorem codeWrite_ok (f : Nat → Int) (s : ByteArray) (w : World) (h0 : Cd.chk f = 0) (hs : s.size ≤ 1024) :
    Calls Tryz.prog 162 #[.agg (arr f), .string s] w fun e w' => e = .returned (.tuple #[.string (Cd.wrt f s).1, .int .i64 (Cd.wrt f s).2]) ∧ Below w.heap.size w w' := by
  have hck := fun w => codeCheck_any f w
  rw [h0] at hck
  have hwd := fun w => codeWords_any f w
  have hin := arr_infoc f
  have hinw := arr_infoc (Cd.wds f)
  have hR : Hid (Cd.InR f 15 16) := (Cd.chk_zero h0).1
  have h0' : Hid (Cd.chk f = 0) := h0
  have hs' : (s.size : Int) ≤ 1024 := by omega
  have ds : decide (1024 < (s.size : Int)) = false := by simp; omega
  have R1 := RowAt.new w f
  have HB : Below w.heap.size w (w.alloc (.cells (arr f) 127)) := (Below.refl _ _).alloc (Nat.le_refl _) _
  obtain ⟨r1, r2, hr⟩ : ∃ r1 r2, Cd.wrt f s = (r1, r2) := ⟨_, _, rfl⟩
  rw [hr]
  have Hr : Hid (Cd.wrt f s = (r1, r2)) := hr
  clear hr h0
  go_enter Tryz.func162, Tryz.ntmps162
  go_wp2_with (refine wpList_load_row rfl 127 _ rfl w.heap.size rfl 127 (arr f) (0, 0) _ R1.2 Tryz.underlying127 rfl hin ?_)
  refine (hck _).mono ?_
  rintro e w1 ⟨rfl, G1⟩
  have S1 := R1.below G1
  have B1 := bch HB G1 (Nat.le_refl _)
  clear R1 HB G1 hck
  go_wp2_with (refine wpList_load_row rfl 127 _ rfl w.heap.size rfl 127 (arr f) (0, 0) _ S1.2 Tryz.underlying127 rfl hin ?_)
  refine (hwd _).mono ?_
  rintro e w2 ⟨rfl, G2⟩
  have T1 := S1.below G2
  have B2 := bch B1 G2 (Nat.le_refl _)
  clear S1 B1 G2 hwd
  go_wp2_with (refine wpList_store_row rfl 127 _ _ rfl w2.heap.size (arr (Cd.wds f)) rfl rfl 127 _ (heap_alloc_last w2 _) hinw rfl (arr_one _) ?_; rw [World.setRow_alloc_new])
  have T7 := (RowAt.new w2 (Cd.wds f)).alloc (.cells #[.slice none 0 0, .int .i64 0] 200)
  have T2 := (T1.alloc (.cells (arr (Cd.wds f)) 127)).alloc (.cells #[.slice none 0 0, .int .i64 0] 200)
  have TB := bits_new (w2.alloc (.cells (arr (Cd.wds f)) 127))
  have B3 : Below w.heap.size w ((w2.alloc (.cells (arr (Cd.wds f)) 127)).alloc (.cells #[.slice none 0 0, .int .i64 0] 200)) := (B2.alloc (Nat.le_of_lt T1.1) _).alloc (by have := T1.1; simp; omega) _
  have hsz9 : (w2.alloc (.cells (arr (Cd.wds f)) 127)).heap.size = w2.heap.size + 1 := by simp
  rw [hsz9] at TB
  have hq : Hid (w.heap.size < w2.heap.size ∧ w2.heap.size < w2.heap.size + 1) := ⟨T1.1, by omega⟩
  clear hsz9 T1 B2
  generalize (w2.alloc (.cells (arr (Cd.wds f)) 127)).alloc (.cells #[.slice none 0 0, .int .i64 0] 200) = w3 at *
  generalize w2.heap.size + 1 = gb at *
  generalize w2.heap.size = g7 at *
  go_loopw [24] (fun i wr => ∃ (k : Nat) (bs : List Bool), k ≤ s.size ∧ i = .int .i64 k ∧ Hid (Cd.wrK f s k = some bs) ∧ RowAt wr w.heap.size f ∧ RowAt wr g7 (Cd.wds f) ∧ BitsAt wr gb bs ∧ Below w.heap.size w wr) (fun i _ => s.size - (intOf i).toNat)
  case atStart => exact ⟨0, [], by omega, rfl, rfl, T2, T7, TB, B3⟩
  case round =>
    clear T2 T7 TB B3
    obtain ⟨k, bs, hk, rfl, hW, T2, T7, TB, B3⟩ := hrel
    by_cases hlt : k < s.size
    · have hk1 : decide ((k : Int) < (s.size : Int)) = true := by simp; omega
      have hk2 : decide (k < s.size) = true := by simp; omega
      obtain ⟨x, hx⟩ : ∃ x : Int, (s[k].toNat : Int) = x := ⟨_, rfl⟩
      have hA : Cd.at8 s k = s[k].toNat := by unfold Cd.at8; rw [Nm.at_list s k hlt]; rfl
      have hA2 := Cd.at8_lt s k
      have hx0 : 0 ≤ x := by omega
      have hx1 : x ≤ 255 := by omega
      obtain ⟨H, hH⟩ : ∃ H, Cd.at8 s k / 16 = H := ⟨_, rfl⟩
      obtain ⟨L, hL⟩ : ∃ L, Cd.at8 s k % 16 = L := ⟨_, rfl⟩
      have e1 : x / 16 = (H : Int) := by omega
      have e2 : x % 16 = (L : Int) := by omega
      have e3 : x.tdiv 16 = (H : Int) := by rw [Int.tdiv_eq_ediv_of_nonneg hx0]; exact e1
      have e4 : x.tmod 16 = (L : Int) := by rw [Int.tmod_eq_emod_of_nonneg hx0]; exact e2
      have hH1 : H < 16 := by omega
      have hL1 : L < 16 := by omega
      have hH2 : (H : Int) < 16 := by omega
      have hL2 : (L : Int) < 16 := by omega
      have HN : Hid (¬ (f H = 0 ∨ f L = 0) → Cd.wrK f s (k + 1) = some (bs ++ Cd.cw f H ++ Cd.cw f L)) := fun h => by have := Cd.wrK_next hW.out (by rw [hH, hL]; exact h); rw [hH, hL] at this; exact this
      have HS : Hid (f H = 0 ∨ f L = 0 → r1 = ⟨#[]⟩ ∧ r2 = 5) := fun h => by
        have h9 : Cd.wrt f s = (⟨#[]⟩, 5) := by
          rw [Cd.wrt, if_neg (fun h => h h0'.out), if_neg (by omega), Cd.wrK_stop hlt hW.out (by rw [hH, hL]; exact h)]
        have h8 := Hr.out.symm.trans h9
        simpa using h8
      have Hlen : Hid (bs.length ≤ 30720) := by have := Cd.wrK_len hR.out k bs hW.out; show _ ≤ _; omega
      clear hA hA2 hH hL e1 e2
      have c1 := T2.cell H hH1
      have c2 := T2.cell L hL1
      have c3 := T7.cell H hH1
      have c4 := T7.cell L hL1
      have hfH := hR.out H hH1
      have hfL := hR.out L hL1
      have hwH := Cd.wds_v f H
      have hwL := Cd.wds_v f L
      by_cases hz : f H = 0
      · obtain ⟨rfl, rfl⟩ := HS.out (.inl hz)
        rw [hz] at c1
        clear hz c2 c3 c4 hfH hfL hwH hwL
        go_wp2_with fail
        go_quiet (fail)
        go_wp2_with fail
        go_ret2
        exact ⟨rfl, below_drewN B3 _⟩
      · have d1 : (f H == 0) = false := by simpa using hz
        by_cases hy : f L = 0
        · obtain ⟨rfl, rfl⟩ := HS.out (.inr hy)
          rw [hy] at c2
          clear hz hy c3 c4 hfH hfL hwH hwL
          go_wp2_with fail
          go_quiet (fail)
          go_wp2_with fail
          go_ret2
          exact ⟨rfl, below_drewN B3 _⟩
        · have d2 : (f L == 0) = false := by simpa using hy
          have HNN : Hid (Cd.wrK f s (k + 1) = some (bs ++ Cd.cw f H ++ Cd.cw f L)) := HN.out (fun h => h.elim hz hy)
          clear hz hy HS HN
          go_wp2_with fail
          go_quiet (fail)
          go_wp2_with fail
          have U2 := T2.below (below_drewN (Below.refl wr.heap.size wr) nq)
          have U7 := T7.below (below_drewN (Below.refl wr.heap.size wr) nq)
          have UB := TB.below (below_drewN (Below.refl wr.heap.size wr) nq)
          have B4 := below_drewN B3 nq
          clear T2 T7 TB B3 c1 c2 c3 c4
          generalize wr.drewN nq = wq at *
          have c1 := U2.cell H hH1
          have c3 := U7.cell H hH1
          have hpH : ∀ w, BitsAt w gb bs → Calls Tryz.prog 183 #[.pointer (some ⟨gb, 0, none⟩), .int .i64 (Cd.wds f H), .int .i64 (f H)] w fun e w' => e = .returned (.tuple #[]) ∧ Below gb w w' ∧ BitsAt w' gb (bs ++ Cd.cw f H) := fun w h => by
            have h9 := bitsPut_any gb bs (Cd.wds f H) (f H).toNat w h hwH.1 hwH.2 (by omega) (by have := Hlen.out; omega)
            rw [Int.toNat_of_nonneg hfH.1] at h9
            exact h9
          have hpL : ∀ w, BitsAt w gb (bs ++ Cd.cw f H) → Calls Tryz.prog 183 #[.pointer (some ⟨gb, 0, none⟩), .int .i64 (Cd.wds f L), .int .i64 (f L)] w fun e w' => e = .returned (.tuple #[]) ∧ Below gb w w' ∧ BitsAt w' gb (bs ++ Cd.cw f H ++ Cd.cw f L) := fun w h => by
            have h9 := bitsPut_any gb (bs ++ Cd.cw f H) (Cd.wds f L) (f L).toNat w h hwL.1 hwL.2 (by omega) (by have := Hlen.out; have := Cd.cw_len hR.out hH1; simp; omega)
            rw [Int.toNat_of_nonneg hfL.1] at h9
            exact h9
          generalize Cd.cw f H = CH at *
          generalize Cd.cw f L = CL at *
          generalize f H = fH at *
          have hcL : ∀ w', RowAt w' w.heap.size f → RowAt w' g7 (Cd.wds f) → w'.cell? ⟨w.heap.size, L, none⟩ = some (.int .i64 (f L)) ∧ w'.cell? ⟨g7, L, none⟩ = some (.int .i64 (Cd.wds f L)) := fun w' r1 r2 => ⟨r1.cell L hL1, r2.cell L hL1⟩
          generalize Cd.wds f H = wH at *
          have HhL : Hid (∀ w', RowAt w' w.heap.size f → RowAt w' g7 (Cd.wds f) → w'.cell? ⟨w.heap.size, L, none⟩ = some (.int .i64 (f L)) ∧ w'.cell? ⟨g7, L, none⟩ = some (.int .i64 (Cd.wds f L))) := hcL
          clear hcL hwH hfH hwL hfL
          have hq7 : g7 < gb := hq.out.2
          have hqN : w.heap.size < gb := Nat.lt_trans hq.out.1 hq.out.2
          go_region_held3 (fun w' => w'.cell? ⟨g7, H, none⟩ = some (.int .i64 wH) ∧ w'.cell? ⟨w.heap.size, H, none⟩ = some (.int .i64 fH)) (first | (go_keep; done) | (exact ⟨(G4.cell (by exact hq7)).trans c3, (G4.cell (by exact hqN)).trans c1⟩) | (exact ⟨by assumption, by assumption⟩)) (first | (go_at_call 183; refine (hpH _ (by exact UB)).mono ?_; rintro e w4 ⟨rfl, G4, Z4⟩))
          have G4' : Below gb wq w4 := ((Below.refl gb wq).drew).trans G4
          have V2 := U2.keep G4' hqN
          have V7 := U7.keep G4' hq7
          have B5 := B4.trans (G4'.mono (Nat.le_of_lt hqN))
          clear U2 U7 UB B4 G4 G4' c1 c3 hpH
          obtain ⟨c2, c4⟩ := HhL.out w4 V2 V7
          generalize f L = fL at *
          generalize Cd.wds f L = wL at *
          go_wp2_with fail
          go_region_held3 (fun w' => w'.cell? ⟨g7, L, none⟩ = some (.int .i64 wL) ∧ w'.cell? ⟨w.heap.size, L, none⟩ = some (.int .i64 fL)) (first | (go_keep; done) | (exact ⟨(G6.cell (by exact hq7)).trans c4, (G6.cell (by exact hqN)).trans c2⟩) | (exact ⟨by assumption, by assumption⟩)) (first | (go_at_call 183; refine (hpL _ (by exact Z4)).mono ?_; rintro e w6 ⟨rfl, G6, Z6⟩))
          have G6' : Below gb w4 w6 := ((Below.refl gb w4).drew).trans G6
          have X2 := V2.keep G6' hqN
          have X7 := V7.keep G6' hq7
          have B6 := B5.trans (G6'.mono (Nat.le_of_lt hqN))
          clear V2 V7 B5 G6 G6' c2 c4 hpL
          go_wp2_with fail
          go_roundw
          case rel => exact ⟨k + 1, _, by omega, by go_num, HNN, X2, X7, Z6, B6⟩
          case measure => simp [intOf]; omega
    · obtain rfl : k = s.size := by omega
      have h9 : Cd.wrt f s = (⟨(Cd.pk bs).toArray⟩, 0) := by
        rw [Cd.wrt, if_neg (fun h => h h0'.out), if_neg (by omega), hW.out]
      have h8 := Hr.out.symm.trans h9
      simp only [Prod.mk.injEq] at h8
      obtain ⟨rfl, rfl⟩ := h8
      obtain ⟨hgb, v, hc, ho⟩ := TB
      have hcv := conv_own (l := Cd.pk bs) ho
      have hv0 : wr.cell? ⟨gb, 0, none⟩ = some v := by rw [cell_of_row wr gb 0 _ _ _ hc]; rfl
      clear h9 ho hc
      go_wp2_with fail
      go_ret2
      exact ⟨rfl, B3⟩
set_option maxRecDepth 4000 in
set_option maxHeartbeats 1000000 in
theorem codeWrite_any (f : Nat → Int) (s : ByteArray) (w : World) (hs0 : s.size ≤ 140737488355328) :
    Calls Tryz.prog 162 #[.agg (arr f), .string s] w fun e w' => e = .returned (.tuple #[.string (Cd.wrt f s).1, .int .i64 (Cd.wrt f s).2]) ∧ Below w.heap.size w w' := by
  by_cases h0 : Cd.chk f = 0
  · by_cases hs : s.size ≤ 1024
    · exact codeWrite_ok f s w h0 hs
    · have h9 : Cd.wrt f s = (⟨#[]⟩, 2) := by rw [Cd.wrt, if_neg (fun h => h h0), if_pos (by omega)]
      rw [h9]
      have hck := fun w => codeCheck_any f w
      rw [h0] at hck
      have hin := arr_infoc f
      have hs' : 1024 < (s.size : Int) := by omega
      have ds : decide (1024 < (s.size : Int)) = true := by simp; omega
      have R1 := RowAt.new w f
      have HB : Below w.heap.size w (w.alloc (.cells (arr f) 127)) := (Below.refl _ _).alloc (Nat.le_refl _) _
      clear h9 hs h0
      go_enter Tryz.func162, Tryz.ntmps162
      go_wp2_with (refine wpList_load_row rfl 127 _ rfl w.heap.size rfl 127 (arr f) (0, 0) _ R1.2 Tryz.underlying127 rfl hin ?_)
      refine (hck _).mono ?_
      rintro e w1 ⟨rfl, G1⟩
      have B1 := bch HB G1 (Nat.le_refl _)
      clear R1 HB G1 hck
      go_wp2_with fail
      go_ret2
      exact ⟨rfl, B1⟩
  · have h9 : Cd.wrt f s = (⟨#[]⟩, Cd.chk f) := by rw [Cd.wrt, if_pos h0]
    rw [h9]
    have hck := fun w => codeCheck_any f w
    have hin := arr_infoc f
    have R1 := RowAt.new w f
    have HB : Below w.heap.size w (w.alloc (.cells (arr f) 127)) := (Below.refl _ _).alloc (Nat.le_refl _) _
    generalize Cd.chk f = E at *
    have d0 : (E != 0) = true := by simpa using h0
    clear h9 h0
    go_enter Tryz.func162, Tryz.ntmps162
    go_wp2_with (refine wpList_load_row rfl 127 _ rfl w.heap.size rfl 127 (arr f) (0, 0) _ R1.2 Tryz.underlying127 rfl hin ?_)
    refine (hck _).mono ?_
    rintro e w1 ⟨rfl, G1⟩
    have B1 := bch HB G1 (Nat.le_refl _)
    clear R1 HB G1 hck
    go_wp2_with fail
    go_ret2
    exact ⟨rfl, B1⟩
end Go.Proofs.YtbjbjbpgmojcbabGreat
