/- Chapter 3's own trees: signs, and what they weigh. -/
import Derived.Test.YtbjbjbpgmojcbaaCodeRead
namespace Go.Proofs.Ytbjbjbpgmojcbaa
open Go.RowKit

/-- A tree: which signs it has, and its weight. -/
structure Tr where
  h : Nat → Bool
  w : Int
/-- Its cells. -/
def trc (t : Tr) : Array Value := ((List.range 16).map fun i => Value.bool (t.h i)).toArray ++ #[.int .i64 t.w]
theorem trc_size (t : Tr) : (trc t).size = 17 := by simp [trc]
theorem trc_h (t : Tr) (i : Nat) (hi : i < 16) : (trc t)[i]? = some (.bool (t.h i)) := by
  rw [trc, Array.getElem?_append_left (by simp; exact hi)]
  simp [hi]
theorem trc_w (t : Tr) : (trc t)[16]? = some (.int .i64 t.w) := by
  rw [trc, Array.getElem?_append_right (by simp)]
  simp
theorem trc_info : (Try.prog.info? 91).map (·.size) = some 17 := by kernel_rfl
theorem trc_infoc (t : Tr) : (Try.prog.info? 91).map (·.size) = some (trc t).size := by rw [trc_size]; exact trc_info
theorem trc_one (t : Tr) : (trc t).all (·.oneCell') = true := by
  unfold trc
  rw [Array.all_append]
  have : ((List.range 16).map fun i => Value.bool (t.h i)).toArray.all (·.oneCell') = true := by
    rw [Array.all_eq_true_iff_forall_mem]
    intro v hv
    simp at hv
    obtain ⟨i, _, rfl⟩ := hv
    rfl
  rw [this]
  simp [Value.oneCell']
theorem trc_congr {s t : Tr} (h : ∀ i, i < 16 → s.h i = t.h i) (hw : s.w = t.w) : trc s = trc t := by
  unfold trc
  rw [hw]
  congr 2
  apply List.map_congr_left
  intro i hi
  rw [h i (List.mem_range.1 hi)]
def TrAt (w : World) (g : Nat) (t : Tr) : Prop := g < w.heap.size ∧ w.heap[g]? = some (.cells (trc t) 91 (0, 0))
theorem TrAt.new (w : World) (t : Tr) : TrAt (w.alloc (.cells (trc t) 91)) w.heap.size t := ⟨by simp, heap_alloc_last w _⟩
theorem TrAt.below {w w' : World} {g : Nat} {t : Tr} (H : TrAt w g t) (hb : Below w.heap.size w w') : TrAt w' g t := ⟨Nat.lt_of_lt_of_le H.1 hb.size, by rw [hb.block g H.1]; exact H.2⟩
theorem TrAt.alloc {w : World} {g : Nat} {t : Tr} (H : TrAt w g t) (o : Obj) : TrAt (w.alloc o) g t := H.below ((Below.refl _ _).alloc (Nat.le_refl _) o)
theorem TrAt.cellh {w : World} {g : Nat} {t : Tr} (H : TrAt w g t) (k : Nat) (hk : k < 16) : w.cell? ⟨g, k, none⟩ = some (.bool (t.h k)) := by rw [cell_of_row w g k _ _ _ H.2, trc_h t k hk]
theorem TrAt.cellw {w : World} {g : Nat} {t : Tr} (H : TrAt w g t) : w.cell? ⟨g, 16, none⟩ = some (.int .i64 t.w) := by rw [cell_of_row w g 16 _ _ _ H.2, trc_w t]
theorem TrAt.frozen {w : World} {g : Nat} {t : Tr} (H : TrAt w g t) (k : Nat) : w.frozen? ⟨g, k, none⟩ = false := by simp [World.frozen?, H.2]
theorem TrAt.range {w : World} {g : Nat} {t : Tr} (h : TrAt w g t) : w.rangeAt g 0 (trc t).toList := by
  have := World.rangeAt_of_block h.2 0 17
  rwa [show (trc t).extract 0 (0 + 17) = trc t by rw [Nat.zero_add, ← trc_size t]; exact Array.extract_size] at this

namespace Cd
/-- The least sign, from k on, m to come. -/
def lsF (h : Nat → Bool) : Nat → Nat → Nat
  | 0, k => k
  | m + 1, k => if h k = true then k else lsF h m (k + 1)
def ls (h : Nat → Bool) : Nat := lsF h 16 0
theorem lsF_le (h : Nat → Bool) : ∀ m k, k ≤ lsF h m k ∧ lsF h m k ≤ k + m := by
  intro m
  induction m with
  | zero => intro k; simp [lsF]
  | succ m ih =>
    intro k
    rw [lsF]
    split
    · omega
    · have := ih (k + 1); omega
theorem ls_le (h : Nat → Bool) : ls h ≤ 16 := by have := lsF_le h 16 0; unfold ls; omega
/-- Does the one come first? -/
def lgt (s t : Tr) : Bool := if s.w = t.w then decide (ls s.h < ls t.h) else decide (s.w < t.w)
end Cd

set_option maxRecDepth 4000 in
set_option maxHeartbeats 1000000 in
theorem leastSign_any (t : Tr) (w : World) :
    Calls Try.prog 66 #[.agg (trc t)] w fun e w' => e = .returned (.int .i64 (Cd.ls t.h : Nat)) ∧ Below w.heap.size w w' := by
  have R1 := TrAt.new w t
  have B1 : Below w.heap.size w (w.alloc (.cells (trc t) 91)) := (Below.refl _ _).alloc (Nat.le_refl _) _
  obtain ⟨r, hr⟩ : ∃ r, Cd.ls t.h = r := ⟨_, rfl⟩
  rw [hr]
  have Hr : Hid (Cd.lsF t.h 16 0 = r) := hr
  clear hr
  go_enter Try.func66, Try.ntmps66
  go_wp2_with fail
  generalize w.alloc (.cells (trc t) 91) = w0 at *
  go_loop [3] (fun i => ∃ (k m : Nat), i = .int .i64 k ∧ Hid (k + m = 16) ∧ k ≤ 16 ∧ Hid (Cd.lsF t.h m k = r)) (fun i => 16 - (intOf i).toNat)
  case atStart => exact ⟨0, 16, rfl, rfl, by omega, Hr⟩
  case round =>
    obtain ⟨k, m, rfl, Hm, hk, HF⟩ := hrel
    by_cases hlt : k < 16
    · have hk1 : decide ((k : Int) < 16) = true := by simp; omega
      have hk2 : decide (k < 16) = true := by simp; omega
      have hk3 : (k : Int) < 16 := by omega
      obtain ⟨m, rfl⟩ : ∃ j, m = j + 1 := ⟨m - 1, by have := Hm.out; omega⟩
      have c1 := R1.cellh k hlt
      cases hb : t.h k with
      | true =>
        have h9 := HF.out
        rw [Cd.lsF, if_pos hb] at h9
        subst h9
        rw [hb] at c1
        clear hb
        go_wp2_with fail
        go_ret
        exact ⟨rfl, B1⟩
      | false =>
        have h9 := HF.out
        rw [Cd.lsF, if_neg (by simp [hb])] at h9
        have H9 : Hid (Cd.lsF t.h m (k + 1) = r) := h9
        rw [hb] at c1
        clear hb h9
        go_wp2_with fail
        exact ⟨⟨k + 1, m, by go_num, by have := Hm.out; show _ = _; omega, by omega, H9⟩, by simp [intOf]; omega⟩
    · obtain rfl : k = 16 := by omega
      obtain rfl : m = 0 := by have := Hm.out; omega
      have h9 := HF.out
      rw [Cd.lsF] at h9
      subst h9
      go_wp2_with fail
      go_ret
      exact ⟨rfl, B1⟩

/-- The last operation yields a value. -/
theorem last_take {P : Program} {md : Region.Mode} {ops : Array Oper} {Q : Exit → Act → World → Prop} {S : World → Prop} {i : Nat} {o : Oper} {v : Value} {fuel : Nat} {listed : Array Bool} {a : Act} {w : World}
    (hr : Region.ready md ops listed = [i]) (hr2 : Region.ready md ops (listed.setIfInBounds i true) = []) (ho : ops[i]? = some o) (hy : YieldsIf P ops S o v a) (hS : S w) (h : Q .normal (a.put o.dst v) w) : wpAnyH P md ops Q S (fuel + 1) listed a w :=
  wpAnyH_all hr (by simp) (fun j hj => by
    obtain rfl : j = i := by simpa using hj
    exact hy.wpOp ho hS ⟨hS, wpAnyH_done hr2 h _⟩)

theorem tree2 (w : World) (s t : Tr) : TrAt ((w.alloc (.cells (trc s) 91)).alloc (.cells (trc t) 91)) w.heap.size s ∧ TrAt ((w.alloc (.cells (trc s) 91)).alloc (.cells (trc t) 91)) (w.heap.size + 1) t ∧ Below w.heap.size w ((w.alloc (.cells (trc s) 91)).alloc (.cells (trc t) 91)) :=
  ⟨(TrAt.new w s).alloc _, by have := TrAt.new (w.alloc (.cells (trc s) 91)) t; simpa using this, ((Below.refl _ _).alloc (Nat.le_refl _) _).alloc (by simp) _⟩

set_option maxRecDepth 4000 in
set_option maxHeartbeats 1000000 in
theorem lighter_any (s t : Tr) (w : World) :
    Calls Try.prog 86 #[.agg (trc s), .agg (trc t)] w fun e w' => e = .returned (.bool (Cd.lgt s t)) ∧ Below w.heap.size w w' := by
  obtain ⟨R1, R2, B1⟩ := tree2 w s t
  have c1 := R1.cellw
  have c2 := R2.cellw
  by_cases hw : s.w = t.w
  · have h9 : Cd.lgt s t = decide (Cd.ls s.h < Cd.ls t.h) := by rw [Cd.lgt, if_pos hw]
    rw [h9]
    have d1 : (s.w != t.w) = false := by simpa using hw
    have hl1 := fun w => leastSign_any s w
    have hl2 := fun w => leastSign_any t w
    have hi1 := trc_infoc s
    have hi2 := trc_infoc t
    generalize Cd.ls s.h = x at *
    generalize Cd.ls t.h = y at *
    generalize s.w = ws at *
    generalize t.w = wt at *
    clear h9 hw
    go_enter Try.func86, Try.ntmps86
    go_wp2_with fail
    generalize (w.alloc (.cells (trc s) 91)).alloc (.cells (trc t) 91) = w0 at *
    refine wp_region_held_drew (S := fun w' => TrAt w' w.heap.size s ∧ TrAt w' (w.heap.size + 1) t) (by kernel_rfl) ⟨R1, R2⟩ (fun hS => ?_)
    refine wpAnyH_take (i := 0) (fuel := 5) rfl (by kernel_rfl) (by kernel_rfl) (by kernel_rfl) (fun _ _ _ h => h) (yieldsIf_load_mid (by rfl) 91 _ rfl w.heap.size 0 rfl (trc s).toList _ (fun w' h' => h'.1.range) Try.underlying91 rfl (by rw [Array.length_toList]; exact hi1)) hS ?_
    refine wpAnyH_take (i := 2) (fuel := 4) rfl (by kernel_rfl) (by kernel_rfl) (by kernel_rfl) (fun _ _ _ h => h) (yieldsIf_load_mid (by rfl) 91 _ rfl (w.heap.size + 1) 0 rfl (trc t).toList _ (fun w' h' => h'.2.range) Try.underlying91 rfl (by rw [Array.length_toList]; exact hi2)) hS ?_
    refine wpAnyH_ready (rs := [1]) (fuel := 3) (by kernel_rfl) (by simp) ?_
    refine AllReadyH.cons rfl (fun K hK => ?_) AllReadyH.nil
    go_simp
    refine (hl1 _).mono ?_
    rintro e w1 ⟨rfl, G1⟩
    have S1 := (show TrAt w0.drew w.heap.size s from R1).below G1
    have S2 := (show TrAt w0.drew (w.heap.size + 1) t from R2).below G1
    have B2 := bch (show Below w.heap.size w w0.drew from B1.drew) G1 (Nat.le_refl _)
    clear c1 c2 R1 R2 B1 G1 hl1
    refine hK.out _ _ ⟨S1, S2⟩ (fun hS2 => ?_)
    clear hK
    refine wpAnyH_ready (rs := [3]) (fuel := 2) (by kernel_rfl) (by simp) ?_
    refine AllReadyH.cons rfl (fun K hK => ?_) AllReadyH.nil
    go_simp
    refine (hl2 _).mono ?_
    rintro e w2 ⟨rfl, G2⟩
    have B3 := bch B2 G2 (Nat.le_refl _)
    refine hK.out _ _ ⟨S1.below G2, S2.below G2⟩ (fun hS3 => ?_)
    clear hK G2
    refine wpAnyH_take (i := 4) (fuel := 1) (v := .bool (decide (x < y))) rfl (by kernel_rfl) (by kernel_rfl) (by kernel_rfl) (fun _ _ _ h => h) (Or.inl ⟨by rfl, fun w _ => by go_simp⟩) hS3 ?_
    refine last_take (i := 5) (fuel := 0) (v := .bool (decide (x < y))) (by kernel_rfl) (by kernel_rfl) rfl (Or.inl ⟨by rfl, fun w _ => by go_simp⟩) hS3 ?_
    go_wp2_with fail
    go_ret
    exact ⟨rfl, B3⟩
  · have h9 : Cd.lgt s t = decide (s.w < t.w) := by rw [Cd.lgt, if_neg hw]
    rw [h9]
    have d1 : (s.w != t.w) = true := by simpa using hw
    generalize s.w = ws at *
    generalize t.w = wt at *
    clear h9 hw
    go_enter Try.func86, Try.ntmps86
    go_wp2_with fail
    go_ret
    exact ⟨rfl, B1⟩
end Go.Proofs.Ytbjbjbpgmojcbaa
