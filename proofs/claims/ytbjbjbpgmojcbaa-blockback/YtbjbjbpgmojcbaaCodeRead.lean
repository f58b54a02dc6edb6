/- What code.Read comes to. -/
import Derived.Test.YtbjbjbpgmojcbaaCodeBackMath
import Derived.Deep.DeepCutAuto
namespace Go.Proofs.Ytbjbjbpgmojcbaa
open Go.RowKit

theorem sign_s15 {gr : Nat} {f : Nat → Int} {b : ByteArray} {a a1 : Nat} {x : Int} (hb : b.size ≤ 140737488355328) (ha : a ≤ 8 * b.size) (h : Cd.s15 f b a = (x, a1)) (w : World) (hB : RdAt w gr f (Cd.wds f) b a) :
    Calls Try.prog 71 #[.pointer (some ⟨gr, 0, none⟩)] w fun e w' => e = .returned (.int .i64 x) ∧ Only gr w w' ∧ RdAt w' gr f (Cd.wds f) b a1 := by
  have h9 := sign_any gr f (Cd.wds f) b a w hB hb ha
  have h8 : Cd.sgn f (Cd.wds f) b 15 1 0 a = (x, a1) := h
  rw [h8] at h9
  exact h9
theorem s15_b {f : Nat → Int} {b : ByteArray} {a a1 : Nat} {x : Int} (ha : a ≤ 8 * b.size) (h : Cd.s15 f b a = (x, a1)) : a1 ≤ 8 * b.size ∧ -1 ≤ x ∧ x < 16 := by
  have h1 := Cd.sgn_le (f := f) (ws := Cd.wds f) (b := b) 15 1 0 a ha
  have h8 : Cd.sgn f (Cd.wds f) b 15 1 0 a = (x, a1) := h
  rw [h8] at h1
  refine ⟨h1, ?_⟩
  by_cases hx : x = -1
  · omega
  · obtain ⟨s, d, e, hs, _⟩ := Cd.sgn_told (f := f) (ws := Cd.wds f) (b := b) 15 1 0 a (Nat.le_refl _) (by show (Cd.sgn f (Cd.wds f) b 15 1 0 a).1 ≠ -1; rw [h8]; exact hx)
    have h7 : ((s : Int), a + d) = (x, a1) := e.symm.trans h8
    simp only [Prod.mk.injEq] at h7
    omega

theorem RdAt.grown {w w1 : World} {gr : Nat} {f ws : Nat → Int} {b : ByteArray} {a : Nat} {v : Value} {o : Obj} (h : RdAt w gr f ws b a) (hne : some gr ≠ v.ownBlock) (hg : (w.alloc o).grownBy w1 v.ownBlock) : RdAt w1 gr f ws b a := by
  have hblk : w1.heap[gr]? = w.heap[gr]? := by
    rw [hg.block gr (by have := h.1; simp; omega) hne]
    exact ((Below.refl w.heap.size w).alloc (Nat.le_refl _) o).block gr h.1
  have h2 := hblk.trans h.2
  exact ⟨(Array.getElem?_eq_some_iff.1 h2).1, h2⟩
theorem rd_info : (Try.prog.info? 102).map (·.size) = some 34 := by kernel_rfl
theorem rdc_size (f ws : Nat → Int) (b : ByteArray) (a : Nat) : (rdc f ws b a).size = 34 := by simp [rdc, arr_size]

theorem rd_build (f ws : Nat → Int) (b : ByteArray) (w : World) : (Instr.build 102 #[(0, .agg (arr f)), (1, .agg (arr ws)), (2, .string b)]).run Try.prog w = .ok (.agg (rdc f ws b 0)) w := run_build w _ _ _ (by kernel_rfl)
theorem step_wanted {P : Program} {ops : Array Oper} {o : Oper} {a : Act} {w : World} {K : Act → World → Prop} {Q : Exit → Act → World → Prop} {E : Prop} (hg : o.guard = none) (h : Oper.wp P o a w K Q) :
    if Region.wanted o (yielded ops a.tmps) = true then Oper.wp P o a w K Q else E := by
  have hw : Region.wanted o (yielded ops a.tmps) = true := by simp [Region.wanted, hg]
  rw [if_pos hw]
  exact h
/-- The last operation that comes up. -/
theorem last_ready {P : Program} {md : Region.Mode} {ops : Array Oper} {Q : Exit → Act → World → Prop} {S : World → Prop} {i : Nat} {o : Oper} {fuel : Nat} {listed : Array Bool} {a : Act} {w : World}
    (hr : Region.ready md ops listed = [i]) (hr2 : Region.ready md ops (listed.setIfInBounds i true) = []) (ho : ops[i]? = some o) (hg : o.guard = none)
    (h : ∀ K : Act → World → Prop, (∀ a w, S w → Q .normal a w → K a w) → Oper.wp P o a w K Q) : wpAnyH P md ops Q S (fuel + 1) listed a w :=
  wpAnyH_all hr (by simp) (fun j hj => by
    obtain rfl : j = i := by simpa using hj
    exact wpOp_step ho (fun K hK => step_wanted hg (h K (fun a w hs hq => hK a w ⟨hs, wpAnyH_done hr2 hq _⟩))))
/-- The last one is a store of a whole row. -/
theorem last_store {P : Program} {md : Region.Mode} {ops : Array Oper} {Q : Exit → Act → World → Prop} {S : World → Prop} {i : Nat} {o : Oper} {fuel : Nat} {listed : Array Bool} {a : Act} {w : World}
    (hr : Region.ready md ops listed = [i]) (hr2 : Region.ready md ops (listed.setIfInBounds i true) = []) (ho : ops[i]? = some o) (hg : o.guard = none) (hd : o.dst = none)
    (ty : TypeId) (x y : Operand) (hop : o.op = .store ty x y) (g : Nat) (cells : Array Value) (hx : a.eval x = .pointer (some ⟨g, 0, none⟩)) (hy : a.eval y = .agg cells)
    (t : TypeId) (old : Array Value) (hgr : w.heap[g]? = some (.cells old t (0, 0))) (hi : (P.info? ty).map (·.size) = some cells.size)
    (hold : old.size = cells.size) (h1 : cells.all (·.oneCell') = true) (hS : S (w.setRow g cells)) (h : Q .normal (a.put none undef) (w.setRow g cells)) : wpAnyH P md ops Q S (fuel + 1) listed a w :=
  last_ready hr hr2 ho hg (fun K hK => wp_store_row ty x y hop g cells hx hy t old hgr hi hold h1 (hK _ _ hS (by rw [hd]; exact h)))
theorem yields_build {P : Program} {ops : Array Oper} {S : World → Prop} {op : Oper} {a : Act} (hw : Region.wanted op (yielded ops a.tmps) = true) (t : TypeId) (parts : Array (Nat × Operand)) (ho : op.op = .build t parts) (cells : Array Value)
    (hb : P.built t (parts.map fun (i, x) => (i, a.eval x)).toList = some cells) : YieldsIf P ops S op (.agg cells) a :=
  .inl ⟨hw, fun w _ => by
    unfold execOp
    simp only [ho, Sem.run_bind, run_build w t _ cells hb, Result.andThen_ok, Sem.run_pure]⟩
theorem rdc_one (f ws : Nat → Int) (b : ByteArray) (a : Nat) : (rdc f ws b a).all (·.oneCell') = true := by
  unfold rdc
  rw [Array.all_append, Array.all_append, arr_one, arr_one]
  simp [Value.oneCell']
/-- The zero reader. -/
def rd0 : Array Value := rdc (fun _ => 0) (fun _ => 0) ⟨#[]⟩ 0
theorem rd0_lit : rd0 = #[.int .i64 0, .int .i64 0, .int .i64 0, .int .i64 0, .int .i64 0, .int .i64 0, .int .i64 0, .int .i64 0, .int .i64 0, .int .i64 0, .int .i64 0, .int .i64 0, .int .i64 0, .int .i64 0, .int .i64 0, .int .i64 0, .int .i64 0, .int .i64 0, .int .i64 0, .int .i64 0, .int .i64 0, .int .i64 0, .int .i64 0, .int .i64 0, .int .i64 0, .int .i64 0, .int .i64 0, .int .i64 0, .int .i64 0, .int .i64 0, .int .i64 0, .int .i64 0, .string ⟨#[]⟩, .int .i64 0] := by kernel_rfl
theorem RdAt.laid {w : World} {gr : Nat} {C : Array Value} (h : w.heap[gr]? = some (.cells C 102 (0, 0))) (f ws : Nat → Int) (b : ByteArray) (a : Nat) : RdAt (w.setRow gr (rdc f ws b a)) gr f ws b a := by
  have hlt := (Array.getElem?_eq_some_iff.1 h).1
  refine ⟨by simpa [World.setRow] using hlt, ?_⟩
  show (w.heap.modify gr _)[gr]? = _
  rw [Array.getElem?_modify, if_pos rfl, h]
  rfl
theorem row_range {w : World} {g : Nat} {f : Nat → Int} (h : RowAt w g f) : w.rangeAt g 0 (arr f).toList := by
  have := World.rangeAt_of_block h.2 0 16
  rwa [show (arr f).extract 0 (0 + 16) = arr f by rw [Nat.zero_add, ← arr_size f]; exact Array.extract_size] at this

set_option maxRecDepth 4000 in
set_option maxHeartbeats 1000000 in
theorem codeRead_ok (f : Nat → Int) (b : ByteArray) (n : Int) (w : World) (h0 : Cd.chk f = 0) (hn0 : 0 ≤ n) (hn1 : n ≤ 1024) (hb : b.size ≤ 140737488355328) :
    Calls Try.prog 46 #[.agg (arr f), .string b, .int .i64 n] w fun e w' => e = .returned (.tuple #[.string (Cd.rd f b n).1, .int .i64 (Cd.rd f b n).2]) ∧ Below w.heap.size w w' := by
  have hck := fun w => codeCheck_any f w
  rw [h0] at hck
  have hwd := fun w => codeWords_any f w
  have hin := arr_infoc f
  have R1 := RowAt.new w f
  have HB : Below w.heap.size w (w.alloc (.cells (arr f) 54)) := (Below.refl _ _).alloc (Nat.le_refl _) _
  have d1 : decide (n < 0) = false := by simp; omega
  have d2 : decide (1024 < n) = false := by simp; omega
  obtain ⟨r1, r2, hr⟩ : ∃ r1 r2, Cd.rd f b n = (r1, r2) := ⟨_, _, rfl⟩
  rw [hr]
  have Hr : Hid (Cd.rd f b n = (r1, r2)) := hr
  have H0 : Hid (Cd.chk f = 0) := h0
  clear hr h0
  go_enter Try.func46, Try.ntmps46
  go_wp2_with (refine wpList_load_row rfl 54 _ rfl w.heap.size rfl 54 (arr f) (0, 0) _ R1.2 Try.underlying54 rfl hin ?_)
  refine (hck _).mono ?_
  rintro e w1 ⟨rfl, G1⟩
  have S1 := R1.below G1
  have B1 := bch HB G1 (Nat.le_refl _)
  clear R1 HB G1 hck
  go_wp2_with fail
  go_cut [9] (fun p wx => ∃ gr, p = .pointer (some ⟨gr, 0, none⟩) ∧ RdAt wx gr f (Cd.wds f) b 0 ∧ w.heap.size ≤ gr ∧ Below w.heap.size w wx)
  case first =>
    refine wp_region_held_drew (S := fun w' => RowAt w' w.heap.size f) (by kernel_rfl) S1 (fun hS => ?_)
    refine wpAnyH_take (i := 0) (fuel := 6) rfl (by kernel_rfl) (by kernel_rfl) (by kernel_rfl) (fun _ _ _ h => h) (yieldsIf_load_mid (by rfl) 54 _ rfl w.heap.size 0 rfl (arr f).toList _ (fun w' h' => row_range h') Try.underlying54 rfl (by rw [Array.length_toList]; exact hin)) hS ?_
    refine wpAnyH_take (i := 1) (fuel := 5) rfl (by kernel_rfl) (by kernel_rfl) (by kernel_rfl) (fun _ _ _ h => h) (yieldsIf_load_mid (by rfl) 54 _ rfl w.heap.size 0 rfl (arr f).toList _ (fun w' h' => row_range h') Try.underlying54 rfl (by rw [Array.length_toList]; exact hin)) hS ?_
    refine wpAnyH_take (i := 3) (fuel := 4) (v := .string b) rfl (by kernel_rfl) (by kernel_rfl) (by kernel_rfl) (fun _ _ _ h => h) (Or.inl ⟨by rfl, fun w _ => by go_simp⟩) hS ?_
    refine wpAnyH_ready (rs := [2, 5]) (fuel := 3) (by kernel_rfl) (by simp) ?_
    refine AllReadyH.cons rfl (fun K hK => ?_) ?_
    · go_simp
      refine (hwd _).mono ?_
      rintro e w2 ⟨rfl, G2⟩
      have T2 := (show RowAt w1.drew w.heap.size f from S1).below G2
      have B2 := bch (show Below w.heap.size w w1.drew from B1.drew) G2 (Nat.le_refl _)
      refine hK.out _ _ T2 (fun hS2 => ?_)
      clear hK
      refine wpAnyH_take (i := 4) (fuel := 2) (v := .agg (rdc f (Cd.wds f) b 0)) rfl (by kernel_rfl) (by kernel_rfl) (by kernel_rfl) (fun _ _ _ h => h) (yields_build (by rfl) 102 _ rfl _ (by kernel_rfl)) hS2 ?_
      refine wpAnyH_ready (rs := [5]) (fuel := 1) (by kernel_rfl) (by simp) ?_
      refine AllReadyH.cons rfl (fun K hK => ?_) AllReadyH.nil
      go_simp
      have A1 : (w2.alloc (.cells #[.int .i64 0, .int .i64 0, .int .i64 0, .int .i64 0, .int .i64 0, .int .i64 0, .int .i64 0, .int .i64 0, .int .i64 0, .int .i64 0, .int .i64 0, .int .i64 0, .int .i64 0, .int .i64 0, .int .i64 0, .int .i64 0, .int .i64 0, .int .i64 0, .int .i64 0, .int .i64 0, .int .i64 0, .int .i64 0, .int .i64 0, .int .i64 0, .int .i64 0, .int .i64 0, .int .i64 0, .int .i64 0, .int .i64 0, .int .i64 0, .int .i64 0, .int .i64 0, .string ⟨#[]⟩, .int .i64 0] 102)).heap[w2.heap.size]? = some (.cells rd0 102) := by rw [rd0_lit]; exact heap_alloc_last w2 _
      have T3 := T2.alloc (.cells #[.int .i64 0, .int .i64 0, .int .i64 0, .int .i64 0, .int .i64 0, .int .i64 0, .int .i64 0, .int .i64 0, .int .i64 0, .int .i64 0, .int .i64 0, .int .i64 0, .int .i64 0, .int .i64 0, .int .i64 0, .int .i64 0, .int .i64 0, .int .i64 0, .int .i64 0, .int .i64 0, .int .i64 0, .int .i64 0, .int .i64 0, .int .i64 0, .int .i64 0, .int .i64 0, .int .i64 0, .int .i64 0, .int .i64 0, .int .i64 0, .int .i64 0, .int .i64 0, .string ⟨#[]⟩, .int .i64 0] 102)
      have B3 := B2.alloc (Nat.le_of_lt T2.1) (.cells #[.int .i64 0, .int .i64 0, .int .i64 0, .int .i64 0, .int .i64 0, .int .i64 0, .int .i64 0, .int .i64 0, .int .i64 0, .int .i64 0, .int .i64 0, .int .i64 0, .int .i64 0, .int .i64 0, .int .i64 0, .int .i64 0, .int .i64 0, .int .i64 0, .int .i64 0, .int .i64 0, .int .i64 0, .int .i64 0, .int .i64 0, .int .i64 0, .int .i64 0, .int .i64 0, .int .i64 0, .int .i64 0, .int .i64 0, .int .i64 0, .int .i64 0, .int .i64 0, .string ⟨#[]⟩, .int .i64 0] 102)
      have hlt := T2.1
      generalize w2.alloc (.cells #[.int .i64 0, .int .i64 0, .int .i64 0, .int .i64 0, .int .i64 0, .int .i64 0, .int .i64 0, .int .i64 0, .int .i64 0, .int .i64 0, .int .i64 0, .int .i64 0, .int .i64 0, .int .i64 0, .int .i64 0, .int .i64 0, .int .i64 0, .int .i64 0, .int .i64 0, .int .i64 0, .int .i64 0, .int .i64 0, .int .i64 0, .int .i64 0, .int .i64 0, .int .i64 0, .int .i64 0, .int .i64 0, .int .i64 0, .int .i64 0, .int .i64 0, .int .i64 0, .string ⟨#[]⟩, .int .i64 0] 102) = w3 at *
      generalize w2.heap.size = gr at *
      clear T2 B2 G2
      have hz0 : rd0.size = 34 := rdc_size _ _ _ _
      generalize rd0 = z0 at *
      refine hK.out _ _ T3 (fun hS3 => ?_)
      clear hK
      refine last_store (i := 6) (fuel := 0) (by kernel_rfl) (by kernel_rfl) rfl rfl rfl 102 (Operand.tmp 9) (Operand.tmp 28) rfl gr (rdc f (Cd.wds f) b 0) rfl rfl 102 z0 A1 (by rw [rdc_size]; exact rd_info) (by rw [rdc_size]; exact hz0) (rdc_one _ _ _ _) (T3.setRowFar (by omega) _) ?_
      go_wp2_with fail
      go_meet
      exact ⟨gr, rfl, RdAt.laid A1 f (Cd.wds f) b 0, Nat.le_of_lt hlt, below_setRow B3 (Nat.le_of_lt hlt) _⟩
    refine AllReadyH.cons rfl (fun K hK => ?_) AllReadyH.nil
    go_simp
    have A1 : ((w1.alloc (.cells #[.int .i64 0, .int .i64 0, .int .i64 0, .int .i64 0, .int .i64 0, .int .i64 0, .int .i64 0, .int .i64 0, .int .i64 0, .int .i64 0, .int .i64 0, .int .i64 0, .int .i64 0, .int .i64 0, .int .i64 0, .int .i64 0, .int .i64 0, .int .i64 0, .int .i64 0, .int .i64 0, .int .i64 0, .int .i64 0, .int .i64 0, .int .i64 0, .int .i64 0, .int .i64 0, .int .i64 0, .int .i64 0, .int .i64 0, .int .i64 0, .int .i64 0, .int .i64 0, .string ⟨#[]⟩, .int .i64 0] 102)).drew).heap[w1.heap.size]? = some (.cells rd0 102) := by rw [rd0_lit]; exact heap_alloc_last w1 _
    have T3 : RowAt ((w1.alloc (.cells #[.int .i64 0, .int .i64 0, .int .i64 0, .int .i64 0, .int .i64 0, .int .i64 0, .int .i64 0, .int .i64 0, .int .i64 0, .int .i64 0, .int .i64 0, .int .i64 0, .int .i64 0, .int .i64 0, .int .i64 0, .int .i64 0, .int .i64 0, .int .i64 0, .int .i64 0, .int .i64 0, .int .i64 0, .int .i64 0, .int .i64 0, .int .i64 0, .int .i64 0, .int .i64 0, .int .i64 0, .int .i64 0, .int .i64 0, .int .i64 0, .int .i64 0, .int .i64 0, .string ⟨#[]⟩, .int .i64 0] 102)).drew) w.heap.size f := S1.alloc _
    have B3 : Below w.heap.size w ((w1.alloc (.cells #[.int .i64 0, .int .i64 0, .int .i64 0, .int .i64 0, .int .i64 0, .int .i64 0, .int .i64 0, .int .i64 0, .int .i64 0, .int .i64 0, .int .i64 0, .int .i64 0, .int .i64 0, .int .i64 0, .int .i64 0, .int .i64 0, .int .i64 0, .int .i64 0, .int .i64 0, .int .i64 0, .int .i64 0, .int .i64 0, .int .i64 0, .int .i64 0, .int .i64 0, .int .i64 0, .int .i64 0, .int .i64 0, .int .i64 0, .int .i64 0, .int .i64 0, .int .i64 0, .string ⟨#[]⟩, .int .i64 0] 102)).drew) := (B1.alloc (Nat.le_of_lt S1.1) (.cells #[.int .i64 0, .int .i64 0, .int .i64 0, .int .i64 0, .int .i64 0, .int .i64 0, .int .i64 0, .int .i64 0, .int .i64 0, .int .i64 0, .int .i64 0, .int .i64 0, .int .i64 0, .int .i64 0, .int .i64 0, .int .i64 0, .int .i64 0, .int .i64 0, .int .i64 0, .int .i64 0, .int .i64 0, .int .i64 0, .int .i64 0, .int .i64 0, .int .i64 0, .int .i64 0, .int .i64 0, .int .i64 0, .int .i64 0, .int .i64 0, .int .i64 0, .int .i64 0, .string ⟨#[]⟩, .int .i64 0] 102)).drew
    have hlt := S1.1
    generalize (w1.alloc (.cells #[.int .i64 0, .int .i64 0, .int .i64 0, .int .i64 0, .int .i64 0, .int .i64 0, .int .i64 0, .int .i64 0, .int .i64 0, .int .i64 0, .int .i64 0, .int .i64 0, .int .i64 0, .int .i64 0, .int .i64 0, .int .i64 0, .int .i64 0, .int .i64 0, .int .i64 0, .int .i64 0, .int .i64 0, .int .i64 0, .int .i64 0, .int .i64 0, .int .i64 0, .int .i64 0, .int .i64 0, .int .i64 0, .int .i64 0, .int .i64 0, .int .i64 0, .int .i64 0, .string ⟨#[]⟩, .int .i64 0] 102)).drew = w3 at *
    generalize w1.heap.size = gr at *
    have hz0 : rd0.size = 34 := rdc_size _ _ _ _
    generalize rd0 = z0 at *
    refine hK.out _ _ T3 (fun hS3 => ?_)
    clear hK
    refine wpAnyH_ready (rs := [2]) (fuel := 2) (by kernel_rfl) (by simp) ?_
    refine AllReadyH.cons rfl (fun K hK => ?_) AllReadyH.nil
    go_simp
    refine (hwd _).mono ?_
    rintro e w4 ⟨rfl, G4⟩
    have A4 : w4.heap[gr]? = some (.cells z0 102) := by rw [G4.block gr (Array.getElem?_eq_some_iff.1 A1).1]; exact A1
    have T4 := T3.below G4
    have B4 := bch B3 G4 (Nat.le_refl _)
    refine hK.out _ _ T4 (fun hS4 => ?_)
    clear hK
    refine wpAnyH_take (i := 4) (fuel := 1) (v := .agg (rdc f (Cd.wds f) b 0)) rfl (by kernel_rfl) (by kernel_rfl) (by kernel_rfl) (fun _ _ _ h => h) (yields_build (by rfl) 102 _ rfl _ (by kernel_rfl)) hS4 ?_
    refine last_store (i := 6) (fuel := 0) (by kernel_rfl) (by kernel_rfl) rfl rfl rfl 102 (Operand.tmp 9) (Operand.tmp 28) rfl gr (rdc f (Cd.wds f) b 0) rfl rfl 102 z0 A4 (by rw [rdc_size]; exact rd_info) (by rw [rdc_size]; exact hz0) (rdc_one _ _ _ _) (T4.setRowFar (by omega) _) ?_
    go_wp2_with fail
    go_meet
    exact ⟨gr, rfl, RdAt.laid A4 f (Cd.wds f) b 0, Nat.le_of_lt hlt, below_setRow B4 (Nat.le_of_lt hlt) _⟩
  case rest =>
    obtain ⟨gr, rfl, hB, hgr, B2⟩ := hcut
    clear S1 B1 hwd
    obtain ⟨i0, hi, hz0, hz1, hz2⟩ := info_parts info_u8
    go_wp2_with fail
    go_loopw [10, 30] (fun v i wr => ∃ (k : Nat) (o : List UInt8) (a : Nat), (k : Int) ≤ n ∧ i = .int .i64 k ∧ Hid (Cd.rdK f b k = some (o, a)) ∧ a ≤ 8 * b.size ∧ o.length ≤ 1024 ∧ Hid (o.length = k) ∧ RdAt wr gr f (Cd.wds f) b a ∧ wr.ownsRow (gr + 1) 5 1 v o.length (bcs o) ∧ Below w.heap.size w wr) (fun _ i _ => n.toNat - (intOf i).toNat)
    case atStart => exact ⟨0, [], 0, hn0, rfl, rfl, by omega, by simp, rfl, hB, World.ownsRow_nil _ _ _ _, B2⟩
    case round =>
      clear hB B2
      obtain ⟨k, o, a, hk, rfl, hK, ha, hol, Hol, hB, ho, B2⟩ := hrel
      by_cases hlt : (k : Int) < n
      · have hk1 : decide ((k : Int) < n) = true := by simpa using hlt
        obtain ⟨x, a1, h1⟩ : ∃ x a1, Cd.s15 f b a = (x, a1) := ⟨_, _, rfl⟩
        obtain ⟨y, a2, h2⟩ : ∃ y a2, Cd.s15 f b a1 = (y, a2) := ⟨_, _, rfl⟩
        obtain ⟨p1, p2, p3⟩ := s15_b ha h1
        obtain ⟨q1, q2, q3⟩ := s15_b p1 h2
        have HS1 := fun w' h => sign_s15 (gr := gr) hb ha h1 w' h
        have HS2 := fun w' h => sign_s15 (gr := gr) hb p1 h2 w' h
        have H1 : Hid (Cd.s15 f b a = (x, a1)) := h1
        have H2 : Hid (Cd.s15 f b a1 = (y, a2)) := h2
        clear h1 h2
        go_wp2_with fail
        refine (HS1 _ hB).mono ?_
        rintro e w4 ⟨rfl, G4, Z4⟩
        have O4 := G4.own ho
        have B4 := B2.trans (G4.1.mono hgr)
        clear hB ho B2 G4 HS1
        go_wp2_with fail
        refine (HS2 _ Z4).mono ?_
        rintro e w5 ⟨rfl, G5, Z5⟩
        have O5 := G5.own O4
        have B5 := B4.trans (G5.1.mono hgr)
        clear Z4 O4 B4 G5 HS2
        by_cases hx : x = -1 ∨ y = -1
        · have h9 : Cd.rd f b n = (⟨#[]⟩, 1) := Cd.rd_none H0.out (by omega) (Cd.rdK_stop (by omega) hK.out H1.out H2.out hx)
          have h8 := Hr.out.symm.trans h9
          simp only [Prod.mk.injEq] at h8
          obtain ⟨rfl, rfl⟩ := h8
          clear h9
          by_cases hx1 : x = -1
          · subst hx1
            clear hx
            go_wp2_with fail
            go_ret2
            exact ⟨rfl, B5⟩
          · have hy1 : y = -1 := by omega
            subst hy1
            have dx : (x == -1) = false := by simpa using hx1
            clear hx
            go_wp2_with fail
            go_ret2
            exact ⟨rfl, B5⟩
        · have hx1 : ¬ x = -1 := fun h => hx (.inl h)
          have hy1 : ¬ y = -1 := fun h => hx (.inr h)
          have dx : (x == -1) = false := by simpa using hx1
          have dy : (y == -1) = false := by simpa using hy1
          have HN : Hid (Cd.rdK f b (k + 1) = some (o ++ [UInt8.ofNat (x * 16 + y).toNat], a2)) := Cd.rdK_next hK.out H1.out H2.out hx
          have hx0 : 0 ≤ x := by omega
          have hy0 : 0 ≤ y := by omega
          have hxy : 0 ≤ x * 16 + y ∧ x * 16 + y < 256 := by omega
          have hm : (x * 16 + y) % 256 = x * 16 + y := by omega
          have HB : Hid (bcs (o ++ [UInt8.ofNat (x * 16 + y).toNat]) = bcs o ++ [.int .u8 (x * 16 + y)]) := bcs_snoc o _ hxy.1 hxy.2
          have hle : gr + 1 ≤ (w5.alloc (.cells #[.int .u8 (x * 16 + y)] 5)).heap.size := by have := Z5.1; simp; omega
          have hkn : k + 1 ≤ n.toNat := by omega
          have HK1 : Hid (((k + 1 : Nat) : Int) ≤ n ∧ o.length + 1 ≤ 1024 ∧ o.length + 1 = k + 1) := by have := Hol.out; show _ ∧ _ ∧ _; omega
          clear hx hx1 hy1 H1 H2 hK p2 p3 q2 q3
          go_wp2_with (at_builtin; go_must (refine wpList_append_own _ rfl _ _ 69 rfl (gr + 1) 5 i0 (.int .u8 0) 1 1 Try.underlying69 hi hz0 hz1 hz2 rfl (by decide) _ _ _ rfl (O5.alloc _) ⟨w5.heap.size, 0, none⟩ 1 1 [.int .u8 (x * 16 + y)] rfl rfl (cell_one_new _ _ _) (one_u8 _) (ml_le (by omega)) (by omega) hle ?_; intro v' w6 hown' hgrow _))
          have hne : some gr ≠ Value.ownBlock u10 := fun e => by have := (O5.lt gr e.symm).1; omega
          have Z6 : RdAt w6 gr f (Cd.wds f) b a2 := by
            refine Z5.grown hne hgrow
          have B6 : Below w.heap.size w w6 := (B5.alloc (Nat.le_trans hgr (Nat.le_of_lt Z5.1)) _).grown hgrow (by have := Z5.1; simp; omega) (fun j hj => by have := (O5.lt j hj).1; omega)
          refine ⟨⟨k + 1, o ++ [UInt8.ofNat (x * 16 + y).toNat], a2, HK1.out.1, by go_num, HN, q1, by have := HK1.out.2.1; simp; omega, by show _ = _; have := HK1.out.2.2; simp; omega, Z6, ?_, B6⟩, by simp [intOf]; omega⟩
          rw [HB.out, List.length_append]
          exact hown'
      · obtain hkn : (k : Int) = n := by omega
        have hend := ended_any gr f (Cd.wds f) b a wr hB hb ha
        have h9 := Cd.rd_some (n := n) (o := o) (a := a) H0.out (by omega) (by rw [← hkn, Int.toNat_natCast]; exact hK.out)
        have h8 := Hr.out.symm.trans h9
        have hk1 : decide ((k : Int) < n) = false := by simpa using hlt
        clear h9
        by_cases he : Cd.end_ b a = true
        · rw [if_pos he] at h8
          simp only [Prod.mk.injEq] at h8
          obtain ⟨rfl, rfl⟩ := h8
          rw [he] at hend
          clear hkn he
          go_wp2_with fail
          refine hend.mono ?_
          rintro e w4 ⟨rfl, G4⟩
          have hcv := conv_own (l := o) (own_below ho G4)
          have B4 := bch B2 G4 (Nat.le_refl _)
          go_wp2_with fail
          go_ret2
          exact ⟨rfl, B4⟩
        · rw [if_neg he] at h8
          simp only [Prod.mk.injEq] at h8
          obtain ⟨rfl, rfl⟩ := h8
          have he' : Cd.end_ b a = false := by simpa using he
          rw [he'] at hend
          clear hkn he he'
          go_wp2_with fail
          refine hend.mono ?_
          rintro e w4 ⟨rfl, G4⟩
          have B4 := bch B2 G4 (Nat.le_refl _)
          go_wp2_with fail
          go_ret2
          exact ⟨rfl, B4⟩

set_option maxRecDepth 4000 in
set_option maxHeartbeats 1000000 in
theorem codeRead_any (f : Nat → Int) (b : ByteArray) (n : Int) (w : World) (hb : b.size ≤ 140737488355328) :
    Calls Try.prog 46 #[.agg (arr f), .string b, .int .i64 n] w fun e w' => e = .returned (.tuple #[.string (Cd.rd f b n).1, .int .i64 (Cd.rd f b n).2]) ∧ Below w.heap.size w w' := by
  by_cases h0 : Cd.chk f = 0
  · by_cases hn : n < 0 ∨ 1024 < n
    · have h9 : Cd.rd f b n = (⟨#[]⟩, 3) := by rw [Cd.rd, if_neg (fun h => h h0), if_pos hn]
      rw [h9]
      have hck := fun w => codeCheck_any f w
      rw [h0] at hck
      have hin := arr_infoc f
      have R1 := RowAt.new w f
      have HB : Below w.heap.size w (w.alloc (.cells (arr f) 54)) := (Below.refl _ _).alloc (Nat.le_refl _) _
      clear h9 h0
      by_cases hn0 : n < 0
      · have d1 : decide (n < 0) = true := by simpa using hn0
        clear hn
        go_enter Try.func46, Try.ntmps46
        go_wp2_with (refine wpList_load_row rfl 54 _ rfl w.heap.size rfl 54 (arr f) (0, 0) _ R1.2 Try.underlying54 rfl hin ?_)
        refine (hck _).mono ?_
        rintro e w1 ⟨rfl, G1⟩
        have B1 := bch HB G1 (Nat.le_refl _)
        clear R1 HB G1 hck
        go_wp2_with fail
        go_ret2
        exact ⟨rfl, B1⟩
      · have d1 : decide (n < 0) = false := by simpa using hn0
        have hn1 : 1024 < n := by omega
        have d2 : decide (1024 < n) = true := by simpa using hn1
        clear hn
        go_enter Try.func46, Try.ntmps46
        go_wp2_with (refine wpList_load_row rfl 54 _ rfl w.heap.size rfl 54 (arr f) (0, 0) _ R1.2 Try.underlying54 rfl hin ?_)
        refine (hck _).mono ?_
        rintro e w1 ⟨rfl, G1⟩
        have B1 := bch HB G1 (Nat.le_refl _)
        clear R1 HB G1 hck
        go_wp2_with fail
        go_ret2
        exact ⟨rfl, B1⟩
    · exact codeRead_ok f b n w h0 (by omega) (by omega) hb
  · have h9 : Cd.rd f b n = (⟨#[]⟩, Cd.chk f) := by rw [Cd.rd, if_pos h0]
    rw [h9]
    have hck := fun w => codeCheck_any f w
    have hin := arr_infoc f
    have R1 := RowAt.new w f
    have HB : Below w.heap.size w (w.alloc (.cells (arr f) 54)) := (Below.refl _ _).alloc (Nat.le_refl _) _
    generalize Cd.chk f = E at *
    have d0 : (E != 0) = true := by simpa using h0
    clear h9 h0
    go_enter Try.func46, Try.ntmps46
    go_wp2_with (refine wpList_load_row rfl 54 _ rfl w.heap.size rfl 54 (arr f) (0, 0) _ R1.2 Try.underlying54 rfl hin ?_)
    refine (hck _).mono ?_
    rintro e w1 ⟨rfl, G1⟩
    have B1 := bch HB G1 (Nat.le_refl _)
    clear R1 HB G1 hck
    go_wp2_with fail
    go_ret2
    exact ⟨rfl, B1⟩
end Go.Proofs.Ytbjbjbpgmojcbaa
