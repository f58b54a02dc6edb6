/- What chapter 3's own takeLeast comes to. -/
import Derived.Test.YtbjbjbpgmojcbaaRefTree
import Derived.Great.BuildSlice
namespace Go.Proofs.Ytbjbjbpgmojcbaa
open Go.RowKit

def tr0 : Tr := ⟨fun _ => false, 0⟩
theorem info_tree : (Try.prog.info? 91).map (fun i => (i.zero, i.size, i.bytes)) = some (some (.agg (trc tr0)), 17, 24) := by kernel_rfl
theorem tree_fill (t : Tr) : Instr.fill (fun i => some (i * 17, 17)) ((Array.range (1 * 17)).map ((Value.agg (trc tr0)).cells[· % (Value.agg (trc tr0)).cells.size]!)) [(0, .agg (trc t))] = some (trc t) := by kernel_rfl
/-- Trees in a row. -/
def flat (l : List Tr) : List Value := l.flatMap fun t => (trc t).toList
theorem flat_nil : flat [] = [] := rfl
theorem flat_app (a b : List Tr) : flat (a ++ b) = flat a ++ flat b := by simp [flat]
theorem flat_one (t : Tr) : flat [t] = (trc t).toList := by simp [flat]
theorem flat_len (l : List Tr) : (flat l).length = l.length * 17 := by
  induction l with
  | nil => rfl
  | cons t l ih =>
    have : flat (t :: l) = (trc t).toList ++ flat l := by simp [flat]
    rw [this, List.length_append, ih, Array.length_toList, trc_size, List.length_cons]
    omega
def tl (l : List Tr) (i : Nat) : Tr := l.getD i tr0
theorem flat_at (l : List Tr) (i j : Nat) (hi : i < l.length) (hj : j < 17) : (flat l)[i * 17 + j]? = (trc (tl l i)).toList[j]? := by
  have e : l = l.take i ++ ([tl l i] ++ l.drop (i + 1)) := by
    have h1 : tl l i = l[i] := by simp [tl, List.getD_eq_getElem?_getD, List.getElem?_eq_getElem hi]
    rw [h1]
    simp
  have hlen : (flat (l.take i)).length = i * 17 := by rw [flat_len, List.length_take, Nat.min_eq_left (by omega)]
  have : flat l = flat (l.take i) ++ (flat [tl l i] ++ flat (l.drop (i + 1))) := by rw [← flat_app, ← flat_app, ← e]
  rw [this, List.getElem?_append_right (by omega), hlen, show i * 17 + j - i * 17 = j by omega, flat_one, List.getElem?_append_left (by rw [Array.length_toList, trc_size]; exact hj)]
theorem flat_range {w : World} {g : Nat} {l : List Tr} (h : w.rangeAt g 0 (flat l)) {i : Nat} (hi : i < l.length) : w.rangeAt g (i * 17) (trc (tl l i)).toList := fun j v hj => by
  have hj17 : j < 17 := by
    have := (List.getElem?_eq_some_iff.1 hj).1
    rwa [Array.length_toList, trc_size] at this
  rw [← flat_at l i j hi hj17] at hj
  have := h (i * 17 + j) v hj
  rwa [Nat.zero_add] at this
theorem range_below {w w' : World} {g o : Nat} {cs : List Value} (h : w.rangeAt g o cs) (hb : Below w.heap.size w w') (hg : g < w.heap.size) : w'.rangeAt g o cs := fun j v hj => by
  have := h j v hj
  rw [← this]
  exact hb.cell (p := ⟨g, o + j, none⟩) hg
/-- A row of trees of one's own: where it lies. -/
theorem own_trees {w : World} {base n : Nat} {v : Value} {l : List Tr} (h : w.ownsRow base 91 17 v n (flat l)) (hl : l ≠ []) : ∃ g cap, v = .slice (some ⟨g, 0, none⟩) l.length cap ∧ base ≤ g ∧ g < w.heap.size ∧ w.rangeAt g 0 (flat l) := by
  have hlen := h.1
  rw [flat_len] at hlen
  obtain rfl : l.length = n := by omega
  rcases h.2 with ⟨_, h0⟩ | ⟨g, cap, cur, rfl, hb, hg, hnc, hcm, hcs, htk⟩
  · exact absurd (List.eq_nil_of_length_eq_zero h0) hl
  · refine ⟨g, cap, rfl, hb, (Array.getElem?_eq_some_iff.1 hg).1, fun j v hj => ?_⟩
    rw [Nat.zero_add, cell_of_row w g j _ _ _ hg, ← hj, ← htk]
    have hj2 := (List.getElem?_eq_some_iff.1 hj).1
    rw [flat_len] at hj2
    rw [List.getElem?_take, if_pos hj2]
    simp

namespace Cd
/-- Which of the first i comes first. -/
def kF (l : List Tr) : Nat → Nat
  | 0 => 0
  | i + 1 => if lgt (tl l i) (tl l (kF l i)) = true then i else kF l i
theorem kF_lt (l : List Tr) : ∀ i, kF l i ≤ i - 1 := by
  intro i
  induction i with
  | zero => simp [kF]
  | succ i ih =>
    rw [kF]
    split <;> omega
theorem lgt_self (t : Tr) : lgt t t = false := by simp [lgt]
theorem kF_one (l : List Tr) : kF l 1 = 0 := by rw [kF, kF, lgt_self]; rfl
/-- The others, of the first i. -/
def rK (l : List Tr) (k : Nat) : Nat → List Tr
  | 0 => []
  | i + 1 => if i = k then rK l k i else rK l k i ++ [tl l i]
theorem rK_len (l : List Tr) (k : Nat) : ∀ i, (rK l k i).length ≤ i := by
  intro i
  induction i with
  | zero => simp [rK]
  | succ i ih =>
    rw [rK]
    split
    · omega
    · simp; omega
end Cd
theorem tr0_lit : (#[.bool false, .bool false, .bool false, .bool false, .bool false, .bool false, .bool false, .bool false, .bool false, .bool false, .bool false, .bool false, .bool false, .bool false, .bool false, .bool false, .int .i64 0] : Array Value) = trc tr0 := rfl
theorem news17 (w : World) (t : Tr) : ∀ j u, (trc t).toList[j]? = some u → (w.alloc (.cells (trc t) 91)).cell? ((⟨w.heap.size, 0, none⟩ : Addr).add j) = some u := fun j u h => by
  rw [Addr.add_mid, Nat.zero_add, cell_of_row _ w.heap.size j _ _ _ (heap_alloc_last w _)]
  simpa using h
theorem len17 (t : Tr) : (trc t).toList.length = 1 * 17 := by rw [Array.length_toList, trc_size]
theorem one17 (t : Tr) : ∀ u ∈ (trc t).toList, u.oneCell' = true := by
  have := trc_one t
  rw [Array.all_eq_true_iff_forall_mem] at this
  intro u hu
  exact this u (by simpa using hu)

theorem range_block {w w' : World} {g o : Nat} {cs : List Value} (h : w.rangeAt g o cs) (he : w'.heap[g]? = w.heap[g]?) : w'.rangeAt g o cs := fun j v hj => by
  have := h j v hj
  simp only [World.cell?, he] at this ⊢
  exact this
theorem block_grown {w w1 : World} {g : Nat} {v : Value} {o : Obj} (hlt : g < w.heap.size) (hne : some g ≠ v.ownBlock) (hg : (w.alloc o).grownBy w1 v.ownBlock) : w1.heap[g]? = w.heap[g]? := by
  rw [hg.block g (by simp; omega) hne]
  exact ((Below.refl w.heap.size w).alloc (Nat.le_refl _) o).block g hlt
theorem TrAt.block {w w' : World} {g : Nat} {t : Tr} (H : TrAt w g t) (he : w'.heap[g]? = w.heap[g]?) : TrAt w' g t := by
  have h2 := he.trans H.2
  exact ⟨(Array.getElem?_eq_some_iff.1 h2).1, h2⟩
theorem TrAt.setRow {w : World} {g : Nat} {t : Tr} (H : TrAt w g t) (t' : Tr) : TrAt (w.setRow g (trc t')) g t' := by
  refine ⟨by have := H.1; simpa [World.setRow] using this, ?_⟩
  show (w.heap.modify g _)[g]? = _
  rw [Array.getElem?_modify, if_pos rfl, H.2]
  rfl
theorem own_setRow {w : World} {base g : Nat} {t : TypeId} {sz n : Nat} {v : Value} {cs : List Value} (ho : w.ownsRow (g + 1) t sz v n cs) (hb : base ≤ g + 1) (c : Array Value) : (w.setRow g c).ownsRow base t sz v n cs := by
  refine ⟨ho.1, ?_⟩
  rcases ho.2 with h0 | ⟨q, cap, cur, rfl, e1, e2, e3⟩
  · exact .inl h0
  · refine .inr ⟨q, cap, cur, rfl, by omega, ?_, e3⟩
    show (w.heap.modify g _)[q]? = _
    rw [Array.getElem?_modify, if_neg (by omega), e2]
/-- A tree out of a row. -/
theorem wpList_load_tree {ops : Array Oper} {rest : List Oper} {op : Oper} {a : Act} {w : World} {Q : Exit → Act → World → Prop} (hgd : op.guard = none) (x : Operand) (ho : op.op = .load 91 x)
    (b o : Nat) (hx : a.eval x = .pointer (some ⟨b, o, none⟩)) (t : Tr) (hc : w.rangeAt b o (trc t).toList) (h : wpList Try.prog ops Q rest (a.put op.dst (.agg (trc t))) w) : wpList Try.prog ops Q (op :: rest) a w :=
  wpList_load_mid hgd 91 x ho b o hx (trc t).toList _ hc Try.underlying91 rfl (by rw [Array.length_toList]; exact trc_infoc t) (by rw [Array.toArray_toList]; exact h)
/-- One tree as a slice of its own. -/
theorem wpList_build_tree {ops : Array Oper} {rest : List Oper} {o : Oper} {a : Act} {w : World} {Q : Exit → Act → World → Prop} (hg : o.guard = none) (x : Operand) (ho : o.op = .buildSlice 88 1 #[(0, x)]) (t : Tr) (hx : a.eval x = .agg (trc t))
    (h : wpList Try.prog ops Q rest (a.put o.dst (.slice (some ⟨w.heap.size, 0, none⟩) 1 1)) (w.alloc (.cells (trc t) 91))) : wpList Try.prog ops Q (o :: rest) a w := by
  obtain ⟨i0, hi, hz0, hz1, hz2⟩ := info_parts info_tree
  refine wpList_buildSlice hg 88 91 1 _ ho (trc t) i0 (.agg (trc tr0)) Try.underlying88 hi hz0 (by rw [hz1]; decide) (by rw [hz1]; decide) ?_ h
  rw [hz1]
  have := tree_fill t
  simp only [List.map_toArray, List.map_cons, List.map_nil, hx]
  exact this
/-- A tree more behind a row of one's own. -/
theorem wpList_append_tree {ops : Array Oper} {rest : List Oper} {o : Oper} {a : Act} {w : World} {Q : Exit → Act → World → Prop} (hgd : o.guard = none) (s x : Operand)
    (ho : o.op = .call { callee := .builtin .append, args := #[s, x], argTypes := #[88, 88] })
    (base : Nat) (v : Value) (l : List Tr) (hs : a.eval s = v) (hown : w.ownsRow base 91 17 v l.length (flat l)) (t : Tr) (hx : a.eval x = .slice (some ⟨w.heap.size, 0, none⟩) 1 1)
    (hl : l.length ≤ 1000) (hbase : base ≤ w.heap.size)
    (h : ∀ v' w', w'.ownsRow base 91 17 v' (l ++ [t]).length (flat (l ++ [t])) → (w.alloc (.cells (trc t) 91)).grownBy w' v.ownBlock → wpList Try.prog ops Q rest (a.put o.dst v') w') : wpList Try.prog ops Q (o :: rest) a (w.alloc (.cells (trc t) 91)) := by
  obtain ⟨i0, hi, hz0, hz1, hz2⟩ := info_parts info_tree
  refine wpList_append_own _ hgd s x 88 ho base 91 i0 (.agg (trc tr0)) 17 24 Try.underlying88 hi hz0 hz1 hz2 (trc_size _) (by decide) v l.length (flat l) hs (hown.alloc _) ⟨w.heap.size, 0, none⟩ 1 1 (trc t).toList hx (len17 t) (news17 w t) (one17 t) (ml_le (by omega)) (by omega) (by simp; omega) ?_
  intro v' w' h1 h2 _
  refine h v' w' ?_ h2
  rw [flat_app, flat_one, List.length_append]
  exact h1

set_option maxRecDepth 4000 in
set_option maxHeartbeats 700000 in
theorem takeLeast_any (l : List Tr) (g cap : Nat) (w : World) (hl : 1 ≤ l.length) (hl2 : l.length ≤ 16) (hg : g < w.heap.size) (hr : w.rangeAt g 0 (flat l)) :
    Calls Try.prog 67 #[.slice (some ⟨g, 0, none⟩) l.length cap] w fun e w' => ∃ v, e = .returned (.tuple #[.agg (trc (tl l (Cd.kF l l.length))), v]) ∧ Below w.heap.size w w' ∧ w'.ownsRow w.heap.size 91 17 v (Cd.rK l (Cd.kF l l.length) l.length).length (flat (Cd.rK l (Cd.kF l l.length) l.length)) := by
  obtain ⟨i0, hi, hz0, hz1, hz2⟩ := info_parts info_tree
  have A1 := TrAt.new w tr0
  have B1 : Below w.heap.size w (w.alloc (.cells (trc tr0) 91)) := (Below.refl _ _).alloc (Nat.le_refl _) _
  have r1 := range_below hr ((Below.refl w.heap.size w).alloc (Nat.le_refl _) (.cells (trc tr0) 91)) hg
  have hl3 : (l.length : Int) ≤ 16 := by omega
  obtain ⟨KK, hKK⟩ : ∃ k, Cd.kF l l.length = k := ⟨_, rfl⟩
  rw [hKK]
  have HKK : Hid (Cd.kF l l.length = KK) := hKK
  clear hKK
  go_enter Try.func67, Try.ntmps67
  go_wp2_with fail
  rw [tr0_lit]
  generalize w.alloc (.cells (trc tr0) 91) = w0 at *
  clear hr
  have HG : Hid (g < w.heap.size) := hg
  go_loopw [4, 5] (fun kk ii wr => ∃ (i k : Nat), 1 ≤ i ∧ i ≤ l.length ∧ k < l.length ∧ ii = .int .i64 i ∧ kk = .int .i64 k ∧ Hid (Cd.kF l i = k) ∧ wr.rangeAt g 0 (flat l) ∧ TrAt wr w.heap.size tr0 ∧ Below w.heap.size w wr) (fun _ i _ => 20 - (intOf i).toNat)
  case atStart => exact ⟨1, 0, by omega, hl, by omega, rfl, rfl, Cd.kF_one l, r1, A1, B1⟩
  case round =>
    clear r1 A1 B1
    obtain ⟨i, k, hi1, hi2, hk, rfl, rfl, HK, r1, A1, B1⟩ := hrel
    by_cases hlt : i < l.length
    · have d1 : decide ((i : Int) < (l.length : Int)) = true := by simp; omega
      have d1' : decide (i < l.length) = true := by simp; omega
      have hiI : (i : Int) < (l.length : Int) := by omega
      have hkI : (k : Int) < (l.length : Int) := by omega
      have hlg := fun w => lighter_any (tl l i) (tl l k) w
      have HK1 : Hid (Cd.kF l (i + 1) = if Cd.lgt (tl l i) (tl l k) = true then i else k) := by show _ = _; rw [Cd.kF, HK.out]
      generalize Cd.lgt (tl l i) (tl l k) = c at *
      have hti := trc_infoc (tl l i)
      have htk := trc_infoc (tl l k)
      go_wp2_with fail
      refine wp_region_held_drew (S := fun w' => w'.rangeAt g 0 (flat l)) (by kernel_rfl) (by simpa using r1) (fun hS => ?_)
      refine wpAnyH_take (i := 0) (fuel := 8) (v := .slice (some ⟨g, 0, none⟩) l.length cap) rfl (by kernel_rfl) (by kernel_rfl) (by kernel_rfl) (fun _ _ _ h => h) (Or.inl ⟨by rfl, fun w _ => by go_simp⟩) hS ?_
      refine wpAnyH_take (i := 1) (fuel := 7) (v := .int .i64 (i : Int)) rfl (by kernel_rfl) (by kernel_rfl) (by kernel_rfl) (fun _ _ _ h => h) (Or.inl ⟨by rfl, fun w _ => by go_simp⟩) hS ?_
      refine wpAnyH_take (i := 2) (fuel := 6) (v := .pointer (some ⟨g, i * 17, none⟩)) rfl (by kernel_rfl) (by kernel_rfl) (by kernel_rfl) (fun _ _ _ h => h) (Or.inl ⟨by rfl, fun w _ => by go_simp⟩) hS ?_
      refine wpAnyH_take (i := 3) (fuel := 5) rfl (by kernel_rfl) (by kernel_rfl) (by kernel_rfl) (fun _ _ _ h => h) (yieldsIf_load_mid (by rfl) 91 _ rfl g (i * 17) rfl (trc (tl l i)).toList _ (fun w' h' => flat_range h' hlt) Try.underlying91 rfl (by rw [Array.length_toList]; exact hti)) hS ?_
      refine wpAnyH_take (i := 4) (fuel := 4) (v := .slice (some ⟨g, 0, none⟩) l.length cap) rfl (by kernel_rfl) (by kernel_rfl) (by kernel_rfl) (fun _ _ _ h => h) (Or.inl ⟨by rfl, fun w _ => by go_simp⟩) hS ?_
      refine wpAnyH_take (i := 5) (fuel := 3) (v := .int .i64 (k : Int)) rfl (by kernel_rfl) (by kernel_rfl) (by kernel_rfl) (fun _ _ _ h => h) (Or.inl ⟨by rfl, fun w _ => by go_simp⟩) hS ?_
      refine wpAnyH_take (i := 6) (fuel := 2) (v := .pointer (some ⟨g, k * 17, none⟩)) rfl (by kernel_rfl) (by kernel_rfl) (by kernel_rfl) (fun _ _ _ h => h) (Or.inl ⟨by rfl, fun w _ => by go_simp⟩) hS ?_
      refine wpAnyH_take (i := 7) (fuel := 1) rfl (by kernel_rfl) (by kernel_rfl) (by kernel_rfl) (fun _ _ _ h => h) (yieldsIf_load_mid (by rfl) 91 _ rfl g (k * 17) rfl (trc (tl l k)).toList _ (fun w' h' => flat_range h' hk) Try.underlying91 rfl (by rw [Array.length_toList]; exact htk)) hS ?_
      refine last_ready (i := 8) (fuel := 0) (by kernel_rfl) (by kernel_rfl) rfl rfl (fun K hK => ?_)
      go_simp
      refine (hlg _).mono ?_
      rintro e w4 ⟨rfl, G4⟩
      have r4 := range_below (show wr.drew.rangeAt g 0 (flat l) from hS) G4 (Nat.lt_of_lt_of_le HG.out B1.size)
      have A4 := (show TrAt wr.drew w.heap.size tr0 from A1).below G4
      have B4 := bch (show Below w.heap.size w wr.drew from B1.drew) G4 (Nat.le_refl _)
      clear r1 A1 B1 G4 hlg hS
      refine hK _ _ r4 ?_
      clear hK
      cases c with
      | true =>
        go_wp2_with fail
        exact ⟨⟨i + 1, i, by omega, by omega, by omega, by go_num, rfl, HK1.out, r4, A4, B4⟩, by simp [intOf]; omega⟩
      | false =>
        go_wp2_with fail
        exact ⟨⟨i + 1, k, by omega, by omega, hk, by go_num, rfl, HK1.out, r4, A4, B4⟩, by simp [intOf]; omega⟩
    · obtain rfl : i = l.length := by omega
      obtain rfl : KK = k := HKK.out.symm.trans HK.out
      have d1 : decide ((l.length : Int) < (l.length : Int)) = false := by simp
      have d1' : decide (l.length < l.length) = false := by simp
      have hkI : (KK : Int) < (l.length : Int) := by omega
      clear hlt HK HKK
      go_wp2_with fail
      clear d1 d1'
      go_loopw [6, 7] (fun v i wr => ∃ k : Nat, k ≤ l.length ∧ i = .int .i64 k ∧ wr.ownsRow (w.heap.size + 1) 91 17 v (Cd.rK l KK k).length (flat (Cd.rK l KK k)) ∧ wr.rangeAt g 0 (flat l) ∧ TrAt wr w.heap.size tr0 ∧ Below w.heap.size w wr) (fun _ i _ => 20 - (intOf i).toNat)
      case atStart => exact ⟨0, by omega, rfl, World.ownsRow_nil _ _ _ _, r1, A1, B1⟩
      case round =>
        clear r1 A1 B1
        obtain ⟨i, hi2, rfl, ho, r1, A1, B1⟩ := hrel
        have hrl := Cd.rK_len l KK i
        by_cases hlt : i < l.length
        · have d1 : decide ((i : Int) < (l.length : Int)) = true := by simp; omega
          have d1' : decide (i < l.length) = true := by simp; omega
          have hiI : (i : Int) < (l.length : Int) := by omega
          by_cases hik : i = KK
          · have d2 : ((i : Int) != (KK : Int)) = false := by simp; omega
            have HR : Hid (Cd.rK l KK (i + 1) = Cd.rK l KK i) := by show _ = _; rw [Cd.rK, if_pos hik]
            clear hik
            go_wp2_with fail
            exact ⟨⟨i + 1, by omega, by go_num, by rw [HR.out]; exact ho, r1, A1, B1⟩, by simp [intOf]; omega⟩
          · have d2 : ((i : Int) != (KK : Int)) = true := by simp; omega
            have HR : Hid (Cd.rK l KK (i + 1) = Cd.rK l KK i ++ [tl l i]) := by show _ = _; rw [Cd.rK, if_neg hik]
            have rt := flat_range r1 hlt
            have hgs : w.heap.size < wr.heap.size := A1.1
            have hgg : g < wr.heap.size := Nat.lt_of_lt_of_le HG.out B1.size
            generalize Cd.rK l KK i = rs at *
            generalize tl l i = t at *
            clear hik
            go_wp2_with (first | refine wpList_load_tree rfl _ rfl g (i * 17) rfl t rt ?_ | refine wpList_build_tree rfl _ rfl t rfl ?_ | (at_builtin; go_must (refine wpList_append_tree rfl _ _ rfl (w.heap.size + 1) _ rs rfl ho t rfl (by omega) (by omega) ?_; intro v' w6 hown' hgrow)))

            have hne : ∀ q, q ≤ w.heap.size → some q ≠ Value.ownBlock u6 := fun q hq e => by have := (ho.lt q e.symm).1; omega
            have r6 := range_block r1 (block_grown hgg (hne _ (Nat.le_of_lt HG.out)) hgrow)
            have A6 := A1.block (block_grown hgs (hne _ (Nat.le_refl _)) hgrow)
            have B6 : Below w.heap.size w w6 := (B1.alloc B1.size _).grown hgrow (by have := B1.size; simp; omega) (fun j hj => by have := (ho.lt j hj).1; omega)
            exact ⟨⟨i + 1, by omega, by go_num, by rw [HR.out]; exact hown', r6, A6, B6⟩, by simp [intOf]; omega⟩
        · obtain rfl : i = l.length := by omega
          have d1 : decide ((l.length : Int) < (l.length : Int)) = false := by simp
          have d1' : decide (l.length < l.length) = false := by simp
          have rt := flat_range r1 hk
          have hti := trc_infoc (tl l KK)
          go_wp2_with (first | refine wpList_load_tree rfl _ rfl g (KK * 17) rfl (tl l KK) rt ?_ | refine wpList_store_row rfl 91 _ _ rfl w.heap.size (trc (tl l KK)) rfl rfl 91 _ A1.2 hti (by rw [trc_size, trc_size]) (trc_one _) ?_)
          have U2 := A1.setRow (tl l KK)
          exact bodyPost_ret (v := .tuple #[.agg (trc (tl l KK)), u6]) (results_row2 Try.results67 _ _ w.heap.size 91 _ (0, 0) _ rfl U2.2 Try.underlying91 rfl hti _ rfl) rfl ⟨_, rfl, below_setRow B1 (Nat.le_refl _) _, own_setRow ho (by omega) _⟩
end Go.Proofs.Ytbjbjbpgmojcbaa
