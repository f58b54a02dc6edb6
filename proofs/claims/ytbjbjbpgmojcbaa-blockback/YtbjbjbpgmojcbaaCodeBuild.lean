/- What Build comes to. -/
import Derived.Test.YtbjbjbpgmojcbaaCodeRows
import Derived.Deep.LoopGhost
import Derived.BigQuiet
import Derived.Deep.QuietTactic
namespace Go.Proofs.Ytbjbjbpgmojcbaa
open Go.RowKit

theorem three (w : World) (c : Nat → Int) (o : Nat → Int) : RowAt (((w.alloc (.cells (arr c) 54)).alloc (.cells (arr o) 54)).alloc (.cells (arr o) 54)) w.heap.size c ∧
    RowAt (((w.alloc (.cells (arr c) 54)).alloc (.cells (arr o) 54)).alloc (.cells (arr o) 54)) (w.heap.size + 1) o ∧
    RowAt (((w.alloc (.cells (arr c) 54)).alloc (.cells (arr o) 54)).alloc (.cells (arr o) 54)) (w.heap.size + 1 + 1) o ∧
    Below w.heap.size w (((w.alloc (.cells (arr c) 54)).alloc (.cells (arr o) 54)).alloc (.cells (arr o) 54)) := by
  obtain ⟨h1, h2⟩ := RowAt.two w c o
  refine ⟨h1.alloc _, h2.alloc _, ?_, (below2 w _ _).alloc (by simp; omega) _⟩
  have := RowAt.new ((w.alloc (.cells (arr c) 54)).alloc (.cells (arr o) 54)) o
  simpa using this

/-- Two results, the first an array in a variable. -/
theorem results_row2 {P : Program} {fn : Func} {p : Tmp} {ty : TypeId} {q : Tmp} (h : fn.results = #[.cell p ty, .tmp q]) (tmps : Array Value) (w : World) (g : Nat) (t : TypeId) (cs : Array Value) (fr : Nat × Nat) (d : TypeDesc)
    (hp : tmps.getD p undef = .pointer (some ⟨g, 0, none⟩)) (hg : w.heap[g]? = some (.cells cs t fr))
    (hu : P.underlying ty = some d) (hd : (match d with | .struct _ | .array _ _ => true | _ => false) = true) (hi : (P.info? ty).map (·.size) = some cs.size) (v : Value) (hq : tmps.getD q undef = v) :
    (results fn tmps).run P w = .ok (.tuple #[.agg cs, v]) w := by
  subst hq
  have hp' : tmps[p]?.getD undef = .pointer (some ⟨g, 0, none⟩) := by simpa using hp
  simp [results, h, hp', asAddr, run_loadVar_row w g t ty cs fr d hg hu hd hi]

set_option maxRecDepth 4000 in
set_option maxHeartbeats 2000000 in
theorem build_range (c : Nat → Int) (w : World) (h1 : ¬ Cd.InR c 2048 16) :
    Calls Try.prog 38 #[.agg (arr c)] w fun e w' => e = .returned (.tuple #[.agg (arr (fun _ => 0)), .int .i64 3]) ∧ Below w.heap.size w w' := by
  have hcn := fun w => countable_any c w
  rw [decide_eq_false h1] at hcn
  have hin := arr_infoc c
  have hz := arr_infoc (fun _ => 0)
  obtain ⟨R1, R2, R4, HB⟩ := three w c (fun _ => 0)
  rw [← arr_zero] at R1 R2 R4 HB
  clear h1
  go_enter Try.func38, Try.ntmps38
  go_wp2_with (refine wpList_load_row rfl 54 _ rfl w.heap.size rfl 54 (arr c) (0, 0) _ R1.2 Try.underlying54 rfl hin ?_)
  refine (hcn _).mono ?_
  rintro e w1 ⟨rfl, G1⟩
  have S2 := R2.below G1
  have S4 := R4.below G1
  have B1 := bch HB G1 (Nat.le_refl _)
  clear R1 R2 R4 HB G1 hcn
  go_wp2_with (first | refine wpList_load_row rfl 54 _ rfl (w.heap.size + 1 + 1) rfl 54 (arr fun _ => 0) (0, 0) _ S4.2 Try.underlying54 rfl hz ?_ | refine wpList_store_row rfl 54 _ _ rfl (w.heap.size + 1) (arr fun _ => 0) rfl rfl 54 _ S2.2 hz rfl (arr_one _) ?_)
  have U2 := S2.setRow (fun _ => 0)
  exact bodyPost_ret (v := .tuple #[.agg (arr fun _ => 0), .int .i64 3]) (results_row2 Try.results38 _ _ (w.heap.size + 1) 54 _ (0, 0) _ rfl U2.2 Try.underlying54 rfl hz _ rfl) rfl ⟨rfl, below_setRow B1 (Nat.le_succ _) _⟩

/-- The four rows while Build goes on. -/
structure Rows4 (wr : World) (g2 g4 g5 g6 : Nat) (L W T : Nat → Int) : Prop where
  r2 : RowAt wr g2 (fun _ => 0)
  r4 : RowAt wr g4 L
  r5 : RowAt wr g5 W
  r6 : RowAt wr g6 T
theorem Rows4.below {wr w' : World} {g2 g4 g5 g6 : Nat} {L W T : Nat → Int} (h : Rows4 wr g2 g4 g5 g6 L W T) (hb : Below wr.heap.size wr w') : Rows4 w' g2 g4 g5 g6 L W T := ⟨h.r2.below hb, h.r4.below hb, h.r5.below hb, h.r6.below hb⟩
theorem Rows4.set4 {wr : World} {g2 g4 g5 g6 : Nat} {L W T : Nat → Int} (h : Rows4 wr g2 g4 g5 g6 L W T) (hq : g2 < g4 ∧ g4 < g5 ∧ g5 < g6) (k : Nat) (v : Int) : Rows4 (wr.setCell ⟨g4, k, none⟩ (.int .i64 v)) g2 g4 g5 g6 (upd L k v) W T :=
  ⟨h.r2.setFar (by omega) _ _, h.r4.set _ _, h.r5.setFar (by omega) _ _, h.r6.setFar (by omega) _ _⟩
theorem Rows4.set5 {wr : World} {g2 g4 g5 g6 : Nat} {L W T : Nat → Int} (h : Rows4 wr g2 g4 g5 g6 L W T) (hq : g2 < g4 ∧ g4 < g5 ∧ g5 < g6) (k : Nat) (v : Int) : Rows4 (wr.setCell ⟨g5, k, none⟩ (.int .i64 v)) g2 g4 g5 g6 L (upd W k v) T :=
  ⟨h.r2.setFar (by omega) _ _, h.r4.setFar (by omega) _ _, h.r5.set _ _, h.r6.setFar (by omega) _ _⟩
theorem Rows4.set6 {wr : World} {g2 g4 g5 g6 : Nat} {L W T : Nat → Int} (h : Rows4 wr g2 g4 g5 g6 L W T) (hq : g2 < g4 ∧ g4 < g5 ∧ g5 < g6) (k : Nat) (v : Int) : Rows4 (wr.setCell ⟨g6, k, none⟩ (.int .i64 v)) g2 g4 g5 g6 L W (upd T k v) :=
  ⟨h.r2.setFar (by omega) _ _, h.r4.setFar (by omega) _ _, h.r5.setFar (by omega) _ _, h.r6.set _ _⟩

theorem five_rows {w1 : World} {g2 g4 : Nat} (c : Nat → Int) (S2 : RowAt w1 g2 (fun _ => 0)) (S4 : RowAt w1 g4 (fun _ => 0)) : Rows4 ((w1.alloc (.cells (arr c) 54)).alloc (.cells (arr fun _ => 0) 54)) g2 g4 w1.heap.size (w1.heap.size + 1) (fun _ => 0) c (fun _ => 0) := by
  obtain ⟨h1, h2⟩ := RowAt.two w1 c (fun _ => 0)
  exact ⟨(S2.alloc _).alloc _, (S4.alloc _).alloc _, h1, h2⟩

set_option maxRecDepth 4000 in
set_option maxHeartbeats 4000000 in
theorem build_ok (c : Nat → Int) (w : World) (h1 : Cd.InR c 2048 16) :
    Calls Try.prog 38 #[.agg (arr c)] w fun e w' => e = .returned (.tuple #[.agg (arr (Cd.bld c).1), .int .i64 (Cd.bld c).2]) ∧ Below w.heap.size w w' := by
  have hcn := fun w => countable_any c w
  rw [decide_eq_true h1] at hcn
  have hin := arr_infoc c
  have hz := arr_infoc (fun _ => 0)
  obtain ⟨R1, R2, R4, HB⟩ := three w c (fun _ => 0)
  rw [← arr_zero] at R1 R2 R4 HB
  have HR : Hid (Cd.InR c 2048 16) := h1
  clear h1
  obtain ⟨r1, r2, hr⟩ : ∃ r1 r2, Cd.bld c = (r1, r2) := ⟨_, _, rfl⟩
  rw [hr]
  have Hr : Hid (Cd.bld c = (r1, r2)) := hr
  clear hr
  go_enter Try.func38, Try.ntmps38
  go_wp2_with (refine wpList_load_row rfl 54 _ rfl w.heap.size rfl 54 (arr c) (0, 0) _ R1.2 Try.underlying54 rfl hin ?_)
  refine (hcn _).mono ?_
  rintro e w1 ⟨rfl, G1⟩
  have S1 := R1.below G1
  have S2 := R2.below G1
  have S4 := R4.below G1
  have B1 := bch HB G1 (Nat.le_refl _)
  clear R1 R2 R4 HB G1 hcn
  have hs2 := S4.1
  have F := five_rows c S2 S4
  have B3 : Below w.heap.size w ((w1.alloc (.cells (arr c) 54)).alloc (.cells (arr fun _ => 0) 54)) := (B1.alloc (by omega) _).alloc (by simp; omega) _
  rw [← arr_zero] at F B3
  go_wp2_with (first | refine wpList_load_row rfl 54 _ rfl w.heap.size rfl 54 (arr c) (0, 0) _ S1.2 Try.underlying54 rfl hin ?_ | (refine wpList_store_row rfl 54 _ _ rfl w1.heap.size (arr c) rfl rfl 54 _ (heap_alloc_last w1 _) hin rfl (arr_one _) ?_; rw [World.setRow_alloc_new]))
  clear S1 S2 S4 B1
  have hq0 : w.heap.size + 1 < w.heap.size + 1 + 1 ∧ w.heap.size + 1 + 1 < w1.heap.size ∧ w1.heap.size < w1.heap.size + 1 := by omega
  have hN : w.heap.size ≤ w.heap.size + 1 := by omega
  clear hs2
  rw [arr_zero] at F B3
  rw [arr_zero]
  generalize (w1.alloc (.cells (arr c) 54)).alloc (.cells (arr fun _ => 0) 54) = w2 at *
  generalize w.heap.size + 1 + 1 = g4 at *
  generalize w.heap.size + 1 = g2 at *
  generalize w1.heap.size + 1 = g6 at *
  generalize w1.heap.size = g5 at *
  have hq : Hid (g2 < g4 ∧ g4 < g5 ∧ g5 < g6) := hq0
  have hN' : Hid (w.heap.size ≤ g2) := hN
  clear hq0 hN
  go_loopw [19] (fun i wr => ∃ k : Nat, k ≤ 16 ∧ i = .int .i64 k ∧ Rows4 wr g2 g4 g5 g6 (fun _ => 0) c (fun i => if i < k then i else 0) ∧ Below w.heap.size w wr) (fun i _ => 16 - (intOf i).toNat)
  case atStart => exact ⟨0, by omega, rfl, ⟨F.r2, F.r4, F.r5, F.r6.congr (fun i _ => by simp)⟩, B3⟩
  case round =>
    obtain ⟨k, hk, rfl, F, B⟩ := hrel
    by_cases hlt : k < 16
    · have hk1 : decide ((k : Int) < 16) = true := by simp; omega
      have hk2 : decide (k < 16) = true := by simp; omega
      have hc6 := F.r6.cell k hlt
      have hf6 := F.r6.frozen k
      go_wp2_with fail
      go_roundw
      case rel =>
        refine ⟨k + 1, by omega, by go_num, ?_, B.setCell (by have := hq.out; have := hN'.out; show _ ≤ g6; omega) _⟩
        have F' := F.set6 hq.out k (k : Int)
        refine ⟨F'.r2, F'.r4, F'.r5, F'.r6.congr (fun i hi => ?_)⟩
        show upd _ k (k : Int) i = if i < k + 1 then (i : Int) else 0
        unfold upd
        simp only
        by_cases h9 : i = k
        · subst h9; simp
        · rw [if_neg h9]
          by_cases h8 : i < k
          · rw [if_pos h8, if_pos (by omega)]
          · rw [if_neg h8, if_neg (by omega)]
      case measure => simp [intOf]; omega
    · have F1 : Rows4 wr g2 g4 g5 g6 (fun _ => 0) c (fun i => i) := ⟨F.r2, F.r4, F.r5, F.r6.congr (fun i hi => by rw [if_pos (by omega)])⟩
      obtain rfl : k = 16 := by omega
      clear F
      have hlg := fun w => lightest_any c w
      obtain ⟨A, B', hAB⟩ : ∃ A B, Cd.lt2 c 16 = (A, B) := ⟨_, _, rfl⟩
      rw [hAB] at hlg
      have HAB : Hid (Cd.lt2 c 16 = (A, B')) := hAB
      clear hAB
      go_wp2_with (refine wpList_load_row rfl 54 _ rfl g5 rfl 54 (arr c) (0, 0) _ F1.r5.2 Try.underlying54 rfl hin ?_)
      refine (hlg _).mono ?_
      rintro e w3 ⟨rfl, G3⟩
      have F3 := F1.below G3
      have B3' := bch B G3 (Nat.le_refl _)
      clear F1 G3 hlg B
      by_cases hA : A = -1
      · have h9 := Hr.out.symm.trans (show Cd.bld c = (fun _ => 0, 5) by rw [Cd.bld, if_neg (fun h => h HR.out), if_pos (by rw [HAB.out]; exact hA)])
        simp only [Prod.mk.injEq] at h9
        obtain ⟨rfl, rfl⟩ := h9
        subst hA
        go_wp2_with (first | refine wpList_load_row rfl 54 _ rfl g4 rfl 54 (arr fun _ => 0) (0, 0) _ F3.r4.2 Try.underlying54 rfl hz ?_ | refine wpList_store_row rfl 54 _ _ rfl g2 (arr fun _ => 0) rfl rfl 54 _ F3.r2.2 hz rfl (arr_one _) ?_)
        have U2 := F3.r2.setRow (fun _ => 0)
        exact bodyPost_ret (v := .tuple #[.agg (arr fun _ => 0), .int .i64 5]) (results_row2 Try.results38 _ _ g2 54 _ (0, 0) _ rfl U2.2 Try.underlying54 rfl hz _ rfl) rfl ⟨rfl, below_setRow B3' hN'.out _⟩
      · have dA : (A == -1) = false := by simpa using hA
        obtain ⟨p, rfl, hp, _⟩ : ∃ p : Nat, A = p ∧ p < 16 ∧ c p ≠ 0 := by
          have := (Cd.lt2_sg c 16).1
          rw [HAB.out] at this
          exact this.resolve_left hA
        clear hA
        have hp1 : (p : Int) < 16 := by omega
        by_cases hB : B' = -1
        · have h9 := Hr.out.symm.trans (show Cd.bld c = (upd (fun _ => 0) p 1, 0) by rw [Cd.bld, if_neg (fun h => h HR.out), if_neg (by rw [HAB.out]; simp only; omega), if_pos (by rw [HAB.out]; exact hB), HAB.out]; rfl)
          simp only [Prod.mk.injEq] at h9
          obtain ⟨rfl, rfl⟩ := h9
          subst hB
          have hc4 := F3.r4.cell p hp
          have hf4 := F3.r4.frozen p
          have F4 := F3.set4 hq.out p 1
          have hi1 := arr_infoc (upd (fun _ => 0) p 1)
          go_wp2_with fail
          refine wp_loop_rounds 1 ?_
          rw [rounds_succ]
          go_wp2_with (first | refine wpList_load_row rfl 54 _ rfl g4 rfl 54 (arr (upd (fun _ => 0) p 1)) (0, 0) _ F4.r4.2 Try.underlying54 rfl hi1 ?_ | refine wpList_store_row rfl 54 _ _ rfl g2 (arr (upd (fun _ => 0) p 1)) rfl rfl 54 _ F4.r2.2 hi1 (by rw [arr_size, arr_size]) (arr_one _) ?_)
          have U2 := F4.r2.setRow (upd (fun _ => 0) p 1)
          exact bodyPost_ret (v := .tuple #[.agg (arr (upd (fun _ => 0) p 1)), .int .i64 0]) (results_row2 Try.results38 _ _ g2 54 _ (0, 0) _ rfl U2.2 Try.underlying54 rfl hi1 _ rfl) rfl ⟨rfl, below_setRow (B3'.setCell (by have := hq.out; have := hN'.out; show _ ≤ g4; omega) _) hN'.out _⟩
        · have dB : (B' == -1) = false := by simpa using hB
          have h9 := Hr.out.symm.trans (show Cd.bld c = (Cd.bldR 16 c (fun i => i) (fun _ => 0), 0) by rw [Cd.bld, if_neg (fun h => h HR.out), if_neg (by rw [HAB.out]; simp only; omega), if_neg (by rw [HAB.out]; exact hB)])
          simp only [Prod.mk.injEq] at h9
          obtain ⟨h8, rfl⟩ := h9
          have H8 : Hid ((∀ i, i < 16 → 0 ≤ c i) ∧ Cd.tot c 16 ≤ 32768 ∧ Cd.cnt c 16 ≤ 16 ∧ (∀ i, 0 ≤ (fun _ : Nat => (0 : Int)) i ∧ (fun _ : Nat => (0 : Int)) i + (16 : Nat) ≤ 16) ∧ Cd.bldR 16 c (fun i => i) (fun _ => 0) = r1) :=
            ⟨fun i hi => (HR.out i hi).1, by have := Cd.tot_le 16 HR.out; omega, Cd.cnt_le c 16, fun i => ⟨Int.le_refl _, by simp⟩, h8.symm⟩
          clear h8 hB
          go_wp2_with fail
          go_loopg [8, 9] 16 (fun n a b wr => ∃ (W T L : Nat → Int) (A B : Int), a = .int .i64 A ∧ b = .int .i64 B ∧ Hid (Cd.lt2 W 16 = (A, B)) ∧ Rows4 wr g2 g4 g5 g6 L W T ∧ Below w.heap.size w wr ∧ Hid ((∀ i, i < 16 → 0 ≤ W i) ∧ Cd.tot W 16 ≤ 32768 ∧ Cd.cnt W 16 ≤ n ∧ (∀ i, 0 ≤ L i ∧ L i + (n : Nat) ≤ 16) ∧ Cd.bldR n W T L = r1))
          case atStart => exact ⟨c, fun i => i, fun _ => 0, p, B', rfl, rfl, HAB, F3, B3', H8⟩
          case round =>
            clear HAB F3 B3' H8 dA dB hp1 hp
            obtain ⟨W, T, L, A, B', rfl, rfl, HAB, F3, B3', H8⟩ := hrel
            by_cases hB : B' = -1
            · have e : L = r1 := by
                have := H8.out.2.2.2.2
                rwa [Cd.bldR_end (by rw [HAB.out]; exact hB)] at this
              subst e
              subst hB
              have hi1 := arr_infoc L
              go_wp2_with (first | refine wpList_load_row rfl 54 _ rfl g4 rfl 54 (arr L) (0, 0) _ F3.r4.2 Try.underlying54 rfl hi1 ?_ | refine wpList_store_row rfl 54 _ _ rfl g2 (arr L) rfl rfl 54 _ F3.r2.2 hi1 (by rw [arr_size, arr_size]) (arr_one _) ?_)
              have U2 := F3.r2.setRow L
              exact bodyPost_ret (v := .tuple #[.agg (arr L), .int .i64 0]) (results_row2 Try.results38 _ _ g2 54 _ (0, 0) _ rfl U2.2 Try.underlying54 rfl hi1 _ rfl) rfl ⟨rfl, below_setRow B3' hN'.out _⟩
            · obtain ⟨p, q, hpq, hp, hq1, hne, n1, n2⟩ := Cd.lt2_two (W := W) (by rw [HAB.out]; exact hB)
              rw [HAB.out, Prod.mk.injEq] at hpq
              obtain ⟨rfl, rfl⟩ := hpq
              have dB : ((q : Int) != -1) = true := by simp
              have Hn : Hid (p ≠ q ∧ W p ≠ 0 ∧ W q ≠ 0) := ⟨hne, n1, n2⟩
              have hp' : (p : Int) < 16 := by omega
              have hq' : (q : Int) < 16 := by omega
              have hiT := arr_infoc T
              clear hB hne n1 n2
              go_wp2_with (refine wpList_load_row rfl 54 _ rfl g6 rfl 54 (arr T) (0, 0) _ F3.r6.2 Try.underlying54 rfl hiT ?_)
              rw [show min (p : Int) (q : Int) = ((min p q : Nat) : Int) by omega]
              have hm16 : min p q < 16 := by omega
              have hm' : ((min p q : Nat) : Int) < 16 := by omega
              have HrT : Hid (∀ i, Cd.rT T p q i = if T i = p ∨ T i = q then ((min p q : Nat) : Int) else T i) := fun i => rfl
              have HrW : Hid (upd (upd (upd W p 0) q 0) (min p q) (W p + W q) = Cd.rW W p q) := rfl
              generalize min p q = m at *
              go_loopw [44] (fun i wr => ∃ k : Nat, k ≤ 16 ∧ i = .int .i64 k ∧ Rows4 wr g2 g4 g5 g6 (fun i => if i < k then Cd.rL T L p q i else L i) W (fun i => if i < k then Cd.rT T p q i else T i) ∧ Below w.heap.size w wr) (fun i _ => 16 - (intOf i).toNat)
              case atStart => exact ⟨0, by omega, rfl, ⟨F3.r2, F3.r4.congr (fun i _ => by simp), F3.r5, F3.r6.congr (fun i _ => by simp)⟩, B3'⟩
              case round =>
                clear F3 B3'
                obtain ⟨k, hk, rfl, F, B⟩ := hrel
                by_cases hlt : k < 16
                · have hk1 : decide ((k : Int) < 16) = true := by simp; omega
                  have hk2 : decide (k < 16) = true := by simp; omega
                  have hix := run_ix T k hlt
                  have hc6 := F.r6.cell k hlt
                  have hf6 := F.r6.frozen k
                  have F6 := F.set6 hq.out k m
                  have hc4 := F6.r4.cell k hlt
                  have hf4 := F6.r4.frozen k
                  have F4 := F6.set4 hq.out k (L k + 1)
                  have hLb := H8.out.2.2.2.1 k
                  have hL1 : 0 ≤ L k := hLb.1
                  have hL2 : L k ≤ 16 := by omega
                  simp only [Nat.lt_irrefl, if_false] at hc6 hc4
                  have F4' : T k = p ∨ T k = q → Rows4 ((wr.setCell ⟨g6, k, none⟩ (.int .i64 m)).setCell ⟨g4, k, none⟩ (.int .i64 (L k + 1))) g2 g4 g5 g6 (fun i => if i < k + 1 then Cd.rL T L p q i else L i) W (fun i => if i < k + 1 then Cd.rT T p q i else T i) := fun h => by
                    refine ⟨F4.r2, F4.r4.congr (fun i hi => ?_), F4.r5, F4.r6.congr (fun i hi => ?_)⟩
                    · show upd _ k (L k + 1) i = if i < k + 1 then Cd.rL T L p q i else L i
                      unfold upd
                      simp only
                      by_cases h9 : i = k
                      · subst h9
                        rw [if_pos rfl, if_pos (by omega), Cd.rL, if_pos h]
                      · rw [if_neg h9]
                        by_cases h8 : i < k
                        · rw [if_pos h8, if_pos (by omega)]
                        · rw [if_neg h8, if_neg (by omega)]
                    · show upd _ k (m : Int) i = if i < k + 1 then Cd.rT T p q i else T i
                      unfold upd
                      simp only
                      by_cases h9 : i = k
                      · subst h9
                        rw [if_pos rfl, if_pos (by omega), HrT.out, if_pos h]
                      · rw [if_neg h9]
                        by_cases h8 : i < k
                        · rw [if_pos h8, if_pos (by omega)]
                        · rw [if_neg h8, if_neg (by omega)]
                  have F0 : ¬ (T k = p ∨ T k = q) → Rows4 wr g2 g4 g5 g6 (fun i => if i < k + 1 then Cd.rL T L p q i else L i) W (fun i => if i < k + 1 then Cd.rT T p q i else T i) := fun h => by
                    refine ⟨F.r2, F.r4.congr (fun i hi => ?_), F.r5, F.r6.congr (fun i hi => ?_)⟩
                    · show (if i < k then Cd.rL T L p q i else L i) = if i < k + 1 then Cd.rL T L p q i else L i
                      by_cases h9 : i = k
                      · subst h9
                        rw [if_neg (Nat.lt_irrefl _), if_pos (by omega), Cd.rL, if_neg h]
                      · by_cases h8 : i < k
                        · rw [if_pos h8, if_pos (by omega)]
                        · rw [if_neg h8, if_neg (by omega)]
                    · show (if i < k then Cd.rT T p q i else T i) = if i < k + 1 then Cd.rT T p q i else T i
                      by_cases h9 : i = k
                      · subst h9
                        rw [if_neg (Nat.lt_irrefl _), if_pos (by omega), Cd.rT, if_neg h]
                      · by_cases h8 : i < k
                        · rw [if_pos h8, if_pos (by omega)]
                        · rw [if_neg h8, if_neg (by omega)]
                  have HF4 : Hid (T k = p ∨ T k = q → Rows4 ((wr.setCell ⟨g6, k, none⟩ (.int .i64 m)).setCell ⟨g4, k, none⟩ (.int .i64 (L k + 1))) g2 g4 g5 g6 (fun i => if i < k + 1 then Cd.rL T L p q i else L i) W (fun i => if i < k + 1 then Cd.rT T p q i else T i)) := F4'
                  have HF0 : Hid (¬ (T k = p ∨ T k = q) → Rows4 wr g2 g4 g5 g6 (fun i => if i < k + 1 then Cd.rL T L p q i else L i) W (fun i => if i < k + 1 then Cd.rT T p q i else T i)) := F0
                  have HBB : Hid (Below w.heap.size w ((wr.setCell ⟨g6, k, none⟩ (.int .i64 m)).setCell ⟨g4, k, none⟩ (.int .i64 (L k + 1)))) := (B.setCell (by have := hq.out; have := hN'.out; show _ ≤ g6; omega) _).setCell (by have := hq.out; have := hN'.out; show _ ≤ g4; omega) _
                  clear F4 F4' F6 F0 F hLb
                  by_cases hx : T k = p
                  · have d1 : (T k == (p : Int)) = true := by simpa using hx
                    have HFF := HF4.out (.inl hx)
                    generalize T k = x at *
                    generalize L k = y at *
                    clear hx
                    go_wp2_with fail
                    go_roundw
                    case rel => exact ⟨k + 1, by omega, by go_num, HFF, HBB.out⟩
                    case measure => simp [intOf]; omega
                  · have d1 : (T k == (p : Int)) = false := by simpa using hx
                    by_cases hy : T k = q
                    · have d2 : (T k == (q : Int)) = true := by simpa using hy
                      have HFF := HF4.out (.inr hy)
                      generalize T k = x at *
                      generalize L k = y at *
                      clear hx hy
                      go_wp2_with fail
                      go_roundw
                      case rel => exact ⟨k + 1, by omega, by go_num, HFF, HBB.out⟩
                      case measure => simp [intOf]; omega
                    · have d2 : (T k == (q : Int)) = false := by simpa using hy
                      have HFF := HF0.out (fun h => h.elim hx hy)
                      generalize T k = x at *
                      generalize L k = y at *
                      clear hx hy
                      go_wp2_with fail
                      go_roundw
                      case rel => exact ⟨k + 1, by omega, by go_num, HFF, B⟩
                      case measure => simp [intOf]; omega
                · obtain rfl : k = 16 := by omega
                  have F' : Rows4 wr g2 g4 g5 g6 (Cd.rL T L p q) W (Cd.rT T p q) := ⟨F.r2, F.r4.congr (fun i hi => by rw [if_pos hi]), F.r5, F.r6.congr (fun i hi => by rw [if_pos hi])⟩
                  clear F
                  have hcp := F'.r5.cell p hp
                  have hcq := F'.r5.cell q hq1
                  have hsum := Cd.tot_two H8.out.1 hp hq1 Hn.out.1
                  have h0p := H8.out.1 p hp
                  have h0q := H8.out.1 q hq1
                  have htt := H8.out.2.1
                  have hs1 : W p ≤ 32768 := by omega
                  have hs2 : W q ≤ 32768 := by omega
                  clear hsum htt
                  go_wp2_with fail
                  go_quiet (fail)
                  have F7 := F'.below (below_drewN (Below.refl wr.heap.size wr) nq)
                  have B7 := below_drewN B nq
                  clear F' B hcp hcq
                  generalize wr.drewN nq = wq at *
                  have a1 := F7.r5.cell p hp
                  have a2 := F7.r5.frozen p
                  have Fa := F7.set5 hq.out p 0
                  have a3 := Fa.r5.cell q hq1
                  have a4 := Fa.r5.frozen q
                  have Fb := Fa.set5 hq.out q 0
                  have a5 := Fb.r5.cell m hm16
                  have a6 := Fb.r5.frozen m
                  have Fc := Fb.set5 hq.out m (W p + W q)
                  rw [HrW.out] at Fc
                  have hg5 : w.heap.size ≤ g5 := by have := hq.out; have := hN'.out; omega
                  have Bc := ((B7.setCell (p := ⟨g5, p, none⟩) hg5 (.int .i64 0)).setCell (p := ⟨g5, q, none⟩) hg5 (.int .i64 0)).setCell (p := ⟨g5, m, none⟩) hg5 (.int .i64 (W p + W q))
                  clear F7 Fa Fb B7 hg5
                  have hlg := fun w => lightest_any (Cd.rW W p q) w
                  obtain ⟨A2, B2, hAB2⟩ : ∃ A B, Cd.lt2 (Cd.rW W p q) 16 = (A, B) := ⟨_, _, rfl⟩
                  rw [hAB2] at hlg
                  have HAB2 : Hid (Cd.lt2 (Cd.rW W p q) 16 = (A2, B2)) := hAB2
                  have hiW := arr_infoc (Cd.rW W p q)
                  obtain ⟨n, hn, hnew⟩ : ∃ n, gk = n + 1 ∧ Hid ((∀ i, i < 16 → 0 ≤ Cd.rW W p q i) ∧ Cd.tot (Cd.rW W p q) 16 ≤ 32768 ∧ Cd.cnt (Cd.rW W p q) 16 ≤ n ∧ (∀ i, 0 ≤ Cd.rL T L p q i ∧ Cd.rL T L p q i + (n : Nat) ≤ 16) ∧ Cd.bldR n (Cd.rW W p q) (Cd.rT T p q) (Cd.rL T L p q) = r1) := by
                    obtain ⟨e1, e2, e3, e4, e5⟩ := H8.out
                    obtain ⟨x1, x2, x3⟩ := Cd.rW_cnt e1 hp hq1 Hn.out.1 Hn.out.2.1 Hn.out.2.2
                    have hgk : gk = (gk - 1) + 1 := by omega
                    refine ⟨gk - 1, hgk, Cd.rW_pos e1 hp hq1, by omega, by omega, Cd.rL_b (fun i => by have := e4 i; rw [← hgk]; exact this), ?_⟩
                    rw [hgk, Cd.bldR_next HAB.out] at e5
                    exact e5
                  clear hAB2
                  have Hn1 : Hid (gk = n + 1) := hn
                  clear hn
                  generalize W p + W q = z at *
                  go_wp2_with (refine wpList_load_row rfl 54 _ rfl g5 rfl 54 (arr (Cd.rW W p q)) (0, 0) _ Fc.r5.2 Try.underlying54 rfl hiW ?_)
                  refine (hlg _).mono ?_
                  rintro e w5 ⟨rfl, G5⟩
                  have Fd := Fc.below G5
                  have Bd := bch Bc G5 (Nat.le_refl _)
                  clear Fc Bc G5 hlg a1 a2 a3 a4 a5 a6
                  go_wp2_with fail
                  go_roundg n
                  case measure => have := Hn1.out; omega
                  case rel => exact ⟨Cd.rW W p q, Cd.rT T p q, Cd.rL T L p q, A2, B2, rfl, rfl, HAB2, Fd, Bd, hnew⟩

/-- What Build tells. -/
theorem codeBuild_any (c : Nat → Int) (w : World) :
    Calls Try.prog 38 #[.agg (arr c)] w fun e w' => e = .returned (.tuple #[.agg (arr (Cd.bld c).1), .int .i64 (Cd.bld c).2]) ∧ Below w.heap.size w w' := by
  by_cases h : Cd.InR c 2048 16
  · exact build_ok c w h
  · have h9 : Cd.bld c = (fun _ => 0, 3) := by rw [Cd.bld, if_pos h]
    rw [h9]
    exact build_range c w h
end Go.Proofs.Ytbjbjbpgmojcbaa
