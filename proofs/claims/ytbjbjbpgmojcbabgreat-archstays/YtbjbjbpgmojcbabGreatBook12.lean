/- A part of the proof: what it leans on. -/
import Derived.RegionTactic
import Derived.ChangeAlike
import Derived.BigRegion
import Derived.Test.YtbjbjbpgmojcbabGreatBook01
import Derived.Test.YtbjbjbpgmojcbabGreatBook09
import Derived.Test.YtbjbjbpgmojcbabGreatBook11
namespace Go.Proofs.YtbjbjbpgmojcbabGreat
open Go.RowKit
namespace Ar
def cpI (a : A) (k m : Nat) : List F := (a.files.take m).map (cpF a (k + 1)) ++ (a.files.drop m).map (cpF a k)
theorem cpI_len {a : A} {k m : Nat} (h : m ≤ a.files.length) : (cpI a k m).length = a.files.length := by
  unfold cpI
  rw [List.length_append, List.length_map, List.length_map, List.length_take, List.length_drop]
  omega
theorem cpI_zero (a : A) (k : Nat) : cpI a k 0 = a.files.map (cpF a k) := by simp [cpI]
theorem cpI_end (a : A) (k : Nat) : cpI a k a.files.length = a.files.map (cpF a (k + 1)) := by simp [cpI]
theorem cpF_other {a : A} {k : Nat} {f : F} (h : f.dict ≠ ((k + 1 : Nat) : Int)) : cpF a (k + 1) f = cpF a k f := by
  unfold cpF
  by_cases h1 : 1 ≤ f.dict ∧ f.dict ≤ (k : Int)
  · rw [if_pos h1, if_pos ⟨h1.1, by omega⟩]
  · rw [if_neg h1, if_neg (fun h2 => h1 ⟨h2.1, by omega⟩)]
theorem cpF_hit {a : A} {k : Nat} {f : F} (h : f.dict = ((k + 1 : Nat) : Int)) : cpF a (k + 1) f = { f with dict := (rkK a (k + 1) : Nat) } ∧ cpF a k f = f := by
  unfold cpF
  constructor
  · rw [if_pos ⟨by omega, by omega⟩, h, Int.toNat_natCast]
  · rw [if_neg (fun h1 => by omega)]
theorem drop_fa {fs : List F} {m : Nat} (h : m < fs.length) : fs.drop m = fa fs m :: fs.drop (m + 1) := by
  rw [List.drop_eq_getElem_cons h, fa_get h]
theorem cpI_parts {a : A} {k m : Nat} (h : m < a.files.length) : cpI a k m = (a.files.take m).map (cpF a (k + 1)) ++ cpF a k (fa a.files m) :: (a.files.drop (m + 1)).map (cpF a k) ∧ cpI a k (m + 1) = (a.files.take m).map (cpF a (k + 1)) ++ cpF a (k + 1) (fa a.files m) :: (a.files.drop (m + 1)).map (cpF a k) := by
  unfold cpI
  rw [drop_fa h, take_succ' h]
  simp
theorem cpI_no {a : A} {k m : Nat} (h : m < a.files.length) (hd : (fa a.files m).dict ≠ ((k + 1 : Nat) : Int)) : cpI a k (m + 1) = cpI a k m := by
  obtain ⟨h1, h2⟩ := cpI_parts (k := k) h
  rw [h1, h2, cpF_other hd]
theorem cpI_yes {a : A} {k m : Nat} (h : m < a.files.length) (hd : (fa a.files m).dict = ((k + 1 : Nat) : Int)) : cpI a k (m + 1) = (cpI a k m).take m ++ { fa (cpI a k m) m with dict := (rkK a (k + 1) : Nat) } :: (cpI a k m).drop (m + 1) := by
  obtain ⟨h1, h2⟩ := cpI_parts (k := k) h
  obtain ⟨e1, e2⟩ := cpF_hit (a := a) hd
  have hl : ((a.files.take m).map (cpF a (k + 1))).length = m := by rw [List.length_map, List.length_take]; omega
  rw [h1, h2, e1, e2]
  generalize (a.files.take m).map (cpF a (k + 1)) = P at *
  generalize (a.files.drop (m + 1)).map (cpF a k) = R
  generalize fa a.files m = f
  subst hl
  have e3 : fa (P ++ f :: R) P.length = f := by simp [fa]
  rw [e3]
  simp
theorem cp_skip {a : A} {k : Nat} (h : used a ((k + 1 : Nat) : Int) = false) : cpD a (k + 1) = cpD a k ∧ a.files.map (cpF a (k + 1)) = a.files.map (cpF a k) := by
  constructor
  · rw [cpD, if_neg (by rw [h]; decide)]
  · apply List.map_congr_left
    intro f hf
    apply cpF_other
    intro e
    have : used a ((k + 1 : Nat) : Int) = true := by unfold used; rw [List.any_eq_true]; exact ⟨f, hf, decide_eq_true e⟩
    rw [h] at this; cases this
theorem cp_take {a : A} {k : Nat} (h : used a ((k + 1 : Nat) : Int) = true) : cpD a (k + 1) = cpD a k ++ [Tr.xa a.dicts k] := by
  rw [cpD, if_pos h]
end Ar
set_option maxRecDepth 4000 in
set_option maxHeartbeats 4000000 in
theorem compact_bad (ad af : Option Addr) (cd cf : Nat) (a : Ar.A) (w : World) (h : ArV w ad af a) (hs : SaneA a) (hc : Ar.chk a ≠ 0) :
    Calls Tryz.prog 26 #[av ad cd af cf a] w fun e w' => ArSaid w Ar.az (Ar.chk a) e w' := by
  have C1 : Hid (∀ w', Below w.heap.size w w' → Calls Tryz.prog 18 #[av ad cd af cf a] w' fun e w2 => e = .returned (.int .i64 (Ar.chk a)) ∧ Below w'.heap.size w' w2) := fun w' h9 => archCheck_any ad af cd cf a w' (h.below h9) hs
  have hQ : Hid (∀ w', Below w.heap.size w w' → ArSaid w Ar.az (Ar.chk a) (.returned (.tuple #[.agg #[.slice none 0 0, .slice none 0 0], .int .i64 (Ar.chk a)])) w') := fun w' h9 => said_nil h9
  generalize ArSaid w Ar.az (Ar.chk a) = Q at *
  unfold av at C1 ⊢
  generalize Ar.chk a = E at *
  generalize a.dicts.length = D at *
  generalize a.files.length = N at *
  have e1 : (E != 0) = true := by simpa using hc
  have e2 : (E == 0) = false := by simpa using hc
  clear h hs
  go_enter Tryz.func26, Tryz.ntmps26
  go_wp2_with fail
  refine (C1.out _ (Fr.start w _ _).b).mono ?_
  rintro e w1 ⟨rfl, G1⟩
  have F1 := (Fr.start w _ _).next G1
  clear G1
  obtain ⟨b, a0, a1, r0, r1, z0, z1, hz⟩ := id F1
  go_wp2_with fail
  rw [F1.zero]
  exact bodyPost_ret (v := .tuple #[.agg #[.slice none 0 0, .slice none 0 0], .int .i64 E]) (by simp [results, Tryz.results26, go_sem, F1.r0, F1.r1]) rfl (hQ.out _ F1.b)
set_option maxRecDepth 8000 in
set_option maxHeartbeats 8000000 in
theorem compact_ok (ad af : Option Addr) (cd cf : Nat) (a : Ar.A) (w : World) (h : ArV w ad af a) (hs : SaneA a) (hc : Ar.chk a = 0) :
    Calls Tryz.prog 26 #[av ad cd af cf a] w fun e w' => ArSaid w ⟨Ar.cpD a a.dicts.length, a.files.map (Ar.cpF a a.dicts.length)⟩ 0 e w' := by
  obtain ⟨i0, hi, hz0, hz1, hz2⟩ := info_parts (P := Tryz.prog) (e := 9) (z := .string ⟨#[]⟩) (size := 1) (bytes := 16) (by kernel_rfl)
  obtain ⟨m1, m2, m3⟩ := Ar.many_iff.1 (Ar.chk_zero.1 hc).1
  have C1 : Hid (∀ w', Below w.heap.size w w' → Calls Tryz.prog 18 #[av ad cd af cf a] w' fun e w2 => e = .returned (.int .i64 (Ar.chk a)) ∧ Below w'.heap.size w' w2) := fun w' h9 => archCheck_any ad af cd cf a w' (h.below h9) hs
  have C6 : Hid (∀ w', Below w.heap.size w w' → Calls Tryz.prog 53 #[av ad cd af cf a] w' fun e w2 => ∃ v1 v2, e = .returned (.agg #[v1, v2]) ∧ ArOwn w'.heap.size w2 v1 v2 a ∧ Below w'.heap.size w' w2) := fun w' h9 => clone_arch ad af cd cf a w' (h.below h9) hs m1 m2
  have CU : Hid (∀ w' c k, Below w.heap.size w w' → w'.cell? ⟨c, 0, none⟩ = some (.int .i64 (k : Nat)) → k ≤ 4 → Calls Tryz.prog 68 #[.slice af a.files.length cf, .func (.func 67) #[] #[.pointer (some ⟨c, 0, none⟩)]] w' fun e w2 => e = .returned (.bool (Ar.used a ((k + 1 : Nat) : Int))) ∧ Below w'.heap.size w' w2) := fun w' c k h9 h8 h7 => anyUsed_any af cf a c k w' (h.fs.below h9) m2 h8 h7
  have HX : Hid (∀ w', Below w.heap.size w w' → ∀ k, k < a.dicts.length → ∃ b off, ad = some ⟨b, off, none⟩ ∧ b < w'.heap.size ∧ w'.cell? ⟨b, off + k, none⟩ = some (.string (Tr.xa a.dicts k))) := fun w' hb k hk => (h.ds.below hb).at hk
  have HFl : Hid (∀ w', Below w.heap.size w w' → ∀ k, k < a.files.length → ∃ b off, af = some ⟨b, off, none⟩ ∧ b < w'.heap.size ∧ FlC w' b (off + k * 5) (Ar.fa a.files k)) := fun w' h9 k hk => (h.fs.below h9).at hk
  have HZ : Hid (∀ k, (Tr.xa a.dicts k).size ≤ 281474976710656) := fun k => Nat.le_trans (hs.ds k) (by decide)
  rw [hc] at C1
  unfold av at C1 C6 ⊢
  obtain ⟨D, hD⟩ : ∃ D, a.dicts.length = D := ⟨_, rfl⟩
  obtain ⟨N, hN⟩ : ∃ N, a.files.length = N := ⟨_, rfl⟩
  have HDD : Hid (a.dicts.length = D) := hD
  have HNN : Hid (a.files.length = N) := hN
  rw [hD] at C1 C6 HX m1 ⊢
  rw [hN] at C1 C6 CU HFl m2 ⊢
  have hQ : Hid (∀ v1 v2 w', w'.ownsRow w.heap.size 9 1 v1 (Ar.cpD a D).length ((Ar.cpD a D).map Value.string) → w'.ownsRow w.heap.size 46 5 v2 N (fcs (a.files.map (Ar.cpF a D))) → (∀ j, v1.ownBlock = some j → v2.ownBlock ≠ some j) → Below w.heap.size w w' → ArSaid w ⟨Ar.cpD a D, a.files.map (Ar.cpF a D)⟩ 0 (.returned (.tuple #[.agg #[v1, v2], .int .i64 0])) w') := fun v1 v2 w' h1 h2 h3 h4 => ⟨v1, v2, rfl, ⟨h1, by show w'.ownsRow _ _ _ _ (a.files.map (Ar.cpF a D)).length _; rw [List.length_map, hN]; exact h2, h3⟩, h4⟩
  generalize ArSaid w ⟨Ar.cpD a D, a.files.map (Ar.cpF a D)⟩ 0 = Q at *
  have HI0 : Hid (∀ k, fcs (a.files.map (Ar.cpF a k)) = fcs (Ar.cpI a k 0)) := fun k => by rw [Ar.cpI_zero]
  have HIN : Hid (∀ k, fcs (Ar.cpI a k N) = fcs (a.files.map (Ar.cpF a (k + 1)))) := fun k => by rw [← hN, Ar.cpI_end]
  have H0 : Hid (a.files.map (Ar.cpF a 0) = a.files) := by
    show _ = _
    have : ∀ f : Ar.F, Ar.cpF a 0 f = f := fun f => by unfold Ar.cpF; rw [if_neg (by omega)]
    rw [show Ar.cpF a 0 = id from funext this, List.map_id]
  have HA : Hid (∀ lo w' v1 v2, ArOwn lo w' v1 v2 a → w'.ownsRow lo 9 1 v1 D (a.dicts.map Value.string) ∧ w'.ownsRow lo 46 5 v2 N (fcs (a.files.map (Ar.cpF a 0)))) := fun lo w' v1 v2 h9 => ⟨by rw [← hD]; exact h9.o1, by rw [H0.out, ← hN]; exact h9.o2⟩
  clear h hs hc m3 hD hN H0
  have hDi : (D : Int) ≤ 4 := by omega
  have hNi : (N : Int) ≤ 12 := by omega
  go_enter Tryz.func26, Tryz.ntmps26
  go_wp2_with fail
  refine (C1.out _ (Fr.start w _ _).b).mono ?_
  rintro e w1 ⟨rfl, G1⟩
  have F1 := (Fr.start w _ _).next G1
  clear G1 C1
  obtain ⟨b, a0, a1, r0, r1, z0, z1, hz⟩ := id F1
  go_wp2_with fail
  refine (C6.out _ F1.b).mono ?_
  rintro e w6 ⟨v1, v2, rfl, O6, G6⟩
  have F6 := F1.next G6
  obtain ⟨o1, o2⟩ := HA.out _ _ _ _ O6
  have hlo : w.heap.size + 1 < w1.heap.size := F1.hz
  have hl0 : w1.heap.size ≤ w6.heap.size := G6.size
  generalize w1.heap.size = lo at o1 o2 hlo hl0
  clear G6 O6 HA b a0 a1 r0 r1 z0 z1 hz C6 F1
  obtain ⟨p1, q1, rfl, _⟩ := own_slice o1
  obtain ⟨p2, q2, rfl, _⟩ := own_slice o2
  obtain ⟨b, a0, a1, r0, r1, z0, z1, hz⟩ := id F6
  have hz6 : w.heap.size < w6.heap.size := by omega
  have S0 : CpS w6 (w6.alloc (.cells #[.slice none 0 0, .slice p2 N q2] 25 (0, 0))) w6.heap.size lo (.slice none 0 0) (.slice p2 N q2) (Ar.cpD a 0).length N ((Ar.cpD a 0).map Value.string) (fcs (a.files.map (Ar.cpF a 0))) :=
    ⟨World.cell?_alloc_new _ _ _ 0, World.cell?_alloc_new _ _ _ 1, World.frozen?_alloc_at _ _ _ _ rfl, World.frozen?_alloc_at _ _ _ _ rfl, ⟨rfl, .inl ⟨rfl, rfl⟩⟩, o2.alloc _, fun j hj => by simp [Value.ownBlock] at hj, by simp [Value.ownBlock], fun e => by have := (o2.lt _ e).2; omega, hl0, by simp, (Below.refl _ _).alloc hl0 _⟩
  clear o1 o2
  go_wp2_with fail
  clear b a0 a1 r0 r1 z0 z1 hz
  generalize (w6.alloc (.cells #[.slice none 0 0, .slice p2 N q2] 25 (0, 0))) = w7 at *
  generalize w6.heap.size = C at *
  go_loopw [23] (fun i wr => ∃ (k : Nat) (v1 : Value), k ≤ D ∧ i = .int .i64 k ∧ CpS w6 wr C lo v1 (.slice p2 N q2) (Ar.cpD a k).length N ((Ar.cpD a k).map Value.string) (fcs (a.files.map (Ar.cpF a k)))) (fun i _ => D - (intOf i).toNat)
  case atStart => exact ⟨0, _, by omega, rfl, S0⟩
  case round =>
    clear S0
    obtain ⟨k, v1, hk2, rfl, S1⟩ := hrel
    have F7 := F6.keep S1.bel hlo
    obtain ⟨b, a0, a1, r0, r1, z0, z1, hz⟩ := id F7
    have hzw : w.heap.size < wr.heap.size := by omega
    by_cases hlt : k < D
    · have d1 : decide ((k : Int) < (D : Int)) = true := by simp; omega
      have d1' : decide (k < D) = true := by simp; omega
      have hki : (k : Int) < (D : Int) := by omega
      obtain ⟨b9, off, rfl, hbl, hc⟩ := HX.out wr b k hlt
      have xz := HZ.out k
      generalize hX : Tr.xa a.dicts k = X at *
      have HXX : Hid (Tr.xa a.dicts k = X) := hX
      clear hX
      go_wp2_with fail
      have S2 := S1.below ((Below.refl _ _).alloc (Nat.le_refl _) (.cells #[.int .i64 (k : Int)] 3 (0, 0)))
      have B2 := (F6.keep S2.bel hlo).b
      have hcb : (wr.alloc (.cells #[.int .i64 (k : Int)] 3 (0, 0))).cell? ⟨wr.heap.size, 0, none⟩ = some (.int .i64 (k : Int)) := World.cell?_alloc_new _ _ _ 0
      refine (CU.out _ _ k B2 hcb (by omega)).mono ?_
      rintro e w2 ⟨rfl, G2⟩
      have S3 := S2.below G2
      have hcb2 := (G2.cell (p := ⟨wr.heap.size, 0, none⟩) (by simp)).trans hcb
      have hlv1 : v1.ownBlock ≠ some wr.heap.size := fun e => by have := (S1.o1.lt _ e).2; omega
      have hlv2 : (Value.slice p2 N q2).ownBlock ≠ some wr.heap.size := fun e => by have := (S1.o2.lt _ e).2; omega
      have hCc : wr.heap.size ≠ C := by have := S1.hb; omega
      clear S1 S2 G2 hcb B2 F7 b a0 a1 r0 r1 z0 z1 hz hc hbl
      generalize wr.heap.size = c at *
      cases hu : Ar.used a ((k + 1 : Nat) : Int) with
      | false =>
        obtain ⟨e1, e2⟩ := Ar.cp_skip hu
        have HE1 : Hid (Ar.cpD a (k + 1) = Ar.cpD a k) := e1
        have HE2 : Hid (a.files.map (Ar.cpF a (k + 1)) = a.files.map (Ar.cpF a k)) := e2
        clear e1 e2 hu
        go_wp2_with fail
        go_roundw
        case rel => exact ⟨k + 1, v1, by omega, by go_num, by rw [HE1.out, HE2.out]; exact S3⟩
        case measure => simp [intOf]; omega
      | true =>
        have HE1 : Hid (Ar.cpD a (k + 1) = Ar.cpD a k ++ [X]) := by show _ = _; rw [Ar.cp_take hu, HXX.out]
        clear hu
        obtain ⟨L, hL⟩ : ∃ L, (Ar.cpD a k).length = L := ⟨_, rfl⟩
        have hL4 : L ≤ 4 := by
          have e1 := Ar.cpD_len a k
          have e2 := Ar.rkK_le a k
          omega
        have HL1 : Hid ((Ar.cpD a (k + 1)).length = L + 1) := by show _ = _; rw [HE1.out, List.length_append, hL]; rfl
        have HM1 : Hid ((Ar.cpD a (k + 1)).map Value.string = (Ar.cpD a k).map Value.string ++ [.string X]) := by show _ = _; rw [HE1.out, List.map_append]; rfl
        have HY : Hid (∀ m, m < N → (Ar.fa a.files m).dict = ((k + 1 : Nat) : Int) → fcs (Ar.cpI a k (m + 1)) = fcs ((Ar.cpI a k m).take m ++ { Ar.fa (Ar.cpI a k m) m with dict := (L : Int) + 1 } :: (Ar.cpI a k m).drop (m + 1))) := fun m h1 h2 => by
          have e : ((Ar.rkK a (k + 1) : Nat) : Int) = (L : Int) + 1 := by rw [← Ar.cpD_len, HL1.out]; rfl
          rw [Ar.cpI_yes (by rw [HNN.out]; exact h1) h2, e]
        have HNo : Hid (∀ m, m < N → (Ar.fa a.files m).dict ≠ ((k + 1 : Nat) : Int) → fcs (Ar.cpI a k (m + 1)) = fcs (Ar.cpI a k m)) := fun m h1 h2 => by rw [Ar.cpI_no (by rw [HNN.out]; exact h1) h2]
        have HIl : Hid (∀ m, m < N → (Ar.cpI a k m).length = N) := fun m h1 => by rw [Ar.cpI_len (by rw [HNN.out]; omega), HNN.out]
        rw [hL, HI0.out] at S3
        clear hL HE1 HXX
        have c0 := S3.c0
        have f0 := S3.f0
        have hLi : (L : Int) ≤ 4 := by omega
        generalize (Ar.cpD a k).map Value.string = XS at *
        go_wp2_with fail
        go_region_law (first
          | (refine step_append_lies _ rfl _ _ 22 rfl lo 9 i0 (.string ⟨#[]⟩) 1 16 Tryz.underlying22 hi hz0 hz1 hz2 rfl (by decide) v1 _ _ rfl (S4.o1.alloc _) ⟨w4.heap.size, 0, none⟩ 1 1 [.string X] rfl rfl (cell_one_new _ _ _) (by simp [Value.oneCell']) (by decide) (by unfold maxLen; omega) (by omega) (by simp; omega) _ rfl ?_; intro g cp w5 hown5 hgrow5 hat5 hlt5; obtain ⟨⟨⟨qq1, qq2⟩, S5⟩, K5⟩ := S4.put1 hgrow5 hown5 hat5; have hcb5 := K5 c _ hcb4 hCc hlv1; clear hgrow5 hown5 hat5 hlt5 K5)
          | (go_simp; go_at_call 69; refine (clone_any _ _ xz).mono ?_; rintro e w4 ⟨rfl, G4⟩; have G4' := (Below.trans ((Below.refl w2.heap.size w2).drew) G4); have S4 := S3.below G4'; have c2 := S4.c0; have c3 : ∀ o, (w4.alloc o).cell? ⟨C, 0, none⟩ = some v1 := (fun o => (World.cell?_alloc_lt _ _ _ (World.block_lt_of_cell? w4 _ c2)).trans c2); have hb4 := S4.hb; have hC4 := S4.hC; have hcb4 := (G4'.cell (p := ⟨c, 0, none⟩) (World.block_lt_of_cell? w2 _ hcb2)).trans hcb2))
        all_goals
          clear S4 c2 c3 hb4 hC4 hcb4 G4 G4' S3 hcb2 c0 f0 qq1 qq2
          generalize (w5.setCell ⟨C, 0, none⟩ (.slice (some ⟨g, 0, none⟩) (L + 1) cp)) = wq at *
          have Fq := F6.keep S5.bel hlo
          have a1 := Fq.a1
          clear Fq
          go_wp2_with fail
          clear a1
          go_loopw [44] (fun i wr => ∃ m : Nat, m ≤ N ∧ i = .int .i64 m ∧ CpS w6 wr C lo (.slice (some ⟨g, 0, none⟩) (L + 1) cp) (.slice p2 N q2) (L + 1) N (XS ++ [.string X]) (fcs (Ar.cpI a k m)) ∧ wr.cell? ⟨c, 0, none⟩ = some (.int .i64 (k : Int))) (fun i _ => N - (intOf i).toNat)
          case atStart => exact ⟨0, by omega, rfl, S5, hcb5⟩
          case round =>
            clear S5 hcb5
            obtain ⟨m, hm2, rfl, S6, hcb6⟩ := hrel
            have B6 := (F6.keep S6.bel hlo).b
            by_cases hlt2 : m < N
            · have d2 : decide ((m : Int) < (N : Int)) = true := by simp; omega
              have d2' : decide (m < N) = true := by simp; omega
              have hmi : (m : Int) < (N : Int) := by omega
              obtain ⟨bf, of, rfl, hbl, hcf⟩ := HFl.out _ B6 m hlt2
              obtain ⟨x0, x1, x2, x3, x4⟩ := hcf
              have CK := fun w' h9 => packs_any (Ar.fa a.files m) c k w' h9 (by omega)
              unfold fv at CK
              have hIl := HIl.out m hlt2
              by_cases hd : (Ar.fa a.files m).dict = ((k + 1 : Nat) : Int)
              · have e1 := HY.out m hlt2 hd
                have HE : Hid (fcs (Ar.cpI a k (m + 1)) = fcs ((Ar.cpI a k m).take m ++ { Ar.fa (Ar.cpI a k m) m with dict := (L : Int) + 1 } :: (Ar.cpI a k m).drop (m + 1))) := e1
                rw [decide_eq_true hd] at CK
                clear e1 hd
                rcases S6.o2.2 with ⟨_, h0⟩ | ⟨g2, cap2, cur2, e, _⟩
                · omega
                simp only [Value.slice.injEq] at e
                obtain ⟨rfl, _, rfl⟩ := e
                generalize (Ar.fa a.files m).name = y0 at *
                generalize (Ar.fa a.files m).dict = y1 at *
                generalize (Ar.fa a.files m).size = y2 at *
                generalize (Ar.fa a.files m).sum = y3 at *
                generalize (Ar.fa a.files m).blk = y4 at *
                go_wp2_with fail
                have hcb7 := fun o => (World.cell?_alloc_lt _ o _ (World.block_lt_of_cell? _ _ hcb6)).trans hcb6
                refine (CK _ (hcb7 _)).mono ?_
                rintro e w9 ⟨rfl, G9⟩
                have S7 := (S6.below ((Below.refl _ _).alloc (Nat.le_refl _) _)).below G9
                have hcb8 := (G9.cell (p := ⟨c, 0, none⟩) (World.block_lt_of_cell? _ _ (hcb7 _))).trans (hcb7 _)
                have hIl' : Hid ((Ar.cpI a k m).length = N) := hIl
                rw [← hIl] at S7
                obtain ⟨S8, t1, t2⟩ := CpS.set1 ((L : Int) + 1) S7 (i := m) (by omega)
                have c0 := S7.c0
                have c1 := S7.c1
                rw [hIl] at c1 S8
                have hcb9 : (w9.setCell ⟨g2, m * 5 + 1, none⟩ (.int .i64 ((L : Int) + 1))).cell? ⟨c, 0, none⟩ = some (.int .i64 (k : Int)) := cell_keep (setCell_grown w9 ⟨g2, m * 5 + 1, none⟩ _) hcb8 (fun e => hlv2 (show some g2 = some c from e.symm))
                clear S6 S7 hcb6 hcb7 hcb8 G9 hIl x0 x1 x2 x3 x4 CK
                go_wp2_with fail
                go_roundw
                case rel => exact ⟨m + 1, by omega, by go_num, by rw [HE.out]; exact S8, hcb9⟩
                case measure => simp [intOf]; omega
              · have e1 := HNo.out m hlt2 hd
                have HE : Hid (fcs (Ar.cpI a k (m + 1)) = fcs (Ar.cpI a k m)) := e1
                rw [decide_eq_false hd] at CK
                clear e1 hd
                generalize (Ar.fa a.files m).name = y0 at *
                generalize (Ar.fa a.files m).dict = y1 at *
                generalize (Ar.fa a.files m).size = y2 at *
                generalize (Ar.fa a.files m).sum = y3 at *
                generalize (Ar.fa a.files m).blk = y4 at *
                go_wp2_with fail
                have hcb7 := fun o => (World.cell?_alloc_lt _ o _ (World.block_lt_of_cell? _ _ hcb6)).trans hcb6
                refine (CK _ (hcb7 _)).mono ?_
                rintro e w9 ⟨rfl, G9⟩
                have S7 := (S6.below ((Below.refl _ _).alloc (Nat.le_refl _) _)).below G9
                have hcb8 := (G9.cell (p := ⟨c, 0, none⟩) (World.block_lt_of_cell? _ _ (hcb7 _))).trans (hcb7 _)
                clear S6 hcb6 hcb7 G9 hIl x0 x1 x2 x3 x4 CK
                go_wp2_with fail
                go_roundw
                case rel => exact ⟨m + 1, by omega, by go_num, by rw [HE.out]; exact S7, hcb8⟩
                case measure => simp [intOf]; omega
            · obtain rfl : m = N := by omega
              have d2 : decide ((m : Int) < (m : Int)) = false := by simp
              rw [HIN.out, ← HM1.out, ← HL1.out] at S6
              clear hcb6 B6
              go_wp2_with fail
              go_roundw
              case rel => exact ⟨k + 1, _, by omega, by go_num, S6⟩
              case measure => simp [intOf]; omega
    · obtain rfl : k = D := by omega
      have d1 : decide ((k : Int) < (k : Int)) = false := by simp
      obtain ⟨Bz, Oz1, Oz2, Rz0, Rz1⟩ := put_end b S1.o1 S1.o2 hlo r0 r1
      obtain ⟨pp, qq, rfl, _⟩ := own_slice S1.o1
      have ne9 := S1.ne
      have c0 := S1.c0
      have c1 := S1.c1
      have hC2 := S1.hb
      clear S1
      go_wp2_with fail
      generalize (wr.setCell ⟨w.heap.size + 1, 0, none⟩ (.slice pp (Ar.cpD a k).length qq)).setCell ⟨w.heap.size + 1, 1, none⟩ (.slice p2 N q2) = wz at *
      exact bodyPost_ret (v := .tuple #[.agg #[.slice pp (Ar.cpD a k).length qq, .slice p2 N q2], .int .i64 0]) (by simp [results, Tryz.results26, go_sem, Rz0, Rz1]) rfl (hQ.out _ _ _ Oz1 Oz2 ne9 Bz)
theorem archCompact_any (ad af : Option Addr) (cd cf : Nat) (a : Ar.A) (w : World) (h : ArV w ad af a) (hs : SaneA a) :
    Calls Tryz.prog 26 #[av ad cd af cf a] w fun e w' => ArSaid w (Ar.cmpA a) (Ar.chk a) e w' := by
  by_cases hc : Ar.chk a = 0
  · rw [Ar.cmpA_is hc, hc]
    exact compact_ok ad af cd cf a w h hs hc
  · have e : Ar.cmpA a = Ar.az := by unfold Ar.cmpA; rw [if_neg hc]
    rw [e]
    exact compact_bad ad af cd cf a w h hs hc
end Go.Proofs.YtbjbjbpgmojcbabGreat
namespace Go.Proofs.YtbjbjbpgmojcbabGreat
open Go.RowKit
namespace Ar
def reF (a : A) (size : Int) (f : F) : F := pk (retD a size) f.name (tx a.dicts f) (a.dicts.length + 1 : Nat)
def reI (a : A) (size : Int) (m : Nat) : List F := (a.files.take m).map (reF a size) ++ a.files.drop m
theorem reI_len {a : A} {size : Int} {m : Nat} (h : m ≤ a.files.length) : (reI a size m).length = a.files.length := by
  unfold reI
  rw [List.length_append, List.length_map, List.length_take, List.length_drop]
  omega
theorem reI_zero (a : A) (size : Int) : reI a size 0 = a.files := by simp [reI]
theorem reI_end (a : A) (size : Int) : reI a size a.files.length = a.files.map (reF a size) := by simp [reI]
theorem reI_at {a : A} {size : Int} {m : Nat} (h : m < a.files.length) : fa (reI a size m) m = fa a.files m ∧ reI a size (m + 1) = (reI a size m).take m ++ reF a size (fa a.files m) :: (reI a size m).drop (m + 1) := by
  have hl : ((a.files.take m).map (reF a size)).length = m := by rw [List.length_map, List.length_take]; omega
  unfold reI
  rw [drop_fa h, take_succ' h, List.map_append]
  generalize (a.files.take m).map (reF a size) = P at *
  generalize fa a.files m = f at *
  subst hl
  constructor
  · simp [fa]
  · simp
theorem txs_none {a : A} (h : chk a = 0) : Tr.many (txs a) = false := by
  obtain ⟨h1, h2⟩ := txs_many h
  unfold Tr.many
  rw [Bool.or_eq_false_iff]
  refine ⟨decide_eq_false (by omega), ?_⟩
  have : ∀ k, Tr.lgK (txs a) k = none := by
    intro k
    induction k with
    | zero => rfl
    | succ k ih =>
      rw [Tr.lgK, ih]
      simp only
      rw [if_neg]
      by_cases hk : k < (txs a).length
      · have : Tr.xa (txs a) k = (txs a)[k] := by simp [Tr.xa, hk]
        rw [this]
        have := h2 _ (List.getElem_mem hk)
        omega
      · have : Tr.xa (txs a) k = ⟨#[]⟩ := by simp [Tr.xa, hk]
        rw [this]
        show ¬ 512 < 0
        omega
  rw [this]; rfl
end Ar
theorem own_at {w : World} {lo g cap i : Nat} {fs : List Ar.F} (h : w.ownsRow lo 46 5 (.slice (some ⟨g, 0, none⟩) fs.length cap) fs.length (fcs fs)) (hi : i < fs.length) : (∀ j, j < 5 → w.cell? ⟨g, i * 5 + j, none⟩ = (fc (Ar.fa fs i))[j]?) ∧ ∀ o, w.frozen? ⟨g, o, none⟩ = false := by
  have hcl := fcs_len fs
  rcases h.2 with ⟨h1, h2⟩ | ⟨g', cap', cur, h1, h2, h3, h4, h5, h6, h7⟩
  · omega
  simp only [Value.slice.injEq, Option.some.injEq, Addr.mk.injEq] at h1
  obtain ⟨⟨rfl, _⟩, _, rfl⟩ := h1
  refine ⟨fun j hj => ?_, frozenB h3⟩
  rw [cellB h3, ← Array.getElem?_toList]
  have e1 : cur.toList[i * 5 + j]? = (fcs fs)[i * 5 + j]? := by rw [← h7, List.getElem?_take, if_pos (by omega)]
  have e2 : fs = fs.take i ++ Ar.fa fs i :: fs.drop (i + 1) := by
    have e3 : Ar.fa fs i = fs[i] := by simp [Ar.fa, hi]
    rw [e3, ← List.drop_eq_getElem_cons hi, List.take_append_drop]
  rw [e1, e2, fcs_append, List.getElem?_append_right (by rw [fcs_len, List.length_take]; omega), fcs_len, List.length_take, show i * 5 + j - min i fs.length * 5 = j by omega, fcs, List.getElem?_append_left (by simp; omega), ← e2]
  rfl
theorem CpS.set5 {w0 wr : World} {C lo g cap n1 i : Nat} {v1 : Value} {xs1 : List Value} {fs : List Ar.F} (f : Ar.F) (h : CpS w0 wr C lo v1 (.slice (some ⟨g, 0, none⟩) fs.length cap) n1 fs.length xs1 (fcs fs)) (hi : i < fs.length) :
    CpS w0 (w5s wr g (i * 5) (.string f.name) (.int .i64 f.dict) (.int .i64 f.size) (.int .i64 f.sum) (.string f.blk)) C lo v1 (.slice (some ⟨g, 0, none⟩) fs.length cap) n1 fs.length xs1 (fcs (fs.take i ++ f :: fs.drop (i + 1))) := by
  have r1 := own_set5 f h.o2 hi
  have hsg := w5s_grown wr g (i * 5) (.string f.name) (.int .i64 f.dict) (.int .i64 f.size) (.int .i64 f.sum) (.string f.blk)
  have hgC : some C ≠ some g := fun e => h.a2 (show some g = some C from e.symm)
  have hg := (h.o2.lt g rfl).1
  refine ⟨cell_keep hsg h.c0 hgC, cell_keep hsg h.c1 hgC, frozen_keep hsg h.hb h.f0 hgC, frozen_keep hsg h.hb h.f1 hgC, h.o1.kept hsg ?_, r1, h.ne, h.a1, h.a2, h.hC, Nat.lt_of_lt_of_le h.hb hsg.size, belowW5 h.bel g (i * 5) _ _ _ _ _ hg⟩
  cases hv : v1.ownBlock with
  | none => exact .inl rfl
  | some j => exact .inr (fun e => h.ne j hv e.symm)
end Go.Proofs.YtbjbjbpgmojcbabGreat
namespace Go.Proofs.YtbjbjbpgmojcbabGreat
open Go.RowKit
theorem ArOwn.hand {lo : Nat} {w : World} {v1 v2 : Value} {a : Ar.A} (h : ArOwn lo w v1 v2 a) : ∃ ad cd af cf, (.agg #[v1, v2] : Value) = av ad cd af cf a ∧ ArV w ad af a := by
  obtain ⟨ad, cd, rfl, _, hfar⟩ := tx_owns h.o1
  have o2 := h.o2
  rcases h.o2.2 with ⟨rfl, h2⟩ | ⟨g, cap, cur, rfl, h2, h3, _⟩
  · have e : a.files = [] := List.length_eq_zero_iff.1 h2
    exact ⟨ad, cd, none, 0, by unfold av; rw [h2], TxFar.sl hfar, .inl e⟩
  · refine ⟨ad, cd, some ⟨g, 0, none⟩, cap, rfl, TxFar.sl hfar, .inr ⟨g, 0, rfl, Array.getElem?_eq_some_iff.1 h3 |>.1, fun i hi => ?_⟩⟩
    obtain ⟨hat, _⟩ := own_at o2 hi
    rw [Nat.zero_add]
    exact ⟨hat 0 (by omega), hat 1 (by omega), hat 2 (by omega), hat 3 (by omega), hat 4 (by omega)⟩
theorem sane_of {a : Ar.A} (h1 : a.dicts.length ≤ 8796093022208) (h2 : a.files.length ≤ 8796093022208) (h3 : ∀ d ∈ a.dicts, d.size ≤ 140737488355328) (h4 : ∀ f ∈ a.files, f.name.size ≤ 140737488355328 ∧ f.blk.size ≤ 140737488355328) : SaneA a := by
  have hf : ∀ i, (Ar.fa a.files i).name.size ≤ 140737488355328 ∧ (Ar.fa a.files i).blk.size ≤ 140737488355328 := fun i => by
    by_cases hi : i < a.files.length
    · rw [Ar.fa_get hi]; exact h4 _ (List.getElem_mem hi)
    · have e : Ar.fa a.files i = Ar.fz := by simp [Ar.fa, hi]
      rw [e]; exact ⟨Nat.zero_le _, Nat.zero_le _⟩
  refine ⟨h1, h2, fun i => ?_, fun i => (hf i).1, fun i => (hf i).2⟩
  by_cases hi : i < a.dicts.length
  · have e : Tr.xa a.dicts i = a.dicts[i] := by simp [Tr.xa, hi]
    rw [e]; exact h3 _ (List.getElem_mem hi)
  · have e : Tr.xa a.dicts i = ⟨#[]⟩ := by simp [Tr.xa, hi]
    rw [e]; exact Nat.zero_le _
theorem SaneA.mem {a : Ar.A} (h : SaneA a) : (∀ d ∈ a.dicts, d.size ≤ 140737488355328) ∧ ∀ f ∈ a.files, f.name.size ≤ 140737488355328 ∧ f.blk.size ≤ 140737488355328 := by
  constructor
  · intro d hd
    obtain ⟨i, hi, rfl⟩ := List.getElem_of_mem hd
    have := h.ds i
    simpa [Tr.xa, hi] using this
  · intro f hf
    obtain ⟨i, hi, rfl⟩ := List.getElem_of_mem hf
    have h1 := h.nm i
    have h2 := h.bk i
    rw [Ar.fa_get hi] at h1 h2
    exact ⟨h1, h2⟩
theorem sane_az : SaneA Ar.az := sane_of (by decide) (by decide) (fun d hd => by cases hd) (fun f hf => by cases hf)
theorem putE_zero {a : Ar.A} {name text : ByteArray} {dict : Int} (h : Ar.putE a name text dict = 0) : Ar.chk a = 0 ∧ Ar.isNm name = true ∧ Ar.has a.dicts dict = true ∧ text.size ≤ 512 := by
  unfold Ar.putE at h
  by_cases hc : Ar.chk a = 0
  · rw [if_neg (fun h9 => h9 hc)] at h
    cases hm : Ar.isNm name with
    | false => rw [if_pos hm] at h; cases h
    | true =>
      rw [if_neg (by rw [hm]; decide)] at h
      cases hd : Ar.has a.dicts dict with
      | false => rw [if_pos hd] at h; cases h
      | true =>
        rw [if_neg (by rw [hd]; decide)] at h
        refine ⟨hc, rfl, rfl, ?_⟩
        by_cases hl : 512 < text.size
        · rw [if_pos (.inl hl)] at h; cases h
        · omega
  · rw [if_pos hc] at h; exact absurd h hc
theorem SaneA.put {a : Ar.A} (h : SaneA a) {name text : ByteArray} {dict : Int} (hn : name.size ≤ 140737488355328) : SaneA (Ar.putA a name text dict) := by
  by_cases he : Ar.putE a name text dict = 0
  · obtain ⟨hc, _, _, ht⟩ := putE_zero he
    obtain ⟨m1, m2, m3⟩ := Ar.many_iff.1 (Ar.chk_zero.1 hc).1
    have e : Ar.putA a name text dict = ⟨a.dicts, Ar.putF a.files (Ar.pk a.dicts name text dict)⟩ := by unfold Ar.putA; rw [if_pos he]
    rw [e]
    have hb : (Ar.pk a.dicts name text dict).blk.size ≤ 513 := by
      have := (Bk.unp_pak (Ar.dct_size (Ar.chk_zero.1 hc).1 dict) ht).2.2
      show (Bk.pak (Ar.dct a.dicts dict) text).1.size ≤ 513
      omega
    have hp := Ar.pos_le a.files name
    refine sane_of (by show a.dicts.length ≤ _; omega) ?_ h.mem.1 (fun f hf => ?_)
    · show (Ar.putF a.files (Ar.pk a.dicts name text dict)).length ≤ _
      unfold Ar.putF
      rw [List.length_append, List.length_cons, List.length_take, List.length_drop]
      omega
    · have hf' : f ∈ Ar.putF a.files (Ar.pk a.dicts name text dict) := hf
      unfold Ar.putF at hf'
      rcases List.mem_append.1 hf' with hf' | hf'
      · exact h.mem.2 f (List.mem_of_mem_take hf')
      · rcases List.mem_cons.1 hf' with rfl | hf'
        · exact ⟨hn, by omega⟩
        · exact h.mem.2 f (List.mem_of_mem_drop hf')
  · have e : Ar.putA a name text dict = Ar.az := by unfold Ar.putA; rw [if_neg he]
    rw [e]; exact sane_az
theorem SaneA.drop {a : Ar.A} (h : SaneA a) (name : ByteArray) : SaneA (Ar.dropA a name) := by
  unfold Ar.dropA
  split
  · refine sane_of h.nd ?_ h.mem.1 (fun f hf => ?_)
    · show (a.files.take _ ++ a.files.drop _).length ≤ _
      rw [List.length_append, List.length_take, List.length_drop]
      have := h.nf
      omega
    · have hf' : f ∈ a.files.take (Ar.pos a.files name) ++ a.files.drop (Ar.pos a.files name + 1) := hf
      rcases List.mem_append.1 hf' with hf' | hf'
      · exact h.mem.2 f (List.mem_of_mem_take hf')
      · exact h.mem.2 f (List.mem_of_mem_drop hf')
  · exact sane_az
theorem SaneA.cmp {a : Ar.A} (h : SaneA a) : SaneA (Ar.cmpA a) := by
  unfold Ar.cmpA
  split
  · refine sane_of ?_ (by show (a.files.map _).length ≤ _; rw [List.length_map]; exact h.nf) (fun d hd => h.mem.1 d (Ar.cpD_mem (Nat.le_refl _) hd)) (fun f hf => ?_)
    · show (Ar.cpD a a.dicts.length).length ≤ _
      rw [Ar.cpD_len]
      exact Nat.le_trans (Ar.rkK_le a _) h.nd
    · obtain ⟨f', hf', rfl⟩ := List.mem_map.1 hf
      rw [Ar.cpF_name, (Ar.cpF_parts a _ f').2.2]
      exact h.mem.2 f' hf'
  · exact sane_az
theorem SaneA.ret {a : Ar.A} (h : SaneA a) (size : Int) : SaneA (Ar.retA a size) := by
  by_cases he : Ar.retE a size = 0
  · obtain ⟨hc, _, _, _⟩ := Ar.retE_zero he
    have hmr := Ar.many_ret he
    obtain ⟨r1, r2, r3⟩ := Ar.many_iff.1 hmr
    rw [Ar.retA_is he]
    refine sane_of (Nat.le_trans r1 (by decide)) (by show (a.files.map _).length ≤ _; rw [List.length_map]; exact h.nf) (fun d hd => Nat.le_trans (r3 d hd) (by decide)) (fun f hf => ?_)
    obtain ⟨f', hf', rfl⟩ := List.mem_map.1 hf
    refine ⟨(h.mem.2 f' hf').1, ?_⟩
    have := (Bk.unp_pak (Ar.dct_size hmr (a.dicts.length + 1 : Nat)) (Ar.tx_size hc hf')).2.2
    have ht := Ar.tx_size hc hf'
    show (Bk.pak (Ar.dct (Ar.retD a size) (a.dicts.length + 1 : Nat)) (Ar.tx a.dicts f')).1.size ≤ _
    have e : (Bk.pak (Ar.dct (Ar.retD a size) (a.dicts.length + 1 : Nat)) (Ar.tx a.dicts f')).1.size ≤ 513 := by
      have h9 : (Bk.pak (Ar.dct (⟨Ar.retD a size, a.files⟩ : Ar.A).dicts (a.dicts.length + 1 : Nat)) (Ar.tx a.dicts f')).1.size ≤ (Ar.tx a.dicts f').size + 1 := this
      exact Nat.le_trans h9 (by omega)
    omega
  · have e : Ar.retA a size = Ar.az := by unfold Ar.retA; rw [if_neg he]
    rw [e]; exact sane_az
end Go.Proofs.YtbjbjbpgmojcbabGreat
namespace Go.Proofs.YtbjbjbpgmojcbabGreat
namespace Ar
def tA : ByteArray := ⟨#[116, 104, 101, 32, 115, 97, 109, 101, 32, 119, 111, 114, 100, 115, 44, 32, 116, 104, 101, 32, 115, 97, 109, 101, 32, 119, 111, 114, 100, 115]⟩
def tB : ByteArray := ⟨#[116, 104, 101, 32, 115, 97, 109, 101, 32, 119, 111, 114, 100, 115, 44, 32, 111, 114, 32, 111, 116, 104, 101, 114, 115]⟩
def A1 : A := putA az ⟨#[97]⟩ tA 0
def A2 : A := putA A1 ⟨#[98]⟩ tB 0
def A3 : A := retA A2 32
theorem e1 : putE az ⟨#[97]⟩ tA 0 = 0 := by kernel_rfl
theorem e2 : putE A1 ⟨#[98]⟩ tB 0 = 0 := by kernel_rfl
theorem e3 : retE A2 32 = 0 := by kernel_rfl
end Ar
end Go.Proofs.YtbjbjbpgmojcbabGreat
namespace Go.Proofs.YtbjbjbpgmojcbabGreat
namespace Ar
theorem c3 : chk A3 = 0 := chk_ret e3
theorem d3 : A3.dicts.length = 1 := by kernel_rfl
theorem x3 : (Tr.xa A3.dicts 0).size = 32 := by kernel_rfl
theorem d4 : (cmpA (dropA A3 ⟨#[97]⟩)).dicts.length = 1 := by kernel_rfl
theorem p3 : (putA A3 ⟨#[99]⟩ ⟨#[]⟩ 0).files.length = 3 := by kernel_rfl
theorem p3e : putE A3 ⟨#[99]⟩ ⟨#[]⟩ 0 = 0 := by kernel_rfl
theorem n4 : decide (32 < szN (cmpA (dropA A3 ⟨#[97]⟩))) = true := by kernel_rfl
end Ar
end Go.Proofs.YtbjbjbpgmojcbabGreat
namespace Go.Proofs.YtbjbjbpgmojcbabGreat
open Go.RowKit
namespace Tr
def fnK (L : List ByteArray) (d : ByteArray) : Nat → Option Nat
  | 0 => none
  | k + 1 => match fnK L d k with
    | some i => some i
    | none => if st (xa L k) d = true then none else some k
theorem fnK_some {L : List ByteArray} {d : ByteArray} {k i : Nat} (h : fnK L d k = some i) : ∀ j, fnK L d (k + j) = some i := by
  intro j
  induction j with
  | zero => exact h
  | succ j ih => rw [← Nat.add_assoc, fnK, ih]
theorem fnK_spec {L : List ByteArray} {d : ByteArray} : ∀ {k : Nat}, match fnK L d k with
    | none => ∀ j, j < k → st (xa L j) d = true
    | some i => i < k ∧ st (xa L i) d = false ∧ ∀ j, j < i → st (xa L j) d = true
  | 0 => by intro j h; omega
  | k + 1 => by
    have ih := fnK_spec (L := L) (d := d) (k := k)
    rw [fnK]
    cases h : fnK L d k with
    | some i => rw [h] at ih; exact ⟨by have := ih.1; omega, ih.2⟩
    | none =>
      rw [h] at ih
      simp only at ih ⊢
      by_cases hs : st (xa L k) d = true
      · rw [if_pos hs]
        intro j hj
        by_cases e : j = k
        · subst e; exact hs
        · exact ih j (by omega)
      · rw [if_neg hs]
        exact ⟨by omega, by simpa using hs, ih⟩
def fix (L : List ByteArray) (d : ByteArray) : Int := match fnK L d L.length with | none => -1 | some i => (i : Int)
end Tr
set_option maxRecDepth 4000 in
set_option maxHeartbeats 1000000 in
theorem notIn_any (p d : ByteArray) (bx : Nat) (w : World) (hc : w.cell? ⟨bx, 0, none⟩ = some (.string d)) (hM : Mx w) (hd : d.size ≤ 4000000000) (hp : 0 < p.size) :
    Calls Tryz.prog 106 #[.string p, .pointer (some ⟨bx, 0, none⟩)] w fun e w' => e = .returned (.bool (!Tr.st p d)) ∧ w' = w := by
  have c1 := contains_any d p w hM hd hp
  generalize Tr.st p d = r at *
  go_enter Tryz.func106, Tryz.ntmps106
  go_wp2_with fail
  refine c1.mono ?_
  rintro e w2 ⟨rfl, rfl⟩
  go_wp2_with fail
  go_ret
  exact ⟨rfl, rfl⟩
set_option maxRecDepth 4000 in
set_option maxHeartbeats 1000000 in
theorem firstNot_some (L : List ByteArray) (d : ByteArray) (b off cap bx : Nat) (w : World) (hx : Tr.TxAt w b off L) (hn : L.length ≤ 100000) (hc : w.cell? ⟨bx, 0, none⟩ = some (.string d)) (hM : Mx w) (hd : d.size ≤ 4000000000) (hp : ∀ i, i < L.length → (Tr.xa L i).size = 4) :
    Calls Tryz.prog 105 #[.slice (some ⟨b, off, none⟩) L.length cap, .func (.func 106) #[] #[.pointer (some ⟨bx, 0, none⟩)]] w fun e w' => e = .returned (.int .i64 (Tr.fix L d)) ∧ w' = w := by
  have HX : Hid (∀ i, i < L.length → w.cell? ⟨b, off + i, none⟩ = some (.string (Tr.xa L i))) := hx.2
  have HP : Hid (∀ i, i < L.length → Calls Tryz.prog 106 #[.string (Tr.xa L i), .pointer (some ⟨bx, 0, none⟩)] w fun e w' => e = .returned (.bool (!Tr.st (Tr.xa L i) d)) ∧ w' = w) := fun i hi => notIn_any _ d bx w hc hM hd (by rw [hp i hi]; omega)
  clear hp hc hM hx
  obtain ⟨r, hr⟩ : ∃ r, Tr.fix L d = r := ⟨_, rfl⟩
  rw [hr]
  have Hr : Hid ((match Tr.fnK L d L.length with | none => (-1 : Int) | some i => (i : Int)) = r) := hr
  clear hr
  go_enter Tryz.func105, Tryz.ntmps105
  go_wp2_with fail
  go_loopw [8] (fun i wr => ∃ k : Nat, k ≤ L.length ∧ i = .int .i64 k ∧ Hid (Tr.fnK L d k = none) ∧ wr = w) (fun i _ => L.length - (intOf i).toNat)
  case atStart => exact ⟨0, by omega, rfl, rfl, rfl⟩
  case round =>
    obtain ⟨k, hk2, rfl, HL, rfl⟩ := hrel
    by_cases hlt : k < L.length
    · have d1 : decide ((k : Int) < (L.length : Int)) = true := by simp; omega
      have d1' : decide (k < L.length) = true := by simp; omega
      have hki : (k : Int) < (L.length : Int) := by omega
      have c1 := HX.out k hlt
      have c2 := HP.out k hlt
      cases hs : Tr.st (Tr.xa L k) d with
      | false =>
        have HN : Hid (Tr.fnK L d (k + 1) = some k) := by show _ = _; rw [Tr.fnK, HL.out]; simp only; rw [hs]; rfl
        have HR : Hid ((k : Int) = r) := by
          have h9 := Tr.fnK_some HN.out (L.length - (k + 1))
          rw [show k + 1 + (L.length - (k + 1)) = L.length by omega] at h9
          have := Hr.out
          rw [h9] at this
          exact this
        rw [hs] at c2
        generalize Tr.xa L k = X at *
        clear HN hs
        go_wp2_with fail
        refine c2.mono ?_
        rintro e w2 ⟨rfl, rfl⟩
        go_wp2_with fail
        go_ret
        exact ⟨congrArg (fun x => Ending.returned (Value.int .i64 x)) HR.out, rfl⟩
      | true =>
        have HN : Hid (Tr.fnK L d (k + 1) = none) := by show _ = _; rw [Tr.fnK, HL.out]; exact if_pos hs
        rw [hs] at c2
        generalize Tr.xa L k = X at *
        clear hs
        go_wp2_with fail
        refine c2.mono ?_
        rintro e w2 ⟨rfl, rfl⟩
        go_wp2_with fail
        go_roundw
        case rel => exact ⟨k + 1, by omega, by go_num, HN, by trivial⟩
        case measure => simp [intOf]; omega
    · obtain rfl : k = L.length := by omega
      have HR : Hid ((-1 : Int) = r) := by have := Hr.out; rw [HL.out] at this; exact this
      have d1 : decide ((L.length : Int) < (L.length : Int)) = false := by simp
      clear Hr
      go_wp2_with fail
      go_ret
      exact ⟨congrArg (fun x => Ending.returned (Value.int .i64 x)) HR.out, rfl⟩
set_option maxRecDepth 4000 in
set_option maxHeartbeats 1000000 in
theorem firstNot_nil (ad : Option Addr) (cap : Nat) (fv : Value) (w : World) :
    Calls Tryz.prog 105 #[.slice ad 0 cap, fv] w fun e w' => e = .returned (.int .i64 (-1)) ∧ w' = w := by
  go_enter Tryz.func105, Tryz.ntmps105
  go_wp2_with fail
  go_loopw [8] (fun i wr => i = .int .i64 0 ∧ wr = w) (fun i _ => 0)
  case atStart => exact ⟨rfl, rfl⟩
  case round =>
    obtain ⟨rfl, rfl⟩ := hrel
    go_wp2_with fail
    go_ret
    exact ⟨rfl, rfl⟩
theorem firstNot_any (lo : Nat) (L : List ByteArray) (d : ByteArray) (ad : Option Addr) (cap bx : Nat) (w : World) (hx : Tr.TxFar lo w ad L) (hn : L.length ≤ 100000) (hc : w.cell? ⟨bx, 0, none⟩ = some (.string d)) (hM : Mx w) (hd : d.size ≤ 4000000000) (hp : ∀ i, i < L.length → (Tr.xa L i).size = 4) :
    Calls Tryz.prog 105 #[.slice ad L.length cap, .func (.func 106) #[] #[.pointer (some ⟨bx, 0, none⟩)]] w fun e w' => e = .returned (.int .i64 (Tr.fix L d)) ∧ w' = w := by
  rcases hx with rfl | ⟨b, off, rfl, _, h2⟩
  · exact firstNot_nil ad cap _ w
  · exact firstNot_some L d b off cap bx w h2 hn hc hM hd hp
end Go.Proofs.YtbjbjbpgmojcbabGreat
namespace Go.Proofs.YtbjbjbpgmojcbabGreat
open Go.RowKit
namespace Tr
theorem TxFar.set {lo : Nat} {w : World} {ad : Option Addr} {xs : List ByteArray} (h : TxFar lo w ad xs) {bx : Nat} (hb : bx < lo) (v : Value) : TxFar lo (w.setCell ⟨bx, 0, none⟩ v) ad xs := by
  rcases h with h | ⟨b, off, h1, h2, h3⟩
  · exact .inl h
  · refine .inr ⟨b, off, h1, h2, by simpa using h3.1, fun i hi => ?_⟩
    exact (World.cell?_setCell_other w _ _ _ (by intro e; have := congrArg Addr.block e; simp at this; omega)).trans (h3.2 i hi)
theorem TxFar.drop {lo : Nat} {w : World} {b off : Nat} {xs : List ByteArray} (h2 : lo ≤ b) (h : TxAt w b off xs) (j : Nat) : TxFar lo w (some ⟨b, off + j, none⟩) (xs.drop j) := by
  refine .inr ⟨b, off + j, rfl, h2, h.1, fun i hi => ?_⟩
  rw [List.length_drop] at hi
  rw [show off + j + i = off + (j + i) by omega, h.2 (j + i) (by omega)]
  simp [xa]
def slen : Value → Nat
  | .slice _ n _ => n
  | _ => 0
theorem xa_get {L : List ByteArray} {i : Nat} (h : i < L.length) : xa L i = L[i] := by simp [xa, h]
theorem rk_step {xs pre P : List ByteArray} {d : ByteArray} (h : Rk xs (pre ++ P)) (hpre : ∀ p, p ∈ pre → st p d = true) {i : Nat} (hf : fnK P d P.length = some i) :
    i < P.length ∧ best xs d = xa P i ∧ (xa P i).size = 4 ∧ (∀ p, p ∈ pre ++ P.take (i + 1) → st p (xa P i ++ d) = true) := by
  have hs := fnK_spec (L := P) (d := d) (k := P.length)
  rw [hf] at hs
  obtain ⟨h1, h2, h3⟩ := hs
  have hm : xa P i ∈ pre ++ P := by rw [xa_get h1]; exact List.mem_append_right _ (List.getElem_mem h1)
  have h4 := ((h.2 _).1 hm).1
  refine ⟨h1, ?_, h4, ?_⟩
  · have hi : pre.length + i < (pre ++ P).length := by rw [List.length_append]; omega
    have e : (pre ++ P)[pre.length + i] = xa P i := by rw [xa_get h1, List.getElem_append_right (by omega)]; simp
    rw [← e]
    refine rk_first h hi (by rw [e]; exact h2) fun k hk => ?_
    by_cases hk2 : k < pre.length
    · rw [List.getElem_append_left hk2]; exact hpre _ (List.getElem_mem hk2)
    · rw [List.getElem_append_right (by omega), ← xa_get]; exact h3 _ (by omega)
  · intro p hp
    rw [List.mem_append] at hp
    rcases hp with hp | hp
    · exact st_append (hpre p hp)
    · obtain ⟨k, hk, rfl⟩ := List.mem_iff_getElem.1 hp
      rw [List.length_take] at hk
      rw [List.getElem_take, ← xa_get]
      by_cases e : k = i
      · subst e; exact st_own _ _
      · exact st_append (h3 k (by omega))
theorem rk_stop {xs pre P : List ByteArray} {d : ByteArray} (h : Rk xs (pre ++ P)) (hpre : ∀ p, p ∈ pre → st p d = true) (hf : fnK P d P.length = none) : (best xs d).size = 0 := by
  have hs := fnK_spec (L := P) (d := d) (k := P.length)
  rw [hf] at hs
  refine rk_none h fun k hk => ?_
  by_cases hk2 : k < pre.length
  · rw [List.getElem_append_left hk2]; exact hpre _ (List.getElem_mem hk2)
  · rw [List.length_append] at hk
    rw [List.getElem_append_right (by omega), ← xa_get]; exact hs _ (by omega)
theorem many_false {xs : List ByteArray} (h : many xs = false) : xs.length ≤ 12 ∧ ∀ i, (xa xs i).size ≤ 512 := by
  rw [many, Bool.or_eq_false_iff, decide_eq_false_iff_not] at h
  refine ⟨by omega, fun i => ?_⟩
  apply Nat.le_of_not_lt
  intro hlt
  by_cases hi : i < xs.length
  · have : ∀ k, i < k → (lgK xs k).isSome = true := by
      intro k hk
      induction k with
      | zero => omega
      | succ k ih =>
        rw [lgK]
        by_cases e : i = k
        · subst e
          cases lgK xs i with
          | some _ => rfl
          | none => simp only; rw [if_pos hlt]; rfl
        · have := ih (by omega)
          cases hq : lgK xs k with
          | some _ => rfl
          | none => rw [hq] at this; cases this
    rw [this _ hi] at h
    cases h.2
  · have : xa xs i = ⟨#[]⟩ := by simp [xa, show xs.length ≤ i by omega]
    rw [this] at hlt
    have : (⟨#[]⟩ : ByteArray).size = 0 := rfl
    omega
end Tr
set_option maxRecDepth 4000 in
set_option maxHeartbeats 4000000 in
theorem train_ok (xs : List ByteArray) (size : Int) (ad : Option Addr) (cap : Nat) (w : World) (hx : TxSl w ad xs) (hB : ∀ i, (Tr.xa xs i).size ≤ 140737488355328) (hM : Mx w) (hm : Tr.many xs = false) (h0 : 0 ≤ size) (h1 : size ≤ 256) :
    Calls Tryz.prog 66 #[.slice ad xs.length cap, .int .i64 size] w fun e w' => e = .returned (.tuple #[.string (Tr.trn xs size.toNat), .int .i64 0]) ∧ Below w.heap.size w w' := by
  obtain ⟨hn, hX⟩ := Tr.many_false hm
  have c1 := tooMany_any xs ad cap w hx hB
  rw [hm] at c1
  have HR : Hid (∀ w', Below w.heap.size w w' → Calls Tryz.prog 104 #[.slice ad xs.length cap] w' fun e w2 => ∃ ad' cap' L, e = .returned (.slice ad' (L : List ByteArray).length cap') ∧ L.length ≤ cap' ∧ L.length ≤ 6144 ∧ Tr.TxFar w'.heap.size w2 ad' L ∧ Tr.Rk xs L ∧ Below w'.heap.size w' w2) := fun w' hb => ranked_any xs ad cap w' (hx.below hb) hn hX (hM.below hb)
  have HM : Hid (∀ w', Below w.heap.size w w' → Mx w') := fun w' hb => hM.below hb
  have d1 : decide (size < 0) = false := decide_eq_false (by omega)
  have d2 : decide ((256 : Int) < size) = false := decide_eq_false (by omega)
  have HG := Tr.trn_good xs size.toNat
  obtain ⟨R, hR⟩ : ∃ R, Tr.trn xs size.toNat = R := ⟨_, rfl⟩
  rw [hR] at HG ⊢
  have HR0 : Hid (Tr.tro xs size.toNat 65 ⟨#[]⟩ = R) := hR
  have hRs : R.size ≤ 256 := by have := HG.most; omega
  clear hX hx hB hM hm hR HG
  go_enter Tryz.func66, Tryz.ntmps66
  go_wp2_with fail
  refine c1.mono ?_
  rintro e w1 ⟨rfl, B1⟩
  clear c1
  have c2 := HR.out (w1.alloc (.cells #[.string ⟨#[]⟩] 9 (0, 0))) (B1.alloc B1.size _)
  go_wp2_with fail
  refine c2.mono ?_
  rintro e w2 ⟨ad', cap', L, rfl, hLc, hL6, hT, hRk, B2⟩
  clear c2 HR
  have hcx : w2.cell? ⟨w1.heap.size, 0, none⟩ = some (.string ⟨#[]⟩) := by
    rw [B2.cell (p := ⟨w1.heap.size, 0, none⟩) (by simp)]
    exact cell_one_new _ _ _ 0 _ rfl
  have hfx : w2.frozen? ⟨w1.heap.size, 0, none⟩ = false := by
    rw [B2.frozen (p := ⟨w1.heap.size, 0, none⟩) (by simp)]
    exact World.frozen?_alloc_at _ _ _ _ rfl
  have B3 : Below w.heap.size w w2 := bch (B1.alloc B1.size (.cells #[.string ⟨#[]⟩] 9 (0, 0))) B2 (Nat.le_refl _)
  have hlo : w1.heap.size < (w1.alloc (.cells #[.string ⟨#[]⟩] 9 (0, 0))).heap.size := by simp
  have hwb := B1.size
  generalize (w1.alloc (.cells #[.string ⟨#[]⟩] 9 (0, 0))).heap.size = lo at *
  generalize w1.heap.size = bx at *
  clear B1 B2
  have HRk : Hid (Tr.Rk xs L) := hRk
  clear hRk
  go_wp2_with fail
  go_loopw [7] (fun v wr => ∃ (pre P : List ByteArray) (d : ByteArray) (f : Nat) (ad2 : Option Addr) (c : Nat), v = .slice ad2 P.length c ∧ P.length ≤ c ∧ P.length ≤ 6144 ∧ Hid (pre ++ P = L) ∧ Tr.TxFar lo wr ad2 P ∧ Hid (∀ p, p ∈ pre → Tr.st p d = true) ∧ Hid (Tr.tro xs size.toNat f d = R) ∧ Hid (4 * f + d.size = 260) ∧ d.size ≤ 256 ∧ wr.cell? ⟨bx, 0, none⟩ = some (.string d) ∧ wr.frozen? ⟨bx, 0, none⟩ = false ∧ Below w.heap.size w wr)
    (fun v _ => Tr.slen v)
  case atStart => exact ⟨[], L, ⟨#[]⟩, 65, ad', cap', rfl, hLc, hL6, rfl, hT, (fun p hp => by cases hp), HR0, rfl, by decide, hcx, hfx, B3⟩
  case round =>
    clear hcx hfx hT B3 hLc hL6
    obtain ⟨pre, P, d, f, ad2, c, rfl, hPc, hP6, HPL, hT, Hpre, HRd, Hf, hd, hcx, hfx, B3⟩ := hrel
    by_cases hfit : (d.size : Int) + 4 ≤ size
    · have e1 : decide ((d.size : Int) + 4 ≤ size) = true := decide_eq_true hfit
      have hrk : Tr.Rk xs (pre ++ P) := by rw [HPL.out]; exact HRk.out
      have hp4 : ∀ i, i < P.length → (Tr.xa P i).size = 4 := fun i hi => ((hrk.2 _).1 (List.mem_append_right _ (by rw [Tr.xa_get hi]; exact List.getElem_mem hi))).1
      have c3 := firstNot_any lo P d ad2 c bx wr hT (by omega) hcx (HM.out _ B3) (by omega) hp4
      unfold Tr.fix at c3
      cases hq : Tr.fnK P d P.length with
      | none =>
        rw [hq] at c3
        simp only at c3
        have HN : Hid (d = R) := by
          have h9 := HRd.out
          rw [Tr.tro_none (Tr.rk_stop hrk Hpre.out hq)] at h9
          exact h9
        clear hq hp4 hrk
        have c4 := fun w => clone_any d w (by omega)
        go_wp2_with fail
        refine c3.mono ?_
        rintro e w3 ⟨rfl, rfl⟩
        go_wp2_with fail
        refine (c4 _).mono ?_
        rintro e w4 ⟨rfl, G⟩
        go_wp2_with fail
        go_ret2
        exact ⟨by rw [HN.out]; rfl, bch B3 G (Nat.le_refl _)⟩
      | some i =>
        rw [hq] at c3
        simp only at c3
        obtain ⟨h2, h3, h4, h5⟩ := Tr.rk_step hrk Hpre.out hq
        obtain ⟨g, rfl⟩ : ∃ g, f = g + 1 := ⟨f - 1, by have := Hf.out; omega⟩
        have HN : Hid (Tr.tro xs size.toNat g (Tr.xa P i ++ d) = R) := by
          have h9 := HRd.out
          rw [Tr.tro_step (by omega) (by rw [h3]; exact h4), h3] at h9
          exact h9
        have HPre2 : Hid (∀ p, p ∈ pre ++ P.take (i + 1) → Tr.st p (Tr.xa P i ++ d) = true) := h5
        have HPL2 : Hid (pre ++ P.take (i + 1) ++ P.drop (i + 1) = L) := by show _ = _; rw [List.append_assoc, List.take_append_drop]; exact HPL.out
        rcases hT with hT | ⟨b2, off2, rfl, hlo2, hTx⟩
        · rw [hT] at h2; simp at h2
        have cX := hTx.2 i h2
        have hXd : (Tr.xa P i ++ d).size = 4 + d.size := by rw [ByteArray.size_append, h4]
        have hT2 := Tr.TxFar.drop hlo2 hTx (i + 1)
        generalize Tr.xa P i = X at *
        have hii : (i : Int) < (P.length : Int) := by omega
        have hi0 : decide ((i : Int) < 0) = false := decide_eq_false (by omega)
        have hi6 : (i : Int) ≤ 6144 := by omega
        have hXs : X.size ≤ 4 := by omega
        clear hq hp4 hrk HRd Hpre HPL h3 h5 hTx
        go_wp2_with fail
        refine c3.mono ?_
        rintro e w3 ⟨rfl, rfl⟩
        go_wp2_with fail
        go_region
        have hT3 := (hT2.set hlo (.string (X ++ d)))
        have hc3 : (w3.setCell ⟨bx, 0, none⟩ (.string (X ++ d))).cell? ⟨bx, 0, none⟩ = some (.string (X ++ d)) := World.cell?_setCell_same _ _ _ hcx
        have hf3 : (w3.setCell ⟨bx, 0, none⟩ (.string (X ++ d))).frozen? ⟨bx, 0, none⟩ = false := by rw [World.frozen?_setCell]; exact hfx
        have B4 : Below w.heap.size w (w3.setCell ⟨bx, 0, none⟩ (.string (X ++ d))) := B3.setCell hwb _
        have HD : Hid ((P.drop (i + 1)).length = P.length - (i + 1)) := List.length_drop ..
        have hlP : ((i : Int) + 1) ≤ (P.length : Int) := by omega
        have hlc : (P.length : Int) ≤ (c : Int) := by omega
        by_cases hce : i + 1 = c
        · subst hce
          obtain hPl : P.length = i + 1 := by omega
          go_wp2_with fail
          go_roundw
          case rel => exact ⟨pre ++ P.take (i + 1), [], X ++ d, g, _, 0, rfl, Nat.le_refl _, by simp, by have h9 := HPL2.out; rw [List.drop_of_length_le (by omega : P.length ≤ i + 1)] at h9; exact h9, .inl rfl, HPre2, HN, by have := Hf.out; show 4 * g + _ = 260; omega, by omega, hc3, hf3, B4.drew⟩
          case measure => simp [Tr.slen]; omega
        · have hce' : ¬ ((i : Int) + 1 = (c : Int)) := by omega
          go_wp2_with fail
          go_roundw
          case rel => exact ⟨pre ++ P.take (i + 1), P.drop (i + 1), X ++ d, g, _, c - (i + 1), by rw [HD.out], by rw [HD.out]; omega, by rw [HD.out]; omega, HPL2, hT3, HPre2, HN, by have := Hf.out; show 4 * g + _ = 260; omega, by omega, hc3, hf3, B4.drew⟩
          case measure => simp [Tr.slen]; omega
    · have e1 : decide ((d.size : Int) + 4 ≤ size) = false := decide_eq_false hfit
      have HN : Hid (d = R) := by
        have h9 := HRd.out
        rw [Tr.tro_full (by omega)] at h9
        exact h9
      have c4 := fun w => clone_any d w (by omega)
      go_wp2_with fail
      refine (c4 _).mono ?_
      rintro e w4 ⟨rfl, G⟩
      go_wp2_with fail
      go_ret2
      exact ⟨by rw [HN.out]; rfl, bch B3 G (Nat.le_refl _)⟩
set_option maxRecDepth 4000 in
set_option maxHeartbeats 1000000 in
theorem train_many (xs : List ByteArray) (size : Int) (ad : Option Addr) (cap : Nat) (w : World) (hx : TxSl w ad xs) (hB : ∀ i, (Tr.xa xs i).size ≤ 140737488355328) (hm : Tr.many xs = true) :
    Calls Tryz.prog 66 #[.slice ad xs.length cap, .int .i64 size] w fun e w' => e = .returned (.tuple #[.string ⟨#[]⟩, .int .i64 2]) ∧ Below w.heap.size w w' := by
  have c1 := tooMany_any xs ad cap w hx hB
  rw [hm] at c1
  clear hB hm hx
  go_enter Tryz.func66, Tryz.ntmps66
  go_wp2_with fail
  refine c1.mono ?_
  rintro e w1 ⟨rfl, B1⟩
  go_wp2_with fail
  go_ret2
  exact ⟨rfl, B1⟩
set_option maxRecDepth 4000 in
set_option maxHeartbeats 1000000 in
theorem train_range (xs : List ByteArray) (size : Int) (ad : Option Addr) (cap : Nat) (w : World) (hx : TxSl w ad xs) (hB : ∀ i, (Tr.xa xs i).size ≤ 140737488355328) (hm : Tr.many xs = false) (h : size < 0 ∨ 256 < size) :
    Calls Tryz.prog 66 #[.slice ad xs.length cap, .int .i64 size] w fun e w' => e = .returned (.tuple #[.string ⟨#[]⟩, .int .i64 3]) ∧ Below w.heap.size w w' := by
  have c1 := tooMany_any xs ad cap w hx hB
  rw [hm] at c1
  clear hB hm hx
  by_cases h0 : size < 0
  · have d1 : decide (size < 0) = true := decide_eq_true h0
    clear h
    go_enter Tryz.func66, Tryz.ntmps66
    go_wp2_with fail
    refine c1.mono ?_
    rintro e w1 ⟨rfl, B1⟩
    go_wp2_with fail
    go_ret2
    exact ⟨rfl, B1⟩
  · have d1 : decide (size < 0) = false := decide_eq_false h0
    have h2 : 256 < size := by omega
    have d2 : decide ((256 : Int) < size) = true := decide_eq_true h2
    clear h
    go_enter Tryz.func66, Tryz.ntmps66
    go_wp2_with fail
    refine c1.mono ?_
    rintro e w1 ⟨rfl, B1⟩
    go_wp2_with fail
    go_ret2
    exact ⟨rfl, B1⟩
namespace Tr
def tnE (xs : List ByteArray) (size : Int) : Int := if many xs = true then 2 else if 0 ≤ size ∧ size ≤ 256 then 0 else 3
def tnD (xs : List ByteArray) (size : Int) : ByteArray := if tnE xs size = 0 then trn xs size.toNat else ⟨#[]⟩
end Tr
theorem train_any (xs : List ByteArray) (size : Int) (ad : Option Addr) (cap : Nat) (w : World) (hx : TxSl w ad xs) (hB : ∀ i, (Tr.xa xs i).size ≤ 140737488355328) (hM : Mx w) :
    Calls Tryz.prog 66 #[.slice ad xs.length cap, .int .i64 size] w fun e w' => e = .returned (.tuple #[.string (Tr.tnD xs size), .int .i64 (Tr.tnE xs size)]) ∧ Below w.heap.size w w' := by
  unfold Tr.tnD Tr.tnE
  cases hm : Tr.many xs with
  | true => simpa using train_many xs size ad cap w hx hB hm
  | false =>
    by_cases h : 0 ≤ size ∧ size ≤ 256
    · simpa [h] using train_ok xs size ad cap w hx hB hM hm h.1 h.2
    · simpa [h] using train_range xs size ad cap w hx hB hm (by omega)
end Go.Proofs.YtbjbjbpgmojcbabGreat
namespace Go.Proofs.YtbjbjbpgmojcbabGreat
open Go.RowKit
set_option maxRecDepth 4000 in
set_option maxHeartbeats 4000000 in
theorem retrain_chk (ad af : Option Addr) (cd cf : Nat) (a : Ar.A) (size : Int) (w : World) (h : ArV w ad af a) (hs : SaneA a) (hc : Ar.chk a ≠ 0) :
    Calls Tryz.prog 25 #[av ad cd af cf a, .int .i64 size] w fun e w' => ArSaid w Ar.az (Ar.chk a) e w' := by
  have C1 : Hid (∀ w', Below w.heap.size w w' → Calls Tryz.prog 61 #[av ad cd af cf a] w' fun e w2 => TxtSaid a w' e w2) := fun w' h9 => texts_any ad af cd cf a w' (h.below h9) hs
  have hQ : Hid (∀ w', Below w.heap.size w w' → ArSaid w Ar.az (Ar.chk a) (.returned (.tuple #[.agg #[.slice none 0 0, .slice none 0 0], .int .i64 (Ar.chk a)])) w') := fun w' h9 => said_nil h9
  generalize ArSaid w Ar.az (Ar.chk a) = Q at *
  unfold TxtSaid at C1
  unfold av at C1 ⊢
  generalize Ar.chk a = E at *
  generalize Ar.txs a = TX at *
  generalize a.dicts.length = D at *
  generalize a.files.length = N at *
  have e1 : (E != 0) = true := by simpa using hc
  have e2 : (E == 0) = false := by simpa using hc
  clear h hs
  go_enter Tryz.func25, Tryz.ntmps25
  go_wp2_with fail
  refine (C1.out _ (Fr.start w _ _).b).mono ?_
  rintro e w1 ⟨adt, capt, L, rfl, _, _, _, _, G1⟩
  have F1 := (Fr.start w _ _).next G1
  clear G1
  obtain ⟨b, a0, a1, r0, r1, z0, z1, hz⟩ := id F1
  go_wp2_with fail
  rw [F1.zero]
  exact bodyPost_ret (v := .tuple #[.agg #[.slice none 0 0, .slice none 0 0], .int .i64 E]) (by simp [results, Tryz.results25, go_sem, F1.r0, F1.r1]) rfl (hQ.out _ F1.b)
set_option maxRecDepth 4000 in
set_option maxHeartbeats 4000000 in
theorem retrain_size (ad af : Option Addr) (cd cf : Nat) (a : Ar.A) (size : Int) (w : World) (h : ArV w ad af a) (hs : SaneA a) (hM : Mx w) (hc : Ar.chk a = 0) (hz : ¬ (0 ≤ size ∧ size ≤ 256)) :
    Calls Tryz.prog 25 #[av ad cd af cf a, .int .i64 size] w fun e w' => ArSaid w Ar.az 3 e w' := by
  have C1 : Hid (∀ w', Below w.heap.size w w' → Calls Tryz.prog 61 #[av ad cd af cf a] w' fun e w2 => TxtSaid a w' e w2) := fun w' h9 => texts_any ad af cd cf a w' (h.below h9) hs
  have hT := Ar.txs_many hc
  have C2 : Hid (∀ w' adt capt, Below w.heap.size w w' → TxSl w' adt (Ar.txs a) → Calls Tryz.prog 66 #[.slice adt (Ar.txs a).length capt, .int .i64 size] w' fun e w2 => e = .returned (.tuple #[.string ⟨#[]⟩, .int .i64 3]) ∧ Below w'.heap.size w' w2) := fun w' adt capt h8 h9 => by
    have := train_any (Ar.txs a) size adt capt w' h9 (fun i => by
      by_cases hi : i < (Ar.txs a).length
      · have e : Tr.xa (Ar.txs a) i = (Ar.txs a)[i] := by simp [Tr.xa, hi]
        rw [e]
        exact Nat.le_trans (hT.2 _ (List.getElem_mem hi)) (by decide)
      · have e : Tr.xa (Ar.txs a) i = ⟨#[]⟩ := by simp [Tr.xa, hi]
        rw [e]; exact Nat.zero_le _) (hM.below h8)
    have eE : Tr.tnE (Ar.txs a) size = 3 := by unfold Tr.tnE; rw [Ar.txs_none hc, if_neg (by decide), if_neg hz]
    have eD : Tr.tnD (Ar.txs a) size = ⟨#[]⟩ := by unfold Tr.tnD; rw [eE, if_neg (by decide)]
    rw [eE, eD] at this
    exact this
  have hQ : Hid (∀ w', Below w.heap.size w w' → ArSaid w Ar.az 3 (.returned (.tuple #[.agg #[.slice none 0 0, .slice none 0 0], .int .i64 3])) w') := fun w' h9 => said_nil h9
  generalize ArSaid w Ar.az 3 = Q at *
  unfold TxtSaid at C1
  rw [hc] at C1
  unfold av at C1 ⊢
  generalize Ar.txs a = TX at *
  generalize a.dicts.length = D at *
  generalize a.files.length = N at *
  clear h hs hM hc hz hT
  go_enter Tryz.func25, Tryz.ntmps25
  go_wp2_with fail
  refine (C1.out _ (Fr.start w _ _).b).mono ?_
  rintro e w1 ⟨adt, capt, L, rfl, _, hfar, hLx, _, G1⟩
  have hLT := hLx (by trivial)
  subst hLT
  have F1 := (Fr.start w _ _).next G1
  clear G1 hLx
  obtain ⟨b, a0, a1, r0, r1, z0, z1, hz⟩ := id F1
  have C2' := C2.out w1 adt capt b (TxFar.sl hfar)
  go_wp2_with fail
  refine C2'.mono ?_
  rintro e w2 ⟨rfl, G2⟩
  have F2 := F1.next G2
  clear b a0 a1 r0 r1 z0 z1 hz
  obtain ⟨b, a0, a1, r0, r1, z0, z1, hz⟩ := id F2
  go_wp2_with fail
  rw [F2.zero]
  exact bodyPost_ret (v := .tuple #[.agg #[.slice none 0 0, .slice none 0 0], .int .i64 3]) (by simp [results, Tryz.results25, go_sem, F2.r0, F2.r1]) rfl (hQ.out _ F2.b)
set_option maxRecDepth 4000 in
set_option maxHeartbeats 4000000 in
theorem retrain_full (ad af : Option Addr) (cd cf : Nat) (a : Ar.A) (size : Int) (w : World) (h : ArV w ad af a) (hs : SaneA a) (hM : Mx w) (hc : Ar.chk a = 0) (hz : 0 ≤ size ∧ size ≤ 256) (h4 : a.dicts.length = 4) :
    Calls Tryz.prog 25 #[av ad cd af cf a, .int .i64 size] w fun e w' => ArSaid w Ar.az 2 e w' := by
  have C1 : Hid (∀ w', Below w.heap.size w w' → Calls Tryz.prog 61 #[av ad cd af cf a] w' fun e w2 => TxtSaid a w' e w2) := fun w' h9 => texts_any ad af cd cf a w' (h.below h9) hs
  have hT := Ar.txs_many hc
  have C2 : Hid (∀ w' adt capt, Below w.heap.size w w' → TxSl w' adt (Ar.txs a) → Calls Tryz.prog 66 #[.slice adt (Ar.txs a).length capt, .int .i64 size] w' fun e w2 => e = .returned (.tuple #[.string (Tr.trn (Ar.txs a) size.toNat), .int .i64 0]) ∧ Below w'.heap.size w' w2) := fun w' adt capt h8 h9 => by
    have := train_any (Ar.txs a) size adt capt w' h9 (fun i => by
      by_cases hi : i < (Ar.txs a).length
      · have e : Tr.xa (Ar.txs a) i = (Ar.txs a)[i] := by simp [Tr.xa, hi]
        rw [e]
        exact Nat.le_trans (hT.2 _ (List.getElem_mem hi)) (by decide)
      · have e : Tr.xa (Ar.txs a) i = ⟨#[]⟩ := by simp [Tr.xa, hi]
        rw [e]; exact Nat.zero_le _) (hM.below h8)
    have eE : Tr.tnE (Ar.txs a) size = 0 := by unfold Tr.tnE; rw [Ar.txs_none hc, if_neg (by decide), if_pos hz]
    have eD : Tr.tnD (Ar.txs a) size = Tr.trn (Ar.txs a) size.toNat := by unfold Tr.tnD; rw [if_pos eE]
    rw [eE, eD] at this
    exact this
  have hQ : Hid (∀ w', Below w.heap.size w w' → ArSaid w Ar.az 2 (.returned (.tuple #[.agg #[.slice none 0 0, .slice none 0 0], .int .i64 2])) w') := fun w' h9 => said_nil h9
  generalize ArSaid w Ar.az 2 = Q at *
  unfold TxtSaid at C1
  rw [hc] at C1
  unfold av at C1 ⊢
  generalize Tr.trn (Ar.txs a) size.toNat = X at *
  generalize Ar.txs a = TX at *
  rw [h4] at C1 ⊢
  generalize a.files.length = N at *
  clear h hs hM hc hz hT h4
  go_enter Tryz.func25, Tryz.ntmps25
  go_wp2_with fail
  refine (C1.out _ (Fr.start w _ _).b).mono ?_
  rintro e w1 ⟨adt, capt, L, rfl, _, hfar, hLx, _, G1⟩
  have hLT := hLx (by trivial)
  subst hLT
  have F1 := (Fr.start w _ _).next G1
  clear G1 hLx
  obtain ⟨b, a0, a1, r0, r1, z0, z1, hz⟩ := id F1
  have C2' := C2.out w1 adt capt b (TxFar.sl hfar)
  go_wp2_with fail
  refine C2'.mono ?_
  rintro e w2 ⟨rfl, G2⟩
  have F2 := F1.next G2
  clear b a0 a1 r0 r1 z0 z1 hz
  obtain ⟨b, a0, a1, r0, r1, z0, z1, hz⟩ := id F2
  go_wp2_with fail
  rw [F2.zero]
  exact bodyPost_ret (v := .tuple #[.agg #[.slice none 0 0, .slice none 0 0], .int .i64 2]) (by simp [results, Tryz.results25, go_sem, F2.r0, F2.r1]) rfl (hQ.out _ F2.b)
end Go.Proofs.YtbjbjbpgmojcbabGreat
namespace Go.Proofs.YtbjbjbpgmojcbabGreat
open Go.RowKit
set_option maxRecDepth 8000 in
set_option maxHeartbeats 8000000 in
theorem retrain_ok (ad af : Option Addr) (cd cf : Nat) (a : Ar.A) (size : Int) (w : World) (h : ArV w ad af a) (hs : SaneA a) (hM : Mx w) (hE : Ar.retE a size = 0) :
    Calls Tryz.prog 25 #[av ad cd af cf a, .int .i64 size] w fun e w' => ArSaid w ⟨Ar.retD a size, a.files.map (Ar.reF a size)⟩ 0 e w' := by
  obtain ⟨hc, hzz1, hzz2, h4⟩ := Ar.retE_zero hE
  have hz : 0 ≤ size ∧ size ≤ 256 := ⟨hzz1, hzz2⟩
  obtain ⟨i0, hi, hz0, hz1, hz2⟩ := info_parts (P := Tryz.prog) (e := 9) (z := .string ⟨#[]⟩) (size := 1) (bytes := 16) (by kernel_rfl)
  obtain ⟨m1, m2, m3⟩ := Ar.many_iff.1 (Ar.chk_zero.1 hc).1
  have C1 : Hid (∀ w', Below w.heap.size w w' → Calls Tryz.prog 61 #[av ad cd af cf a] w' fun e w2 => TxtSaid a w' e w2) := fun w' h9 => texts_any ad af cd cf a w' (h.below h9) hs
  have hT := Ar.txs_many hc
  have C2 : Hid (∀ w' adt capt, Below w.heap.size w w' → TxSl w' adt (Ar.txs a) → Calls Tryz.prog 66 #[.slice adt (Ar.txs a).length capt, .int .i64 size] w' fun e w2 => e = .returned (.tuple #[.string (Tr.trn (Ar.txs a) size.toNat), .int .i64 0]) ∧ Below w'.heap.size w' w2) := fun w' adt capt h8 h9 => by
    have := train_any (Ar.txs a) size adt capt w' h9 (fun i => by
      by_cases hi : i < (Ar.txs a).length
      · have e : Tr.xa (Ar.txs a) i = (Ar.txs a)[i] := by simp [Tr.xa, hi]
        rw [e]
        exact Nat.le_trans (hT.2 _ (List.getElem_mem hi)) (by decide)
      · have e : Tr.xa (Ar.txs a) i = ⟨#[]⟩ := by simp [Tr.xa, hi]
        rw [e]; exact Nat.zero_le _) (hM.below h8)
    have eE : Tr.tnE (Ar.txs a) size = 0 := by unfold Tr.tnE; rw [Ar.txs_none hc, if_neg (by decide), if_pos hz]
    have eD : Tr.tnD (Ar.txs a) size = Tr.trn (Ar.txs a) size.toNat := by unfold Tr.tnD; rw [if_pos eE]
    rw [eE, eD] at this
    exact this
  have C6 : Hid (∀ w', Below w.heap.size w w' → Calls Tryz.prog 53 #[av ad cd af cf a] w' fun e w2 => ∃ v1 v2, e = .returned (.agg #[v1, v2]) ∧ ArOwn w'.heap.size w2 v1 v2 a ∧ Below w'.heap.size w' w2) := fun w' h9 => clone_arch ad af cd cf a w' (h.below h9) hs m1 m2
  have hmr := Ar.many_ret hE
  have hrl : (Ar.retD a size).length = a.dicts.length + 1 := by unfold Ar.retD; rw [List.length_append]; rfl
  have CP : Hid (∀ w' adx cdx afx cfx m, m < a.files.length → TxSl w' adx (Ar.retD a size) → Calls Tryz.prog 52 #[.agg #[.slice adx (a.dicts.length + 1) cdx, .slice afx a.files.length cfx], .string (Ar.fa a.files m).name, .string (Tr.xa (Ar.txs a) m), .int .i64 ((a.dicts.length : Int) + 1)] w' fun e w2 => e = .returned (.tuple #[.agg #[.string (Ar.reF a size (Ar.fa a.files m)).name, .int .i64 (Ar.reF a size (Ar.fa a.files m)).dict, .int .i64 (Ar.reF a size (Ar.fa a.files m)).size, .int .i64 (Ar.reF a size (Ar.fa a.files m)).sum, .string (Ar.reF a size (Ar.fa a.files m)).blk], .int .i64 0]) ∧ Below w'.heap.size w' w2) := fun w' adx cdx afx cfx m hm hx => by
    have hmem : Ar.fa a.files m ∈ a.files := by rw [Ar.fa_get hm]; exact List.getElem_mem hm
    have e : Tr.xa (Ar.txs a) m = Ar.tx a.dicts (Ar.fa a.files m) := by unfold Ar.txs; simp [Tr.xa, Ar.fa, hm]
    have := archPack_any adx afx cdx cfx ⟨Ar.retD a size, a.files⟩ (Ar.fa a.files m).name (Tr.xa (Ar.txs a) m) ((a.dicts.length : Int) + 1) w' hx (by show (Ar.retD a size).length ≤ 4; omega) (Ar.dct_size hmr _) (by show Ar.has (Ar.retD a size) _ = true; unfold Ar.has; rw [hrl]; exact decide_eq_true ⟨by omega, by omega⟩) (by rw [e]; exact Ar.tx_size hc hmem) (hs.nm m)
    unfold av at this
    simp only [hrl] at this
    rw [e] at this ⊢
    exact this
  have HQ : Hid (∀ v1 v2 w', w'.ownsRow w.heap.size 9 1 v1 (a.dicts.length + 1) (a.dicts.map Value.string ++ [.string (Tr.trn (Ar.txs a) size.toNat)]) → w'.ownsRow w.heap.size 46 5 v2 a.files.length (fcs (a.files.map (Ar.reF a size))) → (∀ j, v1.ownBlock = some j → v2.ownBlock ≠ some j) → Below w.heap.size w w' → ArSaid w ⟨Ar.retD a size, a.files.map (Ar.reF a size)⟩ 0 (.returned (.tuple #[.agg #[v1, v2], .int .i64 0])) w') := fun v1 v2 w' h1 h2 h3 h4 => ⟨v1, v2, rfl, ⟨by
      show w'.ownsRow _ _ _ _ (Ar.retD a size).length ((Ar.retD a size).map Value.string)
      have e : (Ar.retD a size).map Value.string = a.dicts.map Value.string ++ [.string (Tr.trn (Ar.txs a) size.toNat)] := by unfold Ar.retD; rw [List.map_append]; rfl
      rw [hrl, e]; exact h1, by show w'.ownsRow _ _ _ _ (a.files.map (Ar.reF a size)).length _; rw [List.length_map]; exact h2, h3⟩, h4⟩
  generalize ArSaid w ⟨Ar.retD a size, a.files.map (Ar.reF a size)⟩ 0 = Q at *
  have HTx : Hid (∀ lo w' ad' cap', w'.ownsRow lo 9 1 (.slice ad' (a.dicts.length + 1) cap') (a.dicts.length + 1) (a.dicts.map Value.string ++ [.string (Tr.trn (Ar.txs a) size.toNat)]) → TxSl w' ad' (Ar.retD a size)) := fun lo w' ad' cap' h1 => by
    have e : (Ar.retD a size).map Value.string = a.dicts.map Value.string ++ [.string (Tr.trn (Ar.txs a) size.toNat)] := by unfold Ar.retD; rw [List.map_append]; rfl
    rw [← hrl, ← e] at h1
    obtain ⟨ad2, cap2, e2, _, h5⟩ := tx_owns h1
    simp only [Value.slice.injEq] at e2
    obtain ⟨rfl, _, rfl⟩ := e2
    exact TxFar.sl h5
  have HI : Hid (∀ m, m < a.files.length → (Ar.reI a size m).length = a.files.length ∧ Ar.fa (Ar.reI a size m) m = Ar.fa a.files m ∧ fcs (Ar.reI a size (m + 1)) = fcs ((Ar.reI a size m).take m ++ Ar.reF a size (Ar.fa a.files m) :: (Ar.reI a size m).drop (m + 1))) := fun m hm => ⟨Ar.reI_len (Nat.le_of_lt hm), (Ar.reI_at hm).1, by rw [(Ar.reI_at hm).2]⟩
  have HIN : Hid (fcs (Ar.reI a size a.files.length) = fcs (a.files.map (Ar.reF a size))) := by show _ = _; rw [Ar.reI_end]
  have HA : Hid (∀ lo w' v1 v2, ArOwn lo w' v1 v2 a → w'.ownsRow lo 9 1 v1 a.dicts.length (a.dicts.map Value.string) ∧ w'.ownsRow lo 46 5 v2 a.files.length (fcs (Ar.reI a size 0)) ∧ (∀ j, v1.ownBlock = some j → v2.ownBlock ≠ some j)) := fun lo w' v1 v2 h9 => ⟨h9.o1, by rw [Ar.reI_zero]; exact h9.o2, h9.ne⟩
  have HTl : Hid ((Ar.txs a).length = a.files.length) := by show _ = _; unfold Ar.txs; rw [List.length_map]
  unfold TxtSaid at C1
  rw [hc] at C1
  unfold av at C1 C6 ⊢
  generalize hTX : Ar.txs a = TX at *
  generalize hXX : Tr.trn TX size.toNat = X at *
  have HXX : Hid (Tr.trn TX size.toNat = X) := hXX
  have xz : X.size ≤ 256 := by
    have := (Tr.trn_good TX size.toNat).most
    rw [hXX] at this
    omega
  clear hXX hTX
  generalize a.dicts.map Value.string = XS at *
  clear h hs hM hc hz hT hmr hrl m3 hE
  generalize a.dicts.length = D at *
  generalize a.files.length = N at *
  have hDi : (D : Int) ≤ 4 := by omega
  have hNi : (N : Int) ≤ 12 := by omega
  have d4 : ((D : Int) == 4) = false := by simp; omega
  have d4' : decide ((D : Int) = 4) = false := decide_eq_false (by omega)
  have d4'' : ¬ (D : Int) = 4 := by omega
  go_enter Tryz.func25, Tryz.ntmps25
  go_wp2_with fail
  refine (C1.out _ (Fr.start w _ _).b).mono ?_
  rintro e w1 ⟨adt, capt, L, rfl, _, hfar, hLx, _, G1⟩
  have hLT := hLx (by trivial)
  subst hLT
  have F1 := (Fr.start w _ _).next G1
  clear G1 hLx C1
  have hsl := TxFar.sl hfar
  obtain ⟨b, a0, a1, r0, r1, z0, z1, hz⟩ := id F1
  have C2' := C2.out w1 adt capt b hsl
  go_wp2_with fail
  refine C2'.mono ?_
  rintro e w2 ⟨rfl, G2⟩
  have F2 := F1.next G2
  have HX : Hid (∀ w', Below w2.heap.size w2 w' → ∀ m, m < N → ∃ b off, adt = some ⟨b, off, none⟩ ∧ b < w2.heap.size ∧ w'.cell? ⟨b, off + m, none⟩ = some (.string (Tr.xa L m))) := fun w' h9 m hm => by
    obtain ⟨b, off, e1, e2, e3⟩ := (hsl.below G2).at (i := m) (by rw [HTl.out]; exact hm)
    exact ⟨b, off, e1, e2, (h9.cell (p := ⟨b, off + m, none⟩) e2).trans e3⟩
  clear b a0 a1 r0 r1 z0 z1 hz C2 C2' hsl hfar G2 F1
  obtain ⟨b, a0, a1, r0, r1, z0, z1, hz⟩ := id F2
  go_wp2_with fail
  refine (C6.out _ F2.b).mono ?_
  rintro e w6 ⟨v1, v2, rfl, O6, G6⟩
  have F6 := F2.next G6
  obtain ⟨o1, o2, o3⟩ := HA.out _ _ _ _ O6
  have hlo : w.heap.size + 1 < w2.heap.size := F2.hz
  have hl0 : w2.heap.size ≤ w6.heap.size := G6.size
  have HX6 : Hid (∀ w', Below w2.heap.size w6 w' → ∀ m, m < N → ∃ b off, adt = some ⟨b, off, none⟩ ∧ b < w2.heap.size ∧ w'.cell? ⟨b, off + m, none⟩ = some (.string (Tr.xa L m))) := fun w' h9 m hm => HX.out w' (G6.trans h9) m hm
  generalize w2.heap.size = lo at o1 o2 hlo hl0 HX6
  clear G6 O6 HA b a0 a1 r0 r1 z0 z1 hz C6 HX F2
  obtain ⟨p1, q1, rfl, _⟩ := own_slice o1
  obtain ⟨p2, q2, rfl, _⟩ := own_slice o2
  obtain ⟨b, a0, a1, r0, r1, z0, z1, hz⟩ := id F6
  have hz6 : w.heap.size < w6.heap.size := by omega
  have S0 : CpS w6 (w6.alloc (.cells #[.slice p1 D q1, .slice p2 N q2] 25 (0, 0))) w6.heap.size lo (.slice p1 D q1) (.slice p2 N q2) D N XS (fcs (Ar.reI a size 0)) :=
    ⟨World.cell?_alloc_new _ _ _ 0, World.cell?_alloc_new _ _ _ 1, World.frozen?_alloc_at _ _ _ _ rfl, World.frozen?_alloc_at _ _ _ _ rfl, o1.alloc _, o2.alloc _, o3, fun e => by have := (o1.lt _ e).2; omega, fun e => by have := (o2.lt _ e).2; omega, hl0, by simp, (Below.refl _ _).alloc hl0 _⟩
  clear o1 o2 o3
  have hnw : ∀ j u, [Value.string X][j]? = some u → ((w6.alloc (.cells #[.slice p1 D q1, .slice p2 N q2] 25 (0, 0))).alloc (.cells #[.string X] 9 (0, 0))).cell? ((⟨w6.heap.size + 1, 0, none⟩ : Addr).add j) = some u := by
    intro j u hj
    rw [addr_add, (box2 w6 _ #[.string X] _ _).2]
    simpa using hj
  go_wp2_with (first
    | (at_builtin; refine wpList_append_lies _ rfl _ _ 22 rfl lo 9 i0 (.string ⟨#[]⟩) 1 16 Tryz.underlying22 hi hz0 hz1 hz2 rfl (by decide) (.slice p1 D q1) _ _ rfl (S0.o1.alloc _) ⟨w6.heap.size + 1, 0, none⟩ 1 1 [.string X] rfl rfl hnw (by simp [Value.oneCell']) (by decide) (by unfold maxLen; omega) (by omega) (by simp; omega) _ rfl ?_; intro g cp w5 hown5 hgrow5 hat5 hlt5; obtain ⟨⟨⟨qq1, qq2⟩, S5⟩, K5⟩ := S0.put1 hgrow5 hown5 hat5; have c15 := S5.c1; clear hgrow5 hown5 hat5 hlt5 K5)
    | fail)
  clear S0 hnw c15 qq1 qq2 b a0 a1 r0 r1 z0 z1 hz
  generalize (w5.setCell ⟨w6.heap.size, 0, none⟩ (.slice (some ⟨g, 0, none⟩) (D + 1) cp)) = wq at *
  generalize w6.heap.size = C at *
  go_loopw [47] (fun i wr => ∃ m : Nat, m ≤ N ∧ i = .int .i64 m ∧ CpS w6 wr C lo (.slice (some ⟨g, 0, none⟩) (D + 1) cp) (.slice p2 N q2) (D + 1) N (XS ++ [.string X]) (fcs (Ar.reI a size m))) (fun i _ => N - (intOf i).toNat)
  case atStart => exact ⟨0, by omega, rfl, S5⟩
  case round =>
    clear S5
    obtain ⟨m, hm2, rfl, S6⟩ := hrel
    have F7 := F6.keep S6.bel hlo
    by_cases hlt : m < N
    · have d2 : decide ((m : Int) < (N : Int)) = true := by simp; omega
      have d2' : decide (m < N) = true := by simp; omega
      have hmi : (m : Int) < (N : Int) := by omega
      have hmL : (m : Int) < (L.length : Int) := by rw [HTl.out]; exact hmi
      have hmL' : m < L.length := by rw [HTl.out]; exact hlt
      rcases S6.o2.2 with ⟨_, h0⟩ | ⟨g2, cap2, cur2, e, _⟩
      · omega
      simp only [Value.slice.injEq] at e
      obtain ⟨rfl, _, rfl⟩ := e
      obtain ⟨hIl, hIf, hIs⟩ := HI.out m hlt
      have HIs : Hid (fcs (Ar.reI a size (m + 1)) = fcs ((Ar.reI a size m).take m ++ Ar.reF a size (Ar.fa a.files m) :: (Ar.reI a size m).drop (m + 1))) := hIs
      have hat := own_at (i := m) (fs := Ar.reI a size m) (w := wr) (lo := lo) (g := g2) (cap := q2) (by rw [hIl]; exact S6.o2) (by omega)
      rw [hIf] at hat
      have x0 : wr.cell? ⟨g2, m * 5, none⟩ = some (.string (Ar.fa a.files m).name) := hat.1 0 (by omega)
      have x1 : wr.cell? ⟨g2, m * 5 + 1, none⟩ = some (.int .i64 (Ar.fa a.files m).dict) := hat.1 1 (by omega)
      have x2 : wr.cell? ⟨g2, m * 5 + 2, none⟩ = some (.int .i64 (Ar.fa a.files m).size) := hat.1 2 (by omega)
      have x3 : wr.cell? ⟨g2, m * 5 + 3, none⟩ = some (.int .i64 (Ar.fa a.files m).sum) := hat.1 3 (by omega)
      have x4 : wr.cell? ⟨g2, m * 5 + 4, none⟩ = some (.string (Ar.fa a.files m).blk) := hat.1 4 (by omega)
      have hg2 : g2 < wr.heap.size := (S6.o2.lt g2 rfl).2
      have y := hat.2
      have CPm := fun w' h9 => CP.out w' (some ⟨g, 0, none⟩) cp (some ⟨g2, 0, none⟩) q2 m hlt h9
      have HS5 : Hid (∀ wk, CpS w6 wk C lo (.slice (some ⟨g, 0, none⟩) (D + 1) cp) (.slice (some ⟨g2, 0, none⟩) N q2) (D + 1) N (XS ++ [.string X]) (fcs (Ar.reI a size m)) → CpS w6 (w5s wk g2 (m * 5) (.string (Ar.reF a size (Ar.fa a.files m)).name) (.int .i64 (Ar.reF a size (Ar.fa a.files m)).dict) (.int .i64 (Ar.reF a size (Ar.fa a.files m)).size) (.int .i64 (Ar.reF a size (Ar.fa a.files m)).sum) (.string (Ar.reF a size (Ar.fa a.files m)).blk)) C lo (.slice (some ⟨g, 0, none⟩) (D + 1) cp) (.slice (some ⟨g2, 0, none⟩) N q2) (D + 1) N (XS ++ [.string X]) (fcs (Ar.reI a size (m + 1)))) := fun wk h9 => by
        rw [← hIl] at h9
        have := CpS.set5 (Ar.reF a size (Ar.fa a.files m)) h9 (i := m) (by omega)
        rw [hIl, ← hIs] at this
        exact this
      have htx := HTx.out lo wr (some ⟨g, 0, none⟩) cp S6.o1
      clear hIs hIf hIl hat HIs
      generalize (Ar.reF a size (Ar.fa a.files m)).name = n0 at *
      generalize (Ar.reF a size (Ar.fa a.files m)).dict = n1 at *
      generalize (Ar.reF a size (Ar.fa a.files m)).size = n2 at *
      generalize (Ar.reF a size (Ar.fa a.files m)).sum = n3 at *
      generalize (Ar.reF a size (Ar.fa a.files m)).blk = n4 at *
      generalize (Ar.fa a.files m).name = f0 at *
      generalize (Ar.fa a.files m).dict = f1 at *
      generalize (Ar.fa a.files m).size = f2 at *
      generalize (Ar.fa a.files m).sum = f3 at *
      generalize (Ar.fa a.files m).blk = f4 at *
      go_wp2_with fail
      have S7 := S6.below ((Below.refl _ _).alloc (Nat.le_refl _) (.cells #[.string f0, .int .i64 f1, .int .i64 f2, .int .i64 f3, .string f4] 46 (0, 0)))
      have hbx : (wr.alloc (.cells #[.string f0, .int .i64 f1, .int .i64 f2, .int .i64 f3, .string f4] 46 (0, 0))).cell? ⟨wr.heap.size, 0, none⟩ = some (.string f0) := World.cell?_alloc_new _ _ _ 0
      have htx7 := htx.below ((Below.refl _ _).alloc (Nat.le_refl _) (.cells #[.string f0, .int .i64 f1, .int .i64 f2, .int .i64 f3, .string f4] 46 (0, 0)))
      have k := fun (p : Addr) (hp : p.block < wr.heap.size) => World.cell?_alloc_lt wr (.cells #[.string f0, .int .i64 f1, .int .i64 f2, .int .i64 f3, .string f4] 46 (0, 0)) p hp
      have j0 := (k ⟨g2, m * 5, none⟩ hg2).trans x0
      have j1 := (k ⟨g2, m * 5 + 1, none⟩ hg2).trans x1
      have j2 := (k ⟨g2, m * 5 + 2, none⟩ hg2).trans x2
      have j3 := (k ⟨g2, m * 5 + 3, none⟩ hg2).trans x3
      have j4 := (k ⟨g2, m * 5 + 4, none⟩ hg2).trans x4
      have fz7 : ∀ o, (wr.alloc (.cells #[.string f0, .int .i64 f1, .int .i64 f2, .int .i64 f3, .string f4] 46 (0, 0))).frozen? ⟨g2, o, none⟩ = false := fun o => by rw [World.frozen?_alloc_past _ _ _ hg2]; exact y o
      have hg27 : g2 < (wr.alloc (.cells #[.string f0, .int .i64 f1, .int .i64 f2, .int .i64 f3, .string f4] 46 (0, 0))).heap.size := by simp; omega
      generalize (wr.alloc (.cells #[.string f0, .int .i64 f1, .int .i64 f2, .int .i64 f3, .string f4] 46 (0, 0))) = wP at *
      generalize wr.heap.size = P at *
      obtain ⟨bt, ot, rfl, hbt, hct⟩ := HX6.out wP S7.bel m hlt
      have c0 := S7.c0
      have c1 := S7.c1
      clear x0 x1 x2 x3 x4 y k S6 htx F7
      generalize Tr.xa L m = tm at *
      have CP9 := CPm wP.drew (htx7.below ((Below.refl _ _).drew))
      have HK : Hid (∀ wk, Below wP.heap.size wP.drew wk → CpS w6 wk C lo (.slice (some ⟨g, 0, none⟩) (D + 1) cp) (.slice (some ⟨g2, 0, none⟩) N q2) (D + 1) N (XS ++ [.string X]) (fcs (Ar.reI a size m)) ∧ wk.cell? ⟨g2, m * 5, none⟩ = some (.string f0) ∧ wk.cell? ⟨g2, m * 5 + 1, none⟩ = some (.int .i64 f1) ∧ wk.cell? ⟨g2, m * 5 + 2, none⟩ = some (.int .i64 f2) ∧ wk.cell? ⟨g2, m * 5 + 3, none⟩ = some (.int .i64 f3) ∧ wk.cell? ⟨g2, m * 5 + 4, none⟩ = some (.string f4) ∧ ∀ o, wk.frozen? ⟨g2, o, none⟩ = false) := fun wk Gk => by
        have G9 : Below wP.heap.size wP wk := Below.trans ((Below.refl wP.heap.size wP).drew) Gk
        exact ⟨S7.below G9, (G9.cell (p := ⟨g2, m * 5, none⟩) hg27).trans j0, (G9.cell (p := ⟨g2, m * 5 + 1, none⟩) hg27).trans j1, (G9.cell (p := ⟨g2, m * 5 + 2, none⟩) hg27).trans j2, (G9.cell (p := ⟨g2, m * 5 + 3, none⟩) hg27).trans j3, (G9.cell (p := ⟨g2, m * 5 + 4, none⟩) hg27).trans j4, fun o => (G9.frozen (p := ⟨g2, o, none⟩) hg27).trans (fz7 o)⟩
      have hC7 : C < wP.heap.size := S7.hb
      have hloC : lo ≤ C := S7.hC
      have hlg : lo ≤ g2 := (S7.o2.lt g2 rfl).1
      have hbt' : bt < wP.heap.size := by omega
      have hPP : P < wP.heap.size := World.block_lt_of_cell? wP _ hbx
      have hS0 : Hid (∀ wk, Below wP.heap.size wP.drew wk → wk.cell? ⟨C, 0, none⟩ = some (.slice (some ⟨g, 0, none⟩) (D + 1) cp) ∧ wk.cell? ⟨C, 1, none⟩ = some (.slice (some ⟨g2, 0, none⟩) N q2) ∧ wk.cell? ⟨P, 0, none⟩ = some (.string f0) ∧ wk.cell? ⟨bt, ot + m, none⟩ = some (.string tm)) := fun wk Gk => by
        have G9 : Below wP.heap.size wP wk := Below.trans ((Below.refl wP.heap.size wP).drew) Gk
        exact ⟨(G9.cell (p := ⟨C, 0, none⟩) hC7).trans c0, (G9.cell (p := ⟨C, 1, none⟩) hC7).trans c1, (G9.cell (p := ⟨P, 0, none⟩) hPP).trans hbx, (G9.cell (p := ⟨bt, ot + m, none⟩) hbt').trans hct⟩
      have hne1 : C ≠ g2 := fun e => S7.a2 (show some g2 = some C by rw [e])
      have hS5 : Hid (∀ wk, Below wP.heap.size wP.drew wk → (fun w9 => w9.cell? ⟨C, 0, none⟩ = some (.slice (some ⟨g, 0, none⟩) (D + 1) cp) ∧ w9.cell? ⟨C, 1, none⟩ = some (.slice (some ⟨g2, 0, none⟩) N q2) ∧ w9.cell? ⟨P, 0, none⟩ = some (.string f0) ∧ w9.cell? ⟨bt, ot + m, none⟩ = some (.string tm)) (w5s wk g2 (m * 5) (.string n0) (.int .i64 n1) (.int .i64 n2) (.int .i64 n3) (.string n4))) := fun wk Gk => by
        obtain ⟨e0, e1, e2, e3⟩ := hS0.out wk Gk
        have gr := w5s_grown wk g2 (m * 5) (.string n0) (.int .i64 n1) (.int .i64 n2) (.int .i64 n3) (.string n4)
        exact ⟨cell_keep gr e0 (by simpa using hne1), cell_keep gr e1 (by simpa using hne1), cell_keep gr e2 (by simp; omega), cell_keep gr e3 (by simp; omega)⟩
      unfold w5s at hS5
      simp only at hS5
      clear S7 j0 j1 j2 j3 j4 fz7 htx7 CPm hg2 hct hbt hbt' hbx c0 c1 hC7 hPP hloC hlg
      go_region_held3 (fun wk => wk.cell? ⟨C, 0, none⟩ = some (.slice (some ⟨g, 0, none⟩) (D + 1) cp) ∧ wk.cell? ⟨C, 1, none⟩ = some (.slice (some ⟨g2, 0, none⟩) N q2) ∧ wk.cell? ⟨P, 0, none⟩ = some (.string f0) ∧ wk.cell? ⟨bt, ot + m, none⟩ = some (.string tm))
        (first | (exact hS0.out _ (Below.refl _ _)) | (exact hS0.out _ Gk) | (exact hS5.out _ Gk))
        (first
          | (go_at_call 52; refine CP9.mono ?_; rintro e wk ⟨rfl, Gk⟩; obtain ⟨Sk, l0, l1, l2, l3, l4, lf⟩ := HK.out wk Gk; have lf0 := lf (m * 5); have lf1 := lf (m * 5 + 1); have lf2 := lf (m * 5 + 2); have lf3 := lf (m * 5 + 3); have lf4 := lf (m * 5 + 4)))
      all_goals
        have S8 := HS5.out wk Sk
        unfold w5s at S8
        go_wp2_with fail
        go_roundw
        case rel => exact ⟨m + 1, by omega, by go_num, S8⟩
        case measure => simp [intOf]; omega
    · obtain rfl : m = N := by omega
      have d1 : decide ((m : Int) < (m : Int)) = false := by simp
      rw [HIN.out] at S6
      obtain ⟨b, a0, a1, r0, r1, z0, z1, hz⟩ := id F7
      obtain ⟨Bz, Oz1, Oz2, Rz0, Rz1⟩ := put_end b S6.o1 S6.o2 hlo r0 r1
      have ne9 := S6.ne
      have c0 := S6.c0
      have c1 := S6.c1
      have hC2 := S6.hb
      have hzw : w.heap.size < wr.heap.size := by omega
      clear S6 F7
      go_wp2_with fail
      generalize (wr.setCell ⟨w.heap.size + 1, 0, none⟩ (.slice (some ⟨g, 0, none⟩) (D + 1) cp)).setCell ⟨w.heap.size + 1, 1, none⟩ (.slice p2 m q2) = wz at *
      exact bodyPost_ret (v := .tuple #[.agg #[.slice (some ⟨g, 0, none⟩) (D + 1) cp, .slice p2 m q2], .int .i64 0]) (by simp [results, Tryz.results25, go_sem, Rz0, Rz1]) rfl (HQ.out _ _ _ Oz1 Oz2 ne9 Bz)
theorem archRetrain_any (ad af : Option Addr) (cd cf : Nat) (a : Ar.A) (size : Int) (w : World) (h : ArV w ad af a) (hs : SaneA a) (hM : Mx w) :
    Calls Tryz.prog 25 #[av ad cd af cf a, .int .i64 size] w fun e w' => ArSaid w (Ar.retA a size) (Ar.retE a size) e w' := by
  by_cases hE : Ar.retE a size = 0
  · rw [Ar.retA_is hE, hE]
    exact retrain_ok ad af cd cf a size w h hs hM hE
  · have e : Ar.retA a size = Ar.az := by unfold Ar.retA; rw [if_neg hE]
    rw [e]
    unfold Ar.retE at hE ⊢
    by_cases hc : Ar.chk a = 0
    · rw [if_neg (fun h9 => h9 hc)] at hE ⊢
      by_cases hz : 0 ≤ size ∧ size ≤ 256
      · rw [if_pos hz] at hE ⊢
        by_cases h4 : a.dicts.length = 4
        · rw [if_pos h4]
          exact retrain_full ad af cd cf a size w h hs hM hc hz h4
        · rw [if_neg h4] at hE; exact absurd rfl hE
      · rw [if_neg hz]
        exact retrain_size ad af cd cf a size w h hs hM hc hz
    · rw [if_pos hc]
      exact retrain_chk ad af cd cf a size w h hs hc
end Go.Proofs.YtbjbjbpgmojcbabGreat
namespace Go.Proofs.YtbjbjbpgmojcbabGreat
open Go.RowKit
structure Bx (w : World) (b : Nat) (x y : Value) : Prop where
  c0 : w.cell? ⟨b, 0, none⟩ = some x
  c1 : w.cell? ⟨b, 1, none⟩ = some y
  f0 : w.frozen? ⟨b, 0, none⟩ = false
  f1 : w.frozen? ⟨b, 1, none⟩ = false
  lt : b < w.heap.size
theorem Bx.next {w w' : World} {b : Nat} {x y : Value} (h : Bx w b x y) (G : Below w.heap.size w w') : Bx w' b x y :=
  ⟨(G.cell (p := ⟨b, 0, none⟩) h.lt).trans h.c0, (G.cell (p := ⟨b, 1, none⟩) h.lt).trans h.c1, (G.frozen (p := ⟨b, 0, none⟩) h.lt).trans h.f0, (G.frozen (p := ⟨b, 1, none⟩) h.lt).trans h.f1, Nat.lt_of_lt_of_le h.lt G.size⟩
theorem Bx.new (w : World) (x y : Value) : Bx (w.alloc (.cells #[x, y] 25 (0, 0))) w.heap.size x y :=
  ⟨World.cell?_alloc_new _ _ _ 0, World.cell?_alloc_new _ _ _ 1, World.frozen?_alloc_at _ _ _ _ rfl, World.frozen?_alloc_at _ _ _ _ rfl, by simp⟩
theorem Bx.set {w : World} {b : Nat} {x y u v : Value} (h : Bx w b x y) : Bx ((w.setCell ⟨b, 0, none⟩ u).setCell ⟨b, 1, none⟩ v) b u v := by
  refine ⟨?_, ?_, ?_, ?_, ?_⟩
  · exact (World.cell?_setCell_other _ _ _ _ (by intro e; have := congrArg Addr.off e; simp at this)).trans (World.cell?_setCell_same _ _ _ h.c0)
  · exact World.cell?_setCell_same _ _ _ ((World.cell?_setCell_other _ _ _ _ (by intro e; have := congrArg Addr.off e; simp at this)).trans h.c1)
  · rw [World.frozen?_setCell, World.frozen?_setCell]; exact h.f0
  · rw [World.frozen?_setCell, World.frozen?_setCell]; exact h.f1
  · have := h.lt; simp [World.setCell]; omega
theorem Bx.far {w : World} {b c : Nat} {x y : Value} (h : Bx w b x y) (hne : b ≠ c) (u v : Value) : Bx ((w.setCell ⟨c, 0, none⟩ u).setCell ⟨c, 1, none⟩ v) b x y := by
  refine ⟨?_, ?_, ?_, ?_, ?_⟩
  · exact (World.cell?_setCell_other _ _ _ _ (by intro e; have := congrArg Addr.block e; simp at this; omega)).trans ((World.cell?_setCell_other _ _ _ _ (by intro e; have := congrArg Addr.block e; simp at this; omega)).trans h.c0)
  · exact (World.cell?_setCell_other _ _ _ _ (by intro e; have := congrArg Addr.block e; simp at this; omega)).trans ((World.cell?_setCell_other _ _ _ _ (by intro e; have := congrArg Addr.block e; simp at this; omega)).trans h.c1)
  · rw [World.frozen?_setCell, World.frozen?_setCell]; exact h.f0
  · rw [World.frozen?_setCell, World.frozen?_setCell]; exact h.f1
  · have := h.lt; simp [World.setCell]; omega
theorem below_set2 {B : Nat} {w w' : World} (h : Below B w w') {b : Nat} (hb : B ≤ b) (u v : Value) : Below B w ((w'.setCell ⟨b, 0, none⟩ u).setCell ⟨b, 1, none⟩ v) := (h.setCell hb _).setCell hb _
theorem alloc_below (w : World) (o : Obj) : Below w.heap.size w (w.alloc o) := (Below.refl _ _).alloc (Nat.le_refl _) o
theorem ArOwn.set2 {lo : Nat} {w : World} {v1 v2 : Value} {a : Ar.A} (h : ArOwn lo w v1 v2 a) {b : Nat} (hb : b < lo) (u v : Value) : ArOwn lo ((w.setCell ⟨b, 0, none⟩ u).setCell ⟨b, 1, none⟩ v) v1 v2 a := by
  have g1 := setCell_grown w ⟨b, 0, none⟩ u
  have g2 := setCell_grown (w.setCell ⟨b, 0, none⟩ u) ⟨b, 1, none⟩ v
  exact ⟨(h.o1.kept g1 (.inr (own_ne h.o1 hb).symm)).kept g2 (.inr (own_ne h.o1 hb).symm), (h.o2.kept g1 (.inr (own_ne h.o2 hb).symm)).kept g2 (.inr (own_ne h.o2 hb).symm), h.ne⟩
theorem ArOwn.slices {lo : Nat} {w : World} {v1 v2 : Value} {a : Ar.A} (h : ArOwn lo w v1 v2 a) : ∃ ad cd af cf, v1 = .slice ad a.dicts.length cd ∧ v2 = .slice af a.files.length cf ∧ ArV w ad af a := by
  obtain ⟨ad, cd, af, cf, he, hv⟩ := h.hand
  unfold av at he
  simp only [Value.agg.injEq, Array.mk.injEq, List.cons.injEq, and_true] at he
  exact ⟨ad, cd, af, cf, he.1, he.2, hv⟩
theorem ArSaid.open {w : World} {a : Ar.A} {E : Int} {e : Ending} {w' : World} (h : ArSaid w a E e w') : ∃ ad cd af cf, e = .returned (.tuple #[.agg #[.slice ad a.dicts.length cd, .slice af a.files.length cf], .int .i64 E]) ∧ ArV w' ad af a ∧ Below w.heap.size w w' := by
  obtain ⟨v1, v2, rfl, ho, hb⟩ := h
  obtain ⟨ad, cd, af, cf, rfl, rfl, hv⟩ := ho.slices
  exact ⟨ad, cd, af, cf, rfl, hv, hb⟩
theorem ArSaid.own {w : World} {a : Ar.A} {E : Int} {e : Ending} {w' : World} (h : ArSaid w a E e w') : ∃ ad cd af cf, e = .returned (.tuple #[.agg #[.slice ad a.dicts.length cd, .slice af a.files.length cf], .int .i64 E]) ∧ ArOwn w.heap.size w' (.slice ad a.dicts.length cd) (.slice af a.files.length cf) a ∧ Below w.heap.size w w' := by
  obtain ⟨v1, v2, rfl, ho, hb⟩ := h
  obtain ⟨ad, cd, af, cf, rfl, rfl, hv⟩ := ho.slices
  exact ⟨ad, cd, af, cf, rfl, ho, hb⟩
theorem ArOwn.arv {lo : Nat} {w : World} {ad af : Option Addr} {n m cd cf : Nat} {a : Ar.A} (h : ArOwn lo w (.slice ad n cd) (.slice af m cf) a) : ArV w ad af a := by
  obtain ⟨ad', cd', af', cf', h1, h2, hv⟩ := h.slices
  simp only [Value.slice.injEq] at h1 h2
  rw [h1.1, h2.1]; exact hv
def TwoSaid (a : Ar.A) (w : World) (e : Ending) (w' : World) : Prop := ∃ ad cd af cf, e = .returned (.agg #[.slice ad a.dicts.length cd, .slice af a.files.length cf]) ∧ ArV w' ad af a ∧ Below w.heap.size w w'
end Go.Proofs.YtbjbjbpgmojcbabGreat
namespace Go.Proofs.YtbjbjbpgmojcbabGreat
open Go.RowKit
set_option maxRecDepth 4000 in
set_option maxHeartbeats 1000000 in
theorem two_from (A1 A2 A3 : Ar.A) (w : World)
    (C1 : Hid (∀ w', Calls Tryz.prog 13 #[.agg #[.slice none 0 0, .slice none 0 0], .string ⟨#[97]⟩, .string ⟨#[116, 104, 101, 32, 115, 97, 109, 101, 32, 119, 111, 114, 100, 115, 44, 32, 116, 104, 101, 32, 115, 97, 109, 101, 32, 119, 111, 114, 100, 115]⟩, .int .i64 0] w' fun e w2 => ArSaid w' A1 0 e w2))
    (C2 : Hid (∀ w' ad cd af cf, ArV w' ad af A1 → Calls Tryz.prog 13 #[av ad cd af cf A1, .string ⟨#[98]⟩, .string ⟨#[116, 104, 101, 32, 115, 97, 109, 101, 32, 119, 111, 114, 100, 115, 44, 32, 111, 114, 32, 111, 116, 104, 101, 114, 115]⟩, .int .i64 0] w' fun e w2 => ArSaid w' A2 0 e w2))
    (C3 : Hid (∀ w' ad cd af cf, Below w.heap.size w w' → ArV w' ad af A2 → Calls Tryz.prog 25 #[av ad cd af cf A2, .int .i64 32] w' fun e w2 => ArSaid w' A3 0 e w2)) :
    Calls Tryz.prog 60 #[] w fun e w' => TwoSaid A3 w e w' := by
  have HQ : Hid (∀ ad cd af cf w', ArV w' ad af A3 → Below w.heap.size w w' → TwoSaid A3 w (.returned (.agg #[.slice ad A3.dicts.length cd, .slice af A3.files.length cf])) w') := fun ad cd af cf w' h1 h2 => ⟨ad, cd, af, cf, rfl, h1, h2⟩
  have O1 : Hid (∀ (w : World) (e : Ending) (w' : World), ArSaid w A1 0 e w' → ∃ ad cd af cf, e = .returned (.tuple #[.agg #[.slice ad A1.dicts.length cd, .slice af A1.files.length cf], .int .i64 0]) ∧ ArV w' ad af A1 ∧ Below w.heap.size w w') := fun _ _ _ h => h.open
  have O2 : Hid (∀ (w : World) (e : Ending) (w' : World), ArSaid w A2 0 e w' → ∃ ad cd af cf, e = .returned (.tuple #[.agg #[.slice ad A2.dicts.length cd, .slice af A2.files.length cf], .int .i64 0]) ∧ ArOwn w.heap.size w' (.slice ad A2.dicts.length cd) (.slice af A2.files.length cf) A2 ∧ Below w.heap.size w w') := fun _ _ _ h => h.own
  have O3 : Hid (∀ (w : World) (e : Ending) (w' : World), ArSaid w A3 0 e w' → ∃ ad cd af cf, e = .returned (.tuple #[.agg #[.slice ad A3.dicts.length cd, .slice af A3.files.length cf], .int .i64 0]) ∧ ArOwn w.heap.size w' (.slice ad A3.dicts.length cd) (.slice af A3.files.length cf) A3 ∧ Below w.heap.size w w') := fun _ _ _ h => h.own
  generalize TwoSaid A3 w = Q at *
  unfold av at C2 C3
  generalize A1.dicts.length = D1 at *
  generalize A1.files.length = N1 at *
  generalize A2.dicts.length = D2 at *
  generalize A2.files.length = N2 at *
  generalize A3.dicts.length = D3 at *
  generalize A3.files.length = N3 at *
  go_enter Tryz.func60, Tryz.ntmps60
  go_wp2_with fail
  have R0 := Bx.new w (.slice none 0 0) (.slice none 0 0)
  have B0 := alloc_below w (.cells #[.slice none 0 0, .slice none 0 0] 25 (0, 0))
  generalize (w.alloc (.cells #[.slice none 0 0, .slice none 0 0] 25 (0, 0))) = w0 at *
  refine (C1.out _).mono ?_
  intro e w1 h1
  obtain ⟨ad1, cd1, af1, cf1, rfl, V1, G1⟩ := O1.out _ _ _ h1
  clear h1
  have R1 := R0.next G1
  have B1 := bch B0 G1 (Nat.le_refl _)
  clear R0 B0 G1
  go_wp2_with fail
  have T1 := Bx.new w1 (.slice ad1 D1 cd1) (.slice af1 N1 cf1)
  have GA := alloc_below w1 (.cells #[.slice ad1 D1 cd1, .slice af1 N1 cf1] 25 (0, 0))
  have R2 := R1.next GA
  have V2 := V1.below GA
  have B2 := bch B1 GA (Nat.le_refl _)
  have hT := R1.lt
  have hTw := B1.size
  clear GA R1 V1 B1
  generalize (w1.alloc (.cells #[.slice ad1 D1 cd1, .slice af1 N1 cf1] 25 (0, 0))) = wa at *
  generalize w1.heap.size = T at *
  refine (C2.out _ _ _ _ _ V2).mono ?_
  intro e w2 h1
  obtain ⟨ad2, cd2, af2, cf2, rfl, W2, G⟩ := O2.out _ _ _ h1
  have T2 := T1.next G
  have R3 := R2.next G
  have B3 := bch B2 G (Nat.le_refl _)
  have hTa := T1.lt
  clear h1 V2 B2 R2 G T1
  obtain ⟨t0, t1, t2, t3, _⟩ := id T2
  go_wp2_with fail
  have T4 := T2.set (u := .slice ad2 D2 cd2) (v := .slice af2 N2 cf2)
  have R4 := R3.far (c := T) (by omega) (.slice ad2 D2 cd2) (.slice af2 N2 cf2)
  have W3 := (W2.set2 hTa (.slice ad2 D2 cd2) (.slice af2 N2 cf2)).arv
  have B4 := below_set2 B3 (b := T) hTw (.slice ad2 D2 cd2) (.slice af2 N2 cf2)
  clear T2 R3 W2 B3 t0 t1 t2 t3
  generalize ((w2.setCell ⟨T, 0, none⟩ (.slice ad2 D2 cd2)).setCell ⟨T, 1, none⟩ (.slice af2 N2 cf2)) = wb at *
  refine (C3.out _ _ _ _ _ B4 W3).mono ?_
  intro e w3 h1
  obtain ⟨ad3, cd3, af3, cf3, rfl, W3, G⟩ := O3.out _ _ _ h1
  have T5 := T4.next G
  have R5 := R4.next G
  have B5 := bch B4 G (Nat.le_refl _)
  have hTb := T4.lt
  have hRb := R4.lt
  clear h1 T4 R4 B4 G
  obtain ⟨t0, t1, t2, t3, _⟩ := id T5
  obtain ⟨r0, r1, r2, r3, _⟩ := id (R5.far (c := T) (by omega) (.slice ad3 D3 cd3) (.slice af3 N3 cf3))
  obtain ⟨s0, s1, s2, s3, _⟩ := id (T5.set (u := .slice ad3 D3 cd3) (v := .slice af3 N3 cf3))
  have R6 := (R5.far (c := T) (by omega) (.slice ad3 D3 cd3) (.slice af3 N3 cf3)).set (u := .slice ad3 D3 cd3) (v := .slice af3 N3 cf3)
  have W4 := ((W3.set2 hTb (.slice ad3 D3 cd3) (.slice af3 N3 cf3)).set2 hRb (.slice ad3 D3 cd3) (.slice af3 N3 cf3)).arv
  have B6 := below_set2 (below_set2 B5 (b := T) hTw (.slice ad3 D3 cd3) (.slice af3 N3 cf3)) (b := w.heap.size) (Nat.le_refl _) (.slice ad3 D3 cd3) (.slice af3 N3 cf3)
  have hR := HQ.out ad3 cd3 af3 cf3 _ W4 B6
  clear T5 R5 W3 B5 HQ C1 C2 C3 O1 O2 O3 W4 B6
  go_wp2_with fail
  exact bodyPost_ret (v := .agg #[.slice ad3 D3 cd3, .slice af3 N3 cf3]) (by simp [results, Tryz.results60, go_sem, R6.c0, R6.c1]) rfl hR
theorem two_any (w : World) (hM : Mx w) : Calls Tryz.prog 60 #[] w fun e w' => TwoSaid Ar.A3 w e w' := by
  have s1 : SaneA Ar.A1 := sane_az.put (by decide)
  have s2 : SaneA Ar.A2 := s1.put (by decide)
  refine two_from Ar.A1 Ar.A2 Ar.A3 w (fun w' => ?_) (fun w' ad cd af cf hv => ?_) (fun w' ad cd af cf hb hv => ?_)
  · have := archPut_any none none 0 0 Ar.az ⟨#[97]⟩ Ar.tA 0 w' ⟨.inl rfl, .inl rfl⟩ sane_az (by decide) (by decide)
    rw [Ar.e1] at this
    exact this
  · have := archPut_any ad af cd cf Ar.A1 ⟨#[98]⟩ Ar.tB 0 w' hv s1 (by decide) (by decide)
    rw [Ar.e2] at this
    exact this
  · have := archRetrain_any ad af cd cf Ar.A2 32 w' hv s2 (hM.below hb)
    rw [Ar.e3] at this
    exact this
end Go.Proofs.YtbjbjbpgmojcbabGreat
