/- A part of the proof: what it leans on. -/
import Derived.Laws.AppendOwn
import Derived.RegionTactic
import Derived.ChangeAlike
import Derived.BigRegion
import Derived.Test.YtbjbjbpgmojcbabGreatImBook01
import Derived.Test.YtbjbjbpgmojcbabGreatImBook08
import Derived.Test.YtbjbjbpgmojcbabGreatImBook09
import Derived.Test.YtbjbjbpgmojcbabGreatImBook10
namespace Go.Proofs.YtbjbjbpgmojcbabGreat
open Go.RowKit
theorem put_end {w wf : World} {v1 v2 : Value} {n1 n2 lo : Nat} {xs1 xs2 : List Value} {u0 u1 : Value} (b : Below w.heap.size w wf) (o1 : wf.ownsRow lo 9 1 v1 n1 xs1) (o2 : wf.ownsRow lo 46 5 v2 n2 xs2) (hlo : w.heap.size + 1 < lo)
    (r0 : wf.cell? ⟨w.heap.size + 1, 0, none⟩ = some u0) (r1 : wf.cell? ⟨w.heap.size + 1, 1, none⟩ = some u1) :
    Below w.heap.size w ((wf.setCell ⟨w.heap.size + 1, 0, none⟩ v1).setCell ⟨w.heap.size + 1, 1, none⟩ v2) ∧ ((wf.setCell ⟨w.heap.size + 1, 0, none⟩ v1).setCell ⟨w.heap.size + 1, 1, none⟩ v2).ownsRow w.heap.size 9 1 v1 n1 xs1 ∧ ((wf.setCell ⟨w.heap.size + 1, 0, none⟩ v1).setCell ⟨w.heap.size + 1, 1, none⟩ v2).ownsRow w.heap.size 46 5 v2 n2 xs2 ∧
    ((wf.setCell ⟨w.heap.size + 1, 0, none⟩ v1).setCell ⟨w.heap.size + 1, 1, none⟩ v2).cell? ⟨w.heap.size + 1, 0, none⟩ = some v1 ∧ ((wf.setCell ⟨w.heap.size + 1, 0, none⟩ v1).setCell ⟨w.heap.size + 1, 1, none⟩ v2).cell? ⟨w.heap.size + 1, 1, none⟩ = some v2 := by
  have g1 := setCell_grown wf ⟨w.heap.size + 1, 0, none⟩ v1
  have g2 := setCell_grown (wf.setCell ⟨w.heap.size + 1, 0, none⟩ v1) ⟨w.heap.size + 1, 1, none⟩ v2
  refine ⟨(b.setCell (by show _ ≤ w.heap.size + 1; omega) _).setCell (by show _ ≤ w.heap.size + 1; omega) _, ?_, ?_, ?_, ?_⟩
  · exact own_lower ((o1.kept g1 (.inr (own_ne o1 (by show w.heap.size + 1 < _; omega)).symm)).kept g2 (.inr (own_ne o1 (by show w.heap.size + 1 < _; omega)).symm)) (by omega)
  · exact own_lower ((o2.kept g1 (.inr (own_ne o2 (by show w.heap.size + 1 < _; omega)).symm)).kept g2 (.inr (own_ne o2 (by show w.heap.size + 1 < _; omega)).symm)) (by omega)
  · rw [sc_ne _ _ _ _ _ (by decide)]; exact sc_eq r0
  · exact sc_eq ((sc_ne _ _ _ _ _ (by decide)).trans r1)
set_option maxRecDepth 4000 in
set_option maxHeartbeats 4000000 in
theorem put_there (ad af : Option Addr) (cd cf : Nat) (a : Ar.A) (name text : ByteArray) (dict : Int) (w : World) (h : ArV w ad af a) (hs : SaneA a) (hn : name.size ≤ 140737488355328) (hc : Ar.chk a = 0) (hm : Ar.isNm name = true) (hd : Ar.has a.dicts dict = true) (hl : text.size ≤ 512) (hT : Ar.there a.files name = true) :
    Calls Tryz.prog 13 #[av ad cd af cf a, .string name, .string text, .int .i64 dict] w fun e w' => ArSaid w ⟨a.dicts, Ar.putF a.files (Ar.pk a.dicts name text dict)⟩ 0 e w' := by
  have C1 : Hid (∀ w', Below w.heap.size w w' → Calls Tryz.prog 18 #[av ad cd af cf a] w' fun e w2 => e = .returned (.int .i64 (Ar.chk a)) ∧ Below w'.heap.size w' w2) := fun w' h9 => archCheck_any ad af cd cf a w' (h.below h9) hs
  have C2 : Hid (∀ w', Calls Tryz.prog 49 #[.string name] w' fun e w2 => e = .returned (.bool (Ar.isNm name)) ∧ w2 = w') := fun w' => isName_any name w' hn
  have C3 : Hid (∀ w', Calls Tryz.prog 50 #[av ad cd af cf a, .int .i64 dict] w' fun e w2 => e = .returned (.bool (Ar.has a.dicts dict)) ∧ Below w'.heap.size w' w2) := fun w' => hasDict_any ad af cd cf a dict w' hs.nd
  have hsr := Ar.chk_srt hc
  obtain ⟨m1, m2, m3⟩ := Ar.many_iff.1 (Ar.chk_zero.1 hc).1
  have C4 : Hid (∀ w', Below w.heap.size w w' → Calls Tryz.prog 51 #[av ad cd af cf a, .string name] w' fun e w2 => e = .returned (.tuple #[.int .i64 (Ar.pos a.files name : Nat), .bool (Ar.there a.files name)]) ∧ Below w'.heap.size w' w2) := fun w' h9 => find_any ad af cd cf a name w' (h.fs.below h9) (by omega) hsr
  have hdz : (Ar.dct a.dicts dict).size ≤ 256 := Ar.dct_size (Ar.chk_zero.1 hc).1 dict
  have C5 : Hid (∀ w', Below w.heap.size w w' → Calls Tryz.prog 52 #[av ad cd af cf a, .string name, .string text, .int .i64 dict] w' fun e w2 => e = .returned (.tuple #[fv (Ar.pk a.dicts name text dict), .int .i64 0]) ∧ Below w'.heap.size w' w2) := fun w' h9 => archPack_any ad af cd cf a name text dict w' (h.ds.below h9) m1 hdz hd hl hn
  have C6 : Hid (∀ w', Below w.heap.size w w' → Calls Tryz.prog 53 #[av ad cd af cf a] w' fun e w2 => ∃ v1 v2, e = .returned (.agg #[v1, v2]) ∧ ArOwn w'.heap.size w2 v1 v2 a ∧ Below w'.heap.size w' w2) := fun w' h9 => clone_arch ad af cd cf a w' (h.below h9) hs m1 m2
  rw [hc] at C1
  rw [hm] at C2
  rw [hd] at C3
  rw [hT] at C4
  have hp := (Ar.there_parts hT).1
  have hP : Ar.putF a.files (Ar.pk a.dicts name text dict) = _ := putF_there (f := Ar.pk a.dicts name text dict) hT
  have HO : Hid (∀ lo g cap w', w'.ownsRow lo 46 5 (.slice (some ⟨g, 0, none⟩) a.files.length cap) a.files.length (fcs a.files) → (w5s w' g (Ar.pos a.files name * 5) (.string name) (.int .i64 dict) (.int .i64 (text.size : Int)) (.int .i64 (Ar.sm text)) (.string (Bk.pak (Ar.dct a.dicts dict) text).1)).ownsRow lo 46 5 (.slice (some ⟨g, 0, none⟩) a.files.length cap) a.files.length (fcs (Ar.putF a.files (Ar.pk a.dicts name text dict)))) := fun lo g cap w' h9 => by
    rw [hP]
    exact own_set5 (Ar.pk a.dicts name text dict) h9 hp
  have e1 : fv (Ar.pk a.dicts name text dict) = .agg #[.string name, .int .i64 dict, .int .i64 (text.size : Int), .int .i64 (Ar.sm text), .string (Bk.pak (Ar.dct a.dicts dict) text).1] := rfl
  rw [e1] at C5
  have hpl : (Ar.putF a.files (Ar.pk a.dicts name text dict)).length = a.files.length := by
    rw [hP]
    simp only [List.length_append, List.length_take, List.length_cons, List.length_drop]
    show min (Ar.pos a.files name) _ + (a.files.length - (Ar.pos a.files name + 1) + 1) = _
    omega
  have hQ : Hid (∀ v1 v2 w', w'.ownsRow w.heap.size 9 1 v1 a.dicts.length (a.dicts.map Value.string) → w'.ownsRow w.heap.size 46 5 v2 a.files.length (fcs (Ar.putF a.files (Ar.pk a.dicts name text dict))) → (∀ j, v1.ownBlock = some j → v2.ownBlock ≠ some j) → Below w.heap.size w w' → ArSaid w ⟨a.dicts, Ar.putF a.files (Ar.pk a.dicts name text dict)⟩ 0 (.returned (.tuple #[.agg #[v1, v2], .int .i64 0])) w') := fun v1 v2 w' h1 h2 h3 h4 => ⟨v1, v2, rfl, ⟨h1, by show w'.ownsRow _ _ _ _ (Ar.putF a.files (Ar.pk a.dicts name text dict)).length _; rw [hpl]; exact h2, h3⟩, h4⟩
  generalize ArSaid w ⟨a.dicts, Ar.putF a.files (Ar.pk a.dicts name text dict)⟩ 0 = Q at *
  generalize fcs (Ar.putF a.files (Ar.pk a.dicts name text dict)) = FC at *
  clear hP hpl e1
  have HA : Hid (∀ lo w' v1 v2, ArOwn lo w' v1 v2 a → w'.ownsRow lo 9 1 v1 a.dicts.length (a.dicts.map Value.string) ∧ w'.ownsRow lo 46 5 v2 a.files.length (fcs a.files) ∧ (∀ j, v1.ownBlock = some j → v2.ownBlock ≠ some j)) := fun lo w' v1 v2 h9 => ⟨h9.o1, h9.o2, h9.ne⟩
  generalize fcs a.files = FA at *
  generalize (Bk.pak (Ar.dct a.dicts dict) text).1 = K at *
  generalize Ar.sm text = M at *
  generalize Ar.pos a.files name = p at *
  unfold av at C1 C3 C4 C5 C6 ⊢
  clear h hs hn hc hm hd hsr m3 hT
  generalize a.dicts.length = D at *
  generalize a.files.length = N at *
  have hl' : ¬ (512 : Int) < (text.size : Int) := by omega
  have d1 : decide ((512 : Int) < (text.size : Int)) = false := decide_eq_false hl'
  go_enter Tryz.func13, Tryz.ntmps13
  go_wp2_with fail
  refine (C1.out _ (Fr.start w _ _).b).mono ?_
  rintro e w1 ⟨rfl, G1⟩
  have F1 := (Fr.start w _ _).next G1
  clear G1
  obtain ⟨b, a0, a1, r0, r1, z0, z1, hz⟩ := id F1
  go_wp2_with fail
  refine (C2.out _).mono ?_
  rintro e w2 ⟨rfl, rfl⟩
  go_wp2_with fail
  refine (C3.out _).mono ?_
  rintro e w3 ⟨rfl, G3⟩
  clear b a0 a1 r0 r1 z0 z1 hz
  have F3 := F1.next G3
  clear G3
  obtain ⟨b, a0, a1, r0, r1, z0, z1, hz⟩ := id F3
  go_wp2_with fail
  refine (C4.out _ F3.b).mono ?_
  rintro e w4 ⟨rfl, G4⟩
  clear b a0 a1 r0 r1 z0 z1 hz
  have F4 := F3.next G4
  clear G4
  obtain ⟨b, a0, a1, r0, r1, z0, z1, hz⟩ := id F4
  go_wp2_with fail
  refine (C5.out _ F4.b).mono ?_
  rintro e w5 ⟨rfl, G5⟩
  clear b a0 a1 r0 r1 z0 z1 hz
  have F5 := F4.next G5
  clear G5
  obtain ⟨b, a0, a1, r0, r1, z0, z1, hz⟩ := id F5
  have hz5 : w.heap.size < w5.heap.size := by omega
  go_wp2_with fail
  have F6 := F5.next ((Below.refl _ _).alloc (Nat.le_refl _) (.cells #[.string name, .int .i64 dict, .int .i64 (text.size : Int), .int .i64 M, .string K] 46 (0, 0)))
  refine (C6.out _ F6.b).mono ?_
  rintro e w6 ⟨v1, v2, rfl, O6, G6⟩
  have F7 := F6.next G6
  have hlt6 : w5.heap.size < w6.heap.size := by have := G6.size; simp at this; omega
  have hf := fun j => (G6.cell (p := ⟨w5.heap.size, j, none⟩) (by simp)).trans (World.cell?_alloc_new _ _ _ j)
  have f0 : w6.cell? ⟨w5.heap.size, 0, none⟩ = some (.string name) := hf 0
  have f1 : w6.cell? ⟨w5.heap.size, 1, none⟩ = some (.int .i64 dict) := hf 1
  have f2 : w6.cell? ⟨w5.heap.size, 2, none⟩ = some (.int .i64 (text.size : Int)) := hf 2
  have f3 : w6.cell? ⟨w5.heap.size, 3, none⟩ = some (.int .i64 M) := hf 3
  have f4 : w6.cell? ⟨w5.heap.size, 4, none⟩ = some (.string K) := hf 4
  obtain ⟨o1, o2, o3⟩ := HA.out _ _ _ _ O6
  have hlo : w.heap.size + 1 < (w5.alloc (.cells #[.string name, .int .i64 dict, .int .i64 (text.size : Int), .int .i64 M, .string K] 46 (0, 0))).heap.size := F6.hz
  generalize (w5.alloc (.cells #[.string name, .int .i64 dict, .int .i64 (text.size : Int), .int .i64 M, .string K] 46 (0, 0))).heap.size = lo at o1 o2 hlo
  clear hf G6 F6 O6 HA b a0 a1 r0 r1 z0 z1 hz C1 C2 C3 C4 C5 C6
  obtain ⟨b, a0, a1, r0, r1, z0, z1, hz⟩ := id F7
  obtain ⟨p1, q1, rfl, _⟩ := own_slice o1
  clear F1 F3 F4 F5
  rcases o2.2 with ⟨_, h2⟩ | ⟨g, cap, cur, rfl, h2, h3, h4, h5, h6, h7⟩
  · omega
  · have hg6 : g < w6.heap.size := Array.getElem?_eq_some_iff.mp h3 |>.1
    have hcs : ∀ j, j < cur.size → w6.cell? ⟨g, j, none⟩ = some (cur.getD j undef) := fun j hj => by
      rw [cellB h3, Array.getElem?_eq_getElem hj]
      simp [Array.getD, hj]
    have g0 := hcs (p * 5) (by omega)
    have g1 := hcs (p * 5 + 1) (by omega)
    have g2 := hcs (p * 5 + 2) (by omega)
    have g3 := hcs (p * 5 + 3) (by omega)
    have g4 := hcs (p * 5 + 4) (by omega)
    have y := frozenB h3
    have y0 := y (p * 5)
    have y1 := y (p * 5 + 1)
    have y2 := y (p * 5 + 2)
    have y3 := y (p * 5 + 3)
    have y4 := y (p * 5 + 4)
    have hpN : (p : Int) < (N : Int) := by omega
    have hz6 : w.heap.size < w6.heap.size := by omega
    generalize cur.getD (p * 5) undef = u0 at *
    generalize cur.getD (p * 5 + 1) undef = u1 at *
    generalize cur.getD (p * 5 + 2) undef = u2 at *
    generalize cur.getD (p * 5 + 3) undef = u3 at *
    generalize cur.getD (p * 5 + 4) undef = u4 at *
    have gr := w5s_grown w6 g (p * 5) (.string name) (.int .i64 dict) (.int .i64 (text.size : Int)) (.int .i64 M) (.string K)
    have P1 := HO.out lo g cap w6 o2
    have P0 := o1.kept gr (.inr (fun e => o3 g e rfl))
    have hRg : some (w.heap.size + 1) ≠ some g := by simp; omega
    obtain ⟨Bz, Oz1, Oz2, Rz0, Rz1⟩ := put_end (belowW5 b g (p * 5) (.string name) (.int .i64 dict) (.int .i64 (text.size : Int)) (.int .i64 M) (.string K) (by omega)) P0 P1 hlo (cell_keep gr r0 hRg) (cell_keep gr r1 hRg)
    clear h3 h6 h7 hcs y HO gr P0 P1
    go_wp2_with fail
    unfold w5s at Bz Oz1 Oz2 Rz0 Rz1
    have hzz := World.block_lt_of_cell? _ _ Rz0
    generalize (((((((w6.setCell ⟨g, p * 5, none⟩ (.string name)).setCell ⟨g, p * 5 + 1, none⟩ (.int .i64 dict)).setCell ⟨g, p * 5 + 2, none⟩ (.int .i64 (text.size : Int))).setCell ⟨g, p * 5 + 3, none⟩ (.int .i64 M)).setCell ⟨g, p * 5 + 4, none⟩ (.string K)).setCell ⟨w.heap.size + 1, 0, none⟩ (.slice p1 D q1)).setCell ⟨w.heap.size + 1, 1, none⟩ (.slice (some ⟨g, 0, none⟩) N cap)) = wz at *
    have k0 := (World.cell?_alloc_lt wz (.cells #[.slice p1 D q1, .slice (some ⟨g, 0, none⟩) N cap] 25 (0, 0)) ⟨w.heap.size + 1, 0, none⟩ hzz).trans Rz0
    have k1 := (World.cell?_alloc_lt wz (.cells #[.slice p1 D q1, .slice (some ⟨g, 0, none⟩) N cap] 25 (0, 0)) ⟨w.heap.size + 1, 1, none⟩ hzz).trans Rz1
    have q1' := Oz1.alloc (.cells #[.slice p1 D q1, .slice (some ⟨g, 0, none⟩) N cap] 25 (0, 0))
    have q2' := Oz2.alloc (.cells #[.slice p1 D q1, .slice (some ⟨g, 0, none⟩) N cap] 25 (0, 0))
    have B' := Bz.alloc (by have : w.heap.size + 1 < wz.heap.size := hzz; omega) (.cells #[.slice p1 D q1, .slice (some ⟨g, 0, none⟩) N cap] 25 (0, 0))
    generalize (wz.alloc (.cells #[.slice p1 D q1, .slice (some ⟨g, 0, none⟩) N cap] 25 (0, 0))) = wy at *
    exact bodyPost_ret (v := .tuple #[.agg #[.slice p1 D q1, .slice (some ⟨g, 0, none⟩) N cap], .int .i64 0]) (by simp [results, Tryz.results13, go_sem, k0, k1]) rfl (hQ.out _ _ _ q1' q2' o3 B')
set_option maxRecDepth 4000 in
set_option maxHeartbeats 4000000 in
theorem put_new (ad af : Option Addr) (cd cf : Nat) (a : Ar.A) (name text : ByteArray) (dict : Int) (w : World) (h : ArV w ad af a) (hs : SaneA a) (hn : name.size ≤ 140737488355328) (hc : Ar.chk a = 0) (hm : Ar.isNm name = true) (hd : Ar.has a.dicts dict = true) (hl : text.size ≤ 512) (hT : Ar.there a.files name = false) (h12 : a.files.length < 12) :
    Calls Tryz.prog 13 #[av ad cd af cf a, .string name, .string text, .int .i64 dict] w fun e w' => ArSaid w ⟨a.dicts, Ar.putF a.files (Ar.pk a.dicts name text dict)⟩ 0 e w' := by
  have C1 : Hid (∀ w', Below w.heap.size w w' → Calls Tryz.prog 18 #[av ad cd af cf a] w' fun e w2 => e = .returned (.int .i64 (Ar.chk a)) ∧ Below w'.heap.size w' w2) := fun w' h9 => archCheck_any ad af cd cf a w' (h.below h9) hs
  have C2 : Hid (∀ w', Calls Tryz.prog 49 #[.string name] w' fun e w2 => e = .returned (.bool (Ar.isNm name)) ∧ w2 = w') := fun w' => isName_any name w' hn
  have C3 : Hid (∀ w', Calls Tryz.prog 50 #[av ad cd af cf a, .int .i64 dict] w' fun e w2 => e = .returned (.bool (Ar.has a.dicts dict)) ∧ Below w'.heap.size w' w2) := fun w' => hasDict_any ad af cd cf a dict w' hs.nd
  have hsr := Ar.chk_srt hc
  obtain ⟨m1, m2, m3⟩ := Ar.many_iff.1 (Ar.chk_zero.1 hc).1
  have C4 : Hid (∀ w', Below w.heap.size w w' → Calls Tryz.prog 51 #[av ad cd af cf a, .string name] w' fun e w2 => e = .returned (.tuple #[.int .i64 (Ar.pos a.files name : Nat), .bool (Ar.there a.files name)]) ∧ Below w'.heap.size w' w2) := fun w' h9 => find_any ad af cd cf a name w' (h.fs.below h9) (by omega) hsr
  have hdz : (Ar.dct a.dicts dict).size ≤ 256 := Ar.dct_size (Ar.chk_zero.1 hc).1 dict
  have C5 : Hid (∀ w', Below w.heap.size w w' → Calls Tryz.prog 52 #[av ad cd af cf a, .string name, .string text, .int .i64 dict] w' fun e w2 => e = .returned (.tuple #[fv (Ar.pk a.dicts name text dict), .int .i64 0]) ∧ Below w'.heap.size w' w2) := fun w' h9 => archPack_any ad af cd cf a name text dict w' (h.ds.below h9) m1 hdz hd hl hn
  have C6 : Hid (∀ w', Below w.heap.size w w' → Calls Tryz.prog 53 #[av ad cd af cf a] w' fun e w2 => ∃ v1 v2, e = .returned (.agg #[v1, v2]) ∧ ArOwn w'.heap.size w2 v1 v2 a ∧ Below w'.heap.size w' w2) := fun w' h9 => clone_arch ad af cd cf a w' (h.below h9) hs m1 m2
  rw [hc] at C1
  rw [hm] at C2
  rw [hd] at C3
  rw [hT] at C4
  have hp := Ar.pos_le a.files name
  have hP : Ar.putF a.files (Ar.pk a.dicts name text dict) = a.files.take (Ar.pos a.files name) ++ Ar.pk a.dicts name text dict :: a.files.drop (Ar.pos a.files name) := putF_new (f := Ar.pk a.dicts name text dict) hT
  have hpl : (Ar.putF a.files (Ar.pk a.dicts name text dict)).length = a.files.length + 1 := by
    rw [hP]
    simp only [List.length_append, List.length_take, List.length_cons, List.length_drop]
    omega
  have CI : Hid (∀ lo w' v2 vb, w'.ownsRow lo 46 5 v2 a.files.length (fcs a.files) → w'.heap[vb]? = some (.cells #[.string name, .int .i64 dict, .int .i64 (text.size : Int), .int .i64 (Ar.sm text), .string (Bk.pak (Ar.dct a.dicts dict) text).1] 46 (0, 0)) → v2.ownBlock ≠ some vb → lo ≤ w'.heap.size →
      Calls Tryz.prog 54 #[v2, .int .i64 (Ar.pos a.files name : Nat), .slice (some ⟨vb, 0, none⟩) 1 1] w' fun e w2 => ∃ g cap, e = .returned (.slice (some ⟨g, 0, none⟩) (a.files.length + 1) cap) ∧ w2.ownsRow lo 46 5 (.slice (some ⟨g, 0, none⟩) (a.files.length + 1) cap) (a.files.length + 1) (fcs (Ar.putF a.files (Ar.pk a.dicts name text dict))) ∧ w'.grownBy w2 v2.ownBlock ∧ (v2.ownBlock = some g ∨ w'.heap.size ≤ g)) := fun lo w' v2 vb h1 h2 h3 h4 => by
    have := insert_any lo a.files (Ar.pk a.dicts name text dict) v2 (Ar.pos a.files name) vb 46 w' h1 m2 hp h2 h3 h4
    unfold InsSaid at this
    rw [← hP, hpl] at this
    exact this
  have e1 : fv (Ar.pk a.dicts name text dict) = .agg #[.string name, .int .i64 dict, .int .i64 (text.size : Int), .int .i64 (Ar.sm text), .string (Bk.pak (Ar.dct a.dicts dict) text).1] := rfl
  rw [e1] at C5
  have hQ : Hid (∀ v1 v2 w', w'.ownsRow w.heap.size 9 1 v1 a.dicts.length (a.dicts.map Value.string) → w'.ownsRow w.heap.size 46 5 v2 (a.files.length + 1) (fcs (Ar.putF a.files (Ar.pk a.dicts name text dict))) → (∀ j, v1.ownBlock = some j → v2.ownBlock ≠ some j) → Below w.heap.size w w' → ArSaid w ⟨a.dicts, Ar.putF a.files (Ar.pk a.dicts name text dict)⟩ 0 (.returned (.tuple #[.agg #[v1, v2], .int .i64 0])) w') := fun v1 v2 w' h1 h2 h3 h4 => ⟨v1, v2, rfl, ⟨h1, by show w'.ownsRow _ _ _ _ (Ar.putF a.files (Ar.pk a.dicts name text dict)).length _; rw [hpl]; exact h2, h3⟩, h4⟩
  generalize ArSaid w ⟨a.dicts, Ar.putF a.files (Ar.pk a.dicts name text dict)⟩ 0 = Q at *
  generalize fcs (Ar.putF a.files (Ar.pk a.dicts name text dict)) = FC at *
  clear hP hpl e1
  have HA : Hid (∀ lo w' v1 v2, ArOwn lo w' v1 v2 a → w'.ownsRow lo 9 1 v1 a.dicts.length (a.dicts.map Value.string) ∧ w'.ownsRow lo 46 5 v2 a.files.length (fcs a.files) ∧ (∀ j, v1.ownBlock = some j → v2.ownBlock ≠ some j)) := fun lo w' v1 v2 h9 => ⟨h9.o1, h9.o2, h9.ne⟩
  generalize fcs a.files = FA at *
  generalize (Bk.pak (Ar.dct a.dicts dict) text).1 = K at *
  generalize Ar.sm text = M at *
  generalize Ar.pos a.files name = p at *
  unfold av at C1 C3 C4 C5 C6 ⊢
  clear h hs hn hc hm hd hsr m3 hT
  generalize a.dicts.length = D at *
  generalize a.files.length = N at *
  have hl' : ¬ (512 : Int) < (text.size : Int) := by omega
  have d1 : decide ((512 : Int) < (text.size : Int)) = false := decide_eq_false hl'
  have d2 : decide ((N : Int) = 12) = false := decide_eq_false (by omega)
  have d3 : ((N : Int) == 12) = false := by simp; omega
  have d4 : ¬ (N : Int) = 12 := by omega
  go_enter Tryz.func13, Tryz.ntmps13
  go_wp2_with fail
  refine (C1.out _ (Fr.start w _ _).b).mono ?_
  rintro e w1 ⟨rfl, G1⟩
  have F1 := (Fr.start w _ _).next G1
  clear G1
  obtain ⟨b, a0, a1, r0, r1, z0, z1, hz⟩ := id F1
  go_wp2_with fail
  refine (C2.out _).mono ?_
  rintro e w2 ⟨rfl, rfl⟩
  go_wp2_with fail
  refine (C3.out _).mono ?_
  rintro e w3 ⟨rfl, G3⟩
  clear b a0 a1 r0 r1 z0 z1 hz
  have F3 := F1.next G3
  clear G3
  obtain ⟨b, a0, a1, r0, r1, z0, z1, hz⟩ := id F3
  go_wp2_with fail
  refine (C4.out _ F3.b).mono ?_
  rintro e w4 ⟨rfl, G4⟩
  clear b a0 a1 r0 r1 z0 z1 hz
  have F4 := F3.next G4
  clear G4
  obtain ⟨b, a0, a1, r0, r1, z0, z1, hz⟩ := id F4
  go_wp2_with fail
  refine (C5.out _ F4.b).mono ?_
  rintro e w5 ⟨rfl, G5⟩
  clear b a0 a1 r0 r1 z0 z1 hz
  have F5 := F4.next G5
  clear G5
  obtain ⟨b, a0, a1, r0, r1, z0, z1, hz⟩ := id F5
  have hz5 : w.heap.size < w5.heap.size := by omega
  go_wp2_with fail
  have F6 := F5.next ((Below.refl _ _).alloc (Nat.le_refl _) (.cells #[.string name, .int .i64 dict, .int .i64 (text.size : Int), .int .i64 M, .string K] 46 (0, 0)))
  refine (C6.out _ F6.b).mono ?_
  rintro e w6 ⟨v1, v2, rfl, O6, G6⟩
  have F7 := F6.next G6
  have hlt6 : w5.heap.size < w6.heap.size := by have := G6.size; simp at this; omega
  have hf := fun j => (G6.cell (p := ⟨w5.heap.size, j, none⟩) (by simp)).trans (World.cell?_alloc_new _ _ _ j)
  have f0 : w6.cell? ⟨w5.heap.size, 0, none⟩ = some (.string name) := hf 0
  have f1 : w6.cell? ⟨w5.heap.size, 1, none⟩ = some (.int .i64 dict) := hf 1
  have f2 : w6.cell? ⟨w5.heap.size, 2, none⟩ = some (.int .i64 (text.size : Int)) := hf 2
  have f3 : w6.cell? ⟨w5.heap.size, 3, none⟩ = some (.int .i64 M) := hf 3
  have f4 : w6.cell? ⟨w5.heap.size, 4, none⟩ = some (.string K) := hf 4
  obtain ⟨o1, o2, o3⟩ := HA.out _ _ _ _ O6
  have hlo : w.heap.size + 1 < (w5.alloc (.cells #[.string name, .int .i64 dict, .int .i64 (text.size : Int), .int .i64 M, .string K] 46 (0, 0))).heap.size := F6.hz
  have hl0 : _ ≤ w6.heap.size := G6.size
  generalize (w5.alloc (.cells #[.string name, .int .i64 dict, .int .i64 (text.size : Int), .int .i64 M, .string K] 46 (0, 0))).heap.size = lo at o1 o2 hlo hl0
  clear hf G6 F6 O6 HA b a0 a1 r0 r1 z0 z1 hz C1 C2 C3 C4 C5 C6
  obtain ⟨b, a0, a1, r0, r1, z0, z1, hz⟩ := id F7
  obtain ⟨p1, q1, rfl, _⟩ := own_slice o1
  clear F1 F3 F4 F5
  obtain ⟨p2, q2, rfl, hq2⟩ := own_slice o2
  have hz6 : w.heap.size < w6.heap.size := by omega
  go_wp2_with fail
  have hsz1 : (w6.alloc (.cells #[.slice p1 D q1, .slice p2 N q2] 25 (0, 0))).heap.size = w6.heap.size + 1 := by simp
  have hown := fun x o => (o2.alloc x).alloc o
  obtain ⟨K1, K2⟩ := box2 w6 #[.slice p1 D q1, .slice p2 N q2] #[.string name, .int .i64 dict, .int .i64 (text.size : Int), .int .i64 M, .string K] 25 46
  have hvb : ((w6.alloc (.cells #[.slice p1 D q1, .slice p2 N q2] 25 (0, 0))).alloc (.cells #[.string name, .int .i64 dict, .int .i64 (text.size : Int), .int .i64 M, .string K] 46 (0, 0))).heap[w6.heap.size + 1]? = some (.cells #[.string name, .int .i64 dict, .int .i64 (text.size : Int), .int .i64 M, .string K] 46 (0, 0)) := by
    rw [← hsz1]
    show (Array.push _ _)[_]? = _
    rw [Array.getElem?_push_size]
  have hlt2 : ∀ j, (Value.slice p2 N q2).ownBlock = some j → lo ≤ j ∧ j < w6.heap.size := fun j hj => o2.lt j hj
  have hlt1 : ∀ j, (Value.slice p1 D q1).ownBlock = some j → lo ≤ j ∧ j < w6.heap.size := fun j hj => o1.lt j hj
  have fzc : ∀ o, ((w6.alloc (.cells #[.slice p1 D q1, .slice p2 N q2] 25 (0, 0))).alloc (.cells #[.string name, .int .i64 dict, .int .i64 (text.size : Int), .int .i64 M, .string K] 46 (0, 0))).frozen? ⟨w6.heap.size, o, none⟩ = false := fun o => by
    rw [World.frozen?_alloc_past _ _ _ (by rw [hsz1]; omega)]
    exact World.frozen?_alloc_at _ _ _ _ rfl
  have F8 := (F7.next ((Below.refl _ _).alloc (Nat.le_refl _) (.cells #[.slice p1 D q1, .slice p2 N q2] 25 (0, 0)))).next ((Below.refl _ _).alloc (Nat.le_refl _) (.cells #[.string name, .int .i64 dict, .int .i64 (text.size : Int), .int .i64 M, .string K] 46 (0, 0)))
  have o1' := (o1.alloc (.cells #[.slice p1 D q1, .slice p2 N q2] 25 (0, 0))).alloc (.cells #[.string name, .int .i64 dict, .int .i64 (text.size : Int), .int .i64 M, .string K] 46 (0, 0))
  refine (CI.out lo _ _ _ (hown _ _) hvb (fun e => by have := (hlt2 _ e).2; omega) (by simp; omega)).mono ?_
  have hsz2 : ((w6.alloc (.cells #[.slice p1 D q1, .slice p2 N q2] 25 (0, 0))).alloc (.cells #[.string name, .int .i64 dict, .int .i64 (text.size : Int), .int .i64 M, .string K] 46 (0, 0))).heap.size = w6.heap.size + 2 := by simp
  generalize ((w6.alloc (.cells #[.slice p1 D q1, .slice p2 N q2] 25 (0, 0))).alloc (.cells #[.string name, .int .i64 dict, .int .i64 (text.size : Int), .int .i64 M, .string K] 46 (0, 0))) = wi at *
  rintro e w8 ⟨g, cap, rfl, O8, hg8, hat⟩
  have nC : some w6.heap.size ≠ (Value.slice p2 N q2).ownBlock := fun e => by have := (hlt2 _ e.symm).2; omega
  have nR : some (w.heap.size + 1) ≠ (Value.slice p2 N q2).ownBlock := fun e => by have := (hlt2 _ e.symm).1; omega
  have nR' : some w.heap.size ≠ (Value.slice p2 N q2).ownBlock := fun e => by have := (hlt2 _ e.symm).1; omega
  have s0 : w8.cell? ⟨w6.heap.size, 0, none⟩ = some (.slice p1 D q1) := cell_keep hg8 (K1 0) nC
  have s1 : w8.cell? ⟨w6.heap.size, 1, none⟩ = some (.slice p2 N q2) := cell_keep hg8 (K1 1) nC
  have s3 : w8.frozen? ⟨w6.heap.size, 1, none⟩ = false := frozen_keep hg8 (by omega) (fzc 1) nC
  have t0 : w8.cell? ⟨w.heap.size + 1, 0, none⟩ = some (.slice none 0 0) := cell_keep hg8 F8.r0 nR
  have t1 : w8.cell? ⟨w.heap.size + 1, 1, none⟩ = some (.slice none 0 0) := cell_keep hg8 F8.r1 nR
  have t2 : w8.frozen? ⟨w.heap.size + 1, 0, none⟩ = false := frozen_keep hg8 (by omega) F8.z0 nR
  have t3 : w8.frozen? ⟨w.heap.size + 1, 1, none⟩ = false := frozen_keep hg8 (by omega) F8.z1 nR
  have b8 : Below w.heap.size w w8 := F8.b.grown hg8 (by omega) (fun j hj => by have := (hlt2 j hj).1; omega)
  have hg8s : w6.heap.size + 2 ≤ w8.heap.size := by have := hg8.size; omega
  have o1v : w8.ownsRow lo 9 1 (.slice p1 D q1) D (a.dicts.map Value.string) := o1'.kept hg8 (by
    cases hv : (Value.slice p1 D q1).ownBlock with
    | none => exact .inl rfl
    | some j => exact .inr (fun e => o3 j hv e.symm))
  have hgC : g ≠ w6.heap.size := by
    rcases hat with hat | hat
    · have := (hlt2 g hat).2; omega
    · omega
  have sg := setCell_grown w8 ⟨w6.heap.size, 1, none⟩ (.slice (some ⟨g, 0, none⟩) (N + 1) cap)
  have O9 := O8.kept sg (.inr (by simp [Value.ownBlock]; exact hgC))
  have o9 := o1v.kept sg (.inr (fun e => by have := (hlt1 _ e).2; simp at this))
  have ne9 : ∀ j, (Value.slice p1 D q1).ownBlock = some j → (Value.slice (some ⟨g, 0, none⟩) (N + 1) cap).ownBlock ≠ some j := fun j hj e => by
    simp [Value.ownBlock] at e
    subst e
    rcases hat with hat | hat
    · exact o3 g hj hat
    · have := (hlt1 g hj).2; omega
  have b9 := b8.setCell (p := ⟨w6.heap.size, 1, none⟩) (by show _ ≤ w6.heap.size; omega) (.slice (some ⟨g, 0, none⟩) (N + 1) cap)
  have nRC : some (w.heap.size + 1) ≠ some w6.heap.size := by simp; omega
  obtain ⟨Bz, Oz1, Oz2, Rz0, Rz1⟩ := put_end b9 o9 O9 hlo (cell_keep sg t0 nRC) (cell_keep sg t1 nRC)
  have hC1 : w6.heap.size ≠ w.heap.size + 1 := by omega
  have hC2 : w6.heap.size < w8.heap.size := by omega
  have hC3 : w.heap.size + 1 < w8.heap.size := by omega
  clear F8 F7 o1' hown CI K1 K2 hvb sg O9 o9 b9 O8 hg8 o1v b8 fzc hat
  go_wp2_with fail
  generalize ((w8.setCell ⟨w6.heap.size, 1, none⟩ (.slice (some ⟨g, 0, none⟩) (N + 1) cap)).setCell ⟨w.heap.size + 1, 0, none⟩ (.slice p1 D q1)).setCell ⟨w.heap.size + 1, 1, none⟩ (.slice (some ⟨g, 0, none⟩) (N + 1) cap) = wz at *
  exact bodyPost_ret (v := .tuple #[.agg #[.slice p1 D q1, .slice (some ⟨g, 0, none⟩) (N + 1) cap], .int .i64 0]) (by simp [results, Tryz.results13, go_sem, Rz0, Rz1]) rfl (hQ.out _ _ _ Oz1 Oz2 ne9 Bz)
theorem putA_no {a : Ar.A} {name text : ByteArray} {dict E : Int} (h : Ar.putE a name text dict = E) (h0 : E ≠ 0) : Ar.putA a name text dict = Ar.az := by
  unfold Ar.putA; rw [h, if_neg h0]
theorem archPut_any (ad af : Option Addr) (cd cf : Nat) (a : Ar.A) (name text : ByteArray) (dict : Int) (w : World) (h : ArV w ad af a) (hs : SaneA a) (hn : name.size ≤ 140737488355328) (ht : text.size ≤ 140737488355328) :
    Calls Tryz.prog 13 #[av ad cd af cf a, .string name, .string text, .int .i64 dict] w fun e w' => ArSaid w (Ar.putA a name text dict) (Ar.putE a name text dict) e w' := by
  by_cases hc : Ar.chk a = 0
  · cases hm : Ar.isNm name with
    | false =>
      have e : Ar.putE a name text dict = 4 := by unfold Ar.putE; rw [if_neg (fun h9 => h9 hc), if_pos hm]
      rw [putA_no e (by decide), e]
      exact put_nm ad af cd cf a name text dict w h hs hn hc hm
    | true =>
      cases hd : Ar.has a.dicts dict with
      | false =>
        have e : Ar.putE a name text dict = 3 := by unfold Ar.putE; rw [if_neg (fun h9 => h9 hc), if_neg (by rw [hm]; decide), if_pos hd]
        rw [putA_no e (by decide), e]
        exact put_dict ad af cd cf a name text dict w h hs hn hc hm hd
      | true =>
        by_cases hl : 512 < text.size
        · have e : Ar.putE a name text dict = 2 := by unfold Ar.putE; rw [if_neg (fun h9 => h9 hc), if_neg (by rw [hm]; decide), if_neg (by rw [hd]; decide), if_pos (.inl hl)]
          rw [putA_no e (by decide), e]
          exact put_long ad af cd cf a name text dict w h hs hn ht hc hm hd hl
        · cases hT : Ar.there a.files name with
          | true =>
            have e : Ar.putE a name text dict = 0 := by
              unfold Ar.putE; rw [if_neg (fun h9 => h9 hc), if_neg (by rw [hm]; decide), if_neg (by rw [hd]; decide), if_neg]
              rintro (h1 | h1)
              · exact hl h1
              · rw [hT] at h1; cases h1.1
            have e2 : Ar.putA a name text dict = ⟨a.dicts, Ar.putF a.files (Ar.pk a.dicts name text dict)⟩ := by unfold Ar.putA; rw [if_pos e]
            rw [e, e2]
            exact put_there ad af cd cf a name text dict w h hs hn hc hm hd (by omega) hT
          | false =>
            by_cases h12 : a.files.length = 12
            · have e : Ar.putE a name text dict = 2 := by unfold Ar.putE; rw [if_neg (fun h9 => h9 hc), if_neg (by rw [hm]; decide), if_neg (by rw [hd]; decide), if_pos (.inr ⟨hT, h12⟩)]
              rw [putA_no e (by decide), e]
              exact put_full ad af cd cf a name text dict w h hs hn hc hm hd (by omega) hT h12
            · have e : Ar.putE a name text dict = 0 := by
                unfold Ar.putE; rw [if_neg (fun h9 => h9 hc), if_neg (by rw [hm]; decide), if_neg (by rw [hd]; decide), if_neg]
                rintro (h1 | h1)
                · exact hl h1
                · exact h12 h1.2
              have e2 : Ar.putA a name text dict = ⟨a.dicts, Ar.putF a.files (Ar.pk a.dicts name text dict)⟩ := by unfold Ar.putA; rw [if_pos e]
              have m2 := (Ar.many_iff.1 (Ar.chk_zero.1 hc).1).2.1
              rw [e, e2]
              exact put_new ad af cd cf a name text dict w h hs hn hc hm hd (by omega) hT (by omega)
  · have e : Ar.putE a name text dict = Ar.chk a := by unfold Ar.putE; rw [if_pos hc]
    rw [putA_no e hc, e]
    exact put_chk ad af cd cf a name text dict w h hs hc
end Go.Proofs.YtbjbjbpgmojcbabGreat
namespace Go.Proofs.YtbjbjbpgmojcbabGreat
open Go.RowKit
structure CpS (w0 wr : World) (C lo : Nat) (v1 v2 : Value) (n1 n2 : Nat) (xs1 xs2 : List Value) : Prop where
  c0 : wr.cell? ⟨C, 0, none⟩ = some v1
  c1 : wr.cell? ⟨C, 1, none⟩ = some v2
  f0 : wr.frozen? ⟨C, 0, none⟩ = false
  f1 : wr.frozen? ⟨C, 1, none⟩ = false
  o1 : wr.ownsRow lo 9 1 v1 n1 xs1
  o2 : wr.ownsRow lo 46 5 v2 n2 xs2
  ne : ∀ j, v1.ownBlock = some j → v2.ownBlock ≠ some j
  a1 : v1.ownBlock ≠ some C
  a2 : v2.ownBlock ≠ some C
  hC : lo ≤ C
  hb : C < wr.heap.size
  bel : Below lo w0 wr
theorem CpS.below {w0 wr w' : World} {C lo : Nat} {v1 v2 : Value} {n1 n2 : Nat} {xs1 xs2 : List Value} (h : CpS w0 wr C lo v1 v2 n1 n2 xs1 xs2) (hb : Below wr.heap.size wr w') : CpS w0 w' C lo v1 v2 n1 n2 xs1 xs2 := by
  have hB := h.hb
  have hl := h.hC
  exact ⟨(hb.cell (p := ⟨C, 0, none⟩) hB).trans h.c0, (hb.cell (p := ⟨C, 1, none⟩) hB).trans h.c1, (hb.frozen (p := ⟨C, 0, none⟩) hB).trans h.f0, (hb.frozen (p := ⟨C, 1, none⟩) hB).trans h.f1,
    own_below h.o1 hb, own_below h.o2 hb, h.ne, h.a1, h.a2, h.hC, Nat.lt_of_lt_of_le hB hb.size, h.bel.trans (hb.mono (by omega))⟩
theorem CpS.put1 {w0 wr w2 : World} {C lo g cap n1 m n2 : Nat} {v1 v2 : Value} {xs1 ys xs2 : List Value} {o : Obj} (h : CpS w0 wr C lo v1 v2 n1 n2 xs1 xs2) (hg : (wr.alloc o).grownBy w2 v1.ownBlock)
    (ho : w2.ownsRow lo 9 1 (.slice (some ⟨g, 0, none⟩) m cap) m ys) (hl : v1.ownBlock = some g ∨ g = (wr.alloc o).heap.size) :
    ((w2.cell? ⟨C, 0, none⟩ = some v1 ∧ w2.frozen? ⟨C, 0, none⟩ = false) ∧ CpS w0 (w2.setCell ⟨C, 0, none⟩ (.slice (some ⟨g, 0, none⟩) m cap)) C lo (.slice (some ⟨g, 0, none⟩) m cap) v2 m n2 ys xs2) ∧
    ∀ c v, wr.cell? ⟨c, 0, none⟩ = some v → c ≠ C → v1.ownBlock ≠ some c → (w2.setCell ⟨C, 0, none⟩ (.slice (some ⟨g, 0, none⟩) m cap)).cell? ⟨c, 0, none⟩ = some v := by
  have hB := h.hb
  have hlC := h.hC
  have hsz : (wr.alloc o).heap.size = wr.heap.size + 1 := by simp
  have ha := h.below ((Below.refl _ _).alloc (Nat.le_refl _) o)
  have n0 : some C ≠ v1.ownBlock := h.a1.symm
  have k0 := cell_keep hg ha.c0 n0
  have k1 := cell_keep hg ha.c1 n0
  have q0 := frozen_keep hg (by omega) ha.f0 n0
  have q1 := frozen_keep hg (by omega) ha.f1 n0
  have hsg := setCell_grown w2 ⟨C, 0, none⟩ (.slice (some ⟨g, 0, none⟩) m cap)
  have hz : (wr.alloc o).heap.size ≤ w2.heap.size := hg.size
  have hgC : g ≠ C := by
    rcases hl with hl | hl
    · rintro rfl; exact h.a1 hl
    · omega
  refine ⟨⟨⟨k0, q0⟩, World.cell?_setCell_same _ _ _ k0, ?_, by rw [World.frozen?_setCell]; exact q0, by rw [World.frozen?_setCell]; exact q1, ho.kept hsg (.inr (by simp [Value.ownBlock]; exact hgC)), ?_, ?_, by simp [Value.ownBlock]; exact hgC, h.a2, hlC, ?_, ?_⟩, ?_⟩
  · exact (World.cell?_setCell_other w2 _ _ _ (by intro e; have := congrArg Addr.off e; simp at this)).trans k1
  · refine (ha.o2.kept hg ?_).kept hsg (.inr h.a2)
    cases hv : v2.ownBlock with
    | none => exact .inl rfl
    | some j => exact .inr (fun e => h.ne j e.symm hv)
  · intro j hj e
    simp [Value.ownBlock] at hj
    subst hj
    rcases hl with hl | hl
    · exact h.ne g hl e
    · have := (h.o2.lt g e).2
      omega
  · have := hsg.size
    omega
  · exact ((h.bel.alloc (by omega) o).grown hg (by omega) (fun j hj => (h.o1.lt j hj).1)).setCell hlC _
  · intro c v hc hcC hcv
    have hcl := World.block_lt_of_cell? wr _ hc
    exact cell_keep hsg (cell_keep hg ((World.cell?_alloc_lt wr o _ hcl).trans hc) (fun e => hcv e.symm)) (by simp; exact hcC)
theorem Fr.keep {w w0 w' : World} {x y : Value} {lo : Nat} (h : Fr w w0 x y) (G : Below lo w0 w') (hl : w.heap.size + 1 < lo) : Fr w w' x y := by
  have h1 : w.heap.size < lo := by omega
  exact ⟨h.b.trans (G.mono (by omega)), (G.cell (p := ⟨w.heap.size, 0, none⟩) h1).trans h.a0, (G.cell (p := ⟨w.heap.size, 1, none⟩) h1).trans h.a1, (G.cell (p := ⟨w.heap.size + 1, 0, none⟩) hl).trans h.r0, (G.cell (p := ⟨w.heap.size + 1, 1, none⟩) hl).trans h.r1,
    (G.frozen (p := ⟨w.heap.size + 1, 0, none⟩) hl).trans h.z0, (G.frozen (p := ⟨w.heap.size + 1, 1, none⟩) hl).trans h.z1, Nat.lt_of_lt_of_le h.hz G.size⟩
end Go.Proofs.YtbjbjbpgmojcbabGreat
namespace Go.Proofs.YtbjbjbpgmojcbabGreat
namespace Ar
theorem retE_zero {a : A} {size : Int} (h : retE a size = 0) : chk a = 0 ∧ 0 ≤ size ∧ size ≤ 256 ∧ a.dicts.length ≠ 4 := by
  unfold retE at h
  by_cases h1 : chk a = 0
  · rw [if_neg (fun h9 => h9 h1)] at h
    by_cases h2 : 0 ≤ size ∧ size ≤ 256
    · rw [if_pos h2] at h
      by_cases h3 : a.dicts.length = 4
      · rw [if_pos h3] at h; cases h
      · exact ⟨h1, h2.1, h2.2, h3⟩
    · rw [if_neg h2] at h; cases h
  · rw [if_pos h1] at h; exact absurd h h1
theorem retA_is {a : A} {size : Int} (h : retE a size = 0) : retA a size = ⟨retD a size, a.files.map fun f => pk (retD a size) f.name (tx a.dicts f) (a.dicts.length + 1 : Nat)⟩ := if_pos h
theorem okf_up {ds : List ByteArray} {f : F} (h : okf ds f = true) : (up ds f).2 = 0 := by
  unfold okf at h
  rw [Bool.and_eq_true] at h
  exact (of_decide_eq_true h.2).1
theorem tx_size {a : A} (h : chk a = 0) {f : F} (hf : f ∈ a.files) : (tx a.dicts f).size ≤ 512 := by
  obtain ⟨hm, hg⟩ := chk_zero.1 h
  exact Bk.unp_size (okf_up ((gdK_iff.1 hg).1 f hf).2)
theorem many_ret {a : A} {size : Int} (h : retE a size = 0) : many ⟨retD a size, a.files⟩ = false := by
  obtain ⟨h1, h2, h3, h4⟩ := retE_zero h
  obtain ⟨m1, m2, m3⟩ := many_iff.1 (chk_zero.1 h1).1
  refine many_iff.2 ⟨by show (a.dicts ++ [_]).length ≤ 4; rw [List.length_append]; simp; omega, m2, ?_⟩
  intro d hd
  rcases List.mem_append.1 hd with hd | hd
  · exact m3 d hd
  · rw [List.mem_singleton] at hd
    subst hd
    have := (Tr.trn_good (txs a) size.toNat).most
    omega
theorem chk_ret {a : A} {size : Int} (h : retE a size = 0) : chk (retA a size) = 0 := by
  obtain ⟨h1, h2, h3, h4⟩ := retE_zero h
  have hm2 := many_ret h
  obtain ⟨m1, m2, m3⟩ := many_iff.1 hm2
  obtain ⟨hm, hg⟩ := chk_zero.1 h1
  have hp := gdK_iff.1 hg
  rw [retA_is h, chk_zero]
  refine ⟨many_iff.2 ⟨m1, by show (List.map _ _).length ≤ 12; rw [List.length_map]; exact m2, m3⟩, gdK_iff.2 ⟨?_, ?_⟩⟩
  · intro g hg2
    obtain ⟨f, hf, rfl⟩ := List.mem_map.1 hg2
    refine ⟨(hp.1 f hf).1, ?_⟩
    exact okf_pk (a := ⟨retD a size, a.files⟩) hm2 f.name (tx a.dicts f) _ (tx_size h1 hf) (decide_eq_true ⟨by omega, by show _ ≤ (((_ ++ _ : List ByteArray).length : Nat) : Int); rw [List.length_append]; simp⟩)
  · show (List.map _ _).Pairwise _
    rw [List.pairwise_map]
    exact hp.2
theorem txs_many {a : A} (h : chk a = 0) : (txs a).length ≤ 12 ∧ ∀ t ∈ txs a, t.size ≤ 512 := by
  obtain ⟨m1, m2, m3⟩ := many_iff.1 (chk_zero.1 h).1
  refine ⟨by unfold txs; rw [List.length_map]; exact m2, fun t ht => ?_⟩
  obtain ⟨f, hf, rfl⟩ := List.mem_map.1 ht
  exact tx_size h hf
end Ar
end Go.Proofs.YtbjbjbpgmojcbabGreat
namespace Go.Proofs.YtbjbjbpgmojcbabGreat
open Go.RowKit
namespace Ar
theorem drop_fa {fs : List F} {m : Nat} (h : m < fs.length) : fs.drop m = fa fs m :: fs.drop (m + 1) := by
  rw [List.drop_eq_getElem_cons h, fa_get h]
end Ar
end Go.Proofs.YtbjbjbpgmojcbabGreat
namespace Go.Proofs.YtbjbjbpgmojcbabGreat
open Go.RowKit
namespace Ar
def reF (a : A) (size : Int) (f : F) : F := pk (retD a size) f.name (tx a.dicts f) (a.dicts.length + 1 : Nat)
def reI (a : A) (size : Int) (m : Nat) : List F := (a.files.take m).map (reF a size) ++ a.files.drop m
theorem reI_len {a : A} {size : Int} {m : Nat} (h : m ≤ a.files.length) : (reI a size m).length = a.files.length := by
  unfold reI
  rw [List.length_append, List.length_map, List.length_take, List.length_drop]
  omega
theorem reI_zero (a : A) (size : Int) : reI a size 0 = a.files := by simp [reI]
theorem reI_end (a : A) (size : Int) : reI a size a.files.length = a.files.map (reF a size) := by simp [reI]
theorem reI_at {a : A} {size : Int} {m : Nat} (h : m < a.files.length) : fa (reI a size m) m = fa a.files m ∧ reI a size (m + 1) = (reI a size m).take m ++ reF a size (fa a.files m) :: (reI a size m).drop (m + 1) := by
  have hl : ((a.files.take m).map (reF a size)).length = m := by rw [List.length_map, List.length_take]; omega
  unfold reI
  rw [drop_fa h, take_succ' h, List.map_append]
  generalize (a.files.take m).map (reF a size) = P at *
  generalize fa a.files m = f at *
  subst hl
  constructor
  · simp [fa]
  · simp
theorem txs_none {a : A} (h : chk a = 0) : Tr.many (txs a) = false := by
  obtain ⟨h1, h2⟩ := txs_many h
  unfold Tr.many
  rw [Bool.or_eq_false_iff]
  refine ⟨decide_eq_false (by omega), ?_⟩
  have : ∀ k, Tr.lgK (txs a) k = none := by
    intro k
    induction k with
    | zero => rfl
    | succ k ih =>
      rw [Tr.lgK, ih]
      simp only
      rw [if_neg]
      by_cases hk : k < (txs a).length
      · have : Tr.xa (txs a) k = (txs a)[k] := by simp [Tr.xa, hk]
        rw [this]
        have := h2 _ (List.getElem_mem hk)
        omega
      · have : Tr.xa (txs a) k = ⟨#[]⟩ := by simp [Tr.xa, hk]
        rw [this]
        show ¬ 512 < 0
        omega
  rw [this]; rfl
end Ar
theorem own_at {w : World} {lo g cap i : Nat} {fs : List Ar.F} (h : w.ownsRow lo 46 5 (.slice (some ⟨g, 0, none⟩) fs.length cap) fs.length (fcs fs)) (hi : i < fs.length) : (∀ j, j < 5 → w.cell? ⟨g, i * 5 + j, none⟩ = (fc (Ar.fa fs i))[j]?) ∧ ∀ o, w.frozen? ⟨g, o, none⟩ = false := by
  have hcl := fcs_len fs
  rcases h.2 with ⟨h1, h2⟩ | ⟨g', cap', cur, h1, h2, h3, h4, h5, h6, h7⟩
  · omega
  simp only [Value.slice.injEq, Option.some.injEq, Addr.mk.injEq] at h1
  obtain ⟨⟨rfl, _⟩, _, rfl⟩ := h1
  refine ⟨fun j hj => ?_, frozenB h3⟩
  rw [cellB h3, ← Array.getElem?_toList]
  have e1 : cur.toList[i * 5 + j]? = (fcs fs)[i * 5 + j]? := by rw [← h7, List.getElem?_take, if_pos (by omega)]
  have e2 : fs = fs.take i ++ Ar.fa fs i :: fs.drop (i + 1) := by
    have e3 : Ar.fa fs i = fs[i] := by simp [Ar.fa, hi]
    rw [e3, ← List.drop_eq_getElem_cons hi, List.take_append_drop]
  rw [e1, e2, fcs_append, List.getElem?_append_right (by rw [fcs_len, List.length_take]; omega), fcs_len, List.length_take, show i * 5 + j - min i fs.length * 5 = j by omega, fcs, List.getElem?_append_left (by simp; omega), ← e2]
  rfl
theorem CpS.set5 {w0 wr : World} {C lo g cap n1 i : Nat} {v1 : Value} {xs1 : List Value} {fs : List Ar.F} (f : Ar.F) (h : CpS w0 wr C lo v1 (.slice (some ⟨g, 0, none⟩) fs.length cap) n1 fs.length xs1 (fcs fs)) (hi : i < fs.length) :
    CpS w0 (w5s wr g (i * 5) (.string f.name) (.int .i64 f.dict) (.int .i64 f.size) (.int .i64 f.sum) (.string f.blk)) C lo v1 (.slice (some ⟨g, 0, none⟩) fs.length cap) n1 fs.length xs1 (fcs (fs.take i ++ f :: fs.drop (i + 1))) := by
  have r1 := own_set5 f h.o2 hi
  have hsg := w5s_grown wr g (i * 5) (.string f.name) (.int .i64 f.dict) (.int .i64 f.size) (.int .i64 f.sum) (.string f.blk)
  have hgC : some C ≠ some g := fun e => h.a2 (show some g = some C from e.symm)
  have hg := (h.o2.lt g rfl).1
  refine ⟨cell_keep hsg h.c0 hgC, cell_keep hsg h.c1 hgC, frozen_keep hsg h.hb h.f0 hgC, frozen_keep hsg h.hb h.f1 hgC, h.o1.kept hsg ?_, r1, h.ne, h.a1, h.a2, h.hC, Nat.lt_of_lt_of_le h.hb hsg.size, belowW5 h.bel g (i * 5) _ _ _ _ _ hg⟩
  cases hv : v1.ownBlock with
  | none => exact .inl rfl
  | some j => exact .inr (fun e => h.ne j hv e.symm)
end Go.Proofs.YtbjbjbpgmojcbabGreat
namespace Go.Proofs.YtbjbjbpgmojcbabGreat
open Go.RowKit
theorem ArOwn.hand {lo : Nat} {w : World} {v1 v2 : Value} {a : Ar.A} (h : ArOwn lo w v1 v2 a) : ∃ ad cd af cf, (.agg #[v1, v2] : Value) = av ad cd af cf a ∧ ArV w ad af a := by
  obtain ⟨ad, cd, rfl, _, hfar⟩ := tx_owns h.o1
  have o2 := h.o2
  rcases h.o2.2 with ⟨rfl, h2⟩ | ⟨g, cap, cur, rfl, h2, h3, _⟩
  · have e : a.files = [] := List.length_eq_zero_iff.1 h2
    exact ⟨ad, cd, none, 0, by unfold av; rw [h2], TxFar.sl hfar, .inl e⟩
  · refine ⟨ad, cd, some ⟨g, 0, none⟩, cap, rfl, TxFar.sl hfar, .inr ⟨g, 0, rfl, Array.getElem?_eq_some_iff.1 h3 |>.1, fun i hi => ?_⟩⟩
    obtain ⟨hat, _⟩ := own_at o2 hi
    rw [Nat.zero_add]
    exact ⟨hat 0 (by omega), hat 1 (by omega), hat 2 (by omega), hat 3 (by omega), hat 4 (by omega)⟩
theorem sane_of {a : Ar.A} (h1 : a.dicts.length ≤ 8796093022208) (h2 : a.files.length ≤ 8796093022208) (h3 : ∀ d ∈ a.dicts, d.size ≤ 140737488355328) (h4 : ∀ f ∈ a.files, f.name.size ≤ 140737488355328 ∧ f.blk.size ≤ 140737488355328) : SaneA a := by
  have hf : ∀ i, (Ar.fa a.files i).name.size ≤ 140737488355328 ∧ (Ar.fa a.files i).blk.size ≤ 140737488355328 := fun i => by
    by_cases hi : i < a.files.length
    · rw [Ar.fa_get hi]; exact h4 _ (List.getElem_mem hi)
    · have e : Ar.fa a.files i = Ar.fz := by simp [Ar.fa, hi]
      rw [e]; exact ⟨Nat.zero_le _, Nat.zero_le _⟩
  refine ⟨h1, h2, fun i => ?_, fun i => (hf i).1, fun i => (hf i).2⟩
  by_cases hi : i < a.dicts.length
  · have e : Tr.xa a.dicts i = a.dicts[i] := by simp [Tr.xa, hi]
    rw [e]; exact h3 _ (List.getElem_mem hi)
  · have e : Tr.xa a.dicts i = ⟨#[]⟩ := by simp [Tr.xa, hi]
    rw [e]; exact Nat.zero_le _
theorem SaneA.mem {a : Ar.A} (h : SaneA a) : (∀ d ∈ a.dicts, d.size ≤ 140737488355328) ∧ ∀ f ∈ a.files, f.name.size ≤ 140737488355328 ∧ f.blk.size ≤ 140737488355328 := by
  constructor
  · intro d hd
    obtain ⟨i, hi, rfl⟩ := List.getElem_of_mem hd
    have := h.ds i
    simpa [Tr.xa, hi] using this
  · intro f hf
    obtain ⟨i, hi, rfl⟩ := List.getElem_of_mem hf
    have h1 := h.nm i
    have h2 := h.bk i
    rw [Ar.fa_get hi] at h1 h2
    exact ⟨h1, h2⟩
theorem sane_az : SaneA Ar.az := sane_of (by decide) (by decide) (fun d hd => by cases hd) (fun f hf => by cases hf)
theorem putE_zero {a : Ar.A} {name text : ByteArray} {dict : Int} (h : Ar.putE a name text dict = 0) : Ar.chk a = 0 ∧ Ar.isNm name = true ∧ Ar.has a.dicts dict = true ∧ text.size ≤ 512 := by
  unfold Ar.putE at h
  by_cases hc : Ar.chk a = 0
  · rw [if_neg (fun h9 => h9 hc)] at h
    cases hm : Ar.isNm name with
    | false => rw [if_pos hm] at h; cases h
    | true =>
      rw [if_neg (by rw [hm]; decide)] at h
      cases hd : Ar.has a.dicts dict with
      | false => rw [if_pos hd] at h; cases h
      | true =>
        rw [if_neg (by rw [hd]; decide)] at h
        refine ⟨hc, rfl, rfl, ?_⟩
        by_cases hl : 512 < text.size
        · rw [if_pos (.inl hl)] at h; cases h
        · omega
  · rw [if_pos hc] at h; exact absurd h hc
theorem SaneA.put {a : Ar.A} (h : SaneA a) {name text : ByteArray} {dict : Int} (hn : name.size ≤ 140737488355328) : SaneA (Ar.putA a name text dict) := by
  by_cases he : Ar.putE a name text dict = 0
  · obtain ⟨hc, _, _, ht⟩ := putE_zero he
    obtain ⟨m1, m2, m3⟩ := Ar.many_iff.1 (Ar.chk_zero.1 hc).1
    have e : Ar.putA a name text dict = ⟨a.dicts, Ar.putF a.files (Ar.pk a.dicts name text dict)⟩ := by unfold Ar.putA; rw [if_pos he]
    rw [e]
    have hb : (Ar.pk a.dicts name text dict).blk.size ≤ 513 := by
      have := (Bk.unp_pak (Ar.dct_size (Ar.chk_zero.1 hc).1 dict) ht).2.2
      show (Bk.pak (Ar.dct a.dicts dict) text).1.size ≤ 513
      omega
    have hp := Ar.pos_le a.files name
    refine sane_of (by show a.dicts.length ≤ _; omega) ?_ h.mem.1 (fun f hf => ?_)
    · show (Ar.putF a.files (Ar.pk a.dicts name text dict)).length ≤ _
      unfold Ar.putF
      rw [List.length_append, List.length_cons, List.length_take, List.length_drop]
      omega
    · have hf' : f ∈ Ar.putF a.files (Ar.pk a.dicts name text dict) := hf
      unfold Ar.putF at hf'
      rcases List.mem_append.1 hf' with hf' | hf'
      · exact h.mem.2 f (List.mem_of_mem_take hf')
      · rcases List.mem_cons.1 hf' with rfl | hf'
        · exact ⟨hn, by omega⟩
        · exact h.mem.2 f (List.mem_of_mem_drop hf')
  · have e : Ar.putA a name text dict = Ar.az := by unfold Ar.putA; rw [if_neg he]
    rw [e]; exact sane_az
theorem SaneA.ret {a : Ar.A} (h : SaneA a) (size : Int) : SaneA (Ar.retA a size) := by
  by_cases he : Ar.retE a size = 0
  · obtain ⟨hc, _, _, _⟩ := Ar.retE_zero he
    have hmr := Ar.many_ret he
    obtain ⟨r1, r2, r3⟩ := Ar.many_iff.1 hmr
    rw [Ar.retA_is he]
    refine sane_of (Nat.le_trans r1 (by decide)) (by show (a.files.map _).length ≤ _; rw [List.length_map]; exact h.nf) (fun d hd => Nat.le_trans (r3 d hd) (by decide)) (fun f hf => ?_)
    obtain ⟨f', hf', rfl⟩ := List.mem_map.1 hf
    refine ⟨(h.mem.2 f' hf').1, ?_⟩
    have := (Bk.unp_pak (Ar.dct_size hmr (a.dicts.length + 1 : Nat)) (Ar.tx_size hc hf')).2.2
    have ht := Ar.tx_size hc hf'
    show (Bk.pak (Ar.dct (Ar.retD a size) (a.dicts.length + 1 : Nat)) (Ar.tx a.dicts f')).1.size ≤ _
    have e : (Bk.pak (Ar.dct (Ar.retD a size) (a.dicts.length + 1 : Nat)) (Ar.tx a.dicts f')).1.size ≤ 513 := by
      have h9 : (Bk.pak (Ar.dct (⟨Ar.retD a size, a.files⟩ : Ar.A).dicts (a.dicts.length + 1 : Nat)) (Ar.tx a.dicts f')).1.size ≤ (Ar.tx a.dicts f').size + 1 := this
      exact Nat.le_trans h9 (by omega)
    omega
  · have e : Ar.retA a size = Ar.az := by unfold Ar.retA; rw [if_neg he]
    rw [e]; exact sane_az
end Go.Proofs.YtbjbjbpgmojcbabGreat
namespace Go.Proofs.YtbjbjbpgmojcbabGreat
namespace Ar
def tA : ByteArray := ⟨#[116, 104, 101, 32, 115, 97, 109, 101, 32, 119, 111, 114, 100, 115, 44, 32, 116, 104, 101, 32, 115, 97, 109, 101, 32, 119, 111, 114, 100, 115]⟩
def tB : ByteArray := ⟨#[116, 104, 101, 32, 115, 97, 109, 101, 32, 119, 111, 114, 100, 115, 44, 32, 111, 114, 32, 111, 116, 104, 101, 114, 115]⟩
def A1 : A := putA az ⟨#[97]⟩ tA 0
def A2 : A := putA A1 ⟨#[98]⟩ tB 0
def A3 : A := retA A2 32
theorem e1 : putE az ⟨#[97]⟩ tA 0 = 0 := by kernel_rfl
theorem e2 : putE A1 ⟨#[98]⟩ tB 0 = 0 := by kernel_rfl
theorem e3 : retE A2 32 = 0 := by kernel_rfl
end Ar
end Go.Proofs.YtbjbjbpgmojcbabGreat
namespace Go.Proofs.YtbjbjbpgmojcbabGreat
namespace Ar
theorem c3 : chk A3 = 0 := chk_ret e3
end Ar
end Go.Proofs.YtbjbjbpgmojcbabGreat
namespace Go.Proofs.YtbjbjbpgmojcbabGreat
open Go.RowKit
namespace Tr
def fnK (L : List ByteArray) (d : ByteArray) : Nat → Option Nat
  | 0 => none
  | k + 1 => match fnK L d k with
    | some i => some i
    | none => if st (xa L k) d = true then none else some k
theorem fnK_some {L : List ByteArray} {d : ByteArray} {k i : Nat} (h : fnK L d k = some i) : ∀ j, fnK L d (k + j) = some i := by
  intro j
  induction j with
  | zero => exact h
  | succ j ih => rw [← Nat.add_assoc, fnK, ih]
theorem fnK_spec {L : List ByteArray} {d : ByteArray} : ∀ {k : Nat}, (match fnK L d k with | none => ∀ j, j < k → st (xa L j) d = true | some i => i < k ∧ st (xa L i) d = false ∧ ∀ j, j < i → st (xa L j) d = true)
  | 0 => by intro j h; omega
  | k + 1 => by
    have ih := fnK_spec (L := L) (d := d) (k := k)
    rw [fnK]
    cases h : fnK L d k with
    | some i => rw [h] at ih; exact ⟨by have := ih.1; omega, ih.2⟩
    | none =>
      rw [h] at ih
      simp only at ih ⊢
      by_cases hs : st (xa L k) d = true
      · rw [if_pos hs]
        intro j hj
        by_cases e : j = k
        · subst e; exact hs
        · exact ih j (by omega)
      · rw [if_neg hs]
        exact ⟨by omega, by simpa using hs, ih⟩
def fix (L : List ByteArray) (d : ByteArray) : Int := match fnK L d L.length with | none => -1 | some i => (i : Int)
end Tr
set_option maxRecDepth 4000 in
set_option maxHeartbeats 1000000 in
theorem notIn_any (p d : ByteArray) (bx : Nat) (w : World) (hc : w.cell? ⟨bx, 0, none⟩ = some (.string d)) (hM : Mx w) (hd : d.size ≤ 4000000000) (hp : 0 < p.size) :
    Calls Tryz.prog 106 #[.string p, .pointer (some ⟨bx, 0, none⟩)] w fun e w' => e = .returned (.bool (!Tr.st p d)) ∧ w' = w := by
  have c1 := contains_any d p w hM hd hp
  generalize Tr.st p d = r at *
  go_enter Tryz.func106, Tryz.ntmps106
  go_wp2_with fail
  refine c1.mono ?_
  rintro e w2 ⟨rfl, rfl⟩
  go_wp2_with fail
  go_ret
  exact ⟨rfl, rfl⟩
set_option maxRecDepth 4000 in
set_option maxHeartbeats 1000000 in
theorem firstNot_some (L : List ByteArray) (d : ByteArray) (b off cap bx : Nat) (w : World) (hx : Tr.TxAt w b off L) (hn : L.length ≤ 100000) (hc : w.cell? ⟨bx, 0, none⟩ = some (.string d)) (hM : Mx w) (hd : d.size ≤ 4000000000) (hp : ∀ i, i < L.length → (Tr.xa L i).size = 4) :
    Calls Tryz.prog 105 #[.slice (some ⟨b, off, none⟩) L.length cap, .func (.func 106) #[] #[.pointer (some ⟨bx, 0, none⟩)]] w fun e w' => e = .returned (.int .i64 (Tr.fix L d)) ∧ w' = w := by
  have HX : Hid (∀ i, i < L.length → w.cell? ⟨b, off + i, none⟩ = some (.string (Tr.xa L i))) := hx.2
  have HP : Hid (∀ i, i < L.length → Calls Tryz.prog 106 #[.string (Tr.xa L i), .pointer (some ⟨bx, 0, none⟩)] w fun e w' => e = .returned (.bool (!Tr.st (Tr.xa L i) d)) ∧ w' = w) := fun i hi => notIn_any _ d bx w hc hM hd (by rw [hp i hi]; omega)
  clear hp hc hM hx
  obtain ⟨r, hr⟩ : ∃ r, Tr.fix L d = r := ⟨_, rfl⟩
  rw [hr]
  have Hr : Hid ((match Tr.fnK L d L.length with | none => (-1 : Int) | some i => (i : Int)) = r) := hr
  clear hr
  go_enter Tryz.func105, Tryz.ntmps105
  go_wp2_with fail
  go_loopw [8] (fun i wr => ∃ k : Nat, k ≤ L.length ∧ i = .int .i64 k ∧ Hid (Tr.fnK L d k = none) ∧ wr = w) (fun i _ => L.length - (intOf i).toNat)
  case atStart => exact ⟨0, by omega, rfl, rfl, rfl⟩
  case round =>
    obtain ⟨k, hk2, rfl, HL, rfl⟩ := hrel
    by_cases hlt : k < L.length
    · have d1 : decide ((k : Int) < (L.length : Int)) = true := by simp; omega
      have d1' : decide (k < L.length) = true := by simp; omega
      have hki : (k : Int) < (L.length : Int) := by omega
      have c1 := HX.out k hlt
      have c2 := HP.out k hlt
      cases hs : Tr.st (Tr.xa L k) d with
      | false =>
        have HN : Hid (Tr.fnK L d (k + 1) = some k) := by show _ = _; rw [Tr.fnK, HL.out]; simp only; rw [hs]; rfl
        have HR : Hid ((k : Int) = r) := by
          have h9 := Tr.fnK_some HN.out (L.length - (k + 1))
          rw [show k + 1 + (L.length - (k + 1)) = L.length by omega] at h9
          have := Hr.out
          rw [h9] at this
          exact this
        rw [hs] at c2
        generalize Tr.xa L k = X at *
        clear HN hs
        go_wp2_with fail
        refine c2.mono ?_
        rintro e w2 ⟨rfl, rfl⟩
        go_wp2_with fail
        go_ret
        exact ⟨congrArg (fun x => Ending.returned (Value.int .i64 x)) HR.out, rfl⟩
      | true =>
        have HN : Hid (Tr.fnK L d (k + 1) = none) := by show _ = _; rw [Tr.fnK, HL.out]; exact if_pos hs
        rw [hs] at c2
        generalize Tr.xa L k = X at *
        clear hs
        go_wp2_with fail
        refine c2.mono ?_
        rintro e w2 ⟨rfl, rfl⟩
        go_wp2_with fail
        go_roundw
        case rel => exact ⟨k + 1, by omega, by go_num, HN, by trivial⟩
        case measure => simp [intOf]; omega
    · obtain rfl : k = L.length := by omega
      have HR : Hid ((-1 : Int) = r) := by have := Hr.out; rw [HL.out] at this; exact this
      have d1 : decide ((L.length : Int) < (L.length : Int)) = false := by simp
      clear Hr
      go_wp2_with fail
      go_ret
      exact ⟨congrArg (fun x => Ending.returned (Value.int .i64 x)) HR.out, rfl⟩
set_option maxRecDepth 4000 in
set_option maxHeartbeats 1000000 in
theorem firstNot_nil (ad : Option Addr) (cap : Nat) (fv : Value) (w : World) :
    Calls Tryz.prog 105 #[.slice ad 0 cap, fv] w fun e w' => e = .returned (.int .i64 (-1)) ∧ w' = w := by
  go_enter Tryz.func105, Tryz.ntmps105
  go_wp2_with fail
  go_loopw [8] (fun i wr => i = .int .i64 0 ∧ wr = w) (fun i _ => 0)
  case atStart => exact ⟨rfl, rfl⟩
  case round =>
    obtain ⟨rfl, rfl⟩ := hrel
    go_wp2_with fail
    go_ret
    exact ⟨rfl, rfl⟩
theorem firstNot_any (lo : Nat) (L : List ByteArray) (d : ByteArray) (ad : Option Addr) (cap bx : Nat) (w : World) (hx : Tr.TxFar lo w ad L) (hn : L.length ≤ 100000) (hc : w.cell? ⟨bx, 0, none⟩ = some (.string d)) (hM : Mx w) (hd : d.size ≤ 4000000000) (hp : ∀ i, i < L.length → (Tr.xa L i).size = 4) :
    Calls Tryz.prog 105 #[.slice ad L.length cap, .func (.func 106) #[] #[.pointer (some ⟨bx, 0, none⟩)]] w fun e w' => e = .returned (.int .i64 (Tr.fix L d)) ∧ w' = w := by
  rcases hx with rfl | ⟨b, off, rfl, _, h2⟩
  · exact firstNot_nil ad cap _ w
  · exact firstNot_some L d b off cap bx w h2 hn hc hM hd hp
end Go.Proofs.YtbjbjbpgmojcbabGreat
namespace Go.Proofs.YtbjbjbpgmojcbabGreat
open Go.RowKit
namespace Tr
theorem TxFar.set {lo : Nat} {w : World} {ad : Option Addr} {xs : List ByteArray} (h : TxFar lo w ad xs) {bx : Nat} (hb : bx < lo) (v : Value) : TxFar lo (w.setCell ⟨bx, 0, none⟩ v) ad xs := by
  rcases h with h | ⟨b, off, h1, h2, h3⟩
  · exact .inl h
  · refine .inr ⟨b, off, h1, h2, by simpa using h3.1, fun i hi => ?_⟩
    exact (World.cell?_setCell_other w _ _ _ (by intro e; have := congrArg Addr.block e; simp at this; omega)).trans (h3.2 i hi)
theorem TxFar.drop {lo : Nat} {w : World} {b off : Nat} {xs : List ByteArray} (h2 : lo ≤ b) (h : TxAt w b off xs) (j : Nat) : TxFar lo w (some ⟨b, off + j, none⟩) (xs.drop j) := by
  refine .inr ⟨b, off + j, rfl, h2, h.1, fun i hi => ?_⟩
  rw [List.length_drop] at hi
  rw [show off + j + i = off + (j + i) by omega, h.2 (j + i) (by omega)]
  simp [xa]
def slen : Value → Nat
  | .slice _ n _ => n
  | _ => 0
theorem xa_get {L : List ByteArray} {i : Nat} (h : i < L.length) : xa L i = L[i] := by simp [xa, h]
theorem rk_step {xs pre P : List ByteArray} {d : ByteArray} (h : Rk xs (pre ++ P)) (hpre : ∀ p, p ∈ pre → st p d = true) {i : Nat} (hf : fnK P d P.length = some i) :
    i < P.length ∧ best xs d = xa P i ∧ (xa P i).size = 4 ∧ (∀ p, p ∈ pre ++ P.take (i + 1) → st p (xa P i ++ d) = true) := by
  have hs := fnK_spec (L := P) (d := d) (k := P.length)
  rw [hf] at hs
  obtain ⟨h1, h2, h3⟩ := hs
  have hm : xa P i ∈ pre ++ P := by rw [xa_get h1]; exact List.mem_append_right _ (List.getElem_mem h1)
  have h4 := ((h.2 _).1 hm).1
  refine ⟨h1, ?_, h4, ?_⟩
  · have hi : pre.length + i < (pre ++ P).length := by rw [List.length_append]; omega
    have e : (pre ++ P)[pre.length + i] = xa P i := by rw [xa_get h1, List.getElem_append_right (by omega)]; simp
    rw [← e]
    refine rk_first h hi (by rw [e]; exact h2) fun k hk => ?_
    by_cases hk2 : k < pre.length
    · rw [List.getElem_append_left hk2]; exact hpre _ (List.getElem_mem hk2)
    · rw [List.getElem_append_right (by omega), ← xa_get]; exact h3 _ (by omega)
  · intro p hp
    rw [List.mem_append] at hp
    rcases hp with hp | hp
    · exact st_append (hpre p hp)
    · obtain ⟨k, hk, rfl⟩ := List.mem_iff_getElem.1 hp
      rw [List.length_take] at hk
      rw [List.getElem_take, ← xa_get]
      by_cases e : k = i
      · subst e; exact st_own _ _
      · exact st_append (h3 k (by omega))
theorem rk_stop {xs pre P : List ByteArray} {d : ByteArray} (h : Rk xs (pre ++ P)) (hpre : ∀ p, p ∈ pre → st p d = true) (hf : fnK P d P.length = none) : (best xs d).size = 0 := by
  have hs := fnK_spec (L := P) (d := d) (k := P.length)
  rw [hf] at hs
  refine rk_none h fun k hk => ?_
  by_cases hk2 : k < pre.length
  · rw [List.getElem_append_left hk2]; exact hpre _ (List.getElem_mem hk2)
  · rw [List.length_append] at hk
    rw [List.getElem_append_right (by omega), ← xa_get]; exact hs _ (by omega)
theorem many_false {xs : List ByteArray} (h : many xs = false) : xs.length ≤ 12 ∧ ∀ i, (xa xs i).size ≤ 512 := by
  rw [many, Bool.or_eq_false_iff, decide_eq_false_iff_not] at h
  refine ⟨by omega, fun i => ?_⟩
  apply Nat.le_of_not_lt
  intro hlt
  by_cases hi : i < xs.length
  · have : ∀ k, i < k → (lgK xs k).isSome = true := by
      intro k hk
      induction k with
      | zero => omega
      | succ k ih =>
        rw [lgK]
        by_cases e : i = k
        · subst e
          cases lgK xs i with
          | some _ => rfl
          | none => simp only; rw [if_pos hlt]; rfl
        · have := ih (by omega)
          cases hq : lgK xs k with
          | some _ => rfl
          | none => rw [hq] at this; cases this
    rw [this _ hi] at h
    cases h.2
  · have : xa xs i = ⟨#[]⟩ := by simp [xa, show xs.length ≤ i by omega]
    rw [this] at hlt
    have : (⟨#[]⟩ : ByteArray).size = 0 := rfl
    omega
end Tr
set_option maxRecDepth 4000 in
set_option maxHeartbeats 4000000 in
theorem train_ok (xs : List ByteArray) (size : Int) (ad : Option Addr) (cap : Nat) (w : World) (hx : TxSl w ad xs) (hB : ∀ i, (Tr.xa xs i).size ≤ 140737488355328) (hM : Mx w) (hm : Tr.many xs = false) (h0 : 0 ≤ size) (h1 : size ≤ 256) :
    Calls Tryz.prog 66 #[.slice ad xs.length cap, .int .i64 size] w fun e w' => e = .returned (.tuple #[.string (Tr.trn xs size.toNat), .int .i64 0]) ∧ Below w.heap.size w w' := by
  obtain ⟨hn, hX⟩ := Tr.many_false hm
  have c1 := tooMany_any xs ad cap w hx hB
  rw [hm] at c1
  have HR : Hid (∀ w', Below w.heap.size w w' → Calls Tryz.prog 104 #[.slice ad xs.length cap] w' fun e w2 => ∃ ad' cap' L, e = .returned (.slice ad' (L : List ByteArray).length cap') ∧ L.length ≤ cap' ∧ L.length ≤ 6144 ∧ Tr.TxFar w'.heap.size w2 ad' L ∧ Tr.Rk xs L ∧ Below w'.heap.size w' w2) := fun w' hb => ranked_any xs ad cap w' (hx.below hb) hn hX (hM.below hb)
  have HM : Hid (∀ w', Below w.heap.size w w' → Mx w') := fun w' hb => hM.below hb
  have d1 : decide (size < 0) = false := decide_eq_false (by omega)
  have d2 : decide ((256 : Int) < size) = false := decide_eq_false (by omega)
  have HG := Tr.trn_good xs size.toNat
  obtain ⟨R, hR⟩ : ∃ R, Tr.trn xs size.toNat = R := ⟨_, rfl⟩
  rw [hR] at HG ⊢
  have HR0 : Hid (Tr.tro xs size.toNat 65 ⟨#[]⟩ = R) := hR
  have hRs : R.size ≤ 256 := by have := HG.most; omega
  clear hX hx hB hM hm hR HG
  go_enter Tryz.func66, Tryz.ntmps66
  go_wp2_with fail
  refine c1.mono ?_
  rintro e w1 ⟨rfl, B1⟩
  clear c1
  have c2 := HR.out (w1.alloc (.cells #[.string ⟨#[]⟩] 9 (0, 0))) (B1.alloc B1.size _)
  go_wp2_with fail
  refine c2.mono ?_
  rintro e w2 ⟨ad', cap', L, rfl, hLc, hL6, hT, hRk, B2⟩
  clear c2 HR
  have hcx : w2.cell? ⟨w1.heap.size, 0, none⟩ = some (.string ⟨#[]⟩) := by
    rw [B2.cell (p := ⟨w1.heap.size, 0, none⟩) (by simp)]
    exact cell_one_new _ _ _ 0 _ rfl
  have hfx : w2.frozen? ⟨w1.heap.size, 0, none⟩ = false := by
    rw [B2.frozen (p := ⟨w1.heap.size, 0, none⟩) (by simp)]
    exact World.frozen?_alloc_at _ _ _ _ rfl
  have B3 : Below w.heap.size w w2 := bch (B1.alloc B1.size (.cells #[.string ⟨#[]⟩] 9 (0, 0))) B2 (Nat.le_refl _)
  have hlo : w1.heap.size < (w1.alloc (.cells #[.string ⟨#[]⟩] 9 (0, 0))).heap.size := by simp
  have hwb := B1.size
  generalize (w1.alloc (.cells #[.string ⟨#[]⟩] 9 (0, 0))).heap.size = lo at *
  generalize w1.heap.size = bx at *
  clear B1 B2
  have HRk : Hid (Tr.Rk xs L) := hRk
  clear hRk
  go_wp2_with fail
  go_loopw [7] (fun v wr => ∃ (pre P : List ByteArray) (d : ByteArray) (f : Nat) (ad2 : Option Addr) (c : Nat), v = .slice ad2 P.length c ∧ P.length ≤ c ∧ P.length ≤ 6144 ∧ Hid (pre ++ P = L) ∧ Tr.TxFar lo wr ad2 P ∧ Hid (∀ p, p ∈ pre → Tr.st p d = true) ∧ Hid (Tr.tro xs size.toNat f d = R) ∧ Hid (4 * f + d.size = 260) ∧ d.size ≤ 256 ∧ wr.cell? ⟨bx, 0, none⟩ = some (.string d) ∧ wr.frozen? ⟨bx, 0, none⟩ = false ∧ Below w.heap.size w wr)
    (fun v _ => Tr.slen v)
  case atStart => exact ⟨[], L, ⟨#[]⟩, 65, ad', cap', rfl, hLc, hL6, rfl, hT, (fun p hp => by cases hp), HR0, rfl, by decide, hcx, hfx, B3⟩
  case round =>
    clear hcx hfx hT B3 hLc hL6
    obtain ⟨pre, P, d, f, ad2, c, rfl, hPc, hP6, HPL, hT, Hpre, HRd, Hf, hd, hcx, hfx, B3⟩ := hrel
    by_cases hfit : (d.size : Int) + 4 ≤ size
    · have e1 : decide ((d.size : Int) + 4 ≤ size) = true := decide_eq_true hfit
      have hrk : Tr.Rk xs (pre ++ P) := by rw [HPL.out]; exact HRk.out
      have hp4 : ∀ i, i < P.length → (Tr.xa P i).size = 4 := fun i hi => ((hrk.2 _).1 (List.mem_append_right _ (by rw [Tr.xa_get hi]; exact List.getElem_mem hi))).1
      have c3 := firstNot_any lo P d ad2 c bx wr hT (by omega) hcx (HM.out _ B3) (by omega) hp4
      unfold Tr.fix at c3
      cases hq : Tr.fnK P d P.length with
      | none =>
        rw [hq] at c3
        simp only at c3
        have HN : Hid (d = R) := by
          have h9 := HRd.out
          rw [Tr.tro_none (Tr.rk_stop hrk Hpre.out hq)] at h9
          exact h9
        clear hq hp4 hrk
        have c4 := fun w => clone_any d w (by omega)
        go_wp2_with fail
        refine c3.mono ?_
        rintro e w3 ⟨rfl, rfl⟩
        go_wp2_with fail
        refine (c4 _).mono ?_
        rintro e w4 ⟨rfl, G⟩
        go_wp2_with fail
        go_ret2
        exact ⟨by rw [HN.out]; rfl, bch B3 G (Nat.le_refl _)⟩
      | some i =>
        rw [hq] at c3
        simp only at c3
        obtain ⟨h2, h3, h4, h5⟩ := Tr.rk_step hrk Hpre.out hq
        obtain ⟨g, rfl⟩ : ∃ g, f = g + 1 := ⟨f - 1, by have := Hf.out; omega⟩
        have HN : Hid (Tr.tro xs size.toNat g (Tr.xa P i ++ d) = R) := by
          have h9 := HRd.out
          rw [Tr.tro_step (by omega) (by rw [h3]; exact h4), h3] at h9
          exact h9
        have HPre2 : Hid (∀ p, p ∈ pre ++ P.take (i + 1) → Tr.st p (Tr.xa P i ++ d) = true) := h5
        have HPL2 : Hid (pre ++ P.take (i + 1) ++ P.drop (i + 1) = L) := by show _ = _; rw [List.append_assoc, List.take_append_drop]; exact HPL.out
        rcases hT with hT | ⟨b2, off2, rfl, hlo2, hTx⟩
        · rw [hT] at h2; simp at h2
        have cX := hTx.2 i h2
        have hXd : (Tr.xa P i ++ d).size = 4 + d.size := by rw [ByteArray.size_append, h4]
        have hT2 := Tr.TxFar.drop hlo2 hTx (i + 1)
        generalize Tr.xa P i = X at *
        have hii : (i : Int) < (P.length : Int) := by omega
        have hi0 : decide ((i : Int) < 0) = false := decide_eq_false (by omega)
        have hi6 : (i : Int) ≤ 6144 := by omega
        have hXs : X.size ≤ 4 := by omega
        clear hq hp4 hrk HRd Hpre HPL h3 h5 hTx
        go_wp2_with fail
        refine c3.mono ?_
        rintro e w3 ⟨rfl, rfl⟩
        go_wp2_with fail
        go_region
        have hT3 := (hT2.set hlo (.string (X ++ d)))
        have hc3 : (w3.setCell ⟨bx, 0, none⟩ (.string (X ++ d))).cell? ⟨bx, 0, none⟩ = some (.string (X ++ d)) := World.cell?_setCell_same _ _ _ hcx
        have hf3 : (w3.setCell ⟨bx, 0, none⟩ (.string (X ++ d))).frozen? ⟨bx, 0, none⟩ = false := by rw [World.frozen?_setCell]; exact hfx
        have B4 : Below w.heap.size w (w3.setCell ⟨bx, 0, none⟩ (.string (X ++ d))) := B3.setCell hwb _
        have HD : Hid ((P.drop (i + 1)).length = P.length - (i + 1)) := List.length_drop ..
        have hlP : ((i : Int) + 1) ≤ (P.length : Int) := by omega
        have hlc : (P.length : Int) ≤ (c : Int) := by omega
        by_cases hce : i + 1 = c
        · subst hce
          obtain hPl : P.length = i + 1 := by omega
          go_wp2_with fail
          go_roundw
          case rel => exact ⟨pre ++ P.take (i + 1), [], X ++ d, g, _, 0, rfl, Nat.le_refl _, by simp, by have h9 := HPL2.out; rw [List.drop_of_length_le (by omega : P.length ≤ i + 1)] at h9; exact h9, .inl rfl, HPre2, HN, by have := Hf.out; show 4 * g + _ = 260; omega, by omega, hc3, hf3, B4.drew⟩
          case measure => simp [Tr.slen]; omega
        · have hce' : ¬ ((i : Int) + 1 = (c : Int)) := by omega
          go_wp2_with fail
          go_roundw
          case rel => exact ⟨pre ++ P.take (i + 1), P.drop (i + 1), X ++ d, g, _, c - (i + 1), by rw [HD.out], by rw [HD.out]; omega, by rw [HD.out]; omega, HPL2, hT3, HPre2, HN, by have := Hf.out; show 4 * g + _ = 260; omega, by omega, hc3, hf3, B4.drew⟩
          case measure => simp [Tr.slen]; omega
    · have e1 : decide ((d.size : Int) + 4 ≤ size) = false := decide_eq_false hfit
      have HN : Hid (d = R) := by
        have h9 := HRd.out
        rw [Tr.tro_full (by omega)] at h9
        exact h9
      have c4 := fun w => clone_any d w (by omega)
      go_wp2_with fail
      refine (c4 _).mono ?_
      rintro e w4 ⟨rfl, G⟩
      go_wp2_with fail
      go_ret2
      exact ⟨by rw [HN.out]; rfl, bch B3 G (Nat.le_refl _)⟩
set_option maxRecDepth 4000 in
set_option maxHeartbeats 1000000 in
theorem train_many (xs : List ByteArray) (size : Int) (ad : Option Addr) (cap : Nat) (w : World) (hx : TxSl w ad xs) (hB : ∀ i, (Tr.xa xs i).size ≤ 140737488355328) (hm : Tr.many xs = true) :
    Calls Tryz.prog 66 #[.slice ad xs.length cap, .int .i64 size] w fun e w' => e = .returned (.tuple #[.string ⟨#[]⟩, .int .i64 2]) ∧ Below w.heap.size w w' := by
  have c1 := tooMany_any xs ad cap w hx hB
  rw [hm] at c1
  clear hB hm hx
  go_enter Tryz.func66, Tryz.ntmps66
  go_wp2_with fail
  refine c1.mono ?_
  rintro e w1 ⟨rfl, B1⟩
  go_wp2_with fail
  go_ret2
  exact ⟨rfl, B1⟩
set_option maxRecDepth 4000 in
set_option maxHeartbeats 1000000 in
theorem train_range (xs : List ByteArray) (size : Int) (ad : Option Addr) (cap : Nat) (w : World) (hx : TxSl w ad xs) (hB : ∀ i, (Tr.xa xs i).size ≤ 140737488355328) (hm : Tr.many xs = false) (h : size < 0 ∨ 256 < size) :
    Calls Tryz.prog 66 #[.slice ad xs.length cap, .int .i64 size] w fun e w' => e = .returned (.tuple #[.string ⟨#[]⟩, .int .i64 3]) ∧ Below w.heap.size w w' := by
  have c1 := tooMany_any xs ad cap w hx hB
  rw [hm] at c1
  clear hB hm hx
  by_cases h0 : size < 0
  · have d1 : decide (size < 0) = true := decide_eq_true h0
    clear h
    go_enter Tryz.func66, Tryz.ntmps66
    go_wp2_with fail
    refine c1.mono ?_
    rintro e w1 ⟨rfl, B1⟩
    go_wp2_with fail
    go_ret2
    exact ⟨rfl, B1⟩
  · have d1 : decide (size < 0) = false := decide_eq_false h0
    have h2 : 256 < size := by omega
    have d2 : decide ((256 : Int) < size) = true := decide_eq_true h2
    clear h
    go_enter Tryz.func66, Tryz.ntmps66
    go_wp2_with fail
    refine c1.mono ?_
    rintro e w1 ⟨rfl, B1⟩
    go_wp2_with fail
    go_ret2
    exact ⟨rfl, B1⟩
namespace Tr
def tnE (xs : List ByteArray) (size : Int) : Int := if many xs = true then 2 else if 0 ≤ size ∧ size ≤ 256 then 0 else 3
def tnD (xs : List ByteArray) (size : Int) : ByteArray := if tnE xs size = 0 then trn xs size.toNat else ⟨#[]⟩
end Tr
theorem train_any (xs : List ByteArray) (size : Int) (ad : Option Addr) (cap : Nat) (w : World) (hx : TxSl w ad xs) (hB : ∀ i, (Tr.xa xs i).size ≤ 140737488355328) (hM : Mx w) :
    Calls Tryz.prog 66 #[.slice ad xs.length cap, .int .i64 size] w fun e w' => e = .returned (.tuple #[.string (Tr.tnD xs size), .int .i64 (Tr.tnE xs size)]) ∧ Below w.heap.size w w' := by
  unfold Tr.tnD Tr.tnE
  cases hm : Tr.many xs with
  | true => simpa using train_many xs size ad cap w hx hB hm
  | false =>
    by_cases h : 0 ≤ size ∧ size ≤ 256
    · simpa [h] using train_ok xs size ad cap w hx hB hM hm h.1 h.2
    · simpa [h] using train_range xs size ad cap w hx hB hm (by omega)
end Go.Proofs.YtbjbjbpgmojcbabGreat
namespace Go.Proofs.YtbjbjbpgmojcbabGreat
open Go.RowKit
set_option maxRecDepth 4000 in
set_option maxHeartbeats 4000000 in
theorem retrain_chk (ad af : Option Addr) (cd cf : Nat) (a : Ar.A) (size : Int) (w : World) (h : ArV w ad af a) (hs : SaneA a) (hc : Ar.chk a ≠ 0) :
    Calls Tryz.prog 25 #[av ad cd af cf a, .int .i64 size] w fun e w' => ArSaid w Ar.az (Ar.chk a) e w' := by
  have C1 : Hid (∀ w', Below w.heap.size w w' → Calls Tryz.prog 61 #[av ad cd af cf a] w' fun e w2 => TxtSaid a w' e w2) := fun w' h9 => texts_any ad af cd cf a w' (h.below h9) hs
  have hQ : Hid (∀ w', Below w.heap.size w w' → ArSaid w Ar.az (Ar.chk a) (.returned (.tuple #[.agg #[.slice none 0 0, .slice none 0 0], .int .i64 (Ar.chk a)])) w') := fun w' h9 => said_nil h9
  generalize ArSaid w Ar.az (Ar.chk a) = Q at *
  unfold TxtSaid at C1
  unfold av at C1 ⊢
  generalize Ar.chk a = E at *
  generalize Ar.txs a = TX at *
  generalize a.dicts.length = D at *
  generalize a.files.length = N at *
  have e1 : (E != 0) = true := by simpa using hc
  have e2 : (E == 0) = false := by simpa using hc
  clear h hs
  go_enter Tryz.func25, Tryz.ntmps25
  go_wp2_with fail
  refine (C1.out _ (Fr.start w _ _).b).mono ?_
  rintro e w1 ⟨adt, capt, L, rfl, _, _, _, _, G1⟩
  have F1 := (Fr.start w _ _).next G1
  clear G1
  obtain ⟨b, a0, a1, r0, r1, z0, z1, hz⟩ := id F1
  go_wp2_with fail
  rw [F1.zero]
  exact bodyPost_ret (v := .tuple #[.agg #[.slice none 0 0, .slice none 0 0], .int .i64 E]) (by simp [results, Tryz.results25, go_sem, F1.r0, F1.r1]) rfl (hQ.out _ F1.b)
set_option maxRecDepth 4000 in
set_option maxHeartbeats 4000000 in
theorem retrain_size (ad af : Option Addr) (cd cf : Nat) (a : Ar.A) (size : Int) (w : World) (h : ArV w ad af a) (hs : SaneA a) (hM : Mx w) (hc : Ar.chk a = 0) (hz : ¬ (0 ≤ size ∧ size ≤ 256)) :
    Calls Tryz.prog 25 #[av ad cd af cf a, .int .i64 size] w fun e w' => ArSaid w Ar.az 3 e w' := by
  have C1 : Hid (∀ w', Below w.heap.size w w' → Calls Tryz.prog 61 #[av ad cd af cf a] w' fun e w2 => TxtSaid a w' e w2) := fun w' h9 => texts_any ad af cd cf a w' (h.below h9) hs
  have hT := Ar.txs_many hc
  have C2 : Hid (∀ w' adt capt, Below w.heap.size w w' → TxSl w' adt (Ar.txs a) → Calls Tryz.prog 66 #[.slice adt (Ar.txs a).length capt, .int .i64 size] w' fun e w2 => e = .returned (.tuple #[.string ⟨#[]⟩, .int .i64 3]) ∧ Below w'.heap.size w' w2) := fun w' adt capt h8 h9 => by
    have := train_any (Ar.txs a) size adt capt w' h9 (fun i => by
      by_cases hi : i < (Ar.txs a).length
      · have e : Tr.xa (Ar.txs a) i = (Ar.txs a)[i] := by simp [Tr.xa, hi]
        rw [e]
        exact Nat.le_trans (hT.2 _ (List.getElem_mem hi)) (by decide)
      · have e : Tr.xa (Ar.txs a) i = ⟨#[]⟩ := by simp [Tr.xa, hi]
        rw [e]; exact Nat.zero_le _) (hM.below h8)
    have eE : Tr.tnE (Ar.txs a) size = 3 := by unfold Tr.tnE; rw [Ar.txs_none hc, if_neg (by decide), if_neg hz]
    have eD : Tr.tnD (Ar.txs a) size = ⟨#[]⟩ := by unfold Tr.tnD; rw [eE, if_neg (by decide)]
    rw [eE, eD] at this
    exact this
  have hQ : Hid (∀ w', Below w.heap.size w w' → ArSaid w Ar.az 3 (.returned (.tuple #[.agg #[.slice none 0 0, .slice none 0 0], .int .i64 3])) w') := fun w' h9 => said_nil h9
  generalize ArSaid w Ar.az 3 = Q at *
  unfold TxtSaid at C1
  rw [hc] at C1
  unfold av at C1 ⊢
  generalize Ar.txs a = TX at *
  generalize a.dicts.length = D at *
  generalize a.files.length = N at *
  clear h hs hM hc hz hT
  go_enter Tryz.func25, Tryz.ntmps25
  go_wp2_with fail
  refine (C1.out _ (Fr.start w _ _).b).mono ?_
  rintro e w1 ⟨adt, capt, L, rfl, _, hfar, hLx, _, G1⟩
  have hLT := hLx (by trivial)
  subst hLT
  have F1 := (Fr.start w _ _).next G1
  clear G1 hLx
  obtain ⟨b, a0, a1, r0, r1, z0, z1, hz⟩ := id F1
  have C2' := C2.out w1 adt capt b (TxFar.sl hfar)
  go_wp2_with fail
  refine C2'.mono ?_
  rintro e w2 ⟨rfl, G2⟩
  have F2 := F1.next G2
  clear b a0 a1 r0 r1 z0 z1 hz
  obtain ⟨b, a0, a1, r0, r1, z0, z1, hz⟩ := id F2
  go_wp2_with fail
  rw [F2.zero]
  exact bodyPost_ret (v := .tuple #[.agg #[.slice none 0 0, .slice none 0 0], .int .i64 3]) (by simp [results, Tryz.results25, go_sem, F2.r0, F2.r1]) rfl (hQ.out _ F2.b)
set_option maxRecDepth 4000 in
set_option maxHeartbeats 4000000 in
theorem retrain_full (ad af : Option Addr) (cd cf : Nat) (a : Ar.A) (size : Int) (w : World) (h : ArV w ad af a) (hs : SaneA a) (hM : Mx w) (hc : Ar.chk a = 0) (hz : 0 ≤ size ∧ size ≤ 256) (h4 : a.dicts.length = 4) :
    Calls Tryz.prog 25 #[av ad cd af cf a, .int .i64 size] w fun e w' => ArSaid w Ar.az 2 e w' := by
  have C1 : Hid (∀ w', Below w.heap.size w w' → Calls Tryz.prog 61 #[av ad cd af cf a] w' fun e w2 => TxtSaid a w' e w2) := fun w' h9 => texts_any ad af cd cf a w' (h.below h9) hs
  have hT := Ar.txs_many hc
  have C2 : Hid (∀ w' adt capt, Below w.heap.size w w' → TxSl w' adt (Ar.txs a) → Calls Tryz.prog 66 #[.slice adt (Ar.txs a).length capt, .int .i64 size] w' fun e w2 => e = .returned (.tuple #[.string (Tr.trn (Ar.txs a) size.toNat), .int .i64 0]) ∧ Below w'.heap.size w' w2) := fun w' adt capt h8 h9 => by
    have := train_any (Ar.txs a) size adt capt w' h9 (fun i => by
      by_cases hi : i < (Ar.txs a).length
      · have e : Tr.xa (Ar.txs a) i = (Ar.txs a)[i] := by simp [Tr.xa, hi]
        rw [e]
        exact Nat.le_trans (hT.2 _ (List.getElem_mem hi)) (by decide)
      · have e : Tr.xa (Ar.txs a) i = ⟨#[]⟩ := by simp [Tr.xa, hi]
        rw [e]; exact Nat.zero_le _) (hM.below h8)
    have eE : Tr.tnE (Ar.txs a) size = 0 := by unfold Tr.tnE; rw [Ar.txs_none hc, if_neg (by decide), if_pos hz]
    have eD : Tr.tnD (Ar.txs a) size = Tr.trn (Ar.txs a) size.toNat := by unfold Tr.tnD; rw [if_pos eE]
    rw [eE, eD] at this
    exact this
  have hQ : Hid (∀ w', Below w.heap.size w w' → ArSaid w Ar.az 2 (.returned (.tuple #[.agg #[.slice none 0 0, .slice none 0 0], .int .i64 2])) w') := fun w' h9 => said_nil h9
  generalize ArSaid w Ar.az 2 = Q at *
  unfold TxtSaid at C1
  rw [hc] at C1
  unfold av at C1 ⊢
  generalize Tr.trn (Ar.txs a) size.toNat = X at *
  generalize Ar.txs a = TX at *
  rw [h4] at C1 ⊢
  generalize a.files.length = N at *
  clear h hs hM hc hz hT h4
  go_enter Tryz.func25, Tryz.ntmps25
  go_wp2_with fail
  refine (C1.out _ (Fr.start w _ _).b).mono ?_
  rintro e w1 ⟨adt, capt, L, rfl, _, hfar, hLx, _, G1⟩
  have hLT := hLx (by trivial)
  subst hLT
  have F1 := (Fr.start w _ _).next G1
  clear G1 hLx
  obtain ⟨b, a0, a1, r0, r1, z0, z1, hz⟩ := id F1
  have C2' := C2.out w1 adt capt b (TxFar.sl hfar)
  go_wp2_with fail
  refine C2'.mono ?_
  rintro e w2 ⟨rfl, G2⟩
  have F2 := F1.next G2
  clear b a0 a1 r0 r1 z0 z1 hz
  obtain ⟨b, a0, a1, r0, r1, z0, z1, hz⟩ := id F2
  go_wp2_with fail
  rw [F2.zero]
  exact bodyPost_ret (v := .tuple #[.agg #[.slice none 0 0, .slice none 0 0], .int .i64 2]) (by simp [results, Tryz.results25, go_sem, F2.r0, F2.r1]) rfl (hQ.out _ F2.b)
end Go.Proofs.YtbjbjbpgmojcbabGreat
namespace Go.Proofs.YtbjbjbpgmojcbabGreat
open Go.RowKit
set_option maxRecDepth 8000 in
set_option maxHeartbeats 8000000 in
theorem retrain_ok (ad af : Option Addr) (cd cf : Nat) (a : Ar.A) (size : Int) (w : World) (h : ArV w ad af a) (hs : SaneA a) (hM : Mx w) (hE : Ar.retE a size = 0) :
    Calls Tryz.prog 25 #[av ad cd af cf a, .int .i64 size] w fun e w' => ArSaid w ⟨Ar.retD a size, a.files.map (Ar.reF a size)⟩ 0 e w' := by
  obtain ⟨hc, hzz1, hzz2, h4⟩ := Ar.retE_zero hE
  have hz : 0 ≤ size ∧ size ≤ 256 := ⟨hzz1, hzz2⟩
  obtain ⟨i0, hi, hz0, hz1, hz2⟩ := info_parts (P := Tryz.prog) (e := 9) (z := .string ⟨#[]⟩) (size := 1) (bytes := 16) (by kernel_rfl)
  obtain ⟨m1, m2, m3⟩ := Ar.many_iff.1 (Ar.chk_zero.1 hc).1
  have C1 : Hid (∀ w', Below w.heap.size w w' → Calls Tryz.prog 61 #[av ad cd af cf a] w' fun e w2 => TxtSaid a w' e w2) := fun w' h9 => texts_any ad af cd cf a w' (h.below h9) hs
  have hT := Ar.txs_many hc
  have C2 : Hid (∀ w' adt capt, Below w.heap.size w w' → TxSl w' adt (Ar.txs a) → Calls Tryz.prog 66 #[.slice adt (Ar.txs a).length capt, .int .i64 size] w' fun e w2 => e = .returned (.tuple #[.string (Tr.trn (Ar.txs a) size.toNat), .int .i64 0]) ∧ Below w'.heap.size w' w2) := fun w' adt capt h8 h9 => by
    have := train_any (Ar.txs a) size adt capt w' h9 (fun i => by
      by_cases hi : i < (Ar.txs a).length
      · have e : Tr.xa (Ar.txs a) i = (Ar.txs a)[i] := by simp [Tr.xa, hi]
        rw [e]
        exact Nat.le_trans (hT.2 _ (List.getElem_mem hi)) (by decide)
      · have e : Tr.xa (Ar.txs a) i = ⟨#[]⟩ := by simp [Tr.xa, hi]
        rw [e]; exact Nat.zero_le _) (hM.below h8)
    have eE : Tr.tnE (Ar.txs a) size = 0 := by unfold Tr.tnE; rw [Ar.txs_none hc, if_neg (by decide), if_pos hz]
    have eD : Tr.tnD (Ar.txs a) size = Tr.trn (Ar.txs a) size.toNat := by unfold Tr.tnD; rw [if_pos eE]
    rw [eE, eD] at this
    exact this
  have C6 : Hid (∀ w', Below w.heap.size w w' → Calls Tryz.prog 53 #[av ad cd af cf a] w' fun e w2 => ∃ v1 v2, e = .returned (.agg #[v1, v2]) ∧ ArOwn w'.heap.size w2 v1 v2 a ∧ Below w'.heap.size w' w2) := fun w' h9 => clone_arch ad af cd cf a w' (h.below h9) hs m1 m2
  have hmr := Ar.many_ret hE
  have hrl : (Ar.retD a size).length = a.dicts.length + 1 := by unfold Ar.retD; rw [List.length_append]; rfl
  have CP : Hid (∀ w' adx cdx afx cfx m, m < a.files.length → TxSl w' adx (Ar.retD a size) → Calls Tryz.prog 52 #[.agg #[.slice adx (a.dicts.length + 1) cdx, .slice afx a.files.length cfx], .string (Ar.fa a.files m).name, .string (Tr.xa (Ar.txs a) m), .int .i64 ((a.dicts.length : Int) + 1)] w' fun e w2 => e = .returned (.tuple #[.agg #[.string (Ar.reF a size (Ar.fa a.files m)).name, .int .i64 (Ar.reF a size (Ar.fa a.files m)).dict, .int .i64 (Ar.reF a size (Ar.fa a.files m)).size, .int .i64 (Ar.reF a size (Ar.fa a.files m)).sum, .string (Ar.reF a size (Ar.fa a.files m)).blk], .int .i64 0]) ∧ Below w'.heap.size w' w2) := fun w' adx cdx afx cfx m hm hx => by
    have hmem : Ar.fa a.files m ∈ a.files := by rw [Ar.fa_get hm]; exact List.getElem_mem hm
    have e : Tr.xa (Ar.txs a) m = Ar.tx a.dicts (Ar.fa a.files m) := by unfold Ar.txs; simp [Tr.xa, Ar.fa, hm]
    have := archPack_any adx afx cdx cfx ⟨Ar.retD a size, a.files⟩ (Ar.fa a.files m).name (Tr.xa (Ar.txs a) m) ((a.dicts.length : Int) + 1) w' hx (by show (Ar.retD a size).length ≤ 4; omega) (Ar.dct_size hmr _) (by show Ar.has (Ar.retD a size) _ = true; unfold Ar.has; rw [hrl]; exact decide_eq_true ⟨by omega, by omega⟩) (by rw [e]; exact Ar.tx_size hc hmem) (hs.nm m)
    unfold av at this
    simp only [hrl] at this
    rw [e] at this ⊢
    exact this
  have HQ : Hid (∀ v1 v2 w', w'.ownsRow w.heap.size 9 1 v1 (a.dicts.length + 1) (a.dicts.map Value.string ++ [.string (Tr.trn (Ar.txs a) size.toNat)]) → w'.ownsRow w.heap.size 46 5 v2 a.files.length (fcs (a.files.map (Ar.reF a size))) → (∀ j, v1.ownBlock = some j → v2.ownBlock ≠ some j) → Below w.heap.size w w' → ArSaid w ⟨Ar.retD a size, a.files.map (Ar.reF a size)⟩ 0 (.returned (.tuple #[.agg #[v1, v2], .int .i64 0])) w') := fun v1 v2 w' h1 h2 h3 h4 => ⟨v1, v2, rfl, ⟨by
      show w'.ownsRow _ _ _ _ (Ar.retD a size).length ((Ar.retD a size).map Value.string)
      have e : (Ar.retD a size).map Value.string = a.dicts.map Value.string ++ [.string (Tr.trn (Ar.txs a) size.toNat)] := by unfold Ar.retD; rw [List.map_append]; rfl
      rw [hrl, e]; exact h1, by show w'.ownsRow _ _ _ _ (a.files.map (Ar.reF a size)).length _; rw [List.length_map]; exact h2, h3⟩, h4⟩
  generalize ArSaid w ⟨Ar.retD a size, a.files.map (Ar.reF a size)⟩ 0 = Q at *
  have HTx : Hid (∀ lo w' ad' cap', w'.ownsRow lo 9 1 (.slice ad' (a.dicts.length + 1) cap') (a.dicts.length + 1) (a.dicts.map Value.string ++ [.string (Tr.trn (Ar.txs a) size.toNat)]) → TxSl w' ad' (Ar.retD a size)) := fun lo w' ad' cap' h1 => by
    have e : (Ar.retD a size).map Value.string = a.dicts.map Value.string ++ [.string (Tr.trn (Ar.txs a) size.toNat)] := by unfold Ar.retD; rw [List.map_append]; rfl
    rw [← hrl, ← e] at h1
    obtain ⟨ad2, cap2, e2, _, h5⟩ := tx_owns h1
    simp only [Value.slice.injEq] at e2
    obtain ⟨rfl, _, rfl⟩ := e2
    exact TxFar.sl h5
  have HI : Hid (∀ m, m < a.files.length → (Ar.reI a size m).length = a.files.length ∧ Ar.fa (Ar.reI a size m) m = Ar.fa a.files m ∧ fcs (Ar.reI a size (m + 1)) = fcs ((Ar.reI a size m).take m ++ Ar.reF a size (Ar.fa a.files m) :: (Ar.reI a size m).drop (m + 1))) := fun m hm => ⟨Ar.reI_len (Nat.le_of_lt hm), (Ar.reI_at hm).1, by rw [(Ar.reI_at hm).2]⟩
  have HIN : Hid (fcs (Ar.reI a size a.files.length) = fcs (a.files.map (Ar.reF a size))) := by show _ = _; rw [Ar.reI_end]
  have HA : Hid (∀ lo w' v1 v2, ArOwn lo w' v1 v2 a → w'.ownsRow lo 9 1 v1 a.dicts.length (a.dicts.map Value.string) ∧ w'.ownsRow lo 46 5 v2 a.files.length (fcs (Ar.reI a size 0)) ∧ (∀ j, v1.ownBlock = some j → v2.ownBlock ≠ some j)) := fun lo w' v1 v2 h9 => ⟨h9.o1, by rw [Ar.reI_zero]; exact h9.o2, h9.ne⟩
  have HTl : Hid ((Ar.txs a).length = a.files.length) := by show _ = _; unfold Ar.txs; rw [List.length_map]
  unfold TxtSaid at C1
  rw [hc] at C1
  unfold av at C1 C6 ⊢
  generalize hTX : Ar.txs a = TX at *
  generalize hXX : Tr.trn TX size.toNat = X at *
  have HXX : Hid (Tr.trn TX size.toNat = X) := hXX
  have xz : X.size ≤ 256 := by
    have := (Tr.trn_good TX size.toNat).most
    rw [hXX] at this
    omega
  clear hXX hTX
  generalize a.dicts.map Value.string = XS at *
  clear h hs hM hc hz hT hmr hrl m3 hE
  generalize a.dicts.length = D at *
  generalize a.files.length = N at *
  have hDi : (D : Int) ≤ 4 := by omega
  have hNi : (N : Int) ≤ 12 := by omega
  have d4 : ((D : Int) == 4) = false := by simp; omega
  have d4' : decide ((D : Int) = 4) = false := decide_eq_false (by omega)
  have d4'' : ¬ (D : Int) = 4 := by omega
  go_enter Tryz.func25, Tryz.ntmps25
  go_wp2_with fail
  refine (C1.out _ (Fr.start w _ _).b).mono ?_
  rintro e w1 ⟨adt, capt, L, rfl, _, hfar, hLx, _, G1⟩
  have hLT := hLx (by trivial)
  subst hLT
  have F1 := (Fr.start w _ _).next G1
  clear G1 hLx C1
  have hsl := TxFar.sl hfar
  obtain ⟨b, a0, a1, r0, r1, z0, z1, hz⟩ := id F1
  have C2' := C2.out w1 adt capt b hsl
  go_wp2_with fail
  refine C2'.mono ?_
  rintro e w2 ⟨rfl, G2⟩
  have F2 := F1.next G2
  have HX : Hid (∀ w', Below w2.heap.size w2 w' → ∀ m, m < N → ∃ b off, adt = some ⟨b, off, none⟩ ∧ b < w2.heap.size ∧ w'.cell? ⟨b, off + m, none⟩ = some (.string (Tr.xa L m))) := fun w' h9 m hm => by
    obtain ⟨b, off, e1, e2, e3⟩ := (hsl.below G2).at (i := m) (by rw [HTl.out]; exact hm)
    exact ⟨b, off, e1, e2, (h9.cell (p := ⟨b, off + m, none⟩) e2).trans e3⟩
  clear b a0 a1 r0 r1 z0 z1 hz C2 C2' hsl hfar G2 F1
  obtain ⟨b, a0, a1, r0, r1, z0, z1, hz⟩ := id F2
  go_wp2_with fail
  refine (C6.out _ F2.b).mono ?_
  rintro e w6 ⟨v1, v2, rfl, O6, G6⟩
  have F6 := F2.next G6
  obtain ⟨o1, o2, o3⟩ := HA.out _ _ _ _ O6
  have hlo : w.heap.size + 1 < w2.heap.size := F2.hz
  have hl0 : w2.heap.size ≤ w6.heap.size := G6.size
  have HX6 : Hid (∀ w', Below w2.heap.size w6 w' → ∀ m, m < N → ∃ b off, adt = some ⟨b, off, none⟩ ∧ b < w2.heap.size ∧ w'.cell? ⟨b, off + m, none⟩ = some (.string (Tr.xa L m))) := fun w' h9 m hm => HX.out w' (G6.trans h9) m hm
  generalize w2.heap.size = lo at o1 o2 hlo hl0 HX6
  clear G6 O6 HA b a0 a1 r0 r1 z0 z1 hz C6 HX F2
  obtain ⟨p1, q1, rfl, _⟩ := own_slice o1
  obtain ⟨p2, q2, rfl, _⟩ := own_slice o2
  obtain ⟨b, a0, a1, r0, r1, z0, z1, hz⟩ := id F6
  have hz6 : w.heap.size < w6.heap.size := by omega
  have S0 : CpS w6 (w6.alloc (.cells #[.slice p1 D q1, .slice p2 N q2] 25 (0, 0))) w6.heap.size lo (.slice p1 D q1) (.slice p2 N q2) D N XS (fcs (Ar.reI a size 0)) :=
    ⟨World.cell?_alloc_new _ _ _ 0, World.cell?_alloc_new _ _ _ 1, World.frozen?_alloc_at _ _ _ _ rfl, World.frozen?_alloc_at _ _ _ _ rfl, o1.alloc _, o2.alloc _, o3, fun e => by have := (o1.lt _ e).2; omega, fun e => by have := (o2.lt _ e).2; omega, hl0, by simp, (Below.refl _ _).alloc hl0 _⟩
  clear o1 o2 o3
  have hnw : ∀ j u, [Value.string X][j]? = some u → ((w6.alloc (.cells #[.slice p1 D q1, .slice p2 N q2] 25 (0, 0))).alloc (.cells #[.string X] 9 (0, 0))).cell? ((⟨w6.heap.size + 1, 0, none⟩ : Addr).add j) = some u := by
    intro j u hj
    rw [addr_add, (box2 w6 _ #[.string X] _ _).2]
    simpa using hj
  go_wp2_with (first
    | (at_builtin; refine wpList_append_lies _ rfl _ _ 22 rfl lo 9 i0 (.string ⟨#[]⟩) 1 16 Tryz.underlying22 hi hz0 hz1 hz2 rfl (by decide) (.slice p1 D q1) _ _ rfl (S0.o1.alloc _) ⟨w6.heap.size + 1, 0, none⟩ 1 1 [.string X] rfl rfl hnw (by simp [Value.oneCell']) (by decide) (by unfold maxLen; omega) (by omega) (by simp; omega) _ rfl ?_; intro g cp w5 hown5 hgrow5 hat5 hlt5; obtain ⟨⟨⟨qq1, qq2⟩, S5⟩, K5⟩ := S0.put1 hgrow5 hown5 hat5; have c15 := S5.c1; clear hgrow5 hown5 hat5 hlt5 K5)
    | fail)
  clear S0 hnw c15 qq1 qq2 b a0 a1 r0 r1 z0 z1 hz
  generalize (w5.setCell ⟨w6.heap.size, 0, none⟩ (.slice (some ⟨g, 0, none⟩) (D + 1) cp)) = wq at *
  generalize w6.heap.size = C at *
  go_loopw [47] (fun i wr => ∃ m : Nat, m ≤ N ∧ i = .int .i64 m ∧ CpS w6 wr C lo (.slice (some ⟨g, 0, none⟩) (D + 1) cp) (.slice p2 N q2) (D + 1) N (XS ++ [.string X]) (fcs (Ar.reI a size m))) (fun i _ => N - (intOf i).toNat)
  case atStart => exact ⟨0, by omega, rfl, S5⟩
  case round =>
    clear S5
    obtain ⟨m, hm2, rfl, S6⟩ := hrel
    have F7 := F6.keep S6.bel hlo
    by_cases hlt : m < N
    · have d2 : decide ((m : Int) < (N : Int)) = true := by simp; omega
      have d2' : decide (m < N) = true := by simp; omega
      have hmi : (m : Int) < (N : Int) := by omega
      have hmL : (m : Int) < (L.length : Int) := by rw [HTl.out]; exact hmi
      have hmL' : m < L.length := by rw [HTl.out]; exact hlt
      rcases S6.o2.2 with ⟨_, h0⟩ | ⟨g2, cap2, cur2, e, _⟩
      · omega
      simp only [Value.slice.injEq] at e
      obtain ⟨rfl, _, rfl⟩ := e
      obtain ⟨hIl, hIf, hIs⟩ := HI.out m hlt
      have HIs : Hid (fcs (Ar.reI a size (m + 1)) = fcs ((Ar.reI a size m).take m ++ Ar.reF a size (Ar.fa a.files m) :: (Ar.reI a size m).drop (m + 1))) := hIs
      have hat := own_at (i := m) (fs := Ar.reI a size m) (w := wr) (lo := lo) (g := g2) (cap := q2) (by rw [hIl]; exact S6.o2) (by omega)
      rw [hIf] at hat
      have x0 : wr.cell? ⟨g2, m * 5, none⟩ = some (.string (Ar.fa a.files m).name) := hat.1 0 (by omega)
      have x1 : wr.cell? ⟨g2, m * 5 + 1, none⟩ = some (.int .i64 (Ar.fa a.files m).dict) := hat.1 1 (by omega)
      have x2 : wr.cell? ⟨g2, m * 5 + 2, none⟩ = some (.int .i64 (Ar.fa a.files m).size) := hat.1 2 (by omega)
      have x3 : wr.cell? ⟨g2, m * 5 + 3, none⟩ = some (.int .i64 (Ar.fa a.files m).sum) := hat.1 3 (by omega)
      have x4 : wr.cell? ⟨g2, m * 5 + 4, none⟩ = some (.string (Ar.fa a.files m).blk) := hat.1 4 (by omega)
      have hg2 : g2 < wr.heap.size := (S6.o2.lt g2 rfl).2
      have y := hat.2
      have CPm := fun w' h9 => CP.out w' (some ⟨g, 0, none⟩) cp (some ⟨g2, 0, none⟩) q2 m hlt h9
      have HS5 : Hid (∀ wk, CpS w6 wk C lo (.slice (some ⟨g, 0, none⟩) (D + 1) cp) (.slice (some ⟨g2, 0, none⟩) N q2) (D + 1) N (XS ++ [.string X]) (fcs (Ar.reI a size m)) → CpS w6 (w5s wk g2 (m * 5) (.string (Ar.reF a size (Ar.fa a.files m)).name) (.int .i64 (Ar.reF a size (Ar.fa a.files m)).dict) (.int .i64 (Ar.reF a size (Ar.fa a.files m)).size) (.int .i64 (Ar.reF a size (Ar.fa a.files m)).sum) (.string (Ar.reF a size (Ar.fa a.files m)).blk)) C lo (.slice (some ⟨g, 0, none⟩) (D + 1) cp) (.slice (some ⟨g2, 0, none⟩) N q2) (D + 1) N (XS ++ [.string X]) (fcs (Ar.reI a size (m + 1)))) := fun wk h9 => by
        rw [← hIl] at h9
        have := CpS.set5 (Ar.reF a size (Ar.fa a.files m)) h9 (i := m) (by omega)
        rw [hIl, ← hIs] at this
        exact this
      have htx := HTx.out lo wr (some ⟨g, 0, none⟩) cp S6.o1
      clear hIs hIf hIl hat HIs
      generalize (Ar.reF a size (Ar.fa a.files m)).name = n0 at *
      generalize (Ar.reF a size (Ar.fa a.files m)).dict = n1 at *
      generalize (Ar.reF a size (Ar.fa a.files m)).size = n2 at *
      generalize (Ar.reF a size (Ar.fa a.files m)).sum = n3 at *
      generalize (Ar.reF a size (Ar.fa a.files m)).blk = n4 at *
      generalize (Ar.fa a.files m).name = f0 at *
      generalize (Ar.fa a.files m).dict = f1 at *
      generalize (Ar.fa a.files m).size = f2 at *
      generalize (Ar.fa a.files m).sum = f3 at *
      generalize (Ar.fa a.files m).blk = f4 at *
      go_wp2_with fail
      have S7 := S6.below ((Below.refl _ _).alloc (Nat.le_refl _) (.cells #[.string f0, .int .i64 f1, .int .i64 f2, .int .i64 f3, .string f4] 46 (0, 0)))
      have hbx : (wr.alloc (.cells #[.string f0, .int .i64 f1, .int .i64 f2, .int .i64 f3, .string f4] 46 (0, 0))).cell? ⟨wr.heap.size, 0, none⟩ = some (.string f0) := World.cell?_alloc_new _ _ _ 0
      have htx7 := htx.below ((Below.refl _ _).alloc (Nat.le_refl _) (.cells #[.string f0, .int .i64 f1, .int .i64 f2, .int .i64 f3, .string f4] 46 (0, 0)))
      have k := fun (p : Addr) (hp : p.block < wr.heap.size) => World.cell?_alloc_lt wr (.cells #[.string f0, .int .i64 f1, .int .i64 f2, .int .i64 f3, .string f4] 46 (0, 0)) p hp
      have j0 := (k ⟨g2, m * 5, none⟩ hg2).trans x0
      have j1 := (k ⟨g2, m * 5 + 1, none⟩ hg2).trans x1
      have j2 := (k ⟨g2, m * 5 + 2, none⟩ hg2).trans x2
      have j3 := (k ⟨g2, m * 5 + 3, none⟩ hg2).trans x3
      have j4 := (k ⟨g2, m * 5 + 4, none⟩ hg2).trans x4
      have fz7 : ∀ o, (wr.alloc (.cells #[.string f0, .int .i64 f1, .int .i64 f2, .int .i64 f3, .string f4] 46 (0, 0))).frozen? ⟨g2, o, none⟩ = false := fun o => by rw [World.frozen?_alloc_past _ _ _ hg2]; exact y o
      have hg27 : g2 < (wr.alloc (.cells #[.string f0, .int .i64 f1, .int .i64 f2, .int .i64 f3, .string f4] 46 (0, 0))).heap.size := by simp; omega
      generalize (wr.alloc (.cells #[.string f0, .int .i64 f1, .int .i64 f2, .int .i64 f3, .string f4] 46 (0, 0))) = wP at *
      generalize wr.heap.size = P at *
      obtain ⟨bt, ot, rfl, hbt, hct⟩ := HX6.out wP S7.bel m hlt
      have c0 := S7.c0
      have c1 := S7.c1
      clear x0 x1 x2 x3 x4 y k S6 htx F7
      generalize Tr.xa L m = tm at *
      have CP9 := CPm wP.drew (htx7.below ((Below.refl _ _).drew))
      have HK : Hid (∀ wk, Below wP.heap.size wP.drew wk → CpS w6 wk C lo (.slice (some ⟨g, 0, none⟩) (D + 1) cp) (.slice (some ⟨g2, 0, none⟩) N q2) (D + 1) N (XS ++ [.string X]) (fcs (Ar.reI a size m)) ∧ wk.cell? ⟨g2, m * 5, none⟩ = some (.string f0) ∧ wk.cell? ⟨g2, m * 5 + 1, none⟩ = some (.int .i64 f1) ∧ wk.cell? ⟨g2, m * 5 + 2, none⟩ = some (.int .i64 f2) ∧ wk.cell? ⟨g2, m * 5 + 3, none⟩ = some (.int .i64 f3) ∧ wk.cell? ⟨g2, m * 5 + 4, none⟩ = some (.string f4) ∧ ∀ o, wk.frozen? ⟨g2, o, none⟩ = false) := fun wk Gk => by
        have G9 : Below wP.heap.size wP wk := Below.trans ((Below.refl wP.heap.size wP).drew) Gk
        exact ⟨S7.below G9, (G9.cell (p := ⟨g2, m * 5, none⟩) hg27).trans j0, (G9.cell (p := ⟨g2, m * 5 + 1, none⟩) hg27).trans j1, (G9.cell (p := ⟨g2, m * 5 + 2, none⟩) hg27).trans j2, (G9.cell (p := ⟨g2, m * 5 + 3, none⟩) hg27).trans j3, (G9.cell (p := ⟨g2, m * 5 + 4, none⟩) hg27).trans j4, fun o => (G9.frozen (p := ⟨g2, o, none⟩) hg27).trans (fz7 o)⟩
      have hC7 : C < wP.heap.size := S7.hb
      have hloC : lo ≤ C := S7.hC
      have hlg : lo ≤ g2 := (S7.o2.lt g2 rfl).1
      have hbt' : bt < wP.heap.size := by omega
      have hPP : P < wP.heap.size := World.block_lt_of_cell? wP _ hbx
      have hS0 : Hid (∀ wk, Below wP.heap.size wP.drew wk → wk.cell? ⟨C, 0, none⟩ = some (.slice (some ⟨g, 0, none⟩) (D + 1) cp) ∧ wk.cell? ⟨C, 1, none⟩ = some (.slice (some ⟨g2, 0, none⟩) N q2) ∧ wk.cell? ⟨P, 0, none⟩ = some (.string f0) ∧ wk.cell? ⟨bt, ot + m, none⟩ = some (.string tm)) := fun wk Gk => by
        have G9 : Below wP.heap.size wP wk := Below.trans ((Below.refl wP.heap.size wP).drew) Gk
        exact ⟨(G9.cell (p := ⟨C, 0, none⟩) hC7).trans c0, (G9.cell (p := ⟨C, 1, none⟩) hC7).trans c1, (G9.cell (p := ⟨P, 0, none⟩) hPP).trans hbx, (G9.cell (p := ⟨bt, ot + m, none⟩) hbt').trans hct⟩
      have hne1 : C ≠ g2 := fun e => S7.a2 (show some g2 = some C by rw [e])
      have hS5 : Hid (∀ wk, Below wP.heap.size wP.drew wk → (fun w9 => w9.cell? ⟨C, 0, none⟩ = some (.slice (some ⟨g, 0, none⟩) (D + 1) cp) ∧ w9.cell? ⟨C, 1, none⟩ = some (.slice (some ⟨g2, 0, none⟩) N q2) ∧ w9.cell? ⟨P, 0, none⟩ = some (.string f0) ∧ w9.cell? ⟨bt, ot + m, none⟩ = some (.string tm)) (w5s wk g2 (m * 5) (.string n0) (.int .i64 n1) (.int .i64 n2) (.int .i64 n3) (.string n4))) := fun wk Gk => by
        obtain ⟨e0, e1, e2, e3⟩ := hS0.out wk Gk
        have gr := w5s_grown wk g2 (m * 5) (.string n0) (.int .i64 n1) (.int .i64 n2) (.int .i64 n3) (.string n4)
        exact ⟨cell_keep gr e0 (by simpa using hne1), cell_keep gr e1 (by simpa using hne1), cell_keep gr e2 (by simp; omega), cell_keep gr e3 (by simp; omega)⟩
      unfold w5s at hS5
      simp only at hS5
      clear S7 j0 j1 j2 j3 j4 fz7 htx7 CPm hg2 hct hbt hbt' hbx c0 c1 hC7 hPP hloC hlg
      go_region_held3 (fun wk => wk.cell? ⟨C, 0, none⟩ = some (.slice (some ⟨g, 0, none⟩) (D + 1) cp) ∧ wk.cell? ⟨C, 1, none⟩ = some (.slice (some ⟨g2, 0, none⟩) N q2) ∧ wk.cell? ⟨P, 0, none⟩ = some (.string f0) ∧ wk.cell? ⟨bt, ot + m, none⟩ = some (.string tm))
        (first | (exact hS0.out _ (Below.refl _ _)) | (exact hS0.out _ Gk) | (exact hS5.out _ Gk))
        (first
          | (go_at_call 52; refine CP9.mono ?_; rintro e wk ⟨rfl, Gk⟩; obtain ⟨Sk, l0, l1, l2, l3, l4, lf⟩ := HK.out wk Gk; have lf0 := lf (m * 5); have lf1 := lf (m * 5 + 1); have lf2 := lf (m * 5 + 2); have lf3 := lf (m * 5 + 3); have lf4 := lf (m * 5 + 4)))
      all_goals
        have S8 := HS5.out wk Sk
        unfold w5s at S8
        go_wp2_with fail
        go_roundw
        case rel => exact ⟨m + 1, by omega, by go_num, S8⟩
        case measure => simp [intOf]; omega
    · obtain rfl : m = N := by omega
      have d1 : decide ((m : Int) < (m : Int)) = false := by simp
      rw [HIN.out] at S6
      obtain ⟨b, a0, a1, r0, r1, z0, z1, hz⟩ := id F7
      obtain ⟨Bz, Oz1, Oz2, Rz0, Rz1⟩ := put_end b S6.o1 S6.o2 hlo r0 r1
      have ne9 := S6.ne
      have c0 := S6.c0
      have c1 := S6.c1
      have hC2 := S6.hb
      have hzw : w.heap.size < wr.heap.size := by omega
      clear S6 F7
      go_wp2_with fail
      generalize (wr.setCell ⟨w.heap.size + 1, 0, none⟩ (.slice (some ⟨g, 0, none⟩) (D + 1) cp)).setCell ⟨w.heap.size + 1, 1, none⟩ (.slice p2 m q2) = wz at *
      exact bodyPost_ret (v := .tuple #[.agg #[.slice (some ⟨g, 0, none⟩) (D + 1) cp, .slice p2 m q2], .int .i64 0]) (by simp [results, Tryz.results25, go_sem, Rz0, Rz1]) rfl (HQ.out _ _ _ Oz1 Oz2 ne9 Bz)
theorem archRetrain_any (ad af : Option Addr) (cd cf : Nat) (a : Ar.A) (size : Int) (w : World) (h : ArV w ad af a) (hs : SaneA a) (hM : Mx w) :
    Calls Tryz.prog 25 #[av ad cd af cf a, .int .i64 size] w fun e w' => ArSaid w (Ar.retA a size) (Ar.retE a size) e w' := by
  by_cases hE : Ar.retE a size = 0
  · rw [Ar.retA_is hE, hE]
    exact retrain_ok ad af cd cf a size w h hs hM hE
  · have e : Ar.retA a size = Ar.az := by unfold Ar.retA; rw [if_neg hE]
    rw [e]
    unfold Ar.retE at hE ⊢
    by_cases hc : Ar.chk a = 0
    · rw [if_neg (fun h9 => h9 hc)] at hE ⊢
      by_cases hz : 0 ≤ size ∧ size ≤ 256
      · rw [if_pos hz] at hE ⊢
        by_cases h4 : a.dicts.length = 4
        · rw [if_pos h4]
          exact retrain_full ad af cd cf a size w h hs hM hc hz h4
        · rw [if_neg h4] at hE; exact absurd rfl hE
      · rw [if_neg hz]
        exact retrain_size ad af cd cf a size w h hs hM hc hz
    · rw [if_pos hc]
      exact retrain_chk ad af cd cf a size w h hs hc
end Go.Proofs.YtbjbjbpgmojcbabGreat
