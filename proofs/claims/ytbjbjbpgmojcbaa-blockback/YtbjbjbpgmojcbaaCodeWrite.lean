/- What code.Write comes to. -/
import Derived.Test.YtbjbjbpgmojcbaaCodePut
import Derived.Deep.RegionHeld3
namespace Go.Proofs.Ytbjbjbpgmojcbaa
open Go.RowKit

namespace Cd
theorem wI_v (f : Nat → Int) (n : Int) (x : Int × (Nat → Int)) (M : Int) (h0 : 0 ≤ x.1) (h1 : x.1 + 16 ≤ M) (hx : ∀ i, 0 ≤ x.2 i ∧ x.2 i ≤ M) : ∀ k, k ≤ 16 → ∀ i, 0 ≤ (wI f n x k).2 i ∧ (wI f n x k).2 i ≤ M := by
  intro k
  induction k with
  | zero => intro _; exact hx
  | succ k ih =>
    intro hk i
    have hb := wI_b f n x k
    have := ih (by omega) i
    rw [wI]
    split
    · simp only
      unfold upd
      split
      · omega
      · exact this
    · exact this
theorem wO_v (f : Nat → Int) : ∀ n, n ≤ 15 → ∀ i, 0 ≤ (wO f n).2 i ∧ (wO f n).2 i ≤ 1048576 := by
  intro n
  induction n with
  | zero => intro _ i; simp [wO]
  | succ n ih =>
    intro hn
    have hb := wO_b f n
    have h2 : (2 : Int) ^ n ≤ 2 ^ 14 := pow_le_of (by omega)
    rw [wO]
    exact wI_v f _ ((wO f n).1 * 2, (wO f n).2) 1048576 (show 0 ≤ (wO f n).1 * 2 by omega) (show (wO f n).1 * 2 + 16 ≤ 1048576 by omega) (ih (by omega)) 16 (Nat.le_refl _)
theorem wds_v (f : Nat → Int) (i : Nat) : 0 ≤ wds f i ∧ wds f i ≤ 1048576 := wO_v f 15 (Nat.le_refl _) i

/-- A sign's word as bits. -/
def cw (f : Nat → Int) (s : Nat) : List Bool := wb (wds f s) (f s).toNat
/-- The byte at a place. -/
def at8 (s : ByteArray) (k : Nat) : Nat := (s.data.toList[k]?.getD 0).toNat
theorem at8_lt (s : ByteArray) (k : Nat) : at8 s k < 256 := (s.data.toList[k]?.getD 0).toNat_lt
/-- The bits of the first k bytes; none where a half has no word. -/
def wrK (f : Nat → Int) (s : ByteArray) : Nat → Option (List Bool)
  | 0 => some []
  | k + 1 => match wrK f s k with
    | none => none
    | some bs => if f (at8 s k / 16) = 0 ∨ f (at8 s k % 16) = 0 then none else some (bs ++ cw f (at8 s k / 16) ++ cw f (at8 s k % 16))
theorem wrK_none {f : Nat → Int} {s : ByteArray} {k : Nat} (h : wrK f s k = none) : ∀ j, wrK f s (k + j) = none := by
  intro j
  induction j with
  | zero => exact h
  | succ j ih => rw [← Nat.add_assoc, wrK, ih]
theorem wrK_next {f : Nat → Int} {s : ByteArray} {k : Nat} {bs : List Bool} (h : wrK f s k = some bs) (h1 : ¬ (f (at8 s k / 16) = 0 ∨ f (at8 s k % 16) = 0)) : wrK f s (k + 1) = some (bs ++ cw f (at8 s k / 16) ++ cw f (at8 s k % 16)) := by
  rw [wrK, h]
  simp only
  rw [if_neg h1]
theorem wrK_stop {f : Nat → Int} {s : ByteArray} {k n : Nat} {bs : List Bool} (hk : k < n) (h : wrK f s k = some bs) (h1 : f (at8 s k / 16) = 0 ∨ f (at8 s k % 16) = 0) : wrK f s n = none := by
  have : wrK f s (k + 1) = none := by rw [wrK, h]; simp only; rw [if_pos h1]
  have h2 := wrK_none this (n - (k + 1))
  rwa [show k + 1 + (n - (k + 1)) = n by omega] at h2
theorem cw_len {f : Nat → Int} (h : InR f 15 16) {i : Nat} (hi : i < 16) : (cw f i).length ≤ 15 := by
  rw [cw, wb_len]
  have := h i hi
  omega
theorem wrK_len {f : Nat → Int} {s : ByteArray} (h : InR f 15 16) : ∀ k bs, wrK f s k = some bs → bs.length ≤ 30 * k := by
  intro k
  induction k with
  | zero => intro bs h; simp [wrK] at h; subst h; simp
  | succ k ih =>
    intro bs hb
    rw [wrK] at hb
    have hlt := at8_lt s k
    cases hq : wrK f s k with
    | none => rw [hq] at hb; simp at hb
    | some b2 =>
      rw [hq] at hb
      simp only at hb
      split at hb
      · simp at hb
      · simp only [Option.some.injEq] at hb
        subst hb
        have h1 := ih b2 hq
        have h2 := cw_len h (i := at8 s k / 16) (by omega)
        have h3 := cw_len h (i := at8 s k % 16) (by omega)
        simp only [List.length_append]
        omega
/-- What Write tells. -/
def wrt (f : Nat → Int) (s : ByteArray) : ByteArray × Int :=
  if chk f ≠ 0 then (⟨#[]⟩, chk f) else if 1024 < s.size then (⟨#[]⟩, 2) else match wrK f s s.size with | none => (⟨#[]⟩, 5) | some bs => (⟨(pk bs).toArray⟩, 0)
end Cd

theorem BitsAt.below {w w' : World} {gb : Nat} {bs : List Bool} (h : BitsAt w gb bs) (hb : Below w.heap.size w w') : BitsAt w' gb bs := by
  obtain ⟨h1, v, h2, h3⟩ := h
  refine ⟨Nat.lt_of_lt_of_le h1 hb.size, v, by rw [hb.block gb h1]; exact h2, ?_⟩
  refine ⟨h3.1, ?_⟩
  rcases h3.2 with h | ⟨g, cap, cur, rfl, e1, e2, e3⟩
  · exact .inl h
  · exact .inr ⟨g, cap, cur, rfl, e1, by rw [hb.block g (Array.getElem?_eq_some_iff.1 e2).1]; exact e2, e3⟩
theorem bits_new (w : World) : BitsAt (w.alloc (.cells #[.slice none 0 0, .int .i64 0] 97)) w.heap.size [] :=
  ⟨by simp, .slice none 0 0, heap_alloc_last w _, World.ownsRow_nil _ _ _ _⟩
/-- What was there below stays. -/
theorem RowAt.keep {B g : Nat} {w w' : World} {f : Nat → Int} (h : RowAt w g f) (hb : Below B w w') (hg : g < B) : RowAt w' g f := ⟨Nat.lt_of_lt_of_le h.1 hb.size, by rw [hb.block g hg]; exact h.2⟩

set_option maxRecDepth 4000 in
set_option maxHeartbeats 4000000 in
theorem codeWrite_ok (f : Nat → Int) (s : ByteArray) (w : World) (h0 : Cd.chk f = 0) (hs : s.size ≤ 1024) :
    Calls Try.prog 44 #[.agg (arr f), .string s] w fun e w' => e = .returned (.tuple #[.string (Cd.wrt f s).1, .int .i64 (Cd.wrt f s).2]) ∧ Below w.heap.size w w' := by
  have hck := fun w => codeCheck_any f w
  rw [h0] at hck
  have hwd := fun w => codeWords_any f w
  have hin := arr_infoc f
  have hinw := arr_infoc (Cd.wds f)
  have hR : Hid (Cd.InR f 15 16) := (Cd.chk_zero h0).1
  have h0' : Hid (Cd.chk f = 0) := h0
  have hs' : (s.size : Int) ≤ 1024 := by omega
  have ds : decide (1024 < (s.size : Int)) = false := by simp; omega
  have R1 := RowAt.new w f
  have HB : Below w.heap.size w (w.alloc (.cells (arr f) 54)) := (Below.refl _ _).alloc (Nat.le_refl _) _
  obtain ⟨r1, r2, hr⟩ : ∃ r1 r2, Cd.wrt f s = (r1, r2) := ⟨_, _, rfl⟩
  rw [hr]
  have Hr : Hid (Cd.wrt f s = (r1, r2)) := hr
  clear hr h0
  go_enter Try.func44, Try.ntmps44
  go_wp2_with (refine wpList_load_row rfl 54 _ rfl w.heap.size rfl 54 (arr f) (0, 0) _ R1.2 Try.underlying54 rfl hin ?_)
  refine (hck _).mono ?_
  rintro e w1 ⟨rfl, G1⟩
  have S1 := R1.below G1
  have B1 := bch HB G1 (Nat.le_refl _)
  clear R1 HB G1 hck
  go_wp2_with (refine wpList_load_row rfl 54 _ rfl w.heap.size rfl 54 (arr f) (0, 0) _ S1.2 Try.underlying54 rfl hin ?_)
  refine (hwd _).mono ?_
  rintro e w2 ⟨rfl, G2⟩
  have T1 := S1.below G2
  have B2 := bch B1 G2 (Nat.le_refl _)
  clear S1 B1 G2 hwd
  go_wp2_with (refine wpList_store_row rfl 54 _ _ rfl w2.heap.size (arr (Cd.wds f)) rfl rfl 54 _ (heap_alloc_last w2 _) hinw rfl (arr_one _) ?_; rw [World.setRow_alloc_new])
  have T7 := (RowAt.new w2 (Cd.wds f)).alloc (.cells #[.slice none 0 0, .int .i64 0] 97)
  have T2 := (T1.alloc (.cells (arr (Cd.wds f)) 54)).alloc (.cells #[.slice none 0 0, .int .i64 0] 97)
  have TB := bits_new (w2.alloc (.cells (arr (Cd.wds f)) 54))
  have B3 : Below w.heap.size w ((w2.alloc (.cells (arr (Cd.wds f)) 54)).alloc (.cells #[.slice none 0 0, .int .i64 0] 97)) := (B2.alloc (Nat.le_of_lt T1.1) _).alloc (by have := T1.1; simp; omega) _
  have hsz9 : (w2.alloc (.cells (arr (Cd.wds f)) 54)).heap.size = w2.heap.size + 1 := by simp
  rw [hsz9] at TB
  have hq : Hid (w.heap.size < w2.heap.size ∧ w2.heap.size < w2.heap.size + 1) := ⟨T1.1, by omega⟩
  clear hsz9 T1 B2
  generalize (w2.alloc (.cells (arr (Cd.wds f)) 54)).alloc (.cells #[.slice none 0 0, .int .i64 0] 97) = w3 at *
  generalize w2.heap.size + 1 = gb at *
  generalize w2.heap.size = g7 at *
  go_loopw [24] (fun i wr => ∃ (k : Nat) (bs : List Bool), k ≤ s.size ∧ i = .int .i64 k ∧ Hid (Cd.wrK f s k = some bs) ∧ RowAt wr w.heap.size f ∧ RowAt wr g7 (Cd.wds f) ∧ BitsAt wr gb bs ∧ Below w.heap.size w wr) (fun i _ => s.size - (intOf i).toNat)
  case atStart => exact ⟨0, [], by omega, rfl, rfl, T2, T7, TB, B3⟩
  case round =>
    clear T2 T7 TB B3
    obtain ⟨k, bs, hk, rfl, hW, T2, T7, TB, B3⟩ := hrel
    by_cases hlt : k < s.size
    · have hk1 : decide ((k : Int) < (s.size : Int)) = true := by simp; omega
      have hk2 : decide (k < s.size) = true := by simp; omega
      obtain ⟨x, hx⟩ : ∃ x : Int, (s[k].toNat : Int) = x := ⟨_, rfl⟩
      have hA : Cd.at8 s k = s[k].toNat := by unfold Cd.at8; rw [Nm.at_list s k hlt]; rfl
      have hA2 := Cd.at8_lt s k
      have hx0 : 0 ≤ x := by omega
      have hx1 : x ≤ 255 := by omega
      obtain ⟨H, hH⟩ : ∃ H, Cd.at8 s k / 16 = H := ⟨_, rfl⟩
      obtain ⟨L, hL⟩ : ∃ L, Cd.at8 s k % 16 = L := ⟨_, rfl⟩
      have e1 : x / 16 = (H : Int) := by omega
      have e2 : x % 16 = (L : Int) := by omega
      have e3 : x.tdiv 16 = (H : Int) := by rw [Int.tdiv_eq_ediv_of_nonneg hx0]; exact e1
      have e4 : x.tmod 16 = (L : Int) := by rw [Int.tmod_eq_emod_of_nonneg hx0]; exact e2
      have hH1 : H < 16 := by omega
      have hL1 : L < 16 := by omega
      have hH2 : (H : Int) < 16 := by omega
      have hL2 : (L : Int) < 16 := by omega
      have HN : Hid (¬ (f H = 0 ∨ f L = 0) → Cd.wrK f s (k + 1) = some (bs ++ Cd.cw f H ++ Cd.cw f L)) := fun h => by have := Cd.wrK_next hW.out (by rw [hH, hL]; exact h); rw [hH, hL] at this; exact this
      have HS : Hid (f H = 0 ∨ f L = 0 → r1 = ⟨#[]⟩ ∧ r2 = 5) := fun h => by
        have h9 : Cd.wrt f s = (⟨#[]⟩, 5) := by
          rw [Cd.wrt, if_neg (fun h => h h0'.out), if_neg (by omega), Cd.wrK_stop hlt hW.out (by rw [hH, hL]; exact h)]
        have h8 := Hr.out.symm.trans h9
        simpa using h8
      have Hlen : Hid (bs.length ≤ 30720) := by have := Cd.wrK_len hR.out k bs hW.out; show _ ≤ _; omega
      clear hA hA2 hH hL e1 e2
      have c1 := T2.cell H hH1
      have c2 := T2.cell L hL1
      have c3 := T7.cell H hH1
      have c4 := T7.cell L hL1
      have hfH := hR.out H hH1
      have hfL := hR.out L hL1
      have hwH := Cd.wds_v f H
      have hwL := Cd.wds_v f L
      by_cases hz : f H = 0
      · obtain ⟨rfl, rfl⟩ := HS.out (.inl hz)
        rw [hz] at c1
        clear hz c2 c3 c4 hfH hfL hwH hwL
        go_wp2_with fail
        go_quiet (fail)
        go_wp2_with fail
        go_ret2
        exact ⟨rfl, below_drewN B3 _⟩
      · have d1 : (f H == 0) = false := by simpa using hz
        by_cases hy : f L = 0
        · obtain ⟨rfl, rfl⟩ := HS.out (.inr hy)
          rw [hy] at c2
          clear hz hy c3 c4 hfH hfL hwH hwL
          go_wp2_with fail
          go_quiet (fail)
          go_wp2_with fail
          go_ret2
          exact ⟨rfl, below_drewN B3 _⟩
        · have d2 : (f L == 0) = false := by simpa using hy
          have HNN : Hid (Cd.wrK f s (k + 1) = some (bs ++ Cd.cw f H ++ Cd.cw f L)) := HN.out (fun h => h.elim hz hy)
          clear hz hy HS HN
          go_wp2_with fail
          go_quiet (fail)
          go_wp2_with fail
          have U2 := T2.below (below_drewN (Below.refl wr.heap.size wr) nq)
          have U7 := T7.below (below_drewN (Below.refl wr.heap.size wr) nq)
          have UB := TB.below (below_drewN (Below.refl wr.heap.size wr) nq)
          have B4 := below_drewN B3 nq
          clear T2 T7 TB B3 c1 c2 c3 c4
          generalize wr.drewN nq = wq at *
          have c1 := U2.cell H hH1
          have c3 := U7.cell H hH1
          have hpH : ∀ w, BitsAt w gb bs → Calls Try.prog 69 #[.pointer (some ⟨gb, 0, none⟩), .int .i64 (Cd.wds f H), .int .i64 (f H)] w fun e w' => e = .returned (.tuple #[]) ∧ Below gb w w' ∧ BitsAt w' gb (bs ++ Cd.cw f H) := fun w h => by
            have h9 := bitsPut_any gb bs (Cd.wds f H) (f H).toNat w h hwH.1 hwH.2 (by omega) (by have := Hlen.out; omega)
            rw [Int.toNat_of_nonneg hfH.1] at h9
            exact h9
          have hpL : ∀ w, BitsAt w gb (bs ++ Cd.cw f H) → Calls Try.prog 69 #[.pointer (some ⟨gb, 0, none⟩), .int .i64 (Cd.wds f L), .int .i64 (f L)] w fun e w' => e = .returned (.tuple #[]) ∧ Below gb w w' ∧ BitsAt w' gb (bs ++ Cd.cw f H ++ Cd.cw f L) := fun w h => by
            have h9 := bitsPut_any gb (bs ++ Cd.cw f H) (Cd.wds f L) (f L).toNat w h hwL.1 hwL.2 (by omega) (by have := Hlen.out; have := Cd.cw_len hR.out hH1; simp; omega)
            rw [Int.toNat_of_nonneg hfL.1] at h9
            exact h9
          generalize Cd.cw f H = CH at *
          generalize Cd.cw f L = CL at *
          generalize f H = fH at *
          have hcL : ∀ w', RowAt w' w.heap.size f → RowAt w' g7 (Cd.wds f) → w'.cell? ⟨w.heap.size, L, none⟩ = some (.int .i64 (f L)) ∧ w'.cell? ⟨g7, L, none⟩ = some (.int .i64 (Cd.wds f L)) := fun w' r1 r2 => ⟨r1.cell L hL1, r2.cell L hL1⟩
          generalize Cd.wds f H = wH at *
          have HhL : Hid (∀ w', RowAt w' w.heap.size f → RowAt w' g7 (Cd.wds f) → w'.cell? ⟨w.heap.size, L, none⟩ = some (.int .i64 (f L)) ∧ w'.cell? ⟨g7, L, none⟩ = some (.int .i64 (Cd.wds f L))) := hcL
          clear hcL hwH hfH hwL hfL
          have hq7 : g7 < gb := hq.out.2
          have hqN : w.heap.size < gb := Nat.lt_trans hq.out.1 hq.out.2
          go_region_held3 (fun w' => w'.cell? ⟨g7, H, none⟩ = some (.int .i64 wH) ∧ w'.cell? ⟨w.heap.size, H, none⟩ = some (.int .i64 fH)) (first | (go_keep; done) | (exact ⟨(G4.cell (by exact hq7)).trans c3, (G4.cell (by exact hqN)).trans c1⟩) | (exact ⟨by assumption, by assumption⟩)) (first | (go_at_call 69; refine (hpH _ (by exact UB)).mono ?_; rintro e w4 ⟨rfl, G4, Z4⟩))
          have G4' : Below gb wq w4 := ((Below.refl gb wq).drew).trans G4
          have V2 := U2.keep G4' hqN
          have V7 := U7.keep G4' hq7
          have B5 := B4.trans (G4'.mono (Nat.le_of_lt hqN))
          clear U2 U7 UB B4 G4 G4' c1 c3 hpH
          obtain ⟨c2, c4⟩ := HhL.out w4 V2 V7
          generalize f L = fL at *
          generalize Cd.wds f L = wL at *
          go_wp2_with fail
          go_region_held3 (fun w' => w'.cell? ⟨g7, L, none⟩ = some (.int .i64 wL) ∧ w'.cell? ⟨w.heap.size, L, none⟩ = some (.int .i64 fL)) (first | (go_keep; done) | (exact ⟨(G6.cell (by exact hq7)).trans c4, (G6.cell (by exact hqN)).trans c2⟩) | (exact ⟨by assumption, by assumption⟩)) (first | (go_at_call 69; refine (hpL _ (by exact Z4)).mono ?_; rintro e w6 ⟨rfl, G6, Z6⟩))
          have G6' : Below gb w4 w6 := ((Below.refl gb w4).drew).trans G6
          have X2 := V2.keep G6' hqN
          have X7 := V7.keep G6' hq7
          have B6 := B5.trans (G6'.mono (Nat.le_of_lt hqN))
          clear V2 V7 B5 G6 G6' c2 c4 hpL
          go_wp2_with fail
          go_roundw
          case rel => exact ⟨k + 1, _, by omega, by go_num, HNN, X2, X7, Z6, B6⟩
          case measure => simp [intOf]; omega
    · obtain rfl : k = s.size := by omega
      have h9 : Cd.wrt f s = (⟨(Cd.pk bs).toArray⟩, 0) := by
        rw [Cd.wrt, if_neg (fun h => h h0'.out), if_neg (by omega), hW.out]
      have h8 := Hr.out.symm.trans h9
      simp only [Prod.mk.injEq] at h8
      obtain ⟨rfl, rfl⟩ := h8
      obtain ⟨hgb, v, hc, ho⟩ := TB
      have hcv := conv_own (l := Cd.pk bs) ho
      have hv0 : wr.cell? ⟨gb, 0, none⟩ = some v := by rw [cell_of_row wr gb 0 _ _ _ hc]; rfl
      clear h9 ho hc
      go_wp2_with fail
      go_ret2
      exact ⟨rfl, B3⟩

set_option maxRecDepth 4000 in
set_option maxHeartbeats 1000000 in
theorem codeWrite_any (f : Nat → Int) (s : ByteArray) (w : World) (hs0 : s.size ≤ 140737488355328) :
    Calls Try.prog 44 #[.agg (arr f), .string s] w fun e w' => e = .returned (.tuple #[.string (Cd.wrt f s).1, .int .i64 (Cd.wrt f s).2]) ∧ Below w.heap.size w w' := by
  by_cases h0 : Cd.chk f = 0
  · by_cases hs : s.size ≤ 1024
    · exact codeWrite_ok f s w h0 hs
    · have h9 : Cd.wrt f s = (⟨#[]⟩, 2) := by rw [Cd.wrt, if_neg (fun h => h h0), if_pos (by omega)]
      rw [h9]
      have hck := fun w => codeCheck_any f w
      rw [h0] at hck
      have hin := arr_infoc f
      have hs' : 1024 < (s.size : Int) := by omega
      have ds : decide (1024 < (s.size : Int)) = true := by simp; omega
      have R1 := RowAt.new w f
      have HB : Below w.heap.size w (w.alloc (.cells (arr f) 54)) := (Below.refl _ _).alloc (Nat.le_refl _) _
      clear h9 hs h0
      go_enter Try.func44, Try.ntmps44
      go_wp2_with (refine wpList_load_row rfl 54 _ rfl w.heap.size rfl 54 (arr f) (0, 0) _ R1.2 Try.underlying54 rfl hin ?_)
      refine (hck _).mono ?_
      rintro e w1 ⟨rfl, G1⟩
      have B1 := bch HB G1 (Nat.le_refl _)
      clear R1 HB G1 hck
      go_wp2_with fail
      go_ret2
      exact ⟨rfl, B1⟩
  · have h9 : Cd.wrt f s = (⟨#[]⟩, Cd.chk f) := by rw [Cd.wrt, if_pos h0]
    rw [h9]
    have hck := fun w => codeCheck_any f w
    have hin := arr_infoc f
    have R1 := RowAt.new w f
    have HB : Below w.heap.size w (w.alloc (.cells (arr f) 54)) := (Below.refl _ _).alloc (Nat.le_refl _) _
    generalize Cd.chk f = E at *
    have d0 : (E != 0) = true := by simpa using h0
    clear h9 h0
    go_enter Try.func44, Try.ntmps44
    go_wp2_with (refine wpList_load_row rfl 54 _ rfl w.heap.size rfl 54 (arr f) (0, 0) _ R1.2 Try.underlying54 rfl hin ?_)
    refine (hck _).mono ?_
    rintro e w1 ⟨rfl, G1⟩
    have B1 := bch HB G1 (Nat.le_refl _)
    clear R1 HB G1 hck
    go_wp2_with fail
    go_ret2
    exact ⟨rfl, B1⟩
end Go.Proofs.Ytbjbjbpgmojcbaa
