/- The words as chapter 3's own tells them: sixteen texts. -/
import Derived.Test.YtbjbjbpgmojcbaaRefBits
import Derived.Test.YtbjbjbpgmojcbaaCodeBackMath
namespace Go.Proofs.Ytbjbjbpgmojcbaa
open Go.RowKit

/-- Sixteen texts as an array's cells. -/
def arrS (h : Nat → ByteArray) : Array Value := ((List.range 16).map fun i => Value.string (h i)).toArray
theorem arrS_size (h : Nat → ByteArray) : (arrS h).size = 16 := by simp [arrS]
theorem arrS_at (h : Nat → ByteArray) (i : Nat) (hi : i < 16) : (arrS h)[i]? = some (.string (h i)) := by simp [arrS, hi]
theorem arrS_info : (Try.prog.info? 99).map (·.size) = some 16 := by kernel_rfl
theorem arrS_infoc (h : Nat → ByteArray) : (Try.prog.info? 99).map (·.size) = some (arrS h).size := by rw [arrS_size]; exact arrS_info
theorem arrS_congr {h g : Nat → ByteArray} (e : ∀ i, i < 16 → h i = g i) : arrS h = arrS g := by
  unfold arrS
  congr 1
  apply List.map_congr_left
  intro i hi
  rw [e i (List.mem_range.1 hi)]
def updB (h : Nat → ByteArray) (k : Nat) (v : ByteArray) : Nat → ByteArray := fun i => if i = k then v else h i
theorem arrS_upd (h : Nat → ByteArray) (k : Nat) (v : ByteArray) : (arrS h).setIfInBounds k (.string v) = arrS (updB h k v) := by
  apply Array.ext_getElem?
  intro i
  rw [Array.getElem?_setIfInBounds, arrS_size]
  by_cases hi : i < 16
  · rw [arrS_at _ i hi, arrS_at _ i hi]
    by_cases e : k = i
    · subst e
      simp [updB, hi]
    · have e' : ¬ i = k := fun h => e h.symm
      simp [updB, e, e']
  · have h1 : (arrS h)[i]? = none := by rw [Array.getElem?_eq_none]; rw [arrS_size]; omega
    have h2 : (arrS (updB h k v))[i]? = none := by rw [Array.getElem?_eq_none]; rw [arrS_size]; omega
    rw [h1, h2]
    split
    · rename_i e; subst e; simp [hi]
    · rfl
theorem arrS_zero : (#[.string ⟨#[]⟩, .string ⟨#[]⟩, .string ⟨#[]⟩, .string ⟨#[]⟩, .string ⟨#[]⟩, .string ⟨#[]⟩, .string ⟨#[]⟩, .string ⟨#[]⟩, .string ⟨#[]⟩, .string ⟨#[]⟩, .string ⟨#[]⟩, .string ⟨#[]⟩, .string ⟨#[]⟩, .string ⟨#[]⟩, .string ⟨#[]⟩, .string ⟨#[]⟩] : Array Value) = arrS (fun _ => ⟨#[]⟩) := rfl
theorem arrS_one (h : Nat → ByteArray) : (arrS h).all (·.oneCell') = true := by
  rw [Array.all_eq_true_iff_forall_mem]
  intro v hv
  simp [arrS] at hv
  obtain ⟨i, _, rfl⟩ := hv
  rfl
def StAt (w : World) (g : Nat) (h : Nat → ByteArray) : Prop := g < w.heap.size ∧ w.heap[g]? = some (.cells (arrS h) 99 (0, 0))
theorem StAt.new (w : World) (h : Nat → ByteArray) : StAt (w.alloc (.cells (arrS h) 99)) w.heap.size h := ⟨by simp, heap_alloc_last w _⟩
theorem StAt.below {w w' : World} {g : Nat} {h : Nat → ByteArray} (H : StAt w g h) (hb : Below w.heap.size w w') : StAt w' g h := ⟨Nat.lt_of_lt_of_le H.1 hb.size, by rw [hb.block g H.1]; exact H.2⟩
theorem StAt.alloc {w : World} {g : Nat} {h : Nat → ByteArray} (H : StAt w g h) (o : Obj) : StAt (w.alloc o) g h := H.below ((Below.refl _ _).alloc (Nat.le_refl _) o)
theorem StAt.cell {w : World} {g : Nat} {h : Nat → ByteArray} (H : StAt w g h) (k : Nat) (hk : k < 16) : w.cell? ⟨g, k, none⟩ = some (.string (h k)) := by rw [cell_of_row w g k _ _ _ H.2, arrS_at h k hk]
theorem StAt.frozen {w : World} {g : Nat} {h : Nat → ByteArray} (H : StAt w g h) (k : Nat) : w.frozen? ⟨g, k, none⟩ = false := by simp [World.frozen?, H.2]
theorem StAt.set {w : World} {g : Nat} {h : Nat → ByteArray} (H : StAt w g h) (k : Nat) (v : ByteArray) : StAt (w.setCell ⟨g, k, none⟩ (.string v)) g (updB h k v) := by
  refine ⟨by have := H.1; simpa [World.setCell] using this, ?_⟩
  rw [heap_set H.2, arrS_upd]
theorem StAt.setFar {w : World} {g : Nat} {h : Nat → ByteArray} (H : StAt w g h) {q : Nat} (hq : q ≠ g) (k : Nat) (v : Value) : StAt (w.setCell ⟨q, k, none⟩ v) g h := by
  refine ⟨by have := H.1; simpa [World.setCell] using this, ?_⟩
  rw [heap_far hq]
  exact H.2
theorem StAt.setRow {w : World} {g : Nat} {h : Nat → ByteArray} (H : StAt w g h) (h' : Nat → ByteArray) : StAt (w.setRow g (arrS h')) g h' := by
  refine ⟨by have := H.1; simpa [World.setRow] using this, ?_⟩
  show (w.heap.modify g _)[g]? = _
  rw [Array.getElem?_modify, if_pos rfl, H.2]
  rfl
theorem StAt.congr {w : World} {g : Nat} {h h' : Nat → ByteArray} (H : StAt w g h) (e : ∀ i, i < 16 → h i = h' i) : StAt w g h' := ⟨H.1, by rw [H.2, arrS_congr e]⟩

namespace Cd
/-- The texts behind k signs of length n + 1. -/
def oS (f : Nat → Int) (n k : Nat) (i : Nat) : ByteArray := if (1 ≤ f i ∧ f i ≤ (n : Int)) ∨ (f i = ((n + 1 : Nat) : Int) ∧ i < k) then str (cw f i) else ⟨#[]⟩
theorem oS_zero (f : Nat → Int) (h : InR f 15 16) (i : Nat) (hi : i < 16) : (⟨#[]⟩ : ByteArray) = oS f 0 0 i := by
  have := h i hi
  rw [oS, if_neg (by omega)]
theorem oS_step (f : Nat → Int) (n k : Nat) (h : f k = ((n + 1 : Nat) : Int)) (i : Nat) : updB (oS f n k) k (str (cw f k)) i = oS f n (k + 1) i := by
  unfold updB oS
  by_cases e : i = k
  · subst e; rw [if_pos rfl, if_pos (by omega)]
  · rw [if_neg e]
    by_cases h1 : (1 ≤ f i ∧ f i ≤ (n : Int)) ∨ (f i = ((n + 1 : Nat) : Int) ∧ i < k)
    · rw [if_pos h1, if_pos (by omega)]
    · rw [if_neg h1, if_neg (by omega)]
theorem oS_skip (f : Nat → Int) (n k : Nat) (h : ¬ f k = ((n + 1 : Nat) : Int)) (i : Nat) : oS f n k i = oS f n (k + 1) i := by
  unfold oS
  by_cases e : i = k
  · subst e
    by_cases h1 : 1 ≤ f i ∧ f i ≤ (n : Int)
    · rw [if_pos (.inl h1), if_pos (.inl h1)]
    · rw [if_neg (by omega), if_neg (by omega)]
  · by_cases h1 : (1 ≤ f i ∧ f i ≤ (n : Int)) ∨ (f i = ((n + 1 : Nat) : Int) ∧ i < k)
    · rw [if_pos h1, if_pos (by omega)]
    · rw [if_neg h1, if_neg (by omega)]
theorem oS_next (f : Nat → Int) (n : Nat) (i : Nat) (hi : i < 16) : oS f n 16 i = oS f (n + 1) 0 i := by
  unfold oS
  by_cases h1 : (1 ≤ f i ∧ f i ≤ (n : Int)) ∨ (f i = ((n + 1 : Nat) : Int) ∧ i < 16)
  · rw [if_pos h1, if_pos (by omega)]
  · rw [if_neg h1, if_neg (by omega)]
theorem oS_end (f : Nat → Int) (h : InR f 15 16) (i : Nat) (hi : i < 16) : oS f 15 0 i = str (cw f i) := by
  have := h i hi
  unfold oS
  by_cases h0 : f i = 0
  · rw [if_neg (by omega), cw, h0]; rfl
  · rw [if_pos (by omega)]
theorem wI_set (f : Nat → Int) (n : Int) (x : Int × (Nat → Int)) (k : Nat) (h : f k = n) : ∀ j, (wI f n x (k + 1 + j)).2 k = (wI f n x k).1 := by
  intro j
  induction j with
  | zero => rw [Nat.add_zero, wI, if_pos h]; exact upd_same _ _ _
  | succ j ih =>
    rw [← Nat.add_assoc, wI]
    split
    · simp only
      rw [upd_other _ _ (by omega)]
      exact ih
    · exact ih
/-- A sign's word is what is next when it comes up. -/
theorem wds_is {f : Nat → Int} {n k : Nat} (hk : k < 16) (hn : n + 1 ≤ 15) (h : f k = ((n + 1 : Nat) : Int)) : wds f k = (wI f ((n + 1 : Nat) : Int) ((wO f n).1 * 2, (wO f n).2) k).1 := by
  have h1 := wO_keep f k n h (15 - (n + 1))
  rw [show n + 1 + (15 - (n + 1)) = 15 by omega] at h1
  rw [wds, h1, wO]
  have h2 := wI_set f ((n + 1 : Nat) : Int) ((wO f n).1 * 2, (wO f n).2) k h (15 - k)
  rw [show k + 1 + (15 - k) = 16 by omega] at h2
  exact h2
end Cd

theorem words3 (w : World) (f : Nat → Int) : RowAt (((w.alloc (.cells (arr f) 54)).alloc (.cells (arrS fun _ => ⟨#[]⟩) 99)).alloc (.cells (arrS fun _ => ⟨#[]⟩) 99)) w.heap.size f ∧
    StAt (((w.alloc (.cells (arr f) 54)).alloc (.cells (arrS fun _ => ⟨#[]⟩) 99)).alloc (.cells (arrS fun _ => ⟨#[]⟩) 99)) (w.heap.size + 1) (fun _ => ⟨#[]⟩) ∧
    StAt (((w.alloc (.cells (arr f) 54)).alloc (.cells (arrS fun _ => ⟨#[]⟩) 99)).alloc (.cells (arrS fun _ => ⟨#[]⟩) 99)) (w.heap.size + 1 + 1) (fun _ => ⟨#[]⟩) ∧
    Below w.heap.size w (((w.alloc (.cells (arr f) 54)).alloc (.cells (arrS fun _ => ⟨#[]⟩) 99)).alloc (.cells (arrS fun _ => ⟨#[]⟩) 99)) := by
  have a := StAt.new (w.alloc (.cells (arr f) 54)) (fun _ => ⟨#[]⟩)
  have b := StAt.new ((w.alloc (.cells (arr f) 54)).alloc (.cells (arrS fun _ => ⟨#[]⟩) 99)) (fun _ => ⟨#[]⟩)
  refine ⟨((RowAt.new w f).alloc _).alloc _, ?_, ?_, (((Below.refl _ _).alloc (Nat.le_refl _) _).alloc (by simp) _).alloc (by simp; omega) _⟩
  · have := a.alloc (.cells (arrS fun _ => ⟨#[]⟩) 99)
    simpa using this
  · simpa using b

set_option maxRecDepth 4000 in
set_option maxHeartbeats 2000000 in
theorem refWords_any (f : Nat → Int) (w : World) (hR : Cd.InR f 15 16) :
    Calls Try.prog 70 #[.agg (arr f)] w fun e w' => e = .returned (.agg (arrS fun i => Cd.str (Cd.cw f i))) ∧ Below w.heap.size w w' := by
  obtain ⟨R1, R2, R3, HB⟩ := words3 w f
  rw [← arrS_zero] at R1 R2 R3 HB
  have HR : Hid (Cd.InR f 15 16) := hR
  clear hR
  obtain ⟨hS, hSe⟩ : ∃ h, (fun i => Cd.str (Cd.cw f i)) = h := ⟨_, rfl⟩
  rw [hSe]
  have HS : Hid ((fun i => Cd.str (Cd.cw f i)) = hS) := hSe
  clear hSe
  go_enter Try.func70, Try.ntmps70
  go_wp2_with fail
  rw [arrS_zero] at R1 R2 R3 HB
  rw [arrS_zero]
  generalize ((w.alloc (.cells (arr f) 54)).alloc (.cells (arrS fun _ => ⟨#[]⟩) 99)).alloc (.cells (arrS fun _ => ⟨#[]⟩) 99) = w0 at *
  obtain ⟨g1, hg1⟩ : ∃ g1, g1 = w.heap.size := ⟨_, rfl⟩
  have hq1 : Hid (g1 < w.heap.size + 1 ∧ w.heap.size + 1 < w.heap.size + 1 + 1 ∧ w.heap.size ≤ g1) := by show _ ∧ _ ∧ _; omega
  generalize w.heap.size + 1 + 1 = g3 at *
  generalize w.heap.size + 1 = g2 at *
  clear hg1
  have R3' := R3.congr (h' := Cd.oS f 0 0) (fun i hi => Cd.oS_zero f HR.out i hi)
  go_loopw [4, 5, 6] (fun x l i wr => ∃ (n : Nat) (N1 X L : Int), n ≤ 15 ∧ i = .int .i64 N1 ∧ Hid (N1 = (n + 1 : Nat)) ∧ x = .int .i64 X ∧ l = .int .i64 L ∧ 0 ≤ X ∧ 0 ≤ L ∧ Hid (L ≤ n ∧ X * 2 ^ (n - L.toNat) = (Cd.wO f n).1) ∧ RowAt wr w.heap.size f ∧ StAt wr g2 (fun _ => ⟨#[]⟩) ∧ StAt wr g3 (Cd.oS f n 0) ∧ Below w.heap.size w wr) (fun _ _ i _ => 20 - (intOf i).toNat)
  case atStart => exact ⟨0, 1, 0, 0, by omega, rfl, rfl, rfl, rfl, by omega, by omega, ⟨by omega, by simp [Cd.wO]⟩, R1, R2, R3', HB⟩
  case round =>
    clear R1 R2 R3 R3' HB
    obtain ⟨n, N1, X, L, hn, rfl, HN1, rfl, rfl, hX, hL, HX, R1, R2, R3, HB⟩ := hrel
    have hNb : 1 ≤ N1 ∧ N1 ≤ 16 := by have := HN1.out; omega
    by_cases hlt : n < 15
    · have hk1 : decide (N1 ≤ 15) = true := by have := HN1.out; simp; omega
      have Hn : Hid (n < 15) := hlt
      have HX0 : Hid (L ≤ ((n + 1 : Nat) : Int) ∧ X * 2 ^ (n + 1 - L.toNat) = (Cd.wI f ((n + 1 : Nat) : Int) ((Cd.wO f n).1 * 2, (Cd.wO f n).2) 0).1) := by
        obtain ⟨h1, h2⟩ := HX.out
        refine ⟨by omega, ?_⟩
        show _ = (Cd.wO f n).1 * 2
        rw [← h2, show n + 1 - L.toNat = (n - L.toNat) + 1 by omega, Int.pow_succ, Int.mul_assoc]
      clear hn hlt
      go_wp2_with fail
      go_loopw [4, 5, 7] (fun x l i wr => ∃ (k : Nat) (X L : Int), k ≤ 16 ∧ i = .int .i64 k ∧ x = .int .i64 X ∧ l = .int .i64 L ∧ 0 ≤ X ∧ 0 ≤ L ∧ Hid (L ≤ ((n + 1 : Nat) : Int) ∧ X * 2 ^ (n + 1 - L.toNat) = (Cd.wI f ((n + 1 : Nat) : Int) ((Cd.wO f n).1 * 2, (Cd.wO f n).2) k).1) ∧ RowAt wr w.heap.size f ∧ StAt wr g2 (fun _ => ⟨#[]⟩) ∧ StAt wr g3 (Cd.oS f n k) ∧ Below w.heap.size w wr) (fun _ _ i _ => 16 - (intOf i).toNat)
      case atStart => exact ⟨0, X, L, by omega, rfl, rfl, rfl, hX, hL, HX0, R1, R2, R3, HB⟩
      case round =>
        clear R1 R2 R3 HB HX HX0 hX hL
        obtain ⟨k, X, L, hk, rfl, rfl, rfl, hX, hL, HX, R1, R2, R3, HB⟩ := hrel
        by_cases hlt2 : k < 16
        · have hk2 : decide ((k : Int) < 16) = true := by simp; omega
          have hk3 : decide (k < 16) = true := by simp; omega
          have hc1 := R1.cell k hlt2
          by_cases hx : f k = N1
          · have d1 : (f k == N1) = true := by simpa using hx
            have hfn : f k = ((n + 1 : Nat) : Int) := by rw [hx]; exact HN1.out
            have hw := Cd.wds_is hlt2 (by have := Hn.out; omega) hfn
            have hwv := Cd.wds_v f k
            obtain ⟨d, hd⟩ : ∃ d : Nat, n + 1 - L.toNat = d := ⟨_, rfl⟩
            have hNL : N1 - L = (d : Int) := by have := HN1.out; have := HX.out.1; omega
            have hXd : X * 2 ^ d = Cd.wds f k := by rw [hw, ← HX.out.2, hd]
            have hbt := fun w => refBits_any (n + 1) (Cd.wds f k) w hwv.1 hwv.2 (by have := Hn.out; omega)
            rw [← HN1.out] at hbt
            have hcw : Cd.wb (Cd.wds f k) (n + 1) = Cd.cw f k := by rw [Cd.cw, hfn]; rfl
            rw [hcw] at hbt
            have R4 := fun wx (h : StAt wx g3 (Cd.oS f n k)) => (h.set k (Cd.str (Cd.cw f k))).congr (fun i _ => Cd.oS_step f n k hfn i)
            have HW : Hid ((n + 1 : Nat) ≤ ((n + 1 : Nat) : Int) ∧ (Cd.wds f k + 1) * 2 ^ (n + 1 - (n + 1)) = (Cd.wI f ((n + 1 : Nat) : Int) ((Cd.wO f n).1 * 2, (Cd.wO f n).2) (k + 1)).1) := by
              refine ⟨by omega, ?_⟩
              rw [Cd.wI, if_pos hfn, Nat.sub_self, Int.pow_zero, Int.mul_one, hw]
            generalize Cd.str (Cd.cw f k) = sk at *
            generalize f k = z at *
            clear hfn hw hcw
            have hLN : L ≤ N1 := by omega
            have hd15 : d ≤ 15 := by have := HN1.out; have := Hn.out; omega
            clear hd
            generalize Cd.wds f k = wk at *
            go_wp2_with fail
            refine (hbt _).mono ?_
            rintro e w4 ⟨rfl, G4⟩
            have T1 := R1.below G4
            have T2 := R2.below G4
            have T3 := R3.below G4
            have B4 := bch HB G4 (Nat.le_refl _)
            have hc3 := T3.cell k hlt2
            have hf3 := T3.frozen k
            have U3 := R4 _ T3
            have U1 := T1.setFar (q := g3) (by have := hq1.out; omega) k (.string sk)
            have U2 := T2.setFar (q := g3) (by have := hq1.out; omega) k (.string sk)
            have B5 := B4.setCell (p := ⟨g3, k, none⟩) (by have := hq1.out; show _ ≤ g3; omega) (.string sk)
            clear R1 R2 R3 HB G4 T1 T2 T3 B4 R4 hbt hx
            go_wp2_with fail
            go_roundw
            case rel => exact ⟨k + 1, wk + 1, N1, by omega, by go_num, rfl, rfl, by omega, by omega, by rw [HN1.out]; exact ⟨HW.out.1, by rw [Int.toNat_natCast]; exact HW.out.2⟩, U1, U2, U3, B5⟩
            case measure => simp [intOf]; omega
          · have d1 : (f k == N1) = false := by simpa using hx
            have HS : Hid (¬ f k = ((n + 1 : Nat) : Int)) := fun h => hx (by rw [h]; exact HN1.out.symm)
            have HW : Hid (L ≤ ((n + 1 : Nat) : Int) ∧ X * 2 ^ (n + 1 - L.toNat) = (Cd.wI f ((n + 1 : Nat) : Int) ((Cd.wO f n).1 * 2, (Cd.wO f n).2) (k + 1)).1) := by
              refine ⟨HX.out.1, ?_⟩
              rw [Cd.wI, if_neg HS.out]
              exact HX.out.2
            have R4 := R3.congr (h' := Cd.oS f n (k + 1)) (fun i _ => Cd.oS_skip f n k HS.out i)
            generalize f k = z at *
            clear hx HS
            go_wp2_with fail
            go_roundw
            case rel => exact ⟨k + 1, X, L, by omega, by go_num, rfl, rfl, hX, hL, HW, R1, R2, R4, HB⟩
            case measure => simp [intOf]; omega
        · obtain rfl : k = 16 := by omega
          have R4 := R3.congr (h' := Cd.oS f (n + 1) 0) (fun i hi => Cd.oS_next f n i hi)
          have HW : Hid (L ≤ ((n + 1 : Nat) : Int) ∧ X * 2 ^ (n + 1 - L.toNat) = (Cd.wO f (n + 1)).1) := HX.out
          have HNn : Hid (N1 + 1 = (n + 1 + 1 : Nat)) := by have := HN1.out; show _ = _; omega
          go_wp2_with fail
          go_roundw
          case rel => exact ⟨n + 1, N1 + 1, X, L, by have := Hn.out; omega, by go_num, HNn, rfl, rfl, hX, hL, HW, R1, R2, R4, HB⟩
          case measure => simp [intOf]; omega
    · obtain rfl : n = 15 := by omega
      obtain rfl : N1 = 16 := by have := HN1.out; omega
      have R4 : StAt wr g3 hS := R3.congr (fun i hi => by rw [Cd.oS_end f HR.out i hi, ← HS.out])
      have hi1 := arrS_infoc hS
      clear R3
      go_wp2_with (first | refine wpList_load_row rfl 99 _ rfl g3 rfl 99 (arrS hS) (0, 0) _ R4.2 Try.underlying99 rfl hi1 ?_ | refine wpList_store_row rfl 99 _ _ rfl g2 (arrS hS) rfl rfl 99 _ R2.2 hi1 (by rw [arrS_size, arrS_size]) (arrS_one _) ?_)
      have U2 := R2.setRow hS
      exact bodyPost_ret (v := .agg (arrS hS)) (results_cell_row Try.results70 _ _ g2 99 _ (0, 0) _ rfl U2.2 Try.underlying99 rfl hi1) rfl ⟨rfl, below_setRow HB (by have := hq1.out; omega) _⟩
end Go.Proofs.Ytbjbjbpgmojcbaa
