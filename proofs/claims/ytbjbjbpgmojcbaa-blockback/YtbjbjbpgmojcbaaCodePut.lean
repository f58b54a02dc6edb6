/- What bits.put comes to. -/
import Derived.Test.YtbjbjbpgmojcbaaCodeBits
import Derived.Test.YtbjbjbpgmojcbaaToksLay
import Derived.OneCell
import Derived.BigRegion
namespace Go.Proofs.Ytbjbjbpgmojcbaa
open Go.RowKit

theorem heap_set {w : World} {g k : Nat} {c : Array Value} {t : TypeId} {fz : Nat × Nat} (h : w.heap[g]? = some (.cells c t fz)) (x : Value) : (w.setCell ⟨g, k, none⟩ x).heap[g]? = some (.cells (c.setIfInBounds k x) t fz) := by
  show (w.heap.modify g _)[g]? = _
  rw [Array.getElem?_modify, if_pos rfl, h]
  rfl
theorem heap_far {w : World} {g q k : Nat} (h : q ≠ g) (x : Value) : (w.setCell ⟨q, k, none⟩ x).heap[g]? = w.heap[g]? := by
  show (w.heap.modify q _)[g]? = _
  rw [Array.getElem?_modify, if_neg h]

/-- One bit laid in: the byte, then the count. -/
theorem BitsAt.laid {w : World} {gb g cap : Nat} {bs : List Bool} {b : Bool} {t : Int} (hgb : gb < w.heap.size) (hc : w.heap[gb]? = some (.cells #[.slice (some ⟨g, 0, none⟩) (Cd.pk1 bs).length cap, .int .i64 (bs.length : Nat)] 97 (0, 0)))
    (hg : gb + 1 ≤ g) (ho : (w.setCell ⟨g, bs.length / 8, none⟩ (.int .u8 t)).ownsRow (gb + 1) 5 1 (.slice (some ⟨g, 0, none⟩) (Cd.pk1 bs).length cap) (Cd.pk (bs ++ [b])).length (bcs (Cd.pk (bs ++ [b])))) :
    BitsAt (((w.setCell ⟨g, bs.length / 8, none⟩ (.int .u8 t)).drew).setCell ⟨gb, 1, none⟩ (.int .i64 ((bs.length : Nat) + 1 : Int))) gb (bs ++ [b]) := by
  refine ⟨by simpa [World.setCell] using hgb, .slice (some ⟨g, 0, none⟩) (Cd.pk1 bs).length cap, ?_, ?_⟩
  · have h1 : ((w.setCell ⟨g, bs.length / 8, none⟩ (.int .u8 t)).drew).heap[gb]? = some (.cells #[.slice (some ⟨g, 0, none⟩) (Cd.pk1 bs).length cap, .int .i64 (bs.length : Nat)] 97 (0, 0)) := by
      show (w.setCell ⟨g, bs.length / 8, none⟩ (.int .u8 t)).heap[gb]? = _
      rw [heap_far (by omega)]
      exact hc
    have h2 := heap_set (k := 1) h1 (.int .i64 ((bs.length : Nat) + 1 : Int))
    rw [h2]
    simp
  · have ho2 : ((w.setCell ⟨g, bs.length / 8, none⟩ (.int .u8 t)).drew).ownsRow (gb + 1) 5 1 (.slice (some ⟨g, 0, none⟩) (Cd.pk1 bs).length cap) (Cd.pk (bs ++ [b])).length (bcs (Cd.pk (bs ++ [b]))) := ho
    exact ownsRow_setCell_below ho2 (a := ⟨gb, 1, none⟩) (by show gb < gb + 1; omega) _

/-- What laying a bit in asks of the world, and leaves. -/
theorem bit_ready {w : World} {gb : Nat} {bs : List Bool} {v : Value} (hgb : gb < w.heap.size) (hc : w.heap[gb]? = some (.cells #[v, .int .i64 (bs.length : Nat)] 97 (0, 0)))
    (ho : w.ownsRow (gb + 1) 5 1 v (Cd.pk1 bs).length (bcs (Cd.pk1 bs))) (b : Bool) :
    ∃ (g cap : Nat) (t x : Int), v = .slice (some ⟨g, 0, none⟩) (bs.length / 8 + 1) cap ∧ g ≠ gb ∧ w.cell? ⟨gb, 0, none⟩ = some (.slice (some ⟨g, 0, none⟩) (bs.length / 8 + 1) cap) ∧ w.cell? ⟨gb, 1, none⟩ = some (.int .i64 (bs.length : Nat)) ∧
      w.cell? ⟨g, bs.length / 8, none⟩ = some (.int .u8 x) ∧ w.frozen? ⟨g, bs.length / 8, none⟩ = false ∧ w.frozen? ⟨gb, 1, none⟩ = false ∧ 0 ≤ x ∧ x ≤ 255 ∧
      Hid (bits BinOp.or IntKind.u8 x ((Cd.bv b : Nat) * 2 ^ (7 - bs.length % 8) % 256) = t) ∧
      Hid (BitsAt (((w.setCell ⟨g, bs.length / 8, none⟩ (.int .u8 t)).drew).setCell ⟨gb, 1, none⟩ (.int .i64 ((bs.length : Nat) + 1 : Int))) gb (bs ++ [b])) ∧
      Hid (∀ a : World, Below gb a w → Below gb a (((w.setCell ⟨g, bs.length / 8, none⟩ (.int .u8 t)).drew).setCell ⟨gb, 1, none⟩ (.int .i64 ((bs.length : Nat) + 1 : Int)))) := by
  have hl := Cd.pk1_len bs
  obtain ⟨g, cap, rfl, hg, hgl, hcell, hfz, hset⟩ := row_form ho (by intro e; rw [e] at hl; simp at hl)
  have hn : bs.length = 8 * (bs.length / 8) + bs.length % 8 := by omega
  have hb := Cd.byt_new bs b (bs.length / 8) (bs.length % 8) (by omega) hn
  have hlt := Cd.byt_lt bs (bs.length / 8)
  obtain ⟨hf1, hf2⟩ := byte_form (b := b) (show bs.length % 8 < 8 by omega) hlt hb.2
  have hx := hcell (bs.length / 8) _ (Cd.pk1_at bs (by omega))
  have e8 : ∀ n, n < 256 → (UInt8.ofNat n).toNat = n := fun n h => by simp; omega
  rw [e8 _ hlt] at hx
  have hs := hset (bs.length / 8) (UInt8.ofNat (Cd.byt bs (bs.length / 8) + Cd.bv b * 2 ^ (7 - bs.length % 8))) (by omega)
  rw [← Cd.pk_snoc bs b, e8 _ hf2] at hs
  have hc' : w.heap[gb]? = some (.cells #[.slice (some ⟨g, 0, none⟩) (Cd.pk1 bs).length cap, .int .i64 (bs.length : Nat)] 97 (0, 0)) := hc
  refine ⟨g, cap, _, _, by rw [hl], by omega, ?_, ?_, hx, hfz _, by simp [World.frozen?, hc], by omega, by omega, hf1, BitsAt.laid hgb hc' hg hs, fun a ha => ?_⟩
  · rw [cell_of_row w gb 0 _ _ _ hc, ← hl]; rfl
  · rw [cell_of_row w gb 1 _ _ _ hc]; rfl
  · exact ((ha.setCell (p := ⟨g, bs.length / 8, none⟩) (by show gb ≤ g; omega) _).drew).setCell (p := ⟨gb, 1, none⟩) (Nat.le_refl _) _

/-- The same behind an append of a 0. -/
theorem bit_grown {a wr w1 : World} {gb : Nat} {b2 : List Bool} {v v' : Value} {o : Obj} (hgb : gb < wr.heap.size) (hc : wr.heap[gb]? = some (.cells #[v, .int .i64 (b2.length : Nat)] 97 (0, 0)))
    (ho : wr.ownsRow (gb + 1) 5 1 v (Cd.pk b2).length (bcs (Cd.pk b2))) (hr : b2.length % 8 = 0) (hown : w1.ownsRow (gb + 1) 5 1 v' ((Cd.pk b2).length + 1) (bcs (Cd.pk b2) ++ [.int .u8 0])) (hg : (wr.alloc o).grownBy w1 v.ownBlock)
    (G : Below gb a wr) (b : Bool) :
    w1.cell? ⟨gb, 0, none⟩ = some v ∧ w1.frozen? ⟨gb, 0, none⟩ = false ∧ Hid (Below gb a (w1.setCell ⟨gb, 0, none⟩ v')) ∧ ∃ (g cap : Nat) (t x : Int), v' = .slice (some ⟨g, 0, none⟩) (b2.length / 8 + 1) cap ∧ g ≠ gb ∧ (w1.setCell ⟨gb, 0, none⟩ v').cell? ⟨gb, 0, none⟩ = some (.slice (some ⟨g, 0, none⟩) (b2.length / 8 + 1) cap) ∧ (w1.setCell ⟨gb, 0, none⟩ v').cell? ⟨gb, 1, none⟩ = some (.int .i64 (b2.length : Nat)) ∧
      (w1.setCell ⟨gb, 0, none⟩ v').cell? ⟨g, b2.length / 8, none⟩ = some (.int .u8 x) ∧ (w1.setCell ⟨gb, 0, none⟩ v').frozen? ⟨g, b2.length / 8, none⟩ = false ∧ (w1.setCell ⟨gb, 0, none⟩ v').frozen? ⟨gb, 1, none⟩ = false ∧ 0 ≤ x ∧ x ≤ 255 ∧
      Hid (bits BinOp.or IntKind.u8 x ((Cd.bv b : Nat) * 2 ^ (7 - b2.length % 8) % 256) = t) ∧
      Hid (BitsAt ((((w1.setCell ⟨gb, 0, none⟩ v').setCell ⟨g, b2.length / 8, none⟩ (.int .u8 t)).drew).setCell ⟨gb, 1, none⟩ (.int .i64 ((b2.length : Nat) + 1 : Int))) gb (b2 ++ [b])) ∧
      Hid (∀ a : World, Below gb a (w1.setCell ⟨gb, 0, none⟩ v') → Below gb a ((((w1.setCell ⟨gb, 0, none⟩ v').setCell ⟨g, b2.length / 8, none⟩ (.int .u8 t)).drew).setCell ⟨gb, 1, none⟩ (.int .i64 ((b2.length : Nat) + 1 : Int)))) := by
  have hne : some gb ≠ v.ownBlock := fun e => by have := (ho.lt gb e.symm).1; omega
  have hblk : w1.heap[gb]? = wr.heap[gb]? := by
    rw [hg.block gb (by simp; omega) hne]
    exact ((Below.refl wr.heap.size wr).alloc (Nat.le_refl _) o).block gb hgb
  have hc1 : w1.heap[gb]? = some (.cells #[v, .int .i64 (b2.length : Nat)] 97 (0, 0)) := hblk.trans hc
  have hB1 : Below gb a w1 := (G.alloc (Nat.le_of_lt hgb) o).grown hg (by simp; omega) (fun k hk => by have := (ho.lt k hk).1; omega)
  have hgb1 : gb < w1.heap.size := (Array.getElem?_eq_some_iff.1 hc1).1
  refine ⟨by rw [cell_of_row w1 gb 0 _ _ _ hc1]; rfl, by simp [World.frozen?, hc1], hB1.setCell (p := ⟨gb, 0, none⟩) (Nat.le_refl _) _, ?_⟩
  have hp1 : Cd.pk1 b2 = Cd.pk b2 ++ [0] := by unfold Cd.pk1; rw [if_pos hr]
  have hc2 := heap_set (k := 0) hc1 v'
  refine bit_ready (w := w1.setCell ⟨gb, 0, none⟩ v') (v := v') (by simpa [World.setCell] using hgb1) (by rw [hc2]; rfl) ?_ b
  refine ownsRow_setCell_below (a := ⟨gb, 0, none⟩) ?_ (by show gb < gb + 1; omega) _
  rw [hp1, List.length_append, bcs_append]
  exact hown

set_option maxRecDepth 4000 in
set_option maxHeartbeats 4000000 in
theorem bitsPut_any (gb : Nat) (bs : List Bool) (word : Int) (n : Nat) (w : World) (hB : BitsAt w gb bs) (h0 : 0 ≤ word) (h1 : word ≤ 1048576) (hn : n ≤ 15) (hl : bs.length ≤ 40000) :
    Calls Try.prog 69 #[.pointer (some ⟨gb, 0, none⟩), .int .i64 word, .int .i64 (n : Int)] w fun e w' => e = .returned (.tuple #[]) ∧ Below gb w w' ∧ BitsAt w' gb (bs ++ Cd.wb word n) := by
  obtain ⟨i0, hi, hz0, hz1, hz2⟩ := info_parts info_u8
  have hn' : (n : Int) ≤ 15 := by omega
  go_enter Try.func69, Try.ntmps69
  go_wp2_with fail
  go_loopw [6] (fun i wr => ∃ (k : Nat) (K : Int) (b2 : List Bool), i = .int .i64 K ∧ Hid (K = (k : Int) - 1) ∧ k ≤ n ∧ Hid (b2 ++ Cd.wb word k = bs ++ Cd.wb word n) ∧ b2.length ≤ 40015 ∧ BitsAt wr gb b2 ∧ Below gb w wr) (fun i _ => (intOf i + 1).toNat)
  case atStart => exact ⟨n, (n : Int) - 1, bs, by go_num, rfl, Nat.le_refl _, rfl, by omega, hB, Below.refl _ _⟩
  case round =>
    clear hB
    obtain ⟨k, K, b2, rfl, HK, hk, hE, hb2, hB, G⟩ := hrel
    cases k with
    | zero =>
      obtain rfl : K = -1 := by have := HK.out; omega
      have hE' : b2 = bs ++ Cd.wb word n := by have := hE.out; rwa [Cd.wb, List.append_nil] at this
      subst hE'
      go_wp2_with fail
      go_end0
      exact ⟨rfl, G, hB⟩
    | succ k =>
      have hKk : K = k := by have := HK.out; omega
      have hK0 : 0 ≤ K := by omega
      have hK1 : K ≤ 14 := by omega
      have dK : decide (0 ≤ K) = true := by simpa using hK0
      have HE2 : Hid ((b2 ++ [decide (word / 2 ^ k % 2 = 1)]) ++ Cd.wb word k = bs ++ Cd.wb word n) := by
        have := hE.out
        rw [Cd.wb] at this
        show _ = _
        rw [← this, List.append_assoc]
        rfl
      have HBF : bits BinOp.and IntKind.i64 (word / 2 ^ K.toNat) 1 % 256 = (Cd.bv (decide (word / 2 ^ k % 2 = 1)) : Nat) := bit_form h0 h1 hKk
      obtain ⟨hgb, v, hc, ho⟩ := hB
      have HK1 : Hid (K = (k : Nat)) := hKk
      have Hk : Hid (k ≤ n) := by show _ ≤ _; omega
      obtain ⟨N, hN⟩ : ∃ N : Nat, b2.length = N := ⟨_, rfl⟩
      have hN8 : (N : Int).tmod 8 = (N % 8 : Nat) := by rw [Int.tmod_eq_emod_of_nonneg (by omega)]; omega
      have hN9 : (N : Int).tdiv 8 = (N / 8 : Nat) := by rw [Int.tdiv_eq_ediv_of_nonneg (by omega)]; omega
      clear hKk HK hE
      by_cases hr : b2.length % 8 = 0
      · have d0 : (((N % 8 : Nat) : Int) == 0) = true := by simp; omega
        have hlen : (Cd.pk b2).length ≤ 6000 := by rw [Cd.pk_len]; omega
        have HNl : Hid (b2.length = N) := hN
        have hNb : N ≤ 40015 := by omega
        have hv0 : wr.cell? ⟨gb, 0, none⟩ = some v := by rw [cell_of_row wr gb 0 _ _ _ hc]; rfl
        have hv1 : wr.cell? ⟨gb, 1, none⟩ = some (.int .i64 (N : Nat)) := by rw [cell_of_row wr gb 1 _ _ _ hc, ← hN]; rfl
        have hle : gb + 1 ≤ (wr.alloc (.cells #[.int .u8 0] 5)).heap.size := by simp; omega
        have Hc : Hid (wr.heap[gb]? = some (.cells #[v, .int .i64 (b2.length : Nat)] 97 (0, 0))) := hc
        have Hr : Hid (b2.length % 8 = 0) := hr
        clear hN hr hc
        go_wp2_with (at_builtin; go_must (refine wpList_append_own _ rfl _ _ 69 rfl (gb + 1) 5 i0 (.int .u8 0) 1 1 Try.underlying69 hi hz0 hz1 hz2 rfl (by decide) _ _ _ rfl (ho.alloc _) ⟨wr.heap.size, 0, none⟩ 1 1 [.int .u8 0] rfl rfl (cell_one_new _ _ _) (one_u8 _) (ml_le (by omega)) (by omega) hle ?_; intro v' w1 hown' hgrow _; obtain ⟨y1, y2, y3, g, cap, t, x, rfl, q1, q2, q3, q4, q5, q6, q7, q8, Q1, Q2, Q3⟩ := bit_grown hgb Hc.out ho Hr.out hown' hgrow G (decide (word / 2 ^ k % 2 = 1)); have HB3 := Q3.out w y3.out; rw [HNl.out] at q2 q3 q4 q5 q6 Q1 Q2 HB3))
        rw [HNl.out]
        have HQ2 := Q2
        have HQ1 := Q1.out
        generalize w1.setCell ⟨gb, 0, none⟩ (.slice (some ⟨g, 0, none⟩) (N / 8 + 1) cap) = wq at *
        have z1 : ((wq.setCell ⟨g, N / 8, none⟩ (.int .u8 t)).drew).cell? ⟨gb, 1, none⟩ = some (.int .i64 (N : Nat)) := by
          show (wq.setCell ⟨g, N / 8, none⟩ (.int .u8 t)).cell? ⟨gb, 1, none⟩ = _
          rw [set_far _ _ _ _ (by exact q1)]
          exact q3
        have z2 : ((wq.setCell ⟨g, N / 8, none⟩ (.int .u8 t)).drew).frozen? ⟨gb, 1, none⟩ = false := by
          show (wq.setCell ⟨g, N / 8, none⟩ (.int .u8 t)).frozen? ⟨gb, 1, none⟩ = _
          rw [World.frozen?_setCell]
          exact q6
        have HLn : Hid (b2.length + 1 ≤ 40015) := by
          have := congrArg List.length HE2.out
          simp [Cd.wb_len] at this
          show _ ≤ _
          omega
        generalize Cd.bv (decide (word / 2 ^ k % 2 = 1)) = bb at *
        clear Q1 Q2 Q3 y1 y2 y3 hv0 hv1 ho hown' hgrow hlen hle
        go_wp2_with fail
        go_region
        go_wp2_with fail
        go_roundw
        case rel => exact ⟨k, K - 1, b2 ++ [decide (word / 2 ^ k % 2 = 1)], by go_num, by have := HK1.out; show _ = _; omega, Hk.out, HE2, by have := HLn.out; simp; omega, HQ2.out, HB3⟩
        case measure => simp [intOf]; omega
      · have hp1 : Cd.pk1 b2 = Cd.pk b2 := by unfold Cd.pk1; rw [if_neg hr]
        rw [← hp1] at ho
        obtain ⟨g, cap, t, x, rfl, q1, q2, q3, q4, q5, q6, q7, q8, Q1, Q2, Q3⟩ := bit_ready hgb hc ho (decide (word / 2 ^ k % 2 = 1))
        clear hp1 ho hc
        have HB3 := Q3.out w G
        rw [hN] at q2 q3 q4 q5 Q1 Q2 HB3
        have HQ2 : Hid (BitsAt (((wr.setCell ⟨g, N / 8, none⟩ (.int .u8 t)).drew).setCell ⟨gb, 1, none⟩ (.int .i64 ((N : Nat) + 1 : Int))) gb (b2 ++ [decide (word / 2 ^ k % 2 = 1)])) := Q2.out
        have d0 : (((N % 8 : Nat) : Int) == 0) = false := by simp; omega
        have HLn : Hid (b2.length + 1 ≤ 40015) := by
          have := congrArg List.length HE2.out
          simp [Cd.wb_len] at this
          show _ ≤ _
          omega
        have HQ1 := Q1.out
        generalize Cd.bv (decide (word / 2 ^ k % 2 = 1)) = bb at *
        clear Q1 Q2 Q3
        have hNb : N ≤ 40015 := by omega
        have HNl : Hid (b2.length = N) := hN
        clear hN hr
        have z1 : ((wr.setCell ⟨g, N / 8, none⟩ (.int .u8 t)).drew).cell? ⟨gb, 1, none⟩ = some (.int .i64 (N : Nat)) := by
          show (wr.setCell ⟨g, N / 8, none⟩ (.int .u8 t)).cell? ⟨gb, 1, none⟩ = _
          rw [set_far _ _ _ _ (by exact q1)]
          exact q3
        have z2 : ((wr.setCell ⟨g, N / 8, none⟩ (.int .u8 t)).drew).frozen? ⟨gb, 1, none⟩ = false := by
          show (wr.setCell ⟨g, N / 8, none⟩ (.int .u8 t)).frozen? ⟨gb, 1, none⟩ = _
          rw [World.frozen?_setCell]
          exact q6
        go_wp2_with fail
        go_region
        go_wp2_with fail
        go_roundw
        case rel => exact ⟨k, K - 1, b2 ++ [decide (word / 2 ^ k % 2 = 1)], by go_num, by have := HK1.out; show _ = _; omega, Hk.out, HE2, by have := HLn.out; simp; omega, HQ2.out, HB3⟩
        case measure => simp [intOf]; omega
end Go.Proofs.Ytbjbjbpgmojcbaa
