/- What chapter 3's own ReadCode comes to. -/
import Derived.Test.YtbjbjbpgmojcbaaRefFront
import Derived.Test.YtbjbjbpgmojcbaaCodeRead
namespace Go.Proofs.Ytbjbjbpgmojcbaa
open Go.RowKit

theorem RowAt.grown {w w1 : World} {g : Nat} {f : Nat → Int} {v : Value} {o : Obj} (h : RowAt w g f) (hne : some g ≠ v.ownBlock) (hg : (w.alloc o).grownBy w1 v.ownBlock) : RowAt w1 g f := by
  have hblk : w1.heap[g]? = w.heap[g]? := by
    rw [hg.block g (by have := h.1; simp; omega) hne]
    exact ((Below.refl w.heap.size w).alloc (Nat.le_refl _) o).block g h.1
  have h2 := hblk.trans h.2
  exact ⟨(Array.getElem?_eq_some_iff.1 h2).1, h2⟩
theorem StAt.grown {w w1 : World} {g : Nat} {f : Nat → ByteArray} {v : Value} {o : Obj} (h : StAt w g f) (hne : some g ≠ v.ownBlock) (hg : (w.alloc o).grownBy w1 v.ownBlock) : StAt w1 g f := by
  have hblk : w1.heap[g]? = w.heap[g]? := by
    rw [hg.block g (by have := h.1; simp; omega) hne]
    exact ((Below.refl w.heap.size w).alloc (Nat.le_refl _) o).block g h.1
  have h2 := hblk.trans h.2
  exact ⟨(Array.getElem?_eq_some_iff.1 h2).1, h2⟩

namespace Cd
/-- Where the reading is: behind I signs, at bit a, with these bytes. -/
def At (f : Nat → Int) (b : ByteArray) (I a : Nat) (q : List UInt8) : Prop :=
  (∃ k, I = 2 * k ∧ rdK f b k = some (q, a) ∧ q.length = k) ∨
  (∃ k o a0 x, I = 2 * k + 1 ∧ rdK f b k = some (o, a0) ∧ o.length = k ∧ s15 f b a0 = (x, a) ∧ 0 ≤ x ∧ x < 16 ∧ q = o ++ [UInt8.ofNat (16 * x).toNat])
theorem At.len {f : Nat → Int} {b : ByteArray} {I a : Nat} {q : List UInt8} (h : At f b I a q) : q.length = (I + 1) / 2 := by
  rcases h with ⟨k, h1, _, h3⟩ | ⟨k, o, a0, x, h1, _, h3, _, _, _, h4⟩
  · omega
  · rw [h4]; simp; omega
/-- No sign more: none. -/
theorem At.stop {f : Nat → Int} {b : ByteArray} {I a : Nat} {q : List UInt8} {n : Int} (h : At f b I a q) (hc : chk f = 0) (hn : ¬ (n < 0 ∨ 1024 < n)) (hI : (I : Int) < 2 * n) (hs : (s15 f b a).1 = -1) : rd f b n = (⟨#[]⟩, 1) := by
  rcases h with ⟨k, h1, h2, _⟩ | ⟨k, o, a0, x, h1, h2, _, h3, _⟩
  · exact rd_none hc hn (rdK_stop (k := k) (a1 := (s15 f b a).2) (a2 := (s15 f b (s15 f b a).2).2) (x := (s15 f b a).1) (y := (s15 f b (s15 f b a).2).1) (by omega) h2 rfl rfl (.inl hs))
  · exact rd_none hc hn (rdK_stop (k := k) (a1 := a) (a2 := (s15 f b a).2) (x := x) (y := (s15 f b a).1) (by omega) h2 h3 rfl (.inr hs))
theorem At.even {f : Nat → Int} {b : ByteArray} {I a a1 : Nat} {q : List UInt8} {x : Int} (h : At f b I a q) (hI : I % 2 = 0) (hs : s15 f b a = (x, a1)) (h0 : 0 ≤ x) (h1 : x < 16) : At f b (I + 1) a1 (q ++ [UInt8.ofNat (16 * x).toNat]) := by
  rcases h with ⟨k, h1', h2, h3⟩ | ⟨k, o, a0, x, h1', _⟩
  · exact .inr ⟨k, q, a, x, by omega, h2, h3, hs, h0, h1, rfl⟩
  · omega
theorem At.odd {f : Nat → Int} {b : ByteArray} {I a a1 : Nat} {q : List UInt8} {y : Int} (h : At f b I a q) (hI : I % 2 = 1) (hs : s15 f b a = (y, a1)) (h0 : 0 ≤ y) (h1 : y < 16) : ∃ x : Int, 0 ≤ x ∧ x < 16 ∧ q[I / 2]? = some (UInt8.ofNat (16 * x).toNat) ∧ At f b (I + 1) a1 (q.set (I / 2) (UInt8.ofNat (16 * x + y).toNat)) := by
  rcases h with ⟨k, h1', h2, h3⟩ | ⟨k, o, a0, x, e1, e2, e3, e4, e5, e6, rfl⟩
  · omega
  · refine ⟨x, e5, e6, ?_, .inl ⟨k + 1, by omega, ?_, ?_⟩⟩
    · rw [List.getElem?_append_right (by omega), show I / 2 - o.length = 0 by omega]
      rfl
    · rw [rdK_next e2 e4 hs (by omega), show I / 2 = o.length by omega, Int.mul_comm 16 x]
      simp
    · simp [e3]
theorem At.last {f : Nat → Int} {b : ByteArray} {I a : Nat} {q : List UInt8} (h : At f b I a q) {n : Nat} (hI : I = 2 * n) : rdK f b n = some (q, a) := by
  rcases h with ⟨k, h1, h2, _⟩ | ⟨k, o, a0, x, h1, _⟩
  · obtain rfl : k = n := by omega
    exact h2
  · omega
end Cd

set_option maxRecDepth 4000 in
set_option maxHeartbeats 2000000 in
theorem readCode_ok (f : Nat → Int) (b : ByteArray) (n : Int) (w : World) (h0 : Cd.chk f = 0) (hn0 : 0 ≤ n) (hn1 : n ≤ 1024) (hb : (b.size : Int) ≤ 4 * n) :
    Calls Try.prog 47 #[.agg (arr f), .string b, .int .i64 n] w fun e w' => e = .returned (.tuple #[.string (Cd.rd f b n).1, .int .i64 (Cd.rd f b n).2]) ∧ Below w.heap.size w w' := by
  have hck := fun w => checkCode_any f w
  rw [h0] at hck
  have HR : Hid (Cd.InR f 15 16) := (Cd.chk_zero h0).1
  have hwd := fun w => refWords_any f w HR.out
  obtain ⟨hS, hSe⟩ : ∃ h, (fun i => Cd.str (Cd.cw f i)) = h := ⟨_, rfl⟩
  rw [hSe] at hwd
  have hfr : ∀ (bs : List Bool) (w : World), bs.length ≤ 1000000 → Calls Try.prog 74 #[.agg (arr f), .agg (arrS hS), .string (Cd.str bs)] w fun e w' => e = .returned (.int .i64 (Cd.frt f bs)) ∧ Below w.heap.size w w' := fun bs w h => by
    have := front_any f bs w HR.out h
    rw [hSe] at this
    exact this
  clear hSe
  have hin := arr_infoc f
  have hinw := arrS_infoc hS
  have H0 : Hid (Cd.chk f = 0) := h0
  have R1 := RowAt.new w f
  have HB : Below w.heap.size w (w.alloc (.cells (arr f) 54)) := (Below.refl _ _).alloc (Nat.le_refl _) _
  obtain ⟨r1, r2, hr⟩ : ∃ r1 r2, Cd.rd f b n = (r1, r2) := ⟨_, _, rfl⟩
  rw [hr]
  have Hr : Hid (Cd.rd f b n = (r1, r2)) := hr
  have db : decide (4 * n < (b.size : Int)) = false := by simp; omega
  have hbs : b.size ≤ 4096 := by omega
  clear hr h0
  go_enter Try.func47, Try.ntmps47
  go_wp2_with (refine wpList_load_row rfl 54 _ rfl w.heap.size rfl 54 (arr f) (0, 0) _ R1.2 Try.underlying54 rfl hin ?_)
  refine (hck _).mono ?_
  rintro e w1 ⟨rfl, G1⟩
  have S1 := R1.below G1
  have B1 := bch HB G1 (Nat.le_refl _)
  clear R1 HB G1 hck
  go_wp2_with fail
  refine (within_yes n 0 1024 _ hn0 hn1).mono ?_
  rintro e w' ⟨rfl, hw'⟩
  subst hw'
  go_wp2_with fail
  go_loopw [9, 10] (fun s i wr => ∃ k : Nat, k ≤ b.size ∧ i = .int .i64 k ∧ s = .string (Cd.str (Cd.pre b k)) ∧ RowAt wr w.heap.size f ∧ Below w.heap.size w wr) (fun _ i _ => b.size - (intOf i).toNat)
  case atStart => exact ⟨0, by omega, rfl, rfl, S1, B1⟩
  case round =>
    clear S1 B1
    obtain ⟨k, hk, rfl, rfl, S1, B1⟩ := hrel
    by_cases hlt : k < b.size
    · have hk1 : decide ((k : Int) < (b.size : Int)) = true := by simp; omega
      have hk2 : decide (k < b.size) = true := by simp; omega
      obtain ⟨x, hx⟩ : ∃ x : Int, (b[k].toNat : Int) = x := ⟨_, rfl⟩
      have hA : Cd.at8 b k = b[k].toNat := by unfold Cd.at8; rw [Nm.at_list b k hlt]; rfl
      have hA2 := Cd.at8_lt b k
      have hx0 : 0 ≤ x := by omega
      have hx1 : x ≤ 255 := by omega
      have hbt := fun w => refBits_any 8 x w hx0 (by omega) (by omega)
      have HE : Hid (Cd.str (Cd.pre b k) ++ Cd.str (Cd.wb x 8) = Cd.str (Cd.pre b (k + 1))) := by
        show _ = _
        rw [Cd.pre_next, ← Cd.str_app, hA, hx]
      have sz1 : (Cd.str (Cd.pre b k)).size ≤ 40000 := by rw [Cd.str_size, Cd.pre_len]; omega
      have sz2 : (Cd.str (Cd.wb x 8)).size ≤ 8 := by rw [Cd.str_size, Cd.wb_len]; omega
      generalize Cd.str (Cd.pre b k) = s1 at *
      generalize Cd.str (Cd.wb x 8) = s2 at *
      clear hA hA2
      go_wp2_with fail
      refine (hbt _).mono ?_
      rintro e w2 ⟨rfl, G2⟩
      have S2 := S1.below G2
      have B2 := bch B1 G2 (Nat.le_refl _)
      clear S1 B1 G2 hbt
      go_wp2_with fail
      go_roundw
      case rel => exact ⟨k + 1, by omega, by go_num, by rw [HE.out], S2, B2⟩
      case measure => simp [intOf]; omega
    · obtain rfl : k = b.size := by omega
      rw [Cd.pre_all]
      have hbl : (Cd.rem b 0).length ≤ 1000000 := by rw [Cd.rem_len]; omega
      go_wp2_with (refine wpList_load_row rfl 54 _ rfl w.heap.size rfl 54 (arr f) (0, 0) _ S1.2 Try.underlying54 rfl hin ?_)
      refine (hwd _).mono ?_
      rintro e w2 ⟨rfl, G2⟩
      have T1 := S1.below G2
      have B2 := bch B1 G2 (Nat.le_refl _)
      clear S1 B1 G2 hwd
      go_wp2_with (refine wpList_store_row rfl 99 _ _ rfl w2.heap.size (arrS hS) rfl rfl 99 _ (heap_alloc_last w2 _) hinw rfl (arrS_one _) ?_; rw [World.setRow_alloc_new])
      have T7 := StAt.new w2 hS
      have T2 := T1.alloc (.cells (arrS hS) 99)
      have B3 : Below w.heap.size w (w2.alloc (.cells (arrS hS) 99)) := B2.alloc (Nat.le_of_lt T1.1) _
      have hgw : Hid (w.heap.size < w2.heap.size) := T1.1
      clear T1 B2
      generalize w2.alloc (.cells (arrS hS) 99) = w3 at *
      generalize w2.heap.size = g7 at *
      obtain ⟨i0, hi, hz0, hz1, hz2⟩ := info_parts info_u8
      go_loopw [9, 12, 13] (fun s v i wr => ∃ (I a : Nat) (q : List UInt8), (I : Int) ≤ 2 * n ∧ i = .int .i64 I ∧ s = .string (Cd.str (Cd.rem b a)) ∧ a ≤ 8 * b.size ∧ Hid (Cd.At f b I a q) ∧ q.length ≤ 1024 ∧ wr.ownsRow (g7 + 1) 5 1 v q.length (bcs q) ∧ RowAt wr w.heap.size f ∧ StAt wr g7 hS ∧ Below w.heap.size w wr) (fun _ _ i _ => 4000 - (intOf i).toNat)
      case atStart => exact ⟨0, 0, [], by omega, rfl, rfl, by omega, .inl ⟨0, rfl, rfl, rfl⟩, by simp, World.ownsRow_nil _ _ _ _, T2, T7, B3⟩
      case round =>
        clear T2 T7 B3
        obtain ⟨I, a, q, hI, rfl, rfl, ha, HAt, hql, ho, T2, T7, B3⟩ := hrel
        by_cases hlt : (I : Int) < 2 * n
        · have hk1 : decide ((I : Int) < 2 * n) = true := by simpa using hlt
          obtain ⟨x, a1, h1⟩ : ∃ x a1, Cd.s15 f b a = (x, a1) := ⟨_, _, rfl⟩
          obtain ⟨p1, p2, p3⟩ := s15_b ha h1
          obtain ⟨f1, f2⟩ := Cd.frt_is H0.out ha
          rw [h1] at f1 f2
          have hf := fun w => hfr (Cd.rem b a) w (by rw [Cd.rem_len]; omega)
          rw [f1] at hf
          go_wp2_with (first | refine wpList_load_row rfl 54 _ rfl w.heap.size rfl 54 (arr f) (0, 0) _ T2.2 Try.underlying54 rfl hin ?_ | refine wpList_load_row rfl 99 _ rfl g7 rfl 99 (arrS hS) (0, 0) _ T7.2 Try.underlying99 rfl hinw ?_)
          refine (hf _).mono ?_
          rintro e w4 ⟨rfl, G4⟩
          have U2 := T2.below G4
          have U7 := T7.below G4
          have O4 := own_below ho G4
          have B4 := bch B3 G4 (Nat.le_refl _)
          clear T2 T7 ho B3 G4 hf f1 hfr
          by_cases hx : x = -1
          · have h9 := HAt.out.stop H0.out (n := n) (by omega) hlt (by rw [h1]; exact hx)
            have h8 := Hr.out.symm.trans h9
            simp only [Prod.mk.injEq] at h8
            obtain ⟨rfl, rfl⟩ := h8
            subst hx
            clear h9 f2 h1
            go_wp2_with fail
            go_ret2
            exact ⟨rfl, B4⟩
          · have hx0 : 0 ≤ x := by omega
            obtain ⟨X, rfl⟩ : ∃ X : Nat, x = (X : Int) := ⟨x.toNat, by omega⟩
            have hX : X < 16 := by omega
            have dx : decide ((X : Int) < 0) = false := by simp
            have f3 := f2 hx
            rw [Int.toNat_natCast] at f3
            have c1 := U2.cell X hX
            have hfX := HR.out X hX
            obtain ⟨N, hN⟩ : ∃ N : Nat, f X = (N : Int) := ⟨(f X).toNat, by omega⟩
            have hext : (Cd.str (Cd.rem b a)).extract N (Cd.str (Cd.rem b a)).size = Cd.str (Cd.rem b a1) := by
              rw [Cd.str_extract2, Cd.rem_drop]
              rw [f3, hN, Int.toNat_natCast]
            have hNs : N ≤ (Cd.str (Cd.rem b a)).size := by
              rw [Cd.str_size, Cd.rem_len]
              rw [hN, Int.toNat_natCast] at f3
              omega
            have hNs2 : (N : Int) ≤ ((Cd.str (Cd.rem b a)).size : Int) := by omega
            have hss : (Cd.str (Cd.rem b a)).size ≤ 40000 := by rw [Cd.str_size, Cd.rem_len]; omega
            rw [hN] at c1
            have Hq := HAt.out.len
            generalize Cd.str (Cd.rem b a) = s1 at *
            have HI1 : Hid (((I + 1 : Nat) : Int) ≤ 2 * n) := by show _ ≤ _; omega
            have H1 : Hid (Cd.s15 f b a = ((X : Int), a1)) := h1
            have HP1 : Hid (a1 ≤ 8 * b.size) := p1
            clear f2 f3 hfX hN h1 hx p2 p1
            by_cases hev : I % 2 = 0
            · have m1 : (I : Int).tmod 2 = 0 := by rw [Int.tmod_eq_emod_of_nonneg (by omega)]; omega
              have m2 : (I : Int) % 2 = 0 := by omega
              have HA2 : Hid (Cd.At f b (I + 1) a1 (q ++ [UInt8.ofNat (16 * (X : Int)).toNat])) := HAt.out.even hev H1.out (by omega) (by omega)
              have HBq : Hid (bcs (q ++ [UInt8.ofNat (16 * (X : Int)).toNat]) = bcs q ++ [.int .u8 (16 * (X : Int))]) := bcs_snoc q _ (by omega) (by omega)
              have hle : g7 + 1 ≤ (w4.alloc (.cells #[.int .u8 (16 * (X : Int))] 5)).heap.size := by have := U7.1; simp; omega
              have HQ1 : Hid (q.length + 1 ≤ 1024) := by show _ ≤ _; omega
              have hm : (16 * (X : Int)) % 256 = 16 * (X : Int) := by omega
              clear hev Hq HAt
              go_wp2_with (at_builtin; go_must (refine wpList_append_own _ rfl _ _ 69 rfl (g7 + 1) 5 i0 (.int .u8 0) 1 1 Try.underlying69 hi hz0 hz1 hz2 rfl (by decide) _ _ _ rfl (O4.alloc _) ⟨w4.heap.size, 0, none⟩ 1 1 [.int .u8 (16 * (X : Int))] rfl rfl (cell_one_new _ _ _) (one_u8 _) (ml_le (by omega)) (by omega) hle ?_; intro v' w6 hown' hgrow _))
              have hne : ∀ g, g ≤ g7 → some g ≠ Value.ownBlock u12 := fun g hg e => by have := (O4.lt g e.symm).1; omega
              have V2 := U2.grown (hne _ (Nat.le_of_lt hgw.out)) hgrow
              have V7 := U7.grown (hne _ (Nat.le_refl _)) hgrow
              have B6 : Below w.heap.size w w6 := (B4.alloc B4.size _).grown hgrow (by have := B4.size; simp; omega) (fun j hj => by have := (O4.lt j hj).1; have := hgw.out; omega)
              refine ⟨⟨I + 1, a1, q ++ [UInt8.ofNat (16 * (X : Int)).toNat], HI1.out, by go_num, rfl, HP1.out, HA2, by have := HQ1.out; simp; omega, ?_, V2, V7, B6⟩, by simp [intOf]; omega⟩
              rw [HBq.out, List.length_append]
              exact hown'
            · clear Hq
              have hod : I % 2 = 1 := by omega
              have m1 : (I : Int).tmod 2 = 1 := by rw [Int.tmod_eq_emod_of_nonneg (by omega)]; omega
              have m2 : (I : Int) % 2 = 1 := by omega
              obtain ⟨y, y0, y1, hy, HA2⟩ := HAt.out.odd hod H1.out (by omega) (by omega)
              obtain ⟨J, hJ⟩ : ∃ J, I / 2 = J := ⟨_, rfl⟩
              have m3 : (I : Int).tdiv 2 = (J : Int) := by rw [Int.tdiv_eq_ediv_of_nonneg (by omega)]; omega
              have m4 : (I : Int) / 2 = (J : Int) := by omega
              rw [hJ] at hy HA2
              have hJq : J < q.length := (List.getElem?_eq_some_iff.1 hy).1
              obtain ⟨g, cap, hv, hg, hgl, hcell, hfz, hset⟩ := row_form O4 (by intro e; rw [e] at hJq; simp at hJq)
              subst hv
              have hcJ := hcell J _ hy
              have hfJ := hfz J
              have hsJ := hset J (UInt8.ofNat (16 * y + (X : Int)).toNat) hJq
              have e1 : ((UInt8.ofNat (16 * y).toNat).toNat : Int) = 16 * y := by simp; omega
              have e2 : ((UInt8.ofNat (16 * y + (X : Int)).toNat).toNat : Int) = 16 * y + (X : Int) := by simp; omega
              rw [e1] at hcJ
              rw [e2] at hsJ
              have HA3 : Hid (Cd.At f b (I + 1) a1 (q.set J (UInt8.ofNat (16 * y + (X : Int)).toNat))) := HA2
              have hsl : (q.set J (UInt8.ofNat (16 * y + (X : Int)).toNat)).length ≤ 1024 := by rw [List.length_set]; exact hql
              have HJ1 : Hid (I / 2 = J) := hJ
              have hJ2 : (J : Int) < (q.length : Int) := by omega
              have V2 := U2.setFar (q := g) (by have := hgw.out; omega) J (.int .u8 (16 * y + (X : Int)))
              have V7 := U7.setFar (q := g) (by omega) J (.int .u8 (16 * y + (X : Int)))
              have B5 := B4.setCell (p := ⟨g, J, none⟩) (by have := hgw.out; show _ ≤ g; omega) (.int .u8 (16 * y + (X : Int)))
              generalize q.set J (UInt8.ofNat (16 * y + (X : Int)).toNat) = q2 at *
              have hyX : 0 ≤ 16 * y + (X : Int) ∧ 16 * y + (X : Int) < 256 := by omega
              clear hev hod HA2 hJ hcell hfz hset e1 e2 U2 U7 O4 B4 HAt hy
              go_wp2_with fail
              refine ⟨⟨I + 1, a1, q2, HI1.out, by go_num, rfl, HP1.out, HA3, hsl, hsJ, V2, V7, B5⟩, by simp [intOf]; omega⟩
        · have hIn : (I : Int) = 2 * n := by omega
          have hk1 : decide ((I : Int) < 2 * n) = false := by simpa using hlt
          obtain ⟨m, hm⟩ : ∃ m : Nat, n = (m : Int) := ⟨n.toNat, by omega⟩
          have hrk := HAt.out.last (n := n.toNat) (by omega)
          obtain ⟨k1, k2, k3⟩ := Cd.rd_again H0.out (n := n) (by omega) hrk
          have hso : (⟨q.toArray⟩ : ByteArray).size ≤ 140737488355328 := by
            show q.toArray.size ≤ _
            simp
            omega
          have hwr := fun w => writeCode_any f ⟨q.toArray⟩ w hso
          rw [k1] at hwr
          have hcv := conv_own (l := q) ho
          have h8 := Hr.out.symm.trans k3
          have hbe := ba_beq (Cd.wrt f ⟨q.toArray⟩).1 b
          generalize (Cd.wrt f ⟨q.toArray⟩).1 = t at *
          clear hIn hm hrk k1 k2 k3 hfr
          go_wp2_with (refine wpList_load_row rfl 54 _ rfl w.heap.size rfl 54 (arr f) (0, 0) _ T2.2 Try.underlying54 rfl hin ?_)
          refine (hwr _).mono ?_
          rintro e w4 ⟨rfl, G4⟩
          have B4 := bch B3 G4 (Nat.le_refl _)
          have hcv2 := conv_own (l := q) (own_below ho G4)
          clear hcv hwr T2 T7 B3 ho G4
          by_cases ht : t = b
          · rw [if_pos ht] at h8
            simp only [Prod.mk.injEq] at h8
            obtain ⟨rfl, rfl⟩ := h8
            rw [decide_eq_true ht] at hbe
            clear ht
            go_wp2_with fail
            go_ret2
            exact ⟨rfl, B4⟩
          · rw [if_neg ht] at h8
            simp only [Prod.mk.injEq] at h8
            obtain ⟨rfl, rfl⟩ := h8
            rw [decide_eq_false ht] at hbe
            clear ht
            go_wp2_with fail
            go_ret2
            exact ⟨rfl, B4⟩

set_option maxRecDepth 4000 in
set_option maxHeartbeats 1000000 in
theorem readCode_any (f : Nat → Int) (b : ByteArray) (n : Int) (w : World) :
    Calls Try.prog 47 #[.agg (arr f), .string b, .int .i64 n] w fun e w' => e = .returned (.tuple #[.string (Cd.rd f b n).1, .int .i64 (Cd.rd f b n).2]) ∧ Below w.heap.size w w' := by
  have hck := fun w => checkCode_any f w
  have hin := arr_infoc f
  have R1 := RowAt.new w f
  have HB : Below w.heap.size w (w.alloc (.cells (arr f) 54)) := (Below.refl _ _).alloc (Nat.le_refl _) _
  by_cases h0 : Cd.chk f = 0
  · rw [h0] at hck
    by_cases hn : n < 0 ∨ 1024 < n
    · have h9 : Cd.rd f b n = (⟨#[]⟩, 3) := by rw [Cd.rd, if_neg (fun h => h h0), if_pos hn]
      rw [h9]
      clear h9 h0
      go_enter Try.func47, Try.ntmps47
      go_wp2_with (refine wpList_load_row rfl 54 _ rfl w.heap.size rfl 54 (arr f) (0, 0) _ R1.2 Try.underlying54 rfl hin ?_)
      refine (hck _).mono ?_
      rintro e w1 ⟨rfl, G1⟩
      have B1 := bch HB G1 (Nat.le_refl _)
      clear R1 HB G1 hck
      go_wp2_with fail
      refine (within_no n 0 1024 _ (by omega)).mono ?_
      rintro e w' ⟨rfl, hw'⟩
      subst hw'
      clear hn
      go_wp2_with fail
      go_ret2
      exact ⟨rfl, B1⟩
    · by_cases hb4 : (b.size : Int) ≤ 4 * n
      · exact readCode_ok f b n w h0 (by omega) (by omega) hb4
      · have h9 : Cd.rd f b n = (⟨#[]⟩, 1) := Cd.rd_long h0 hn (by omega)
        rw [h9]
        have hn0 : 0 ≤ n := by omega
        have hn1 : n ≤ 1024 := by omega
        have db : decide (4 * n < (b.size : Int)) = true := by simp; omega
        clear h9 h0 hn hb4
        go_enter Try.func47, Try.ntmps47
        go_wp2_with (refine wpList_load_row rfl 54 _ rfl w.heap.size rfl 54 (arr f) (0, 0) _ R1.2 Try.underlying54 rfl hin ?_)
        refine (hck _).mono ?_
        rintro e w1 ⟨rfl, G1⟩
        have B1 := bch HB G1 (Nat.le_refl _)
        clear R1 HB G1 hck
        go_wp2_with fail
        refine (within_yes n 0 1024 _ hn0 hn1).mono ?_
        rintro e w' ⟨rfl, hw'⟩
        subst hw'
        go_wp2_with fail
        go_ret2
        exact ⟨rfl, B1⟩
  · have h9 : Cd.rd f b n = (⟨#[]⟩, Cd.chk f) := by rw [Cd.rd, if_pos h0]
    rw [h9]
    generalize Cd.chk f = E at *
    have d0 : (E != 0) = true := by simpa using h0
    clear h9 h0
    go_enter Try.func47, Try.ntmps47
    go_wp2_with (refine wpList_load_row rfl 54 _ rfl w.heap.size rfl 54 (arr f) (0, 0) _ R1.2 Try.underlying54 rfl hin ?_)
    refine (hck _).mono ?_
    rintro e w1 ⟨rfl, G1⟩
    have B1 := bch HB G1 (Nat.le_refl _)
    clear R1 HB G1 hck
    go_wp2_with fail
    go_ret2
    exact ⟨rfl, B1⟩
end Go.Proofs.Ytbjbjbpgmojcbaa
