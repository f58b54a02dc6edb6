/- What chapter 3's own WriteCode comes to. -/
import Derived.Test.YtbjbjbpgmojcbaaRefWords
namespace Go.Proofs.Ytbjbjbpgmojcbaa
open Go.RowKit

namespace Cd
theorem str_at (bs : List Bool) (k : Nat) (h : k < (str bs).size) : ((str bs)[k]).toNat = 48 + bq bs k := by
  have hl : k < bs.length := by rw [str_size] at h; exact h
  have e : (str bs)[k] = chr (bs[k]) := by
    show (bs.map chr).toArray[k]'(by simpa using hl) = _
    simp
  rw [e, bq, List.getD_eq_getElem?_getD, List.getElem?_eq_getElem hl]
  show _ = 48 + bv bs[k]
  cases bs[k] <;> rfl
theorem bq_pad (bs : List Bool) (p i : Nat) : bq (bs ++ List.replicate p false) i = bq bs i := by
  by_cases h : i < bs.length
  · exact bq_left h
  · rw [bq_far bs (by omega)]
    obtain ⟨j, rfl⟩ : ∃ j, i = bs.length + j := ⟨i - bs.length, by omega⟩
    rw [bq_right, bq, List.getD_eq_getElem?_getD]
    by_cases h2 : j < p
    · rw [List.getElem?_replicate, if_pos h2]; rfl
    · rw [List.getElem?_replicate, if_neg h2]; rfl
theorem byt_pad (bs : List Bool) (p j : Nat) : byt (bs ++ List.replicate p false) j = byt bs j := by simp only [byt, bq_pad]
/-- The first r bits from a on as a number. -/
def vb (bs : List Bool) (a : Nat) : Nat → Nat
  | 0 => 0
  | r + 1 => 2 * vb bs a r + bq bs (a + r)
theorem vb_lt (bs : List Bool) (a : Nat) : ∀ r, vb bs a r < 2 ^ r := by
  intro r
  induction r with
  | zero => simp [vb]
  | succ r ih => have := bq_le bs (a + r); rw [vb, Nat.pow_succ]; omega
theorem vb_le (bs : List Bool) (a : Nat) {r : Nat} (h : r ≤ 8) : vb bs a r ≤ 255 := by
  have h1 := vb_lt bs a r
  have h2 : 2 ^ r ≤ 2 ^ 8 := Nat.pow_le_pow_right (by omega) h
  omega
theorem vb_byt (bs : List Bool) (j : Nat) : vb bs (8 * j) 8 = byt bs j := by
  simp only [vb, byt, Nat.add_zero]
  omega
theorem pk_take (bs : List Bool) {j : Nat} (h : j < (bs.length + 7) / 8) : (pk bs).take (j + 1) = (pk bs).take j ++ [UInt8.ofNat (byt bs j)] := by
  rw [List.take_add_one, pk_at bs h]
  rfl
end Cd

set_option maxRecDepth 4000 in
set_option maxHeartbeats 2000000 in
theorem writeCode_ok (f : Nat → Int) (s : ByteArray) (w : World) (h0 : Cd.chk f = 0) (hs : s.size ≤ 1024) :
    Calls Try.prog 45 #[.agg (arr f), .string s] w fun e w' => e = .returned (.tuple #[.string (Cd.wrt f s).1, .int .i64 (Cd.wrt f s).2]) ∧ Below w.heap.size w w' := by
  have hck := fun w => checkCode_any f w
  rw [h0] at hck
  have hR : Hid (Cd.InR f 15 16) := (Cd.chk_zero h0).1
  have hwd := fun w => refWords_any f w hR.out
  obtain ⟨hS, hSe⟩ : ∃ h, (fun i => Cd.str (Cd.cw f i)) = h := ⟨_, rfl⟩
  rw [hSe] at hwd
  have HS : Hid ((fun i => Cd.str (Cd.cw f i)) = hS) := hSe
  clear hSe
  have hin := arr_infoc f
  have hinw := arrS_infoc hS
  have h0' : Hid (Cd.chk f = 0) := h0
  have hs' : (s.size : Int) ≤ 1024 := by omega
  have ds : decide (1024 < (s.size : Int)) = false := by simp; omega
  have R1 := RowAt.new w f
  have HB : Below w.heap.size w (w.alloc (.cells (arr f) 54)) := (Below.refl _ _).alloc (Nat.le_refl _) _
  obtain ⟨r1, r2, hr⟩ : ∃ r1 r2, Cd.wrt f s = (r1, r2) := ⟨_, _, rfl⟩
  rw [hr]
  have Hr : Hid (Cd.wrt f s = (r1, r2)) := hr
  clear hr h0
  go_enter Try.func45, Try.ntmps45
  go_wp2_with (refine wpList_load_row rfl 54 _ rfl w.heap.size rfl 54 (arr f) (0, 0) _ R1.2 Try.underlying54 rfl hin ?_)
  refine (hck _).mono ?_
  rintro e w1 ⟨rfl, G1⟩
  have S1 := R1.below G1
  have B1 := bch HB G1 (Nat.le_refl _)
  clear R1 HB G1 hck
  go_wp2_with (refine wpList_load_row rfl 54 _ rfl w.heap.size rfl 54 (arr f) (0, 0) _ S1.2 Try.underlying54 rfl hin ?_)
  refine (hwd _).mono ?_
  rintro e w2 ⟨rfl, G2⟩
  have T1 := S1.below G2
  have B2 := bch B1 G2 (Nat.le_refl _)
  clear S1 B1 G2 hwd
  go_wp2_with (refine wpList_store_row rfl 99 _ _ rfl w2.heap.size (arrS hS) rfl rfl 99 _ (heap_alloc_last w2 _) hinw rfl (arrS_one _) ?_; rw [World.setRow_alloc_new])
  have T7 := StAt.new w2 hS
  have T2 := T1.alloc (.cells (arrS hS) 99)
  have B3 : Below w.heap.size w (w2.alloc (.cells (arrS hS) 99)) := B2.alloc (Nat.le_of_lt T1.1) _
  clear T1 B2
  generalize w2.alloc (.cells (arrS hS) 99) = w3 at *
  generalize w2.heap.size = g7 at *
  go_loopw [8, 9] (fun b i wr => ∃ (k : Nat) (bs : List Bool), k ≤ s.size ∧ i = .int .i64 k ∧ b = .string (Cd.str bs) ∧ Hid (Cd.wrK f s k = some bs) ∧ RowAt wr w.heap.size f ∧ StAt wr g7 hS ∧ Below w.heap.size w wr) (fun _ i _ => s.size - (intOf i).toNat)
  case atStart => exact ⟨0, [], by omega, rfl, rfl, rfl, T2, T7, B3⟩
  case round =>
    clear T2 T7 B3
    obtain ⟨k, bs, hk, rfl, rfl, hW, T2, T7, B3⟩ := hrel
    have Hlen : Hid (bs.length ≤ 30 * k) := Cd.wrK_len hR.out k bs hW.out
    by_cases hlt : k < s.size
    · have hk1 : decide ((k : Int) < (s.size : Int)) = true := by simp; omega
      have hk2 : decide (k < s.size) = true := by simp; omega
      obtain ⟨x, hx⟩ : ∃ x : Int, (s[k].toNat : Int) = x := ⟨_, rfl⟩
      have hA : Cd.at8 s k = s[k].toNat := by unfold Cd.at8; rw [Nm.at_list s k hlt]; rfl
      have hA2 := Cd.at8_lt s k
      have hx0 : 0 ≤ x := by omega
      have hx1 : x ≤ 255 := by omega
      obtain ⟨H, hH⟩ : ∃ H, Cd.at8 s k / 16 = H := ⟨_, rfl⟩
      obtain ⟨L, hL⟩ : ∃ L, Cd.at8 s k % 16 = L := ⟨_, rfl⟩
      have e1 : x / 16 = (H : Int) := by omega
      have e2 : x % 16 = (L : Int) := by omega
      have e3 : x.tdiv 16 = (H : Int) := by rw [Int.tdiv_eq_ediv_of_nonneg hx0]; exact e1
      have e4 : x.tmod 16 = (L : Int) := by rw [Int.tmod_eq_emod_of_nonneg hx0]; exact e2
      have hH1 : H < 16 := by omega
      have hL1 : L < 16 := by omega
      have hH2 : (H : Int) < 16 := by omega
      have hL2 : (L : Int) < 16 := by omega
      have HN : Hid (¬ (f H = 0 ∨ f L = 0) → Cd.wrK f s (k + 1) = some (bs ++ Cd.cw f H ++ Cd.cw f L)) := fun h => by have := Cd.wrK_next hW.out (by rw [hH, hL]; exact h); rw [hH, hL] at this; exact this
      have HSt : Hid (f H = 0 ∨ f L = 0 → r1 = ⟨#[]⟩ ∧ r2 = 5) := fun h => by
        have h9 : Cd.wrt f s = (⟨#[]⟩, 5) := by
          rw [Cd.wrt, if_neg (fun h => h h0'.out), if_neg (by omega), Cd.wrK_stop hlt hW.out (by rw [hH, hL]; exact h)]
        have h8 := Hr.out.symm.trans h9
        simpa using h8
      clear hA hA2 hH hL e1 e2
      have c1 := T2.cell H hH1
      have c2 := T2.cell L hL1
      by_cases hz : f H = 0
      · obtain ⟨rfl, rfl⟩ := HSt.out (.inl hz)
        rw [hz] at c1
        clear hz c2
        go_wp2_with fail
        go_ret2
        exact ⟨rfl, B3⟩
      · have d1 : (f H == 0) = false := by simpa using hz
        by_cases hy : f L = 0
        · obtain ⟨rfl, rfl⟩ := HSt.out (.inr hy)
          rw [hy] at c2
          clear hz hy
          go_wp2_with fail
          go_ret2
          exact ⟨rfl, B3⟩
        · have d2 : (f L == 0) = false := by simpa using hy
          have HNN : Hid (Cd.wrK f s (k + 1) = some (bs ++ Cd.cw f H ++ Cd.cw f L)) := HN.out (fun h => h.elim hz hy)
          have c3 : wr.cell? ⟨g7, H, none⟩ = some (.string (Cd.str (Cd.cw f H))) := by rw [T7.cell H hH1, ← HS.out]
          have c4 : wr.cell? ⟨g7, L, none⟩ = some (.string (Cd.str (Cd.cw f L))) := by rw [T7.cell L hL1, ← HS.out]
          have sz1 : (Cd.str bs).size ≤ 30720 := by rw [Cd.str_size]; have := Hlen.out; omega
          have sz2 : (Cd.str (Cd.cw f H)).size ≤ 15 := by rw [Cd.str_size]; exact Cd.cw_len hR.out hH1
          have sz3 : (Cd.str (Cd.cw f L)).size ≤ 15 := by rw [Cd.str_size]; exact Cd.cw_len hR.out hL1
          have HE : Hid (Cd.str bs ++ Cd.str (Cd.cw f H) ++ Cd.str (Cd.cw f L) = Cd.str (bs ++ Cd.cw f H ++ Cd.cw f L)) := by show _ = _; rw [Cd.str_app, Cd.str_app]
          have sb1 : ¬ 9223372036854775807 < (Cd.str bs).size + (Cd.str (Cd.cw f H)).size := by omega
          have sb2 : ¬ 9223372036854775807 < (Cd.str bs).size + (Cd.str (Cd.cw f H)).size + (Cd.str (Cd.cw f L)).size := by omega
          generalize Cd.str (Cd.cw f H) = sH at *
          generalize Cd.str (Cd.cw f L) = sL at *
          generalize Cd.str bs = sB at *
          clear hz hy HSt HN
          go_wp2_with fail
          go_quiet (fail)
          go_wp2_with fail
          exact ⟨⟨k + 1, _, by omega, by go_num, by rw [HE.out], HNN, T2.below (below_drewN (Below.refl _ _) _), T7.below (below_drewN (Below.refl _ _) _), below_drewN B3 _⟩, by simp [intOf]; omega⟩
    · obtain rfl : k = s.size := by omega
      have h9 : Cd.wrt f s = (⟨(Cd.pk bs).toArray⟩, 0) := by
        rw [Cd.wrt, if_neg (fun h => h h0'.out), if_neg (by omega), hW.out]
      have h8 := Hr.out.symm.trans h9
      simp only [Prod.mk.injEq] at h8
      obtain ⟨rfl, rfl⟩ := h8
      have hbl : bs.length ≤ 30720 := by have := Hlen.out; omega
      clear h9 T2 T7 hW Hlen hin hinw
      have HBL : Hid (bs.length ≤ 30720) := hbl
      have hst : Cd.str bs = Cd.str (bs ++ List.replicate 0 false) := by simp
      rw [hst]
      clear hst
      go_wp2_with fail
      go_loopg [8] ((8 - bs.length % 8) % 8) (fun n b wx => ∃ p : Nat, b = .string (Cd.str (bs ++ List.replicate p false)) ∧ Hid (p + n = (8 - bs.length % 8) % 8) ∧ wr = wx)
      case atStart => exact ⟨0, rfl, by show _ = _; omega, rfl⟩
      case round =>
        obtain ⟨p, rfl, Hp, rfl⟩ := hrel
        have Hsz : Hid ((Cd.str (bs ++ List.replicate p false)).size = bs.length + p) := by show _ = _; rw [Cd.str_size]; simp
        have HE : Hid (Cd.str (bs ++ List.replicate p false) ++ ⟨#[48]⟩ = Cd.str (bs ++ List.replicate (p + 1) false)) := by
          show _ = _
          have : (⟨#[48]⟩ : ByteArray) = Cd.str [false] := rfl
          rw [this, Cd.str_app, List.append_assoc, List.replicate_succ']
        have hsz : (Cd.str (bs ++ List.replicate p false)).size ≤ 30730 := by have := Hsz.out; have := Hp.out; omega
        by_cases hn : gk = 0
        · have HB8 : Hid (∃ m, (Cd.str (bs ++ List.replicate p false)).size = 8 * m ∧ m = (bs.length + 7) / 8) := by
            have h1 := Hsz.out
            have h2 := Hp.out
            show ∃ m, _
            exact ⟨(bs.length + 7) / 8, by omega, rfl⟩
          have hm : ((Cd.str (bs ++ List.replicate p false)).size : Int).tmod 8 = 0 := by
            obtain ⟨m, h1, _⟩ := HB8.out
            rw [h1, Int.tmod_eq_emod_of_nonneg (by omega)]; omega
          have hm2 : ((Cd.str (bs ++ List.replicate p false)).size : Int) % 8 = 0 := by
            obtain ⟨m, h1, _⟩ := HB8.out
            rw [h1]; omega
          have HAt : Hid (∀ q (h : q < (Cd.str (bs ++ List.replicate p false)).size), ((Cd.str (bs ++ List.replicate p false))[q]).toNat = 48 + Cd.bq bs q) := fun q h => by rw [Cd.str_at _ q h, Cd.bq_pad]
          generalize Cd.str (bs ++ List.replicate p false) = sP at *
          clear HE Hp
          obtain ⟨m, Hm1, Hm2⟩ : ∃ m, Hid (sP.size = 8 * m) ∧ Hid (m = (bs.length + 7) / 8) := by obtain ⟨m, h1, h2⟩ := HB8.out; exact ⟨m, h1, h2⟩
          have hmb : m ≤ 4000 := by have := Hm2.out; have := HBL.out; omega
          clear HB8 Hsz hn
          go_wp2_with fail
          go_loopw [10, 11] (fun o i wx => ∃ (j : Nat) (I : Int), j ≤ m ∧ i = .int .i64 I ∧ Hid (I = 8 * (j : Int)) ∧ 0 ≤ I ∧ I ≤ 32000 ∧ o = .string ⟨((Cd.pk bs).take j).toArray⟩ ∧ Below w.heap.size w wx) (fun _ i _ => 40000 - (intOf i).toNat)
          case atStart => exact ⟨0, 0, by omega, rfl, rfl, by omega, by omega, by simp, B3⟩
          case round =>
            clear B3
            obtain ⟨j, I, hj, rfl, HI, hI0, hI1, rfl, B3⟩ := hrel
            by_cases hjm : j < m
            · have dI : decide (I < (sP.size : Int)) = true := by have := HI.out; have := Hm1.out; simp; omega
              have Hj8 : Hid (8 * j + 8 ≤ sP.size) := by have := Hm1.out; show _ ≤ _; omega
              have HI8 : Hid (I = ((8 * j : Nat) : Int)) := by have := HI.out; show _ = _; omega
              go_wp2_with fail
              go_loop [12, 13] (fun a b => ∃ (r q : Nat), r ≤ 8 ∧ Hid (q = 8 * j + r) ∧ q ≤ 33000 ∧ b = .int .i64 (q : Nat) ∧ a = .int .i64 (Cd.vb bs (8 * j) r : Nat)) (fun _ b => 40000 - (intOf b).toNat)
              case atStart => exact ⟨0, 8 * j, by omega, rfl, by omega, by rw [HI8.out], rfl⟩
              case round =>
                obtain ⟨r, q, hr, Hq, hqb, rfl, rfl⟩ := hrel
                have hv := Cd.vb_le bs (8 * j) hr
                by_cases hr8 : r < 8
                · have dq : decide ((q : Int) < I + 8) = true := by have := Hq.out; have := HI8.out; simp; omega
                  have hqs : q < sP.size := by have := Hq.out; have := Hj8.out; omega
                  have hqs2 : (q : Int) < (sP.size : Int) := by omega
                  obtain ⟨y, hy⟩ : ∃ y : Int, (sP[q].toNat : Int) = y := ⟨_, rfl⟩
                  have hyb : y = 48 + (Cd.bq bs q : Nat) := by rw [← hy, HAt.out q hqs]; omega
                  have hbq := Cd.bq_le bs q
                  have hy0 : 48 ≤ y := by omega
                  have hy1 : y ≤ 49 := by omega
                  have HV : Hid ((Cd.vb bs (8 * j) (r + 1) : Nat) = 2 * ((Cd.vb bs (8 * j) r : Nat) : Int) + (y - 48)) := by
                    show _ = _
                    rw [Cd.vb, hyb, ← Hq.out]
                    omega
                  generalize Cd.vb bs (8 * j) r = v at *
                  clear hyb hbq
                  have Hq1 : Hid (q + 1 = 8 * j + (r + 1) ∧ q + 1 ≤ 33000) := by have := Hq.out; have := HI8.out; show _ ∧ _; omega
                  go_wp2_with fail
                  exact ⟨⟨r + 1, q + 1, by omega, Hq1.out.1, Hq1.out.2, by go_num, by rw [HV.out]⟩, by simp [intOf]; omega⟩
                · obtain rfl : r = 8 := by omega
                  have dq : decide ((q : Int) < I + 8) = false := by have := Hq.out; have := HI8.out; simp; omega
                  have HT : Hid (((Cd.pk bs).take (j + 1)) = (Cd.pk bs).take j ++ [UInt8.ofNat ((Cd.vb bs (8 * j) 8 : Nat) : Int).toNat]) := by
                    show _ = _
                    rw [Cd.pk_take bs (by have := Hm2.out; omega), Cd.vb_byt, Int.toNat_natCast]
                  have hcv := conv_cell ((Cd.vb bs (8 * j) 8 : Nat) : Int) (by omega) (by omega)
                  have hsz2 : (⟨((Cd.pk bs).take j).toArray⟩ : ByteArray).size ≤ 4000 := by
                    show ((Cd.pk bs).take j).toArray.size ≤ _
                    simp
                    omega
                  have HE2 : Hid ((⟨((Cd.pk bs).take j).toArray⟩ : ByteArray) ++ ⟨#[UInt8.ofNat ((Cd.vb bs (8 * j) 8 : Nat) : Int).toNat]⟩ = ⟨((Cd.pk bs).take (j + 1)).toArray⟩) := by
                    show _ = _
                    rw [HT.out]
                    exact Nm.ba_app _ _
                  generalize Cd.vb bs (8 * j) 8 = v at *
                  generalize (⟨((Cd.pk bs).take j).toArray⟩ : ByteArray) = o at *
                  clear HT
                  have HI2 : Hid (I + 8 = 8 * ((j + 1 : Nat) : Int) ∧ I + 8 ≤ 32000) := by have := HI8.out; show _ ∧ _; omega
                  go_wp2_with fail
                  exact ⟨⟨j + 1, I + 8, by omega, rfl, HI2.out.1, by omega, HI2.out.2, by rw [← HE2.out]; rfl, B3.alloc B3.size _⟩, by simp [intOf]; omega⟩
            · obtain rfl : j = m := by omega
              have dI : decide (I < (sP.size : Int)) = false := by have := HI.out; have := Hm1.out; simp; omega
              have hE : (Cd.pk bs).take j = Cd.pk bs := List.take_of_length_le (by rw [Cd.pk_len]; have := Hm2.out; omega)
              rw [hE]
              clear hE
              go_wp2_with fail
              go_ret2
              exact ⟨rfl, B3⟩
        · obtain ⟨n, rfl⟩ : ∃ x, gk = x + 1 := ⟨gk - 1, by omega⟩
          obtain ⟨r, Hr8, hr1, hr2⟩ : ∃ r : Nat, Hid (r = (bs.length + p) % 8) ∧ r ≠ 0 ∧ r < 8 := ⟨(bs.length + p) % 8, rfl, by have := Hp.out; omega, by omega⟩
          have hm : ((Cd.str (bs ++ List.replicate p false)).size : Int).tmod 8 = (r : Int) := by rw [Hsz.out, Int.tmod_eq_emod_of_nonneg (by omega), Hr8.out]; omega
          have hm2 : ((Cd.str (bs ++ List.replicate p false)).size : Int) % 8 = (r : Int) := by rw [Hsz.out, Hr8.out]; omega
          have dr : ((r : Int) != 0) = true := by simp; omega
          have sb : ¬ 9223372036854775807 < (Cd.str (bs ++ List.replicate p false)).size + 1 := by omega
          generalize Cd.str (bs ++ List.replicate p false) = sP at *
          clear hr1 hr2 Hsz
          go_wp2_with fail
          go_roundg n
          case measure => omega
          case rel => exact ⟨p + 1, by rw [HE.out], by have := Hp.out; show _ = _; omega, rfl⟩

set_option maxRecDepth 4000 in
set_option maxHeartbeats 1000000 in
theorem writeCode_any (f : Nat → Int) (s : ByteArray) (w : World) (hs0 : s.size ≤ 140737488355328) :
    Calls Try.prog 45 #[.agg (arr f), .string s] w fun e w' => e = .returned (.tuple #[.string (Cd.wrt f s).1, .int .i64 (Cd.wrt f s).2]) ∧ Below w.heap.size w w' := by
  by_cases h0 : Cd.chk f = 0
  · by_cases hs : s.size ≤ 1024
    · exact writeCode_ok f s w h0 hs
    · have h9 : Cd.wrt f s = (⟨#[]⟩, 2) := by rw [Cd.wrt, if_neg (fun h => h h0), if_pos (by omega)]
      rw [h9]
      have hck := fun w => checkCode_any f w
      rw [h0] at hck
      have hin := arr_infoc f
      have hs' : 1024 < (s.size : Int) := by omega
      have ds : decide (1024 < (s.size : Int)) = true := by simp; omega
      have R1 := RowAt.new w f
      have HB : Below w.heap.size w (w.alloc (.cells (arr f) 54)) := (Below.refl _ _).alloc (Nat.le_refl _) _
      clear h9 hs h0
      go_enter Try.func45, Try.ntmps45
      go_wp2_with (refine wpList_load_row rfl 54 _ rfl w.heap.size rfl 54 (arr f) (0, 0) _ R1.2 Try.underlying54 rfl hin ?_)
      refine (hck _).mono ?_
      rintro e w1 ⟨rfl, G1⟩
      have B1 := bch HB G1 (Nat.le_refl _)
      clear R1 HB G1 hck
      go_wp2_with fail
      go_ret2
      exact ⟨rfl, B1⟩
  · have h9 : Cd.wrt f s = (⟨#[]⟩, Cd.chk f) := by rw [Cd.wrt, if_pos h0]
    rw [h9]
    have hck := fun w => checkCode_any f w
    have hin := arr_infoc f
    have R1 := RowAt.new w f
    have HB : Below w.heap.size w (w.alloc (.cells (arr f) 54)) := (Below.refl _ _).alloc (Nat.le_refl _) _
    generalize Cd.chk f = E at *
    have d0 : (E != 0) = true := by simpa using h0
    clear h9 h0
    go_enter Try.func45, Try.ntmps45
    go_wp2_with (refine wpList_load_row rfl 54 _ rfl w.heap.size rfl 54 (arr f) (0, 0) _ R1.2 Try.underlying54 rfl hin ?_)
    refine (hck _).mono ?_
    rintro e w1 ⟨rfl, G1⟩
    have B1 := bch HB G1 (Nat.le_refl _)
    clear R1 HB G1 hck
    go_wp2_with fail
    go_ret2
    exact ⟨rfl, B1⟩
end Go.Proofs.Ytbjbjbpgmojcbaa
