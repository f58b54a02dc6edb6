/- What the document's own Unpack comes to: blocks 2, and all in one. -/
import Derived.Test.YtbjbjbpgmojcbaaRefUnpackOf
namespace Go.Proofs.Ytbjbjbpgmojcbaa
open Go.RowKit
set_option linter.unusedVariables false

set_option maxRecDepth 4000 in
set_option maxHeartbeats 1000000 in
theorem unpackOf_2n (dict b S : ByteArray) (w : World) (hd : dict.size ≤ 256) (hb : b.size ≤ 140737488355328) (h0 : 0 < b.size) (hS : b.extract 1 b.size = S) (hx : (b[0].toNat : Int) = 2) (Z : ByteArray) (hZ : S.extract 8 S.size = Z) (h8 : ¬ S.size < 8) (hn : Nm.from_ Z.data.toList = none) :
    Calls Try.prog 52 #[.string dict, .string b] w fun e w' => e = .returned (.tuple #[.string ⟨#[]⟩, .bool false]) ∧ Below w.heap.size w w' := by
  have hne := not_empty (b := b) (by omega)
  have hb1 : (1 : Int) ≤ (b.size : Int) := by omega
  have hb1n : 1 ≤ b.size := by omega
  have hb0 : (0 : Int) < (b.size : Int) := by omega
  have hbi : (b.size : Int) ≤ 140737488355328 := by omega
  have hs1 := ext_size b 1 b.size
  rw [hS] at hs1
  have hs2 : S.size ≤ 140737488355328 := by omega
  have hz1 := ext_size S 8 S.size
  rw [hZ] at hz1
  have hz2 : Z.size ≤ 140737488355328 := by omega
  clear hs1 hz1
  have h8' : (8 : Int) ≤ (S.size : Int) := by omega
  have h8n : 8 ≤ S.size := by omega
  have h8d : decide ((S.size : Int) < 8) = false := by simp; omega
  have h8s : (S.size : Int) ≤ 140737488355328 := by omega
  have c1 := fun w => numFrom_no Z w (by omega) hn
  have c2 := fun w => readCode_any (Bk.pt (S.extract 0 8)) ⟨#[]⟩ 0 w
  generalize (Cd.rd (Bk.pt (S.extract 0 8)) ⟨#[]⟩ 0).1 = X1 at *
  generalize (Cd.rd (Bk.pt (S.extract 0 8)) ⟨#[]⟩ 0).2 = X2 at *
  clear hn
  have HX : Hid (∀ i, Bk.ptK S 8 i = Bk.pt (S.extract 0 8) i) := pt_ext S
  generalize Bk.pt (S.extract 0 8) = f at *
  have hif := arr_infoc f
  have R3 := RowAt.new w (fun _ => 0)
  have HB : Below w.heap.size w (w.alloc (.cells (arr fun _ => 0) 54)) := (Below.refl _ _).alloc (Nat.le_refl _) _
  rw [← arr_zero] at R3 HB
  go_enter Try.func52, Try.ntmps52
  go_wp2_with fail
  go_region
  go_wp2_with fail
  rw [arr_zero] at R3 HB
  rw [arr_zero]
  generalize w.alloc (.cells (arr fun _ => 0) 54) = w0 at *
  obtain ⟨g3, hg3⟩ : ∃ g3, w.heap.size = g3 := ⟨_, rfl⟩
  have hq : Hid (w.heap.size ≤ g3) := Nat.le_of_eq hg3
  have hg3' : w.heap.size = g3 := hg3
  have R3' : RowAt w0 g3 (Bk.ptK S 0) := by rw [← hg3]; exact R3.congr (fun i _ => by simp [Bk.ptK])
  clear R3
  rw [hg3']
  clear hg3
  go_loopw [9] (fun i wr => ∃ k : Nat, k ≤ 8 ∧ i = .int .i64 k ∧ RowAt wr g3 (Bk.ptK S k) ∧ Below w.heap.size w wr) (fun i _ => 8 - (intOf i).toNat)
  case atStart => exact ⟨0, by omega, rfl, R3', HB.drew⟩
  case round =>
    clear R3' HB
    obtain ⟨k, hk, rfl, R3, HB⟩ := hrel
    by_cases hlt : k < 8
    · have hk1 : decide ((k : Int) < 8) = true := by simp; omega
      have hk2 : decide (k < 8) = true := by simp; omega
      have hks : k < S.size := by omega
      have hk3 : (k : Int) < (S.size : Int) := by omega
      obtain ⟨x, hxx⟩ : ∃ x : Int, (S[k].toNat : Int) = x := ⟨_, rfl⟩
      have hA : Cd.at8 S k = S[k].toNat := by unfold Cd.at8; rw [Nm.at_list S k hks]; rfl
      have hA2 := Cd.at8_lt S k
      have hx0 : 0 ≤ x := by omega
      have hx1 : x ≤ 255 := by omega
      obtain ⟨H, hH⟩ : ∃ H, Cd.at8 S k / 16 = H := ⟨_, rfl⟩
      obtain ⟨L, hL⟩ : ∃ L, Cd.at8 S k % 16 = L := ⟨_, rfl⟩
      have e1 : x / 16 = (H : Int) := by omega
      have e2 : x % 16 = (L : Int) := by omega
      have e3 : x.tdiv 16 = (H : Int) := by rw [Int.tdiv_eq_ediv_of_nonneg hx0]; exact e1
      have e4 : x.tmod 16 = (L : Int) := by rw [Int.tmod_eq_emod_of_nonneg hx0]; exact e2
      have hH2 : H < 16 := by omega
      have hL2 : L < 16 := by omega
      have u1 : IntKind.u8.wrap (H : Int) = (H : Int) := IntWalk.u8_in _ ⟨by omega, by omega⟩
      have u2 : IntKind.i64.wrap (H : Int) = (H : Int) := IntWalk.i64_in _ ⟨by omega, by omega⟩
      have u3 : IntKind.u8.wrap (L : Int) = (L : Int) := IntWalk.u8_in _ ⟨by omega, by omega⟩
      have u4 : IntKind.i64.wrap (L : Int) = (L : Int) := IntWalk.i64_in _ ⟨by omega, by omega⟩
      obtain ⟨K2, hK2e⟩ : ∃ K2, 2 * k = K2 := ⟨_, rfl⟩
      obtain ⟨K3, hK3e⟩ : ∃ K3, 2 * k + 1 = K3 := ⟨_, rfl⟩
      have hK2 : K2 < 16 := by omega
      have hK3 : K3 < 16 := by omega
      have m2 : 2 * (k : Int) = (K2 : Int) := by omega
      have m3 : (K2 : Int) + 1 = (K3 : Int) := by omega
      have hK2i : (K2 : Int) < 16 := by omega
      have hK3i : (K3 : Int) < 16 := by omega
      have w4 : IntKind.i64.wrap (K2 : Int) = (K2 : Int) := IntWalk.i64_in _ ⟨by omega, by omega⟩
      have w5 : IntKind.i64.wrap (K3 : Int) = (K3 : Int) := IntWalk.i64_in _ ⟨by omega, by omega⟩
      have c1 := R3.cell K2 hK2
      have f1 := R3.frozen K2
      have c2 := R3.cell K3 hK3
      have f2 := R3.frozen K3
      have S3 := R3.set K2 (H : Int)
      have SB := HB.setCell (p := ⟨g3, K2, none⟩) (by have := hq.out; show _ ≤ g3; omega) (.int .i64 (H : Int))
      have T3 := (S3.set K3 (L : Int)).congr (f' := Bk.ptK S (k + 1)) (fun i _ => by rw [← hK2e, ← hK3e, ← hH, ← hL]; exact Bk.ptK_next S k i)
      have TB := SB.setCell (p := ⟨g3, K3, none⟩) (by have := hq.out; show _ ≤ g3; omega) (.int .i64 (L : Int))
      clear hA hA2 hH hL e1 e2 hK2e hK3e R3 HB S3 SB
      go_wp2_with fail
      go_region
      all_goals go_wp2_with fail
      all_goals go_roundw
      case rel => exact ⟨k + 1, by omega, by go_num, T3, TB.drew⟩
      case measure => simp [intOf]; omega
    · obtain rfl : k = 8 := by omega
      have hk1 : decide ((8 : Int) < 8) = false := by decide
      have R4 := R3.congr (f' := f) (fun i _ => HX.out i)
      clear R3 HX hx
      go_wp2_with fail
      refine (c1 _).mono ?_
      rintro e w1 ⟨rfl, G1⟩
      have R5 := R4.below G1
      have B5 := bch HB G1 (Nat.le_refl _)
      clear R4 HB G1 c1
      go_wp2_with (refine wpList_load_row rfl 54 _ rfl g3 rfl 54 (arr f) (0, 0) _ R5.2 Try.underlying54 rfl hif ?_)
      refine (c2 _).mono ?_
      rintro e w2 ⟨rfl, G2⟩
      have B6 := bch B5 G2 (Nat.le_refl _)
      go_wp2_with fail
      go_ret2
      exact ⟨rfl, B6⟩

set_option maxRecDepth 4000 in
set_option maxHeartbeats 1000000 in
theorem unpackOf_2e (dict b S : ByteArray) (w : World) (hd : dict.size ≤ 256) (hb : b.size ≤ 140737488355328) (h0 : 0 < b.size) (hS : b.extract 1 b.size = S) (hx : (b[0].toNat : Int) = 2) (Z : ByteArray) (hZ : S.extract 8 S.size = Z) (h8 : ¬ S.size < 8) (n k : Nat) (Y : ByteArray) (hn : Nm.from_ Z.data.toList = some (n, k)) (hY : Z.extract k Z.size = Y) (hE : (Cd.rd (Bk.pt (S.extract 0 8)) Y (n : Nat)).2 ≠ 0) :
    Calls Try.prog 52 #[.string dict, .string b] w fun e w' => e = .returned (.tuple #[.string ⟨#[]⟩, .bool false]) ∧ Below w.heap.size w w' := by
  have hne := not_empty (b := b) (by omega)
  have hb1 : (1 : Int) ≤ (b.size : Int) := by omega
  have hb1n : 1 ≤ b.size := by omega
  have hb0 : (0 : Int) < (b.size : Int) := by omega
  have hbi : (b.size : Int) ≤ 140737488355328 := by omega
  have hs1 := ext_size b 1 b.size
  rw [hS] at hs1
  have hs2 : S.size ≤ 140737488355328 := by omega
  have hz1 := ext_size S 8 S.size
  rw [hZ] at hz1
  have hz2 : Z.size ≤ 140737488355328 := by omega
  clear hs1 hz1
  have h8' : (8 : Int) ≤ (S.size : Int) := by omega
  have h8n : 8 ≤ S.size := by omega
  have h8d : decide ((S.size : Int) < 8) = false := by simp; omega
  have h8s : (S.size : Int) ≤ 140737488355328 := by omega
  have c1 := fun w => numFrom_yes Z w n k (by omega) hn
  rw [hY] at c1
  have c2 := fun w => readCode_any (Bk.pt (S.extract 0 8)) Y (n : Nat) w
  generalize (Cd.rd (Bk.pt (S.extract 0 8)) Y (n : Nat)).1 = X1 at *
  generalize (Cd.rd (Bk.pt (S.extract 0 8)) Y (n : Nat)).2 = X2 at *
  have q1 : (X2 == 0) = false := by simp [hE]
  have q2 : (X2 != 0) = true := by simp [hE]
  clear hn hY
  have HX : Hid (∀ i, Bk.ptK S 8 i = Bk.pt (S.extract 0 8) i) := pt_ext S
  generalize Bk.pt (S.extract 0 8) = f at *
  have hif := arr_infoc f
  have R3 := RowAt.new w (fun _ => 0)
  have HB : Below w.heap.size w (w.alloc (.cells (arr fun _ => 0) 54)) := (Below.refl _ _).alloc (Nat.le_refl _) _
  rw [← arr_zero] at R3 HB
  go_enter Try.func52, Try.ntmps52
  go_wp2_with fail
  go_region
  go_wp2_with fail
  rw [arr_zero] at R3 HB
  rw [arr_zero]
  generalize w.alloc (.cells (arr fun _ => 0) 54) = w0 at *
  obtain ⟨g3, hg3⟩ : ∃ g3, w.heap.size = g3 := ⟨_, rfl⟩
  have hq : Hid (w.heap.size ≤ g3) := Nat.le_of_eq hg3
  have hg3' : w.heap.size = g3 := hg3
  have R3' : RowAt w0 g3 (Bk.ptK S 0) := by rw [← hg3]; exact R3.congr (fun i _ => by simp [Bk.ptK])
  clear R3
  rw [hg3']
  clear hg3
  go_loopw [9] (fun i wr => ∃ k : Nat, k ≤ 8 ∧ i = .int .i64 k ∧ RowAt wr g3 (Bk.ptK S k) ∧ Below w.heap.size w wr) (fun i _ => 8 - (intOf i).toNat)
  case atStart => exact ⟨0, by omega, rfl, R3', HB.drew⟩
  case round =>
    clear R3' HB
    obtain ⟨k, hk, rfl, R3, HB⟩ := hrel
    by_cases hlt : k < 8
    · have hk1 : decide ((k : Int) < 8) = true := by simp; omega
      have hk2 : decide (k < 8) = true := by simp; omega
      have hks : k < S.size := by omega
      have hk3 : (k : Int) < (S.size : Int) := by omega
      obtain ⟨x, hxx⟩ : ∃ x : Int, (S[k].toNat : Int) = x := ⟨_, rfl⟩
      have hA : Cd.at8 S k = S[k].toNat := by unfold Cd.at8; rw [Nm.at_list S k hks]; rfl
      have hA2 := Cd.at8_lt S k
      have hx0 : 0 ≤ x := by omega
      have hx1 : x ≤ 255 := by omega
      obtain ⟨H, hH⟩ : ∃ H, Cd.at8 S k / 16 = H := ⟨_, rfl⟩
      obtain ⟨L, hL⟩ : ∃ L, Cd.at8 S k % 16 = L := ⟨_, rfl⟩
      have e1 : x / 16 = (H : Int) := by omega
      have e2 : x % 16 = (L : Int) := by omega
      have e3 : x.tdiv 16 = (H : Int) := by rw [Int.tdiv_eq_ediv_of_nonneg hx0]; exact e1
      have e4 : x.tmod 16 = (L : Int) := by rw [Int.tmod_eq_emod_of_nonneg hx0]; exact e2
      have hH2 : H < 16 := by omega
      have hL2 : L < 16 := by omega
      have u1 : IntKind.u8.wrap (H : Int) = (H : Int) := IntWalk.u8_in _ ⟨by omega, by omega⟩
      have u2 : IntKind.i64.wrap (H : Int) = (H : Int) := IntWalk.i64_in _ ⟨by omega, by omega⟩
      have u3 : IntKind.u8.wrap (L : Int) = (L : Int) := IntWalk.u8_in _ ⟨by omega, by omega⟩
      have u4 : IntKind.i64.wrap (L : Int) = (L : Int) := IntWalk.i64_in _ ⟨by omega, by omega⟩
      obtain ⟨K2, hK2e⟩ : ∃ K2, 2 * k = K2 := ⟨_, rfl⟩
      obtain ⟨K3, hK3e⟩ : ∃ K3, 2 * k + 1 = K3 := ⟨_, rfl⟩
      have hK2 : K2 < 16 := by omega
      have hK3 : K3 < 16 := by omega
      have m2 : 2 * (k : Int) = (K2 : Int) := by omega
      have m3 : (K2 : Int) + 1 = (K3 : Int) := by omega
      have hK2i : (K2 : Int) < 16 := by omega
      have hK3i : (K3 : Int) < 16 := by omega
      have w4 : IntKind.i64.wrap (K2 : Int) = (K2 : Int) := IntWalk.i64_in _ ⟨by omega, by omega⟩
      have w5 : IntKind.i64.wrap (K3 : Int) = (K3 : Int) := IntWalk.i64_in _ ⟨by omega, by omega⟩
      have c1 := R3.cell K2 hK2
      have f1 := R3.frozen K2
      have c2 := R3.cell K3 hK3
      have f2 := R3.frozen K3
      have S3 := R3.set K2 (H : Int)
      have SB := HB.setCell (p := ⟨g3, K2, none⟩) (by have := hq.out; show _ ≤ g3; omega) (.int .i64 (H : Int))
      have T3 := (S3.set K3 (L : Int)).congr (f' := Bk.ptK S (k + 1)) (fun i _ => by rw [← hK2e, ← hK3e, ← hH, ← hL]; exact Bk.ptK_next S k i)
      have TB := SB.setCell (p := ⟨g3, K3, none⟩) (by have := hq.out; show _ ≤ g3; omega) (.int .i64 (L : Int))
      clear hA hA2 hH hL e1 e2 hK2e hK3e R3 HB S3 SB
      go_wp2_with fail
      go_region
      all_goals go_wp2_with fail
      all_goals go_roundw
      case rel => exact ⟨k + 1, by omega, by go_num, T3, TB.drew⟩
      case measure => simp [intOf]; omega
    · obtain rfl : k = 8 := by omega
      have hk1 : decide ((8 : Int) < 8) = false := by decide
      have R4 := R3.congr (f' := f) (fun i _ => HX.out i)
      clear R3 HX hx
      go_wp2_with fail
      refine (c1 _).mono ?_
      rintro e w1 ⟨rfl, G1⟩
      have R5 := R4.below G1
      have B5 := bch HB G1 (Nat.le_refl _)
      clear R4 HB G1 c1
      go_wp2_with (refine wpList_load_row rfl 54 _ rfl g3 rfl 54 (arr f) (0, 0) _ R5.2 Try.underlying54 rfl hif ?_)
      refine (c2 _).mono ?_
      rintro e w2 ⟨rfl, G2⟩
      have B6 := bch B5 G2 (Nat.le_refl _)
      clear R5 B5 G2 c2
      go_wp2_with fail
      go_ret2
      exact ⟨rfl, B6⟩

set_option maxRecDepth 4000 in
set_option maxHeartbeats 1000000 in
theorem unpackOf_2tn (dict b S : ByteArray) (w : World) (hd : dict.size ≤ 256) (hb : b.size ≤ 140737488355328) (h0 : 0 < b.size) (hS : b.extract 1 b.size = S) (hx : (b[0].toNat : Int) = 2) (Z : ByteArray) (hZ : S.extract 8 S.size = Z) (h8 : ¬ S.size < 8) (n k : Nat) (Y : ByteArray) (hn : Nm.from_ Z.data.toList = some (n, k)) (hY : Z.extract k Z.size = Y) (X1 : ByteArray) (hE : Cd.rd (Bk.pt (S.extract 0 8)) Y (n : Nat) = (X1, 0)) (hX : X1.size ≤ 140737488355328) (hm : readOf dict X1 = none) :
    Calls Try.prog 52 #[.string dict, .string b] w fun e w' => e = .returned (.tuple #[.string ⟨#[]⟩, .bool false]) ∧ Below w.heap.size w w' := by
  have hne := not_empty (b := b) (by omega)
  have hb1 : (1 : Int) ≤ (b.size : Int) := by omega
  have hb1n : 1 ≤ b.size := by omega
  have hb0 : (0 : Int) < (b.size : Int) := by omega
  have hbi : (b.size : Int) ≤ 140737488355328 := by omega
  have hs1 := ext_size b 1 b.size
  rw [hS] at hs1
  have hs2 : S.size ≤ 140737488355328 := by omega
  have hz1 := ext_size S 8 S.size
  rw [hZ] at hz1
  have hz2 : Z.size ≤ 140737488355328 := by omega
  clear hs1 hz1
  have h8' : (8 : Int) ≤ (S.size : Int) := by omega
  have h8n : 8 ≤ S.size := by omega
  have h8d : decide ((S.size : Int) < 8) = false := by simp; omega
  have h8s : (S.size : Int) ≤ 140737488355328 := by omega
  have c1 := fun w => numFrom_yes Z w n k (by omega) hn
  rw [hY] at c1
  have c2 := fun w => readCode_any (Bk.pt (S.extract 0 8)) Y (n : Nat) w
  rw [hE] at c2
  have c3 := fun w => from_nil hd hX hm w
  clear hn hY hE hm
  have HX : Hid (∀ i, Bk.ptK S 8 i = Bk.pt (S.extract 0 8) i) := pt_ext S
  generalize Bk.pt (S.extract 0 8) = f at *
  have hif := arr_infoc f
  have R3 := RowAt.new w (fun _ => 0)
  have HB : Below w.heap.size w (w.alloc (.cells (arr fun _ => 0) 54)) := (Below.refl _ _).alloc (Nat.le_refl _) _
  rw [← arr_zero] at R3 HB
  go_enter Try.func52, Try.ntmps52
  go_wp2_with fail
  go_region
  go_wp2_with fail
  rw [arr_zero] at R3 HB
  rw [arr_zero]
  generalize w.alloc (.cells (arr fun _ => 0) 54) = w0 at *
  obtain ⟨g3, hg3⟩ : ∃ g3, w.heap.size = g3 := ⟨_, rfl⟩
  have hq : Hid (w.heap.size ≤ g3) := Nat.le_of_eq hg3
  have hg3' : w.heap.size = g3 := hg3
  have R3' : RowAt w0 g3 (Bk.ptK S 0) := by rw [← hg3]; exact R3.congr (fun i _ => by simp [Bk.ptK])
  clear R3
  rw [hg3']
  clear hg3
  go_loopw [9] (fun i wr => ∃ k : Nat, k ≤ 8 ∧ i = .int .i64 k ∧ RowAt wr g3 (Bk.ptK S k) ∧ Below w.heap.size w wr) (fun i _ => 8 - (intOf i).toNat)
  case atStart => exact ⟨0, by omega, rfl, R3', HB.drew⟩
  case round =>
    clear R3' HB
    obtain ⟨k, hk, rfl, R3, HB⟩ := hrel
    by_cases hlt : k < 8
    · have hk1 : decide ((k : Int) < 8) = true := by simp; omega
      have hk2 : decide (k < 8) = true := by simp; omega
      have hks : k < S.size := by omega
      have hk3 : (k : Int) < (S.size : Int) := by omega
      obtain ⟨x, hxx⟩ : ∃ x : Int, (S[k].toNat : Int) = x := ⟨_, rfl⟩
      have hA : Cd.at8 S k = S[k].toNat := by unfold Cd.at8; rw [Nm.at_list S k hks]; rfl
      have hA2 := Cd.at8_lt S k
      have hx0 : 0 ≤ x := by omega
      have hx1 : x ≤ 255 := by omega
      obtain ⟨H, hH⟩ : ∃ H, Cd.at8 S k / 16 = H := ⟨_, rfl⟩
      obtain ⟨L, hL⟩ : ∃ L, Cd.at8 S k % 16 = L := ⟨_, rfl⟩
      have e1 : x / 16 = (H : Int) := by omega
      have e2 : x % 16 = (L : Int) := by omega
      have e3 : x.tdiv 16 = (H : Int) := by rw [Int.tdiv_eq_ediv_of_nonneg hx0]; exact e1
      have e4 : x.tmod 16 = (L : Int) := by rw [Int.tmod_eq_emod_of_nonneg hx0]; exact e2
      have hH2 : H < 16 := by omega
      have hL2 : L < 16 := by omega
      have u1 : IntKind.u8.wrap (H : Int) = (H : Int) := IntWalk.u8_in _ ⟨by omega, by omega⟩
      have u2 : IntKind.i64.wrap (H : Int) = (H : Int) := IntWalk.i64_in _ ⟨by omega, by omega⟩
      have u3 : IntKind.u8.wrap (L : Int) = (L : Int) := IntWalk.u8_in _ ⟨by omega, by omega⟩
      have u4 : IntKind.i64.wrap (L : Int) = (L : Int) := IntWalk.i64_in _ ⟨by omega, by omega⟩
      obtain ⟨K2, hK2e⟩ : ∃ K2, 2 * k = K2 := ⟨_, rfl⟩
      obtain ⟨K3, hK3e⟩ : ∃ K3, 2 * k + 1 = K3 := ⟨_, rfl⟩
      have hK2 : K2 < 16 := by omega
      have hK3 : K3 < 16 := by omega
      have m2 : 2 * (k : Int) = (K2 : Int) := by omega
      have m3 : (K2 : Int) + 1 = (K3 : Int) := by omega
      have hK2i : (K2 : Int) < 16 := by omega
      have hK3i : (K3 : Int) < 16 := by omega
      have w4 : IntKind.i64.wrap (K2 : Int) = (K2 : Int) := IntWalk.i64_in _ ⟨by omega, by omega⟩
      have w5 : IntKind.i64.wrap (K3 : Int) = (K3 : Int) := IntWalk.i64_in _ ⟨by omega, by omega⟩
      have c1 := R3.cell K2 hK2
      have f1 := R3.frozen K2
      have c2 := R3.cell K3 hK3
      have f2 := R3.frozen K3
      have S3 := R3.set K2 (H : Int)
      have SB := HB.setCell (p := ⟨g3, K2, none⟩) (by have := hq.out; show _ ≤ g3; omega) (.int .i64 (H : Int))
      have T3 := (S3.set K3 (L : Int)).congr (f' := Bk.ptK S (k + 1)) (fun i _ => by rw [← hK2e, ← hK3e, ← hH, ← hL]; exact Bk.ptK_next S k i)
      have TB := SB.setCell (p := ⟨g3, K3, none⟩) (by have := hq.out; show _ ≤ g3; omega) (.int .i64 (L : Int))
      clear hA hA2 hH hL e1 e2 hK2e hK3e R3 HB S3 SB
      go_wp2_with fail
      go_region
      all_goals go_wp2_with fail
      all_goals go_roundw
      case rel => exact ⟨k + 1, by omega, by go_num, T3, TB.drew⟩
      case measure => simp [intOf]; omega
    · obtain rfl : k = 8 := by omega
      have hk1 : decide ((8 : Int) < 8) = false := by decide
      have R4 := R3.congr (f' := f) (fun i _ => HX.out i)
      clear R3 HX hx
      go_wp2_with fail
      refine (c1 _).mono ?_
      rintro e w1 ⟨rfl, G1⟩
      have R5 := R4.below G1
      have B5 := bch HB G1 (Nat.le_refl _)
      clear R4 HB G1 c1
      go_wp2_with (refine wpList_load_row rfl 54 _ rfl g3 rfl 54 (arr f) (0, 0) _ R5.2 Try.underlying54 rfl hif ?_)
      refine (c2 _).mono ?_
      rintro e w2 ⟨rfl, G2⟩
      have B6 := bch B5 G2 (Nat.le_refl _)
      clear R5 B5 G2 c2
      go_wp2_with fail
      refine (c3 _).mono ?_
      rintro e w3 ⟨G3, rfl⟩
      have B7 := bch B6 G3 (Nat.le_refl _)
      go_wp2_with fail
      go_ret2
      exact ⟨rfl, B7⟩

set_option maxRecDepth 4000 in
set_option maxHeartbeats 1000000 in
theorem unpackOf_2ts (dict b S : ByteArray) (w : World) (hd : dict.size ≤ 256) (hb : b.size ≤ 140737488355328) (h0 : 0 < b.size) (hS : b.extract 1 b.size = S) (hx : (b[0].toNat : Int) = 2) (Z : ByteArray) (hZ : S.extract 8 S.size = Z) (h8 : ¬ S.size < 8) (n k : Nat) (Y : ByteArray) (hn : Nm.from_ Z.data.toList = some (n, k)) (hY : Z.extract k Z.size = Y) (X1 : ByteArray) (hE : Cd.rd (Bk.pt (S.extract 0 8)) Y (n : Nat) = (X1, 0)) (hX : X1.size ≤ 140737488355328) (m : List Tk.T) (hm : readOf dict X1 = some m) :
    Calls Try.prog 52 #[.string dict, .string b] w fun e w' => e = .returned (.tuple #[.string (playOf dict m), .bool true]) ∧ Below w.heap.size w w' := by
  have hne := not_empty (b := b) (by omega)
  have hb1 : (1 : Int) ≤ (b.size : Int) := by omega
  have hb1n : 1 ≤ b.size := by omega
  have hb0 : (0 : Int) < (b.size : Int) := by omega
  have hbi : (b.size : Int) ≤ 140737488355328 := by omega
  have hs1 := ext_size b 1 b.size
  rw [hS] at hs1
  have hs2 : S.size ≤ 140737488355328 := by omega
  have hz1 := ext_size S 8 S.size
  rw [hZ] at hz1
  have hz2 : Z.size ≤ 140737488355328 := by omega
  clear hs1 hz1
  have h8' : (8 : Int) ≤ (S.size : Int) := by omega
  have h8n : 8 ≤ S.size := by omega
  have h8d : decide ((S.size : Int) < 8) = false := by simp; omega
  have h8s : (S.size : Int) ≤ 140737488355328 := by omega
  have c1 := fun w => numFrom_yes Z w n k (by omega) hn
  rw [hY] at c1
  have c2 := fun w => readCode_any (Bk.pt (S.extract 0 8)) Y (n : Nat) w
  rw [hE] at c2
  have c3 := fun w => from_some hd hX hm w
  have c4 := fun ad cap w h => played_of hd hm ad cap w h
  clear hn hY hE hm
  generalize playOf dict m = P at *
  have HX : Hid (∀ i, Bk.ptK S 8 i = Bk.pt (S.extract 0 8) i) := pt_ext S
  generalize Bk.pt (S.extract 0 8) = f at *
  have hif := arr_infoc f
  have R3 := RowAt.new w (fun _ => 0)
  have HB : Below w.heap.size w (w.alloc (.cells (arr fun _ => 0) 54)) := (Below.refl _ _).alloc (Nat.le_refl _) _
  rw [← arr_zero] at R3 HB
  go_enter Try.func52, Try.ntmps52
  go_wp2_with fail
  go_region
  go_wp2_with fail
  rw [arr_zero] at R3 HB
  rw [arr_zero]
  generalize w.alloc (.cells (arr fun _ => 0) 54) = w0 at *
  obtain ⟨g3, hg3⟩ : ∃ g3, w.heap.size = g3 := ⟨_, rfl⟩
  have hq : Hid (w.heap.size ≤ g3) := Nat.le_of_eq hg3
  have hg3' : w.heap.size = g3 := hg3
  have R3' : RowAt w0 g3 (Bk.ptK S 0) := by rw [← hg3]; exact R3.congr (fun i _ => by simp [Bk.ptK])
  clear R3
  rw [hg3']
  clear hg3
  go_loopw [9] (fun i wr => ∃ k : Nat, k ≤ 8 ∧ i = .int .i64 k ∧ RowAt wr g3 (Bk.ptK S k) ∧ Below w.heap.size w wr) (fun i _ => 8 - (intOf i).toNat)
  case atStart => exact ⟨0, by omega, rfl, R3', HB.drew⟩
  case round =>
    clear R3' HB
    obtain ⟨k, hk, rfl, R3, HB⟩ := hrel
    by_cases hlt : k < 8
    · have hk1 : decide ((k : Int) < 8) = true := by simp; omega
      have hk2 : decide (k < 8) = true := by simp; omega
      have hks : k < S.size := by omega
      have hk3 : (k : Int) < (S.size : Int) := by omega
      obtain ⟨x, hxx⟩ : ∃ x : Int, (S[k].toNat : Int) = x := ⟨_, rfl⟩
      have hA : Cd.at8 S k = S[k].toNat := by unfold Cd.at8; rw [Nm.at_list S k hks]; rfl
      have hA2 := Cd.at8_lt S k
      have hx0 : 0 ≤ x := by omega
      have hx1 : x ≤ 255 := by omega
      obtain ⟨H, hH⟩ : ∃ H, Cd.at8 S k / 16 = H := ⟨_, rfl⟩
      obtain ⟨L, hL⟩ : ∃ L, Cd.at8 S k % 16 = L := ⟨_, rfl⟩
      have e1 : x / 16 = (H : Int) := by omega
      have e2 : x % 16 = (L : Int) := by omega
      have e3 : x.tdiv 16 = (H : Int) := by rw [Int.tdiv_eq_ediv_of_nonneg hx0]; exact e1
      have e4 : x.tmod 16 = (L : Int) := by rw [Int.tmod_eq_emod_of_nonneg hx0]; exact e2
      have hH2 : H < 16 := by omega
      have hL2 : L < 16 := by omega
      have u1 : IntKind.u8.wrap (H : Int) = (H : Int) := IntWalk.u8_in _ ⟨by omega, by omega⟩
      have u2 : IntKind.i64.wrap (H : Int) = (H : Int) := IntWalk.i64_in _ ⟨by omega, by omega⟩
      have u3 : IntKind.u8.wrap (L : Int) = (L : Int) := IntWalk.u8_in _ ⟨by omega, by omega⟩
      have u4 : IntKind.i64.wrap (L : Int) = (L : Int) := IntWalk.i64_in _ ⟨by omega, by omega⟩
      obtain ⟨K2, hK2e⟩ : ∃ K2, 2 * k = K2 := ⟨_, rfl⟩
      obtain ⟨K3, hK3e⟩ : ∃ K3, 2 * k + 1 = K3 := ⟨_, rfl⟩
      have hK2 : K2 < 16 := by omega
      have hK3 : K3 < 16 := by omega
      have m2 : 2 * (k : Int) = (K2 : Int) := by omega
      have m3 : (K2 : Int) + 1 = (K3 : Int) := by omega
      have hK2i : (K2 : Int) < 16 := by omega
      have hK3i : (K3 : Int) < 16 := by omega
      have w4 : IntKind.i64.wrap (K2 : Int) = (K2 : Int) := IntWalk.i64_in _ ⟨by omega, by omega⟩
      have w5 : IntKind.i64.wrap (K3 : Int) = (K3 : Int) := IntWalk.i64_in _ ⟨by omega, by omega⟩
      have c1 := R3.cell K2 hK2
      have f1 := R3.frozen K2
      have c2 := R3.cell K3 hK3
      have f2 := R3.frozen K3
      have S3 := R3.set K2 (H : Int)
      have SB := HB.setCell (p := ⟨g3, K2, none⟩) (by have := hq.out; show _ ≤ g3; omega) (.int .i64 (H : Int))
      have T3 := (S3.set K3 (L : Int)).congr (f' := Bk.ptK S (k + 1)) (fun i _ => by rw [← hK2e, ← hK3e, ← hH, ← hL]; exact Bk.ptK_next S k i)
      have TB := SB.setCell (p := ⟨g3, K3, none⟩) (by have := hq.out; show _ ≤ g3; omega) (.int .i64 (L : Int))
      clear hA hA2 hH hL e1 e2 hK2e hK3e R3 HB S3 SB
      go_wp2_with fail
      go_region
      all_goals go_wp2_with fail
      all_goals go_roundw
      case rel => exact ⟨k + 1, by omega, by go_num, T3, TB.drew⟩
      case measure => simp [intOf]; omega
    · obtain rfl : k = 8 := by omega
      have hk1 : decide ((8 : Int) < 8) = false := by decide
      have R4 := R3.congr (f' := f) (fun i _ => HX.out i)
      clear R3 HX hx
      go_wp2_with fail
      refine (c1 _).mono ?_
      rintro e w1 ⟨rfl, G1⟩
      have R5 := R4.below G1
      have B5 := bch HB G1 (Nat.le_refl _)
      clear R4 HB G1 c1
      go_wp2_with (refine wpList_load_row rfl 54 _ rfl g3 rfl 54 (arr f) (0, 0) _ R5.2 Try.underlying54 rfl hif ?_)
      refine (c2 _).mono ?_
      rintro e w2 ⟨rfl, G2⟩
      have B6 := bch B5 G2 (Nat.le_refl _)
      clear R5 B5 G2 c2
      go_wp2_with fail
      refine (c3 _).mono ?_
      rintro e w3 ⟨G3, ad, cap, rfl, S3⟩
      have B7 := bch B6 G3 (Nat.le_refl _)
      go_wp2_with fail
      refine (c4 ad cap _ S3).mono ?_
      rintro e w4 ⟨rfl, G4⟩
      have B8 := bch B7 G4 (Nat.le_refl _)
      go_wp2_with fail
      go_ret2
      exact ⟨rfl, B8⟩
end Go.Proofs.Ytbjbjbpgmojcbaa
