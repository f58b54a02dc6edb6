/- What the document's own block 2 comes to. -/
import Derived.Test.YtbjbjbpgmojcbaaBlockPack
import Derived.Test.YtbjbjbpgmojcbaaBlockHalves
import Derived.Test.YtbjbjbpgmojcbaaRefBuild
import Derived.Test.YtbjbjbpgmojcbaaRefWrite
namespace Go.Proofs.Ytbjbjbpgmojcbaa
open Go.RowKit
set_option linter.unusedVariables false

theorem str_more (l : List UInt8) (x : Int) : (⟨(2 :: l).toArray⟩ : ByteArray) ++ ⟨#[UInt8.ofNat x.toNat]⟩ = ⟨(2 :: (l ++ [UInt8.ofNat x.toNat])).toArray⟩ := by
  rw [show (⟨#[UInt8.ofNat x.toNat]⟩ : ByteArray) = ⟨([UInt8.ofNat x.toNat]).toArray⟩ from rfl, Nm.ba_app]
  rfl
theorem third_is (L : Nat → Int) (n : ByteArray) (w : ByteArray) : (⟨(2 :: Bk.jnK L 8).toArray⟩ : ByteArray) ++ n ++ w = (⟨#[2]⟩ : ByteArray) ++ ((⟨(Bk.jn L).toArray⟩ : ByteArray) ++ n ++ w) := by
  apply Nm.ba_ext
  simp [Bk.jn]

set_option maxRecDepth 4000 in
set_option maxHeartbeats 1000000 in
theorem third_any (s : ByteArray) (w : World) (hs : s.size ≤ 1024) :
    Calls Try.prog 78 #[.string s] w fun e w' => e = .returned (.string ((⟨#[2]⟩ : ByteArray) ++ Bk.enc s)) ∧ Below w.heap.size w w' := by
  have c1 := fun w => refHalves_any s w hs
  have c2 := fun w => buildOf_any (Bk.hv s) w
  have c3 := fun w => numBytes_any s.size (s.size : Int) w (by omega) (by omega) (by omega)
  rw [Int.toNat_natCast] at c3
  have c4 := fun w => writeCode_any (Cd.bld (Bk.hv s)).1 s w (by omega)
  have HE : Hid ((⟨(2 :: Bk.jnK (Cd.bld (Bk.hv s)).1 8).toArray⟩ : ByteArray) ++ ⟨(Nm.nb s.size).toArray⟩ ++ (Cd.wrt (Cd.bld (Bk.hv s)).1 s).1 = (⟨#[2]⟩ : ByteArray) ++ Bk.enc s) := third_is _ _ _
  have z2 : (⟨(Nm.nb s.size).toArray⟩ : ByteArray).size ≤ 5 := by
    have := Nm.nb_len5 s.size (by omega)
    show (Nm.nb s.size).toArray.size ≤ _
    simpa using this
  have z3 := wrt_size (Cd.bld (Bk.hv s)).1 s
  have HR : Hid (Cd.InR (Cd.bld (Bk.hv s)).1 15 16) := Bk.bld_in (Bk.hv_in s hs)
  have hiL := arr_infoc (Cd.bld (Bk.hv s)).1
  have hb0 : (s.size : Int) ≤ 1024 := by omega
  generalize (⟨#[2]⟩ : ByteArray) ++ Bk.enc s = R at *
  generalize (Cd.wrt (Cd.bld (Bk.hv s)).1 s).1 = W at *
  generalize (Cd.wrt (Cd.bld (Bk.hv s)).1 s).2 = We at *
  generalize (⟨(Nm.nb s.size).toArray⟩ : ByteArray) = N at *
  generalize (Cd.bld (Bk.hv s)).1 = f at *
  generalize (Cd.bld (Bk.hv s)).2 = E at *
  generalize Bk.hv s = C at *
  go_enter Try.func78, Try.ntmps78
  go_wp2_with fail
  refine (c1 _).mono ?_
  rintro e w1 ⟨rfl, G1⟩
  go_wp2_with fail
  refine (c2 _).mono ?_
  rintro e w2 ⟨rfl, G2⟩
  have B2 := bch G1 G2 (Nat.le_refl _)
  have L3 := RowAt.new w2 f
  have B3 : Below w.heap.size w (w2.alloc (.cells (arr f) 54)) := B2.alloc B2.size _
  have hgl : w.heap.size ≤ w2.heap.size := B2.size
  clear G1 G2 B2 c1 c2
  go_wp2_with (refine wpList_store_row rfl 54 _ _ rfl w2.heap.size (arr f) rfl rfl 54 _ (heap_alloc_last w2 _) hiL rfl (arr_one _) ?_; rw [World.setRow_alloc_new])
  generalize w2.alloc (.cells (arr f) 54) = wa at *
  generalize w2.heap.size = gl at *
  go_loopw [5, 6] (fun v i wr => ∃ k : Nat, k ≤ 8 ∧ i = .int .i64 k ∧ v = .string ⟨(2 :: Bk.jnK f k).toArray⟩ ∧ RowAt wr gl f ∧ Below w.heap.size w wr) (fun _ i _ => 8 - (intOf i).toNat)
  case atStart => exact ⟨0, by omega, rfl, rfl, L3, B3⟩
  case round =>
    clear L3 B3
    obtain ⟨k, hk, rfl, rfl, R1, B1⟩ := hrel
    by_cases hlt : k < 8
    · have hk1 : decide ((k : Int) < 8) = true := by simp; omega
      have hk2 : decide (k < 8) = true := by simp; omega
      obtain ⟨K2, hK2e⟩ : ∃ K2, 2 * k = K2 := ⟨_, rfl⟩
      obtain ⟨K3, hK3e⟩ : ∃ K3, 2 * k + 1 = K3 := ⟨_, rfl⟩
      have hK2 : K2 < 16 := by omega
      have hK3 : K3 < 16 := by omega
      have m2 : 2 * (k : Int) = (K2 : Int) := by omega
      have m3 : (K2 : Int) + 1 = (K3 : Int) := by omega
      have hK2i : (K2 : Int) < 16 := by omega
      have hK3i : (K3 : Int) < 16 := by omega
      have HN := Bk.jnK_next f k
      rw [hK3e, hK2e] at HN
      have c9 := R1.cell K2 hK2
      have c8 := R1.cell K3 hK3
      have hx := HR.out K2 hK2
      have hy := HR.out K3 hK3
      have HNN : Hid (Bk.jnK f (k + 1) = Bk.jnK f k ++ [UInt8.ofNat (16 * f K2 + f K3).toNat]) := by rw [Int.mul_comm]; exact HN
      have hlen : (⟨(2 :: Bk.jnK f k).toArray⟩ : ByteArray).size ≤ 100 := by
        show (2 :: Bk.jnK f k).toArray.size ≤ _
        simp [Bk.jnK_len]
        omega
      have HS : Hid (∀ x : Int, (⟨(2 :: Bk.jnK f k).toArray⟩ : ByteArray) ++ ⟨#[UInt8.ofNat x.toNat]⟩ = ⟨(2 :: (Bk.jnK f k ++ [UInt8.ofNat x.toNat])).toArray⟩) := str_more (Bk.jnK f k)
      clear HN hK2e hK3e
      generalize f K2 = x at *
      generalize f K3 = y at *
      generalize hJ : (⟨(2 :: Bk.jnK f k).toArray⟩ : ByteArray) = J at *
      clear hJ
      obtain ⟨hx0, hx1⟩ := hx
      obtain ⟨hy0, hy1⟩ := hy
      have hcv := conv_cell (16 * x + y) (by omega) (by omega)
      have w1 : IntKind.i64.wrap (16 * x) = 16 * x := IntWalk.i64_in _ ⟨by omega, by omega⟩
      have w2 : IntKind.i64.wrap (16 * x + y) = 16 * x + y := IntWalk.i64_in _ ⟨by omega, by omega⟩
      have w3 : IntKind.u8.wrap (16 * x + y) = 16 * x + y := IntWalk.u8_in _ ⟨by omega, by omega⟩
      have w4 : IntKind.i64.wrap (K2 : Int) = (K2 : Int) := IntWalk.i64_in _ ⟨by omega, by omega⟩
      have w5 : IntKind.i64.wrap (K3 : Int) = (K3 : Int) := IntWalk.i64_in _ ⟨by omega, by omega⟩
      have hgw := R1.1
      have X1 : RowAt (wr.drew.alloc (.cells #[.int .u8 (16 * x + y)] 5)) gl f := (show RowAt wr.drew gl f from R1).alloc _
      have X2 : Below w.heap.size w (wr.drew.alloc (.cells #[.int .u8 (16 * x + y)] 5)) := (show Below w.heap.size w wr.drew from B1.drew).alloc B1.size _
      clear R1 B1
      go_wp2_with fail
      go_region
      go_wp2_with fail
      go_roundw
      case rel => exact ⟨k + 1, by omega, by go_num, by rw [HNN.out, ← HS.out], X1, X2⟩
      case measure => simp [intOf]; omega
    · obtain rfl : k = 8 := by omega
      have hk1 : decide ((8 : Int) < 8) = false := by decide
      have hlen : (⟨(2 :: Bk.jnK f 8).toArray⟩ : ByteArray).size ≤ 100 := by
        show (2 :: Bk.jnK f 8).toArray.size ≤ _
        simp [Bk.jnK_len]
      generalize (⟨(2 :: Bk.jnK f 8).toArray⟩ : ByteArray) = J at *
      go_wp2_with (refine wpList_load_row rfl 54 _ rfl gl rfl 54 (arr f) (0, 0) _ R1.2 Try.underlying54 rfl hiL ?_)
      refine (c4 _).mono ?_
      rintro e w4 ⟨rfl, G4⟩
      have B5 := bch B1 G4 (Nat.le_refl _)
      clear B1 G4 c4 R1
      go_wp2_with fail
      refine (c3 _).mono ?_
      rintro e w5 ⟨rfl, G5⟩
      have B6 := bch B5 G5 (Nat.le_refl _)
      clear B5 G5 c3
      go_wp2_with fail
      go_ret
      exact ⟨congrArg (fun s => Ending.returned (Value.string s)) HE.out, B6⟩
end Go.Proofs.Ytbjbjbpgmojcbaa
