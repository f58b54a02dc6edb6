/- What nums.Text answers, and what chapter 1's own answers (NumBytes, TextBytes) come to. -/
import Derived.Test.YtbjbjbpgmojcbaaNumsPut
namespace Go.Proofs.Ytbjbjbpgmojcbaa
open Go.RowKit

set_option maxHeartbeats 400000 in
theorem text_no (s : ByteArray) (w : World) (hs : s.size ≤ 281474976710656) (h : 512 < s.size) :
    Calls Try.prog 19 #[.string s] w fun e w' => e = .returned (.tuple #[.string ⟨#[]⟩, .int .i64 2]) ∧ Below w.heap.size w w' := by
  have h2 : (512 : Int) < (s.size : Int) := by omega
  go_enter Try.func19, Try.ntmps19
  go_wp2_with fail
  go_ret2
  exact ⟨rfl, Below.refl _ _⟩

set_option maxHeartbeats 400000 in
theorem text_yes (s : ByteArray) (w : World) (h : s.size ≤ 512) :
    Calls Try.prog 19 #[.string s] w fun e w' => e = .returned (.tuple #[.string (⟨(Nm.nb s.size).toArray⟩ ++ s), .int .i64 0]) ∧ Below w.heap.size w w' := by
  have h2 : (s.size : Int) ≤ 512 := by omega
  have hc := put_yes s.size w (by omega) (by omega)
  rw [Int.toNat_natCast] at hc
  have hl := Nm.nb_len5 s.size (by omega)
  go_enter Try.func19, Try.ntmps19
  go_wp2_with fail
  refine hc.mono ?_
  rintro e w' ⟨rfl, G⟩
  clear hc
  generalize hL : Nm.nb s.size = L at *
  have HL : Hid (Nm.nb s.size = L) := hL
  clear hL
  go_wp2_with fail
  go_ret2
  exact ⟨by rw [HL.out]; rfl, G⟩

/-- 'string([]byte{x})'. -/
theorem conv_cell (x : Int) (h0 : 0 ≤ x) (h1 : x < 256) (W : World) (g : Nat) (hc : W.cell? ⟨g, 0, none⟩ = some (.int .u8 x)) :
    (convert 69 9 (.slice (some ⟨g, 0, none⟩) 1 1)).run Try.prog W = .ok (.string ⟨#[UInt8.ofNat x.toNat]⟩) W := by
  refine run_convert_bytes_back W _ _ _ ⟨g, 0, none⟩ 1 [UInt8.ofNat x.toNat] Try.underlying69 Try.underlying5 Try.underlying9 (fun j hj => ?_)
  have : j = 0 := by simpa using hj
  subst this
  show W.cell? ⟨g, 0, none⟩ = _
  rw [hc]
  simp only [List.getElem_cons_zero, UInt8.toNat_ofNat']
  congr 2
  omega

set_option maxRecDepth 4000 in
set_option maxHeartbeats 400000 in
theorem numBytes_any (k : Nat) : ∀ (n : Int) (w : World), 0 ≤ n → n ≤ k → n ≤ 2147483647 →
    Calls Try.prog 16 #[.int .i64 n] w fun e w' => e = .returned (.string ⟨(Nm.nb n.toNat).toArray⟩) ∧ Below w.heap.size w w' := by
  induction k with
  | zero =>
    intro n w h0 hk _
    obtain rfl : n = 0 := by omega
    have hcv := conv_cell 0 (by omega) (by omega)
    go_enter Try.func16, Try.ntmps16
    go_wp2_with fail
    go_ret
    exact ⟨rfl, (Below.refl _ _).alloc (Nat.le_refl _) _⟩
  | succ k ih =>
    intro n w h0 hk hb
    by_cases hn : n < 128
    · have hcv := conv_cell n (by omega) (by omega)
      have HN : Hid (Nm.nb n.toNat = [UInt8.ofNat n.toNat]) := Nm.nb_lt (by omega)
      clear ih
      go_enter Try.func16, Try.ntmps16
      go_wp2_with fail
      go_ret
      exact ⟨by rw [HN.out]; rfl, (Below.refl _ _).alloc (Nat.le_refl _) _⟩
    · have hcv := conv_cell (128 + n % 128) (by omega) (by omega)
      have IH : Hid (∀ (n : Int) (w : World), 0 ≤ n → n ≤ k → n ≤ 2147483647 →
        Calls Try.prog 16 #[.int .i64 n] w fun e w' => e = .returned (.string ⟨(Nm.nb n.toNat).toArray⟩) ∧ Below w.heap.size w w') := ih
      clear ih
      have hl : (Nm.nb (n / 128).toNat).length ≤ 5 := Nm.nb_len5 _ (by omega)
      have HN : Hid (Nm.nb n.toNat = UInt8.ofNat (128 + n % 128).toNat :: Nm.nb (n / 128).toNat) := by
        show _ = _
        rw [Nm.nb_ge (n := n.toNat) (by omega), show (128 + n % 128).toNat = 128 + n.toNat % 128 by omega, show (n / 128).toNat = n.toNat / 128 by omega]
      have hr1 : IntKind.i64.wrap (128 + n % 128) = 128 + n % 128 := IntWalk.i64_in _ ⟨by omega, by omega⟩
      have hr3 : n.tmod 128 = n % 128 := Int.tmod_eq_emod_of_nonneg h0
      have hr4 : n.tdiv 128 = n / 128 := Int.tdiv_eq_ediv_of_nonneg h0
      have hr5 : IntKind.i64.wrap (n / 128) = n / 128 := IntWalk.i64_in _ ⟨by omega, by omega⟩
      have hr2 : IntKind.u8.wrap (128 + n % 128) = 128 + n % 128 := IntWalk.u8_in _ ⟨by omega, by omega⟩
      go_enter Try.func16, Try.ntmps16
      go_wp2_with fail
      go_region_with (go_at_call 16; refine (IH.out _ _ (by omega) (by omega) (by omega)).mono ?_; rintro e w1 ⟨rfl, hB⟩; have hk1 := bcell hB)
      all_goals go_wp2
      all_goals go_ret
      all_goals refine ⟨?_, ?_⟩
      all_goals first | exact congrArg (fun s => Ending.returned (Value.string s)) ((Nm.ba_app [_] _).trans (by rw [HN.out]; rfl)) | skip
      all_goals first | exact bch ((Below.refl _ _).alloc (Nat.le_refl _) _).drew hB (Nat.le_refl _) | exact bch (Below.refl _ _).drew hB (Nat.le_refl _) | exact (bch (Below.refl _ _).drew hB (Nat.le_refl _)).alloc hB.size _ | skip
end Go.Proofs.Ytbjbjbpgmojcbaa
