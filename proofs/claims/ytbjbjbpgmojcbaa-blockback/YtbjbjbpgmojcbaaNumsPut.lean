/- What nums.Put and nums.Text answer: chapter 1's A1 and A2, whatever they are handed. -/
import Derived.Test.YtbjbjbpgmojcbaaNumsWalks
import Derived.Deep.RegionHeld3
import Derived.Deep.RegionWith
import Derived.Deep.AppendLies
import Derived.Laws.IdiomStrings
import Derived.Lib.BufferRead
namespace Go.Proofs.Ytbjbjbpgmojcbaa
open Go.RowKit

theorem info_u8 : (Try.prog.info? 5).map (fun i => (i.zero, i.size, i.bytes)) = some (some (.int .u8 0), 1, 1) := by kernel_rfl

/-- Bytes as cells. -/
def bcs (l : List UInt8) : List Value := l.map fun b => .int .u8 (b.toNat : Int)
theorem bcs_append (a b : List UInt8) : bcs (a ++ b) = bcs a ++ bcs b := by simp [bcs]
theorem bcs_length (a : List UInt8) : (bcs a).length = a.length := by simp [bcs]

theorem bcs_snoc (l : List UInt8) (x : Int) (h0 : 0 ≤ x) (h1 : x < 256) : bcs (l ++ [UInt8.ofNat x.toNat]) = bcs l ++ [.int .u8 x] := by
  rw [bcs_append]
  congr 1
  simp only [bcs, List.map_cons, List.map_nil, UInt8.toNat_ofNat']
  congr 2
  omega

theorem one_u8 (x : Int) : ∀ u ∈ [Value.int .u8 x], u.oneCell' = true := by intro u hu; simp at hu; subst hu; rfl
theorem ml_le {a : Nat} (h : a ≤ 140737488355328) : a ≤ maxLen := by unfold maxLen; omega
theorem sz_alloc {B : Nat} {w : World} (o : Obj) (h : B ≤ w.heap.size) : B ≤ (w.alloc o).heap.size := by simp; omega

/-- 'string(b)' of bytes that the call owns. -/
theorem conv_own {w : World} {base n : Nat} {v : Value} {l : List UInt8} (h : w.ownsRow base 5 1 v n (bcs l)) :
    (convert 69 9 v).run Try.prog w = .ok (.string ⟨l.toArray⟩) w := by
  have hlen := h.1
  rw [bcs_length, Nat.mul_one] at hlen
  rcases h.2 with ⟨rfl, h0⟩ | ⟨g, cap, cur, rfl, _, hg, _, _, _, htk⟩
  · have : l = [] := List.eq_nil_of_length_eq_zero (by omega)
    subst this
    exact Lib.run_convert_nil_bytes w _ _ _ _ Try.underlying69 Try.underlying5 Try.underlying9
  · subst hlen
    rw [Nat.mul_one] at htk
    exact run_convert_bytes_back w _ _ _ _ cap l Try.underlying69 Try.underlying5 Try.underlying9
      (fun j hj => Lib.cells_of_row hg l.length j _ (by rw [htk]; simp [bcs, hj]))

theorem grown_own {B n : Nat} {a w w1 : World} {v : Value} {e : TypeId} {xs : List Value} {o : Obj} (G : Below B a w) (hown : w.ownsRow B e 1 v n xs) (hB : B ≤ w.heap.size)
    (hg : (w.alloc o).grownBy w1 v.ownBlock) : Below B a w1 :=
  (G.alloc hB o).grown hg (by simp; omega) (fun k hk => (hown.lt k hk).1)

set_option maxHeartbeats 400000 in
theorem put_no (n : Int) (w : World) (h : n < 0 ∨ 2147483647 < n) :
    Calls Try.prog 15 #[.int .i64 n] w fun e w' => e = .returned (.tuple #[.string ⟨#[]⟩, .int .i64 3]) ∧ Below w.heap.size w w' := by
  by_cases h1 : n < 0
  · clear h
    go_enter Try.func15, Try.ntmps15
    go_wp2
    go_ret2
    exact ⟨rfl, Below.refl _ _⟩
  · have h2 : 2147483647 < n := by omega
    clear h
    go_enter Try.func15, Try.ntmps15
    go_wp2
    go_ret2
    exact ⟨rfl, Below.refl _ _⟩

set_option maxHeartbeats 400000 in
theorem put_yes (n : Int) (w : World) (h0 : 0 ≤ n) (h : n ≤ 2147483647) :
    Calls Try.prog 15 #[.int .i64 n] w fun e w' => e = .returned (.tuple #[.string ⟨(Nm.nb n.toNat).toArray⟩, .int .i64 0]) ∧ Below w.heap.size w w' := by
  obtain ⟨i0, hi, hz0, hz1, hz2⟩ := info_parts info_u8
  have hd1 : decide (n < 0) = false := by simp; omega
  have hd2 : decide (2147483647 < n) = false := by simp; omega
  go_enter Try.func15, Try.ntmps15
  go_wp2
  go_loopw [0, 4] (fun nv bv wr => ∃ (m : Int) (l : List UInt8), 0 ≤ m ∧ m ≤ 2147483647 ∧ nv = .int .i64 m ∧ Hid (Nm.nb n.toNat = l ++ Nm.nb m.toNat) ∧ wr.ownsRow w.heap.size 5 1 bv l.length (bcs l) ∧ Below w.heap.size w wr)
    (fun nv _ _ => (intOf nv).toNat)
  case atStart => exact ⟨n, [], h0, h, rfl, rfl, World.ownsRow_nil _ _ _ _, Below.refl _ _⟩
  case round =>
    obtain ⟨m, l, hm0, hm, rfl, hl, hown, G⟩ := hrel
    have hlen : l.length ≤ 5 := by
      have h5 := Nm.nb_len5 n.toNat (by omega)
      rw [hl.out, List.length_append] at h5
      omega
    have hsz := G.size
    by_cases hlt : 128 ≤ m
    · go_wp2_with (at_builtin; refine wpList_append_own _ rfl _ _ 69 rfl w.heap.size 5 i0 (.int .u8 0) 1 1 Try.underlying69 hi hz0 hz1 hz2 rfl (by decide) _ _ _ rfl (hown.alloc _) ⟨wr.heap.size, 0, none⟩ 1 1 [.int .u8 (m % 128 + 128)] rfl rfl (cell_one_new _ _ _) (one_u8 _) (ml_le (by omega)) (by omega) (sz_alloc _ hsz) ?_; intro v' w1 hown' hgrow _)
      have G1 := grown_own G hown hsz hgrow
      have e1 : bcs (l ++ [UInt8.ofNat (m % 128 + 128).toNat]) = bcs l ++ [.int .u8 (m % 128 + 128)] := bcs_snoc l _ (by omega) (by omega)
      have HL : Hid (Nm.nb n.toNat = (l ++ [UInt8.ofNat (m % 128 + 128).toNat]) ++ Nm.nb (m / 128).toNat) := by
        show _ = _
        have e2 : Nm.nb m.toNat = UInt8.ofNat (m % 128 + 128).toNat :: Nm.nb (m / 128).toNat := by
          rw [Nm.nb_ge (n := m.toNat) (by omega), show (m % 128 + 128).toNat = 128 + m.toNat % 128 by omega, show (m / 128).toNat = m.toNat / 128 by omega]
        rw [hl.out, e2, List.append_assoc, List.singleton_append]
      have HO : w1.ownsRow w.heap.size 5 1 v' (l ++ [UInt8.ofNat (m % 128 + 128).toNat]).length (bcs (l ++ [UInt8.ofNat (m % 128 + 128).toNat])) := by
        rw [e1, List.length_append]; exact hown'
      clear hown' hgrow hown e1 G hl
      go_wp2
      go_roundw
      case rel => exact ⟨m / 128, _, by omega, by omega, rfl, HL, HO, G1⟩
      case measure => simp [intOf]; omega
    · have He : Hid (bcs (Nm.nb n.toNat) = bcs l ++ [.int .u8 m]) := by
        show _ = _
        rw [hl.out, Nm.nb_lt (n := m.toNat) (by omega)]
        exact bcs_snoc l _ (by omega) (by omega)
      clear hl
      go_wp2_with (at_builtin; refine wpList_append_own _ rfl _ _ 69 rfl w.heap.size 5 i0 (.int .u8 0) 1 1 Try.underlying69 hi hz0 hz1 hz2 rfl (by decide) _ _ _ rfl (hown.alloc _) ⟨wr.heap.size, 0, none⟩ 1 1 [.int .u8 m] rfl rfl (cell_one_new _ _ _) (one_u8 _) (ml_le (by omega)) (by omega) (sz_alloc _ hsz) ?_; intro v' w1 hown' hgrow _; have hcv := conv_own (l := Nm.nb n.toNat) (by rw [He.out]; exact hown'))
      go_ret2
      exact ⟨rfl, grown_own G hown hsz hgrow⟩
end Go.Proofs.Ytbjbjbpgmojcbaa
