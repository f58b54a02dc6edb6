/- What the smaller functions of package block come to. -/
import Derived.Test.YtbjbjbpgmojcbaaBlockJoined
import Derived.Test.YtbjbjbpgmojcbaaCodeBackWalk
import Derived.Test.YtbjbjbpgmojcbaaCodeBestMath
import Derived.Test.YtbjbjbpgmojcbaaToksMath2
import Derived.Test.YtbjbjbpgmojcbaaNumsTake
namespace Go.Proofs.Ytbjbjbpgmojcbaa
open Go.RowKit

namespace Bk
/-- A code's lengths out of eight bytes: the first k of them. -/
def ptK (s : ByteArray) (k : Nat) : Nat → Int := fun i => if i < 2 * k then (if i % 2 = 0 then (Cd.at8 s (i / 2) / 16 : Nat) else (Cd.at8 s (i / 2) % 16 : Nat)) else 0
def pt (s : ByteArray) : Nat → Int := ptK s 8
theorem ptK_next (s : ByteArray) (k : Nat) (i : Nat) : upd (upd (ptK s k) (2 * k) (Cd.at8 s k / 16 : Nat)) (2 * k + 1) (Cd.at8 s k % 16 : Nat) i = ptK s (k + 1) i := by
  unfold upd ptK
  by_cases h1 : i = 2 * k + 1
  · subst h1
    rw [if_pos rfl, if_pos (by omega), if_neg (by omega), show (2 * k + 1) / 2 = k by omega]
  · rw [if_neg h1]
    by_cases h2 : i = 2 * k
    · subst h2
      rw [if_pos rfl, if_pos (by omega), if_pos (by omega), show 2 * k / 2 = k by omega]
    · rw [if_neg h2]
      by_cases h3 : i < 2 * k
      · rw [if_pos h3, if_pos (show i < 2 * (k + 1) by omega)]
      · rw [if_neg h3, if_neg (show ¬ i < 2 * (k + 1) by omega)]
/-- What is behind the byte of a block 0, of a block 1. -/
def whl (s : ByteArray) : ByteArray × Int := if 512 < s.size then (⟨#[]⟩, 1) else (s, 0)
def ply (dict s : ByteArray) : ByteArray × Int := match readOf dict s with | none => (⟨#[]⟩, 1) | some l => (playOf dict l, 0)
/-- What is behind the byte of a block 2, and what it is made of. -/
def enc (s : ByteArray) : ByteArray := (⟨(jn (Cd.bld (hv s)).1).toArray⟩ : ByteArray) ++ ⟨(Nm.nb s.size).toArray⟩ ++ (Cd.wrt (Cd.bld (hv s)).1 s).1
theorem bld_in {c : Nat → Int} (h : Cd.InR c 2048 16) : Cd.InR (Cd.bld c).1 15 16 := by
  by_cases h0 : (Cd.bld c).2 = 0
  · exact (Cd.chk_zero (Cd.bld_best c h0).1).1
  · have e : (Cd.bld c).1 = fun _ => 0 := by
      unfold Cd.bld at h0 ⊢
      rw [if_neg (fun h9 => h9 h)] at h0 ⊢
      by_cases h1 : (Cd.lt2 c 16).1 = -1
      · rw [if_pos h1]
      · rw [if_neg h1] at h0
        by_cases h2 : (Cd.lt2 c 16).2 = -1
        · rw [if_pos h2] at h0; exact absurd rfl h0
        · rw [if_neg h2] at h0; exact absurd rfl h0
    rw [e]
    intro i _
    exact ⟨Int.le_refl _, by show (0 : Int) ≤ 15; decide⟩
end Bk

set_option maxHeartbeats 400000 in
theorem whole_any (s : ByteArray) (w : World) (hs : s.size ≤ 140737488355328) :
    Calls Try.prog 79 #[.string s] w fun e w' => e = .returned (.tuple #[.string (Bk.whl s).1, .int .i64 (Bk.whl s).2]) ∧ Below w.heap.size w w' := by
  by_cases h : 512 < s.size
  · have e : Bk.whl s = (⟨#[]⟩, 1) := if_pos h
    rw [e]
    have d1 : decide (512 < (s.size : Int)) = true := by simp; omega
    have h' : 512 < (s.size : Int) := by omega
    clear e h
    go_enter Try.func79, Try.ntmps79
    go_wp2_with fail
    go_ret2
    exact ⟨rfl, Below.refl _ _⟩
  · have e : Bk.whl s = (s, 0) := if_neg h
    rw [e]
    have d1 : decide (512 < (s.size : Int)) = false := by simp; omega
    have hc := fun w => clone_any s w (by omega)
    clear e h
    go_enter Try.func79, Try.ntmps79
    go_wp2_with fail
    refine (hc _).mono ?_
    rintro e w1 ⟨rfl, G⟩
    go_wp2_with fail
    go_ret2
    exact ⟨rfl, G⟩

set_option maxHeartbeats 400000 in
theorem blockPlay_any (dict s : ByteArray) (w : World) (hd : dict.size ≤ 256) :
    Calls Try.prog 80 #[.string dict, .string s] w fun e w' => e = .returned (.tuple #[.string (Bk.ply dict s).1, .int .i64 (Bk.ply dict s).2]) ∧ Below w.heap.size w w' := by
  have c1 := fun w => read_any dict s w hd (fun h => read_long0 hd h)
  cases hq : readOf dict s with
  | none =>
    have e : Bk.ply dict s = (⟨#[]⟩, 1) := by rw [Bk.ply, hq]
    rw [e]
    have c2 : ∀ w, Calls Try.prog 35 #[.string dict, .string s] w fun e w' => Below w.heap.size w w' ∧ e = .returned (.tuple #[.slice none 0 0, .int .i64 1]) := fun w => (c1 w).mono fun e w' h => by
      rcases h with ⟨h1, ⟨_, h2⟩ | ⟨l, a, c, h2, _⟩⟩
      · exact ⟨h1, h2⟩
      · rw [hq] at h2; cases h2
    clear e hq c1
    go_enter Try.func80, Try.ntmps80
    go_wp2_with fail
    refine (c2 _).mono ?_
    rintro e w1 ⟨G, rfl⟩
    go_wp2_with fail
    go_ret2
    exact ⟨rfl, G⟩
  | some l =>
    have e : Bk.ply dict s = (playOf dict l, 0) := by rw [Bk.ply, hq]
    rw [e]
    have c2 : ∀ w, Calls Try.prog 35 #[.string dict, .string s] w fun e w' => Below w.heap.size w w' ∧ ∃ ad cap, e = .returned (.tuple #[.slice ad l.length cap, .int .i64 0]) ∧ SlAt w' ad l := fun w => (c1 w).mono fun e w' h => by
      rcases h with ⟨h1, ⟨h2, _⟩ | ⟨k, a, c, h2, h3, h4⟩⟩
      · rw [hq] at h2; cases h2
      · rw [hq] at h2; cases h2; exact ⟨h1, a, c, h3, h4⟩
    have r1 := read_tbs hd hq
    have c3 := fun ad cap w hl => play_any dict ad cap l w hl (small_sane (check_small r1.2))
    rw [r1.2] at c3
    generalize playOf dict l = X at *
    clear e hq c1 r1
    go_enter Try.func80, Try.ntmps80
    go_wp2_with fail
    refine (c2 _).mono ?_
    rintro e w1 ⟨G1, ad, cap, rfl, S1⟩
    go_wp2_with fail
    refine (c3 _ _ _ S1).mono ?_
    rintro e w2 ⟨rfl, G2⟩
    go_wp2_with fail
    go_ret2
    exact ⟨rfl, bch G1 G2 (Nat.le_refl _)⟩

set_option maxRecDepth 4000 in
set_option maxHeartbeats 1000000 in
theorem parted_any (s : ByteArray) (w : World) (hs : s.size = 8) :
    Calls Try.prog 90 #[.string s] w fun e w' => e = .returned (.agg (arr (Bk.pt s))) ∧ Below w.heap.size w w' := by
  obtain ⟨R2, R3⟩ := RowAt.two w (fun _ => 0) (fun _ => 0)
  have HB := below2 w (.cells (arr fun _ => 0) 54) (.cells (arr fun _ => 0) 54)
  rw [← arr_zero] at R2 R3 HB
  have Hs : Hid (s.size = 8) := hs
  obtain ⟨r, hr⟩ : ∃ r, Bk.pt s = r := ⟨_, rfl⟩
  rw [hr]
  have Hr : Hid (Bk.ptK s 8 = r) := hr
  clear hr hs
  go_enter Try.func90, Try.ntmps90
  go_wp2_with fail
  rw [arr_zero] at R2 R3 HB
  rw [arr_zero]
  generalize (w.alloc (.cells (arr fun _ => 0) 54)).alloc (.cells (arr fun _ => 0) 54) = w0 at *
  obtain ⟨g1, hg1⟩ : ∃ g1, g1 = w.heap.size := ⟨_, rfl⟩
  have hq : Hid (g1 < w.heap.size + 1 ∧ w.heap.size = g1) := by show _ ∧ _; omega
  generalize w.heap.size + 1 = g3 at *
  clear hg1
  have R3' := R3.congr (f' := Bk.ptK s 0) (fun i _ => by simp [Bk.ptK])
  go_loopw [5] (fun i wr => ∃ k : Nat, k ≤ 8 ∧ i = .int .i64 k ∧ RowAt wr w.heap.size (fun _ => 0) ∧ RowAt wr g3 (Bk.ptK s k) ∧ Below w.heap.size w wr) (fun i _ => 8 - (intOf i).toNat)
  case atStart => exact ⟨0, by omega, rfl, R2, R3', HB⟩
  case round =>
    clear R2 R3 R3' HB
    obtain ⟨k, hk, rfl, R2, R3, HB⟩ := hrel
    by_cases hlt : k < 8
    · have hk1 : decide ((k : Int) < 8) = true := by simp; omega
      have hk2 : decide (k < 8) = true := by simp; omega
      have hks : k < s.size := by have := Hs.out; omega
      have hk3 : (k : Int) < (s.size : Int) := by omega
      obtain ⟨x, hx⟩ : ∃ x : Int, (s[k].toNat : Int) = x := ⟨_, rfl⟩
      have hA : Cd.at8 s k = s[k].toNat := by unfold Cd.at8; rw [Nm.at_list s k hks]; rfl
      have hA2 := Cd.at8_lt s k
      have hx0 : 0 ≤ x := by omega
      have hx1 : x ≤ 255 := by omega
      obtain ⟨H, hH⟩ : ∃ H, Cd.at8 s k / 16 = H := ⟨_, rfl⟩
      obtain ⟨L, hL⟩ : ∃ L, Cd.at8 s k % 16 = L := ⟨_, rfl⟩
      have e1 : x / 16 = (H : Int) := by omega
      have e2 : x % 16 = (L : Int) := by omega
      have e3 : x.tdiv 16 = (H : Int) := by rw [Int.tdiv_eq_ediv_of_nonneg hx0]; exact e1
      have e4 : x.tmod 16 = (L : Int) := by rw [Int.tmod_eq_emod_of_nonneg hx0]; exact e2
      have hH2 : H < 16 := by omega
      have hL2 : L < 16 := by omega
      obtain ⟨K2, hK2e⟩ : ∃ K2, 2 * k = K2 := ⟨_, rfl⟩
      obtain ⟨K3, hK3e⟩ : ∃ K3, 2 * k + 1 = K3 := ⟨_, rfl⟩
      have hK2 : K2 < 16 := by omega
      have hK3 : K3 < 16 := by omega
      have m2 : 2 * (k : Int) = (K2 : Int) := by omega
      have m3 : (K2 : Int) + 1 = (K3 : Int) := by omega
      have hK2i : (K2 : Int) < 16 := by omega
      have hK3i : (K3 : Int) < 16 := by omega
      have c1 := R3.cell K2 hK2
      have f1 := R3.frozen K2
      have S3 := R3.set K2 (H : Int)
      have S2 := R2.setFar (q := g3) (by have := hq.out; omega) K2 (.int .i64 (H : Int))
      have SB := HB.setCell (p := ⟨g3, K2, none⟩) (by have := hq.out; show _ ≤ g3; omega) (.int .i64 (H : Int))
      have c2 := S3.cell K3 hK3
      have f2 := S3.frozen K3
      have T3 := (S3.set K3 (L : Int)).congr (f' := Bk.ptK s (k + 1)) (fun i _ => by rw [← hK2e, ← hK3e, ← hH, ← hL]; exact Bk.ptK_next s k i)
      have T2 := S2.setFar (q := g3) (by have := hq.out; omega) K3 (.int .i64 (L : Int))
      have TB := SB.setCell (p := ⟨g3, K3, none⟩) (by have := hq.out; show _ ≤ g3; omega) (.int .i64 (L : Int))
      clear hA hA2 hH hL e1 e2 hK2e hK3e R2 R3 HB S2 S3 SB
      go_wp2_with fail
      go_roundw
      case rel => exact ⟨k + 1, by omega, by go_num, T2, T3, TB⟩
      case measure => simp [intOf]; omega
    · obtain rfl : k = 8 := by omega
      rw [Hr.out] at R3
      have hi1 := arr_infoc r
      go_wp2_with (first | refine wpList_load_row rfl 54 _ rfl g3 rfl 54 (arr r) (0, 0) _ R3.2 Try.underlying54 rfl hi1 ?_ | refine wpList_store_row rfl 54 _ _ rfl w.heap.size (arr r) rfl rfl 54 _ R2.2 hi1 (by rw [arr_size, arr_size]) (arr_one _) ?_)
      have U2 := R2.setRow r
      exact bodyPost_ret (v := .agg (arr r)) (results_cell_row Try.results90 _ _ w.heap.size 54 _ (0, 0) _ rfl U2.2 Try.underlying54 rfl hi1) rfl ⟨rfl, below_setRow HB (Nat.le_refl _) _⟩

set_option maxRecDepth 4000 in
set_option maxHeartbeats 1000000 in
theorem encode_any (s : ByteArray) (w : World) (hs : s.size ≤ 1024) :
    Calls Try.prog 75 #[.string s] w fun e w' => e = .returned (.string (Bk.enc s)) ∧ Below w.heap.size w w' := by
  have c1 := fun w => halves_any s w hs
  have c2 := fun w => codeBuild_any (Bk.hv s) w
  have c3 := fun w => put_yes (s.size : Int) w (by omega) (by omega)
  rw [Int.toNat_natCast] at c3
  have c4 := fun w => codeWrite_any (Cd.bld (Bk.hv s)).1 s w (by omega)
  have c5 := fun w => joined_any (Cd.bld (Bk.hv s)).1 w (Bk.bld_in (Bk.hv_in s hs))
  have HE : Hid ((⟨(Bk.jn (Cd.bld (Bk.hv s)).1).toArray⟩ : ByteArray) ++ ⟨(Nm.nb s.size).toArray⟩ ++ (Cd.wrt (Cd.bld (Bk.hv s)).1 s).1 = Bk.enc s) := rfl
  have z1 : (⟨(Bk.jn (Cd.bld (Bk.hv s)).1).toArray⟩ : ByteArray).size ≤ 8 := by
    show (Bk.jn _).toArray.size ≤ _
    simp [Bk.jn, Bk.jnK_len]
  have z2 : (⟨(Nm.nb s.size).toArray⟩ : ByteArray).size ≤ 5 := by
    have := Nm.nb_len5 s.size (by omega)
    show (Nm.nb s.size).toArray.size ≤ _
    simpa using this
  have z3 := wrt_size (Cd.bld (Bk.hv s)).1 s
  have hiL := arr_infoc (Cd.bld (Bk.hv s)).1
  have hb0 : (s.size : Int) ≤ 1024 := by omega
  generalize Bk.enc s = R at *
  generalize (Cd.wrt (Cd.bld (Bk.hv s)).1 s).1 = W at *
  generalize (Cd.wrt (Cd.bld (Bk.hv s)).1 s).2 = We at *
  generalize (⟨(Bk.jn (Cd.bld (Bk.hv s)).1).toArray⟩ : ByteArray) = J at *
  generalize (⟨(Nm.nb s.size).toArray⟩ : ByteArray) = N at *
  generalize (Cd.bld (Bk.hv s)).1 = L at *
  generalize (Cd.bld (Bk.hv s)).2 = E at *
  generalize Bk.hv s = C at *
  go_enter Try.func75, Try.ntmps75
  go_wp2_with fail
  refine (c1 _).mono ?_
  rintro e w1 ⟨rfl, G1⟩
  go_wp2_with fail
  refine (c2 _).mono ?_
  rintro e w2 ⟨rfl, G2⟩
  have B2 := bch G1 G2 (Nat.le_refl _)
  have L3 := RowAt.new w2 L
  have B3 : Below w.heap.size w (w2.alloc (.cells (arr L) 54)) := B2.alloc B2.size _
  clear G1 G2 B2 c1 c2
  go_wp2_with (refine wpList_store_row rfl 54 _ _ rfl w2.heap.size (arr L) rfl rfl 54 _ (heap_alloc_last w2 _) hiL rfl (arr_one _) ?_; rw [World.setRow_alloc_new])
  generalize w2.alloc (.cells (arr L) 54) = wa at *
  generalize w2.heap.size = gl at *
  refine (c3 _).mono ?_
  rintro e w3 ⟨rfl, G3⟩
  have L4 := L3.below G3
  have B4 := bch B3 G3 (Nat.le_refl _)
  clear L3 B3 G3 c3
  go_wp2_with (refine wpList_load_row rfl 54 _ rfl gl rfl 54 (arr L) (0, 0) _ L4.2 Try.underlying54 rfl hiL ?_)
  refine (c4 _).mono ?_
  rintro e w4 ⟨rfl, G4⟩
  have L5 := L4.below G4
  have B5 := bch B4 G4 (Nat.le_refl _)
  clear L4 B4 G4 c4
  go_wp2_with (refine wpList_load_row rfl 54 _ rfl gl rfl 54 (arr L) (0, 0) _ L5.2 Try.underlying54 rfl hiL ?_)
  refine (c5 _).mono ?_
  rintro e w5 ⟨rfl, G5⟩
  have B6 := bch B5 G5 (Nat.le_refl _)
  clear L5 B5 G5 c5
  go_wp2_with fail
  go_ret
  exact ⟨congrArg (fun s => Ending.returned (Value.string s)) HE.out, B6⟩

namespace Bk
/-- What decode tells. -/
def dec (s : ByteArray) : ByteArray × Int :=
  if s.size < 8 then (⟨#[]⟩, 1) else match Nm.from_ (s.extract 8 s.size).data.toList with
    | none => (⟨#[]⟩, 1)
    | some (n, k) => if (Cd.rd (pt (s.extract 0 8)) ((s.extract 8 s.size).extract k (s.extract 8 s.size).size) (n : Nat)).2 = 0 then ((Cd.rd (pt (s.extract 0 8)) ((s.extract 8 s.size).extract k (s.extract 8 s.size).size) (n : Nat)).1, 0) else (⟨#[]⟩, 1)
theorem dec_none {s : ByteArray} (h : ¬ s.size < 8) (hq : Nm.from_ (s.extract 8 s.size).data.toList = none) : dec s = (⟨#[]⟩, 1) := by rw [dec, if_neg h, hq]
theorem dec_some {s : ByteArray} {n k : Nat} (h : ¬ s.size < 8) (hq : Nm.from_ (s.extract 8 s.size).data.toList = some (n, k)) : dec s = if (Cd.rd (pt (s.extract 0 8)) ((s.extract 8 s.size).extract k (s.extract 8 s.size).size) (n : Nat)).2 = 0 then ((Cd.rd (pt (s.extract 0 8)) ((s.extract 8 s.size).extract k (s.extract 8 s.size).size) (n : Nat)).1, 0) else (⟨#[]⟩, 1) := by rw [dec, if_neg h, hq]
end Bk
theorem ext_size (s : ByteArray) (a b : Nat) : (s.extract a b).size = min b s.size - a := by simp [ByteArray.size_extract]

set_option maxRecDepth 4000 in
set_option maxHeartbeats 1000000 in
theorem decode_any (s : ByteArray) (w : World) (hs : s.size ≤ 140737488355328) :
    Calls Try.prog 81 #[.string s] w fun e w' => e = .returned (.tuple #[.string (Bk.dec s).1, .int .i64 (Bk.dec s).2]) ∧ Below w.heap.size w w' := by
  by_cases h8 : s.size < 8
  · have e : Bk.dec s = (⟨#[]⟩, 1) := if_pos h8
    rw [e]
    have d1 : decide ((s.size : Int) < 8) = true := by simp; omega
    have h' : (s.size : Int) < 8 := by omega
    clear e h8
    go_enter Try.func81, Try.ntmps81
    go_wp2_with fail
    go_ret2
    exact ⟨rfl, Below.refl _ _⟩
  · have d1 : decide ((s.size : Int) < 8) = false := by simp; omega
    have h8' : (8 : Int) ≤ (s.size : Int) := by omega
    have h8n : 8 ≤ s.size := by omega
    have z8 := ext_size s 8 s.size
    have z0 := ext_size s 0 8
    cases hq : Nm.from_ (s.extract 8 s.size).data.toList with
    | none =>
      rw [Bk.dec_none h8 hq]
      have c1 := fun w => take_no (s.extract 8 s.size) w (by omega) hq
      clear hq h8 z8 z0
      have et : ∃ t, s.extract 8 s.size = t := ⟨_, rfl⟩
      obtain ⟨t, et⟩ := et
      rw [et] at c1
      go_enter Try.func81, Try.ntmps81
      go_wp2_with fail
      refine (c1 _).mono ?_
      rintro e w1 ⟨rfl, G⟩
      go_wp2_with fail
      go_ret2
      exact ⟨rfl, G⟩
    | some x =>
      obtain ⟨n, k⟩ := x
      have hD := Bk.dec_some h8 hq
      have c1 := fun w => take_yes (s.extract 8 s.size) w n k (by omega) hq
      have c2 := fun w => parted_any (s.extract 0 8) w (by omega)
      have zz := ext_size (s.extract 8 s.size) k (s.extract 8 s.size).size
      have c3 := fun w => codeRead_any (Bk.pt (s.extract 0 8)) ((s.extract 8 s.size).extract k (s.extract 8 s.size).size) (n : Nat) w (by omega)
      clear hq h8 z8 z0 zz
      generalize Bk.dec s = D at *
      have hip := arr_infoc (Bk.pt (s.extract 0 8))
      generalize (Cd.rd (Bk.pt (s.extract 0 8)) ((s.extract 8 s.size).extract k (s.extract 8 s.size).size) (n : Nat)).1 = X at *
      generalize (Cd.rd (Bk.pt (s.extract 0 8)) ((s.extract 8 s.size).extract k (s.extract 8 s.size).size) (n : Nat)).2 = E at *
      generalize Bk.pt (s.extract 0 8) = P at *
      obtain ⟨t0, e0⟩ : ∃ t, s.extract 0 8 = t := ⟨_, rfl⟩
      obtain ⟨t, et⟩ : ∃ t, s.extract 8 s.size = t := ⟨_, rfl⟩
      rw [et] at c1 c3
      rw [e0] at c2
      generalize t.extract k t.size = r at *
      by_cases hE : E = 0
      · rw [if_pos hE] at hD
        subst hD
        subst hE
        go_enter Try.func81, Try.ntmps81
        go_wp2_with fail
        refine (c1 _).mono ?_
        rintro e w1 ⟨rfl, G1⟩
        go_wp2_with fail
        refine (c2 _).mono ?_
        rintro e w2 ⟨rfl, G2⟩
        go_wp2_with fail
        refine (c3 _).mono ?_
        rintro e w3 ⟨rfl, G3⟩
        go_wp2_with fail
        go_ret2
        exact ⟨rfl, bch (bch G1 G2 (Nat.le_refl _)) G3 (Nat.le_refl _)⟩
      · rw [if_neg hE] at hD
        subst hD
        have dE : (E != 0) = true := by simpa using hE
        clear hE
        go_enter Try.func81, Try.ntmps81
        go_wp2_with fail
        refine (c1 _).mono ?_
        rintro e w1 ⟨rfl, G1⟩
        go_wp2_with fail
        refine (c2 _).mono ?_
        rintro e w2 ⟨rfl, G2⟩
        go_wp2_with fail
        refine (c3 _).mono ?_
        rintro e w3 ⟨rfl, G3⟩
        go_wp2_with fail
        go_ret2
        exact ⟨rfl, bch (bch G1 G2 (Nat.le_refl _)) G3 (Nat.le_refl _)⟩
end Go.Proofs.Ytbjbjbpgmojcbaa
