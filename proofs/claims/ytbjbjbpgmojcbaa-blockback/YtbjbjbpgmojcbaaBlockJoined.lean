/- A code's lengths as bytes, two a byte. -/
import Derived.Test.YtbjbjbpgmojcbaaBlockHalves
import Derived.Test.YtbjbjbpgmojcbaaRefTree
import Derived.Test.YtbjbjbpgmojcbaaRefRead
namespace Go.Proofs.Ytbjbjbpgmojcbaa
open Go.RowKit

namespace Bk
/-- The first k bytes. -/
def jnK (f : Nat → Int) (k : Nat) : List UInt8 := (List.range k).map fun j => UInt8.ofNat (f (2 * j) * 16 + f (2 * j + 1)).toNat
def jn (f : Nat → Int) : List UInt8 := jnK f 8
theorem jnK_next (f : Nat → Int) (k : Nat) : jnK f (k + 1) = jnK f k ++ [UInt8.ofNat (f (2 * k) * 16 + f (2 * k + 1)).toNat] := by
  unfold jnK
  rw [List.range_succ, List.map_append]
  rfl
theorem jnK_len (f : Nat → Int) (k : Nat) : (jnK f k).length = k := by simp [jnK]
end Bk
theorem step_own {o : Oper} {a : Act} {w : World} {K : Act → World → Prop} {Q : Exit → Act → World → Prop} (s x : Operand)
    (ho : o.op = .call { callee := .builtin .append, args := #[s, x], argTypes := #[69, 69] })
    (base : Nat) (v : Value) (l : List UInt8) (hs : a.eval s = v) (hown : w.ownsRow base 5 1 v l.length (bcs l)) (n : Int) (hx : a.eval x = .slice (some ⟨w.heap.size, 0, none⟩) 1 1)
    (hl : l.length ≤ 100000) (hbase : base ≤ w.heap.size) (h0 : 0 ≤ n) (h1 : n < 256)
    (h : ∀ v' w', w'.ownsRow base 5 1 v' (l ++ [UInt8.ofNat n.toNat]).length (bcs (l ++ [UInt8.ofNat n.toNat])) → (w.alloc (.cells #[.int .u8 n] 5)).grownBy w' v.ownBlock → K (a.put o.dst v') w') : o.wp Try.prog a (w.alloc (.cells #[.int .u8 n] 5)) K Q := by
  obtain ⟨i0, hi, hz0, hz1, hz2⟩ := info_parts info_u8
  refine wp_append_own _ s x 69 ho base 5 i0 (.int .u8 0) 1 1 Try.underlying69 hi hz0 hz1 hz2 rfl (by decide) v l.length (bcs l) hs (hown.alloc _) ⟨w.heap.size, 0, none⟩ 1 1 [.int .u8 n] hx rfl (cell_one_new _ _ _) (one_u8 _) (ml_le (by omega)) (by omega) (by simp; omega) ?_
  intro v' w' h2 h3 _
  refine h v' w' ?_ h3
  rw [bcs_snoc l n h0 h1, List.length_append]
  exact h2
/-- The last but one is an append of a byte, the last an assignment. -/
theorem tail_append {md : Region.Mode} {ops : Array Oper} {Q : Exit → Act → World → Prop} {S : World → Prop} {i j : Nat} {o p : Oper} {fuel : Nat} {listed : Array Bool} {a : Act} {w : World} {n : Int}
    (hr : Region.ready md ops listed = [i]) (hr2 : Region.ready md ops (listed.setIfInBounds i true) = [j]) (hr3 : Region.ready md ops ((listed.setIfInBounds i true).setIfInBounds j true) = []) (ho : ops[i]? = some o) (hp : ops[j]? = some p) (hg : o.guard = none) (hgp : p.guard = none)
    (s x y : Operand) (hop : o.op = .call { callee := .builtin .append, args := #[s, x], argTypes := #[69, 69] }) (hpo : p.op = .assign y)
    (base : Nat) (v : Value) (l : List UInt8) (hs : a.eval s = v) (hown : w.ownsRow base 5 1 v l.length (bcs l)) (hx : a.eval x = .slice (some ⟨w.heap.size, 0, none⟩) 1 1)
    (hl : l.length ≤ 100000) (hbase : base ≤ w.heap.size) (h0 : 0 ≤ n) (h1 : n < 256) (hy : ∀ v', (a.put o.dst v').eval y = v')
    (h : ∀ v' w', w'.ownsRow base 5 1 v' (l ++ [UInt8.ofNat n.toNat]).length (bcs (l ++ [UInt8.ofNat n.toNat])) → (w.alloc (.cells #[.int .u8 n] 5)).grownBy w' v.ownBlock → S w' ∧ Q .normal ((a.put o.dst v').put p.dst v') w') : wpAnyH Try.prog md ops Q S (fuel + 2) listed a (w.alloc (.cells #[.int .u8 n] 5)) :=
  wpAnyH_all (fuel := fuel + 1) hr (by simp) (fun k hk => by
    obtain rfl : k = i := by simpa using hk
    refine wpOp_step ho (fun K hK => step_wanted hg ?_)
    refine step_own s x hop base v l hs hown n hx hl hbase h0 h1 (fun v' w' h2 h3 => hK _ _ ?_)
    obtain ⟨h4, h5⟩ := h v' w' h2 h3
    refine ⟨h4, last_take (i := j) (o := p) (v := v') hr2 hr3 hp (Or.inl ⟨by simp [Region.wanted, hgp], fun w _ => ?_⟩) h4 h5⟩
    unfold execOp
    simp only [hpo, hy, Sem.run_pure])

set_option maxRecDepth 4000 in
set_option maxHeartbeats 1000000 in
theorem joined_any (f : Nat → Int) (w : World) (hR : Cd.InR f 15 16) :
    Calls Try.prog 88 #[.agg (arr f)] w fun e w' => e = .returned (.string ⟨(Bk.jn f).toArray⟩) ∧ Below w.heap.size w w' := by
  have R1 := RowAt.new w f
  have B1 : Below w.heap.size w (w.alloc (.cells (arr f) 54)) := (Below.refl _ _).alloc (Nat.le_refl _) _
  have HR : Hid (Cd.InR f 15 16) := hR
  clear hR
  go_enter Try.func88, Try.ntmps88
  go_wp2_with fail
  generalize w.alloc (.cells (arr f) 54) = w0 at *
  go_loopw [3, 5] (fun v i wr => ∃ k : Nat, k ≤ 8 ∧ i = .int .i64 k ∧ wr.ownsRow (w.heap.size + 1) 5 1 v (Bk.jnK f k).length (bcs (Bk.jnK f k)) ∧ RowAt wr w.heap.size f ∧ Below w.heap.size w wr) (fun _ i _ => 8 - (intOf i).toNat)
  case atStart => exact ⟨0, by omega, rfl, World.ownsRow_nil _ _ _ _, R1, B1⟩
  case round =>
    clear R1 B1
    obtain ⟨k, hk, rfl, ho, R1, B1⟩ := hrel
    by_cases hlt : k < 8
    · have hk1 : decide ((k : Int) < 8) = true := by simp; omega
      have hk2 : decide (k < 8) = true := by simp; omega
      obtain ⟨K2, hK2e⟩ : ∃ K2, 2 * k = K2 := ⟨_, rfl⟩
      obtain ⟨K3, hK3e⟩ : ∃ K3, 2 * k + 1 = K3 := ⟨_, rfl⟩
      have hK2 : K2 < 16 := by omega
      have hK3 : K3 < 16 := by omega
      have m2 : 2 * (k : Int) = (K2 : Int) := by omega
      have m3 : (K2 : Int) + 1 = (K3 : Int) := by omega
      have hK2i : (K2 : Int) < 16 := by omega
      have hK3i : (K3 : Int) < 16 := by omega
      have HN := Bk.jnK_next f k
      rw [hK3e, hK2e] at HN
      have HNN : Hid (Bk.jnK f (k + 1) = Bk.jnK f k ++ [UInt8.ofNat (f K2 * 16 + f K3).toNat]) := HN
      have hx := HR.out K2 hK2
      have hy := HR.out K3 hK3
      have hlen : (Bk.jnK f k).length ≤ 100000 := by rw [Bk.jnK_len]; omega
      have hcs : ∀ w', RowAt w' w.heap.size f → w'.cell? ⟨w.heap.size, K2, none⟩ = some (.int .i64 (f K2)) ∧ w'.cell? ⟨w.heap.size, K3, none⟩ = some (.int .i64 (f K3)) := fun w' h => ⟨h.cell K2 hK2, h.cell K3 hK3⟩
      have HC : Hid (∀ w', RowAt w' w.heap.size f → w'.cell? ⟨w.heap.size, K2, none⟩ = some (.int .i64 (f K2)) ∧ w'.cell? ⟨w.heap.size, K3, none⟩ = some (.int .i64 (f K3))) := hcs
      clear HN hcs hK2e hK3e
      obtain ⟨x, hxe⟩ : ∃ x, f K2 = x := ⟨_, rfl⟩
      obtain ⟨y, hye⟩ : ∃ y, f K3 = y := ⟨_, rfl⟩
      rw [hxe, hye] at HNN HC
      rw [hxe] at hx
      rw [hye] at hy
      clear hxe hye
      obtain ⟨hx0, hx1⟩ := hx
      obtain ⟨hy0, hy1⟩ := hy
      have w1 : IntKind.i64.wrap (x * 16) = x * 16 := IntWalk.i64_in _ ⟨by omega, by omega⟩
      have w2 : IntKind.i64.wrap (x * 16 + y) = x * 16 + y := IntWalk.i64_in _ ⟨by omega, by omega⟩
      have w3 : IntKind.u8.wrap (x * 16 + y) = x * 16 + y := IntWalk.u8_in _ ⟨by omega, by omega⟩
      have w4 : IntKind.i64.wrap (K2 : Int) = (K2 : Int) := IntWalk.i64_in _ ⟨by omega, by omega⟩
      have w5 : IntKind.i64.wrap (K3 : Int) = (K3 : Int) := IntWalk.i64_in _ ⟨by omega, by omega⟩
      go_wp2_with fail
      refine wp_region_held_drew (S := fun w' => RowAt w' w.heap.size f ∧ True) (by kernel_rfl) ⟨R1, trivial⟩ (fun hS => ?_)
      refine wpAnyH_take (i := 0) (fuel := 15) (v := u3) rfl (by kernel_rfl) (by kernel_rfl) (by kernel_rfl) (fun _ _ _ h => h) (Or.inl ⟨by rfl, fun w hw' => by go_simp⟩) hS ?_
      refine wpAnyH_take (i := 1) (fuel := 14) (v := .int .i64 (k : Int)) rfl (by kernel_rfl) (by kernel_rfl) (by kernel_rfl) (fun _ _ _ h => h) (Or.inl ⟨by rfl, fun w hw' => by go_simp⟩) hS ?_
      refine wpAnyH_take (i := 2) (fuel := 13) (v := .int .i64 (K2 : Int)) rfl (by kernel_rfl) (by kernel_rfl) (by kernel_rfl) (fun _ _ _ h => h) (Or.inl ⟨by rfl, fun w hw' => by go_simp⟩) hS ?_
      refine wpAnyH_take (i := 3) (fuel := 12) (v := .pointer (some ⟨w.heap.size, K2, none⟩)) rfl (by kernel_rfl) (by kernel_rfl) (by kernel_rfl) (fun _ _ _ h => h) (Or.inl ⟨by rfl, fun w hw' => by go_simp⟩) hS ?_
      refine wpAnyH_take (i := 4) (fuel := 11) (v := .int .i64 x) rfl (by kernel_rfl) (by kernel_rfl) (by kernel_rfl) (fun _ _ _ h => h) (Or.inl ⟨by rfl, fun w hw' => by have hc9 := (HC.out _ hw'.1).1; go_simp⟩) hS ?_
      refine wpAnyH_take (i := 5) (fuel := 10) (v := .int .i64 (x * 16)) rfl (by kernel_rfl) (by kernel_rfl) (by kernel_rfl) (fun _ _ _ h => h) (Or.inl ⟨by rfl, fun w hw' => by go_simp⟩) hS ?_
      refine wpAnyH_take (i := 6) (fuel := 9) (v := .int .i64 (k : Int)) rfl (by kernel_rfl) (by kernel_rfl) (by kernel_rfl) (fun _ _ _ h => h) (Or.inl ⟨by rfl, fun w hw' => by go_simp⟩) hS ?_
      refine wpAnyH_take (i := 7) (fuel := 8) (v := .int .i64 (K2 : Int)) rfl (by kernel_rfl) (by kernel_rfl) (by kernel_rfl) (fun _ _ _ h => h) (Or.inl ⟨by rfl, fun w hw' => by go_simp⟩) hS ?_
      refine wpAnyH_take (i := 8) (fuel := 7) (v := .int .i64 (K3 : Int)) rfl (by kernel_rfl) (by kernel_rfl) (by kernel_rfl) (fun _ _ _ h => h) (Or.inl ⟨by rfl, fun w hw' => by go_simp⟩) hS ?_
      refine wpAnyH_take (i := 9) (fuel := 6) (v := .pointer (some ⟨w.heap.size, K3, none⟩)) rfl (by kernel_rfl) (by kernel_rfl) (by kernel_rfl) (fun _ _ _ h => h) (Or.inl ⟨by rfl, fun w hw' => by go_simp⟩) hS ?_
      refine wpAnyH_take (i := 10) (fuel := 5) (v := .int .i64 y) rfl (by kernel_rfl) (by kernel_rfl) (by kernel_rfl) (fun _ _ _ h => h) (Or.inl ⟨by rfl, fun w hw' => by have hc9 := (HC.out _ hw'.1).2; go_simp⟩) hS ?_
      refine wpAnyH_take (i := 11) (fuel := 4) (v := .int .i64 (x * 16 + y)) rfl (by kernel_rfl) (by kernel_rfl) (by kernel_rfl) (fun _ _ _ h => h) (Or.inl ⟨by rfl, fun w hw' => by go_simp⟩) hS ?_
      refine wpAnyH_take (i := 12) (fuel := 3) (v := .int .u8 (x * 16 + y)) rfl (by kernel_rfl) (by kernel_rfl) (by kernel_rfl) (fun _ _ _ h => h) (Or.inl ⟨by rfl, fun w hw' => by go_simp⟩) hS ?_
      refine wpAnyH_ready (rs := [13]) (fuel := 2) (by kernel_rfl) (by simp) ?_
      refine AllReadyH.cons rfl (fun K hK => ?_) AllReadyH.nil
      go_simp
      have hRA : RowAt (wr.alloc (.cells #[.int .u8 (x * 16 + y)] 5)).drew w.heap.size f := R1.alloc _
      refine hK.out _ _ ⟨hRA, trivial⟩ (fun _ => ?_)
      clear hK hRA
      have hne : ∀ q, q ≤ w.heap.size → some q ≠ Value.ownBlock u3 := fun q hq e => by have := (ho.lt q e.symm).1; omega
      refine tail_append (w := wr.drew) (i := 14) (j := 15) (fuel := 0) (by kernel_rfl) (by kernel_rfl) (by kernel_rfl) rfl rfl rfl rfl _ _ _ rfl rfl (w.heap.size + 1) u3 (Bk.jnK f k) rfl ho rfl hlen (by have := R1.1; show _ ≤ wr.heap.size; omega) (by omega) (by omega) (fun v' => rfl) ?_
      intro v' w6 hown' hgrow
      have V1 : RowAt w6 w.heap.size f := (show RowAt wr.drew w.heap.size f from R1).grown (hne _ (Nat.le_refl _)) hgrow
      refine ⟨⟨V1, trivial⟩, ?_⟩
      have B6 : Below w.heap.size w w6 := ((show Below w.heap.size w wr.drew from B1.drew).alloc B1.size _).grown hgrow (by have := B1.size; show _ ≤ (wr.alloc _).heap.size; simp; omega) (fun j hj => by have := (ho.lt j hj).1; omega)
      rw [← HNN.out] at hown'
      go_wp2_with fail
      exact ⟨⟨k + 1, by omega, by go_num, hown', V1, B6⟩, by simp [intOf]; omega⟩
    · obtain rfl : k = 8 := by omega
      have hk1 : decide ((8 : Int) < 8) = false := by decide
      have hcv := conv_own (l := Bk.jnK f 8) ho
      go_wp2_with fail
      go_ret
      exact ⟨rfl, B1⟩
end Go.Proofs.Ytbjbjbpgmojcbaa
