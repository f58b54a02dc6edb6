/- A part of the proof: what it leans on. -/
import Derived.Laws.StructEq
import Derived.Deep.DrawnRows
import Derived.Deep.AppendLies
import Derived.Test.YtbjbjbpgmojcbabGreatLrBook01
import Derived.Test.YtbjbjbpgmojcbabGreatLrBook02
import Derived.Test.YtbjbjbpgmojcbabGreatLrBook03
import Derived.Test.YtbjbjbpgmojcbabGreatLrBook04
import Derived.Test.YtbjbjbpgmojcbabGreatLrBook05
namespace Go.Proofs.YtbjbjbpgmojcbabGreat
open Go.RowKit
namespace Bk
def jnK (f : Nat → Int) (k : Nat) : List UInt8 := (List.range k).map fun j => UInt8.ofNat (f (2 * j) * 16 + f (2 * j + 1)).toNat
def jn (f : Nat → Int) : List UInt8 := jnK f 8
theorem jnK_next (f : Nat → Int) (k : Nat) : jnK f (k + 1) = jnK f k ++ [UInt8.ofNat (f (2 * k) * 16 + f (2 * k + 1)).toNat] := by
  unfold jnK
  rw [List.range_succ, List.map_append]
  rfl
theorem jnK_len (f : Nat → Int) (k : Nat) : (jnK f k).length = k := by simp [jnK]
end Bk
theorem step_own {o : Oper} {a : Act} {w : World} {K : Act → World → Prop} {Q : Exit → Act → World → Prop} (s x : Operand)
    (ho : o.op = .call { callee := .builtin .append, args := #[s, x], argTypes := #[93, 93] })
    (base : Nat) (v : Value) (l : List UInt8) (hs : a.eval s = v) (hown : w.ownsRow base 5 1 v l.length (bcs l)) (n : Int) (hx : a.eval x = .slice (some ⟨w.heap.size, 0, none⟩) 1 1)
    (hl : l.length ≤ 100000) (hbase : base ≤ w.heap.size) (h0 : 0 ≤ n) (h1 : n < 256)
    (h : ∀ v' w', w'.ownsRow base 5 1 v' (l ++ [UInt8.ofNat n.toNat]).length (bcs (l ++ [UInt8.ofNat n.toNat])) → (w.alloc (.cells #[.int .u8 n] 5)).grownBy w' v.ownBlock → K (a.put o.dst v') w') : o.wp Tryz.prog a (w.alloc (.cells #[.int .u8 n] 5)) K Q := by
  obtain ⟨i0, hi, hz0, hz1, hz2⟩ := info_parts info_u8
  refine wp_append_own _ s x 93 ho base 5 i0 (.int .u8 0) 1 1 Tryz.underlying93 hi hz0 hz1 hz2 rfl (by decide) v l.length (bcs l) hs (hown.alloc _) ⟨w.heap.size, 0, none⟩ 1 1 [.int .u8 n] hx rfl (cell_one_new _ _ _) (one_u8 _) (ml_le (by omega)) (by omega) (by simp; omega) ?_
  intro v' w' h2 h3 _
  refine h v' w' ?_ h3
  rw [bcs_snoc l n h0 h1, List.length_append]
  exact h2
theorem tail_append {md : Region.Mode} {ops : Array Oper} {Q : Exit → Act → World → Prop} {S : World → Prop} {i j : Nat} {o p : Oper} {fuel : Nat} {listed : Array Bool} {a : Act} {w : World} {n : Int}
    (hr : Region.ready md ops listed = [i]) (hr2 : Region.ready md ops (listed.setIfInBounds i true) = [j]) (hr3 : Region.ready md ops ((listed.setIfInBounds i true).setIfInBounds j true) = []) (ho : ops[i]? = some o) (hp : ops[j]? = some p) (hg : o.guard = none) (hgp : p.guard = none)
    (s x y : Operand) (hop : o.op = .call { callee := .builtin .append, args := #[s, x], argTypes := #[93, 93] }) (hpo : p.op = .assign y)
    (base : Nat) (v : Value) (l : List UInt8) (hs : a.eval s = v) (hown : w.ownsRow base 5 1 v l.length (bcs l)) (hx : a.eval x = .slice (some ⟨w.heap.size, 0, none⟩) 1 1)
    (hl : l.length ≤ 100000) (hbase : base ≤ w.heap.size) (h0 : 0 ≤ n) (h1 : n < 256) (hy : ∀ v', (a.put o.dst v').eval y = v')
    (h : ∀ v' w', w'.ownsRow base 5 1 v' (l ++ [UInt8.ofNat n.toNat]).length (bcs (l ++ [UInt8.ofNat n.toNat])) → (w.alloc (.cells #[.int .u8 n] 5)).grownBy w' v.ownBlock → S w' ∧ Q .normal ((a.put o.dst v').put p.dst v') w') : wpAnyH Tryz.prog md ops Q S (fuel + 2) listed a (w.alloc (.cells #[.int .u8 n] 5)) :=
  wpAnyH_all (fuel := fuel + 1) hr (by simp) (fun k hk => by
    obtain rfl : k = i := by simpa using hk
    refine wpOp_step ho (fun K hK => step_wanted hg ?_)
    refine step_own s x hop base v l hs hown n hx hl hbase h0 h1 (fun v' w' h2 h3 => hK _ _ ?_)
    obtain ⟨h4, h5⟩ := h v' w' h2 h3
    refine ⟨h4, last_take (i := j) (o := p) (v := v') hr2 hr3 hp (Or.inl ⟨by simp [Region.wanted, hgp], fun w _ => ?_⟩) h4 h5⟩
    unfold execOp
    simp only [hpo, hy, Sem.run_pure])
set_option maxRecDepth 4000 in
set_option maxHeartbeats 1000000 in
theorem joined_any (f : Nat → Int) (w : World) (hR : Cd.InR f 15 16) :
    Calls Tryz.prog 163 #[.agg (arr f)] w fun e w' => e = .returned (.string ⟨(Bk.jn f).toArray⟩) ∧ Below w.heap.size w w' := by
  have R1 := RowAt.new w f
  have B1 : Below w.heap.size w (w.alloc (.cells (arr f) 127)) := (Below.refl _ _).alloc (Nat.le_refl _) _
  have HR : Hid (Cd.InR f 15 16) := hR
  clear hR
  go_enter Tryz.func163, Tryz.ntmps163
  go_wp2_with fail
  generalize w.alloc (.cells (arr f) 127) = w0 at *
  go_loopw [3, 5] (fun v i wr => ∃ k : Nat, k ≤ 8 ∧ i = .int .i64 k ∧ wr.ownsRow (w.heap.size + 1) 5 1 v (Bk.jnK f k).length (bcs (Bk.jnK f k)) ∧ RowAt wr w.heap.size f ∧ Below w.heap.size w wr) (fun _ i _ => 8 - (intOf i).toNat)
  case atStart => exact ⟨0, by omega, rfl, World.ownsRow_nil _ _ _ _, R1, B1⟩
  case round =>
    clear R1 B1
    obtain ⟨k, hk, rfl, ho, R1, B1⟩ := hrel
    by_cases hlt : k < 8
    · have hk1 : decide ((k : Int) < 8) = true := by simp; omega
      have hk2 : decide (k < 8) = true := by simp; omega
      obtain ⟨K2, hK2e⟩ : ∃ K2, 2 * k = K2 := ⟨_, rfl⟩
      obtain ⟨K3, hK3e⟩ : ∃ K3, 2 * k + 1 = K3 := ⟨_, rfl⟩
      have hK2 : K2 < 16 := by omega
      have hK3 : K3 < 16 := by omega
      have m2 : 2 * (k : Int) = (K2 : Int) := by omega
      have m3 : (K2 : Int) + 1 = (K3 : Int) := by omega
      have hK2i : (K2 : Int) < 16 := by omega
      have hK3i : (K3 : Int) < 16 := by omega
      have HN := Bk.jnK_next f k
      rw [hK3e, hK2e] at HN
      have HNN : Hid (Bk.jnK f (k + 1) = Bk.jnK f k ++ [UInt8.ofNat (f K2 * 16 + f K3).toNat]) := HN
      have hx := HR.out K2 hK2
      have hy := HR.out K3 hK3
      have hlen : (Bk.jnK f k).length ≤ 100000 := by rw [Bk.jnK_len]; omega
      have hcs : ∀ w', RowAt w' w.heap.size f → w'.cell? ⟨w.heap.size, K2, none⟩ = some (.int .i64 (f K2)) ∧ w'.cell? ⟨w.heap.size, K3, none⟩ = some (.int .i64 (f K3)) := fun w' h => ⟨h.cell K2 hK2, h.cell K3 hK3⟩
      have HC : Hid (∀ w', RowAt w' w.heap.size f → w'.cell? ⟨w.heap.size, K2, none⟩ = some (.int .i64 (f K2)) ∧ w'.cell? ⟨w.heap.size, K3, none⟩ = some (.int .i64 (f K3))) := hcs
      clear HN hcs hK2e hK3e
      obtain ⟨x, hxe⟩ : ∃ x, f K2 = x := ⟨_, rfl⟩
      obtain ⟨y, hye⟩ : ∃ y, f K3 = y := ⟨_, rfl⟩
      rw [hxe, hye] at HNN HC
      rw [hxe] at hx
      rw [hye] at hy
      clear hxe hye
      obtain ⟨hx0, hx1⟩ := hx
      obtain ⟨hy0, hy1⟩ := hy
      have w1 : IntKind.i64.wrap (x * 16) = x * 16 := IntWalk.i64_in _ ⟨by omega, by omega⟩
      have w2 : IntKind.i64.wrap (x * 16 + y) = x * 16 + y := IntWalk.i64_in _ ⟨by omega, by omega⟩
      have w3 : IntKind.u8.wrap (x * 16 + y) = x * 16 + y := IntWalk.u8_in _ ⟨by omega, by omega⟩
      have w4 : IntKind.i64.wrap (K2 : Int) = (K2 : Int) := IntWalk.i64_in _ ⟨by omega, by omega⟩
      have w5 : IntKind.i64.wrap (K3 : Int) = (K3 : Int) := IntWalk.i64_in _ ⟨by omega, by omega⟩
      go_wp2_with fail
      refine wp_region_held_drew (S := fun w' => RowAt w' w.heap.size f ∧ True) (by kernel_rfl) ⟨R1, trivial⟩ (fun hS => ?_)
      refine wpAnyH_take (i := 0) (fuel := 15) (v := u3) rfl (by kernel_rfl) (by kernel_rfl) (by kernel_rfl) (fun _ _ _ h => h) (Or.inl ⟨by rfl, fun w hw' => by go_simp⟩) hS ?_
      refine wpAnyH_take (i := 1) (fuel := 14) (v := .int .i64 (k : Int)) rfl (by kernel_rfl) (by kernel_rfl) (by kernel_rfl) (fun _ _ _ h => h) (Or.inl ⟨by rfl, fun w hw' => by go_simp⟩) hS ?_
      refine wpAnyH_take (i := 2) (fuel := 13) (v := .int .i64 (K2 : Int)) rfl (by kernel_rfl) (by kernel_rfl) (by kernel_rfl) (fun _ _ _ h => h) (Or.inl ⟨by rfl, fun w hw' => by go_simp⟩) hS ?_
      refine wpAnyH_take (i := 3) (fuel := 12) (v := .pointer (some ⟨w.heap.size, K2, none⟩)) rfl (by kernel_rfl) (by kernel_rfl) (by kernel_rfl) (fun _ _ _ h => h) (Or.inl ⟨by rfl, fun w hw' => by go_simp⟩) hS ?_
      refine wpAnyH_take (i := 4) (fuel := 11) (v := .int .i64 x) rfl (by kernel_rfl) (by kernel_rfl) (by kernel_rfl) (fun _ _ _ h => h) (Or.inl ⟨by rfl, fun w hw' => by have hc9 := (HC.out _ hw'.1).1; go_simp⟩) hS ?_
      refine wpAnyH_take (i := 5) (fuel := 10) (v := .int .i64 (x * 16)) rfl (by kernel_rfl) (by kernel_rfl) (by kernel_rfl) (fun _ _ _ h => h) (Or.inl ⟨by rfl, fun w hw' => by go_simp⟩) hS ?_
      refine wpAnyH_take (i := 6) (fuel := 9) (v := .int .i64 (k : Int)) rfl (by kernel_rfl) (by kernel_rfl) (by kernel_rfl) (fun _ _ _ h => h) (Or.inl ⟨by rfl, fun w hw' => by go_simp⟩) hS ?_
      refine wpAnyH_take (i := 7) (fuel := 8) (v := .int .i64 (K2 : Int)) rfl (by kernel_rfl) (by kernel_rfl) (by kernel_rfl) (fun _ _ _ h => h) (Or.inl ⟨by rfl, fun w hw' => by go_simp⟩) hS ?_
      refine wpAnyH_take (i := 8) (fuel := 7) (v := .int .i64 (K3 : Int)) rfl (by kernel_rfl) (by kernel_rfl) (by kernel_rfl) (fun _ _ _ h => h) (Or.inl ⟨by rfl, fun w hw' => by go_simp⟩) hS ?_
      refine wpAnyH_take (i := 9) (fuel := 6) (v := .pointer (some ⟨w.heap.size, K3, none⟩)) rfl (by kernel_rfl) (by kernel_rfl) (by kernel_rfl) (fun _ _ _ h => h) (Or.inl ⟨by rfl, fun w hw' => by go_simp⟩) hS ?_
      refine wpAnyH_take (i := 10) (fuel := 5) (v := .int .i64 y) rfl (by kernel_rfl) (by kernel_rfl) (by kernel_rfl) (fun _ _ _ h => h) (Or.inl ⟨by rfl, fun w hw' => by have hc9 := (HC.out _ hw'.1).2; go_simp⟩) hS ?_
      refine wpAnyH_take (i := 11) (fuel := 4) (v := .int .i64 (x * 16 + y)) rfl (by kernel_rfl) (by kernel_rfl) (by kernel_rfl) (fun _ _ _ h => h) (Or.inl ⟨by rfl, fun w hw' => by go_simp⟩) hS ?_
      refine wpAnyH_take (i := 12) (fuel := 3) (v := .int .u8 (x * 16 + y)) rfl (by kernel_rfl) (by kernel_rfl) (by kernel_rfl) (fun _ _ _ h => h) (Or.inl ⟨by rfl, fun w hw' => by go_simp⟩) hS ?_
      refine wpAnyH_ready (rs := [13]) (fuel := 2) (by kernel_rfl) (by simp) ?_
      refine AllReadyH.cons rfl (fun K hK => ?_) AllReadyH.nil
      go_simp
      have hRA : RowAt (wr.alloc (.cells #[.int .u8 (x * 16 + y)] 5)).drew w.heap.size f := R1.alloc _
      refine hK.out _ _ ⟨hRA, trivial⟩ (fun _ => ?_)
      clear hK hRA
      have hne : ∀ q, q ≤ w.heap.size → some q ≠ Value.ownBlock u3 := fun q hq e => by have := (ho.lt q e.symm).1; omega
      refine tail_append (w := wr.drew) (i := 14) (j := 15) (fuel := 0) (by kernel_rfl) (by kernel_rfl) (by kernel_rfl) rfl rfl rfl rfl _ _ _ rfl rfl (w.heap.size + 1) u3 (Bk.jnK f k) rfl ho rfl hlen (by have := R1.1; show _ ≤ wr.heap.size; omega) (by omega) (by omega) (fun v' => rfl) ?_
      intro v' w6 hown' hgrow
      have V1 : RowAt w6 w.heap.size f := (show RowAt wr.drew w.heap.size f from R1).grown (hne _ (Nat.le_refl _)) hgrow
      refine ⟨⟨V1, trivial⟩, ?_⟩
      have B6 : Below w.heap.size w w6 := ((show Below w.heap.size w wr.drew from B1.drew).alloc B1.size _).grown hgrow (by have := B1.size; show _ ≤ (wr.alloc _).heap.size; simp; omega) (fun j hj => by have := (ho.lt j hj).1; omega)
      rw [← HNN.out] at hown'
      go_wp2_with fail
      exact ⟨⟨k + 1, by omega, by go_num, hown', V1, B6⟩, by simp [intOf]; omega⟩
    · obtain rfl : k = 8 := by omega
      have hk1 : decide ((8 : Int) < 8) = false := by decide
      have hcv := conv_own (l := Bk.jnK f 8) ho
      go_wp2_with fail
      go_ret
      exact ⟨rfl, B1⟩
end Go.Proofs.YtbjbjbpgmojcbabGreat
namespace Go.Proofs.YtbjbjbpgmojcbabGreat
open Go.RowKit
set_option linter.unusedVariables false
theorem wrt_size (f : Nat → Int) (s : ByteArray) : (Cd.wrt f s).1.size ≤ 140737488355328 := by
  have z : (⟨#[]⟩ : ByteArray).size ≤ 140737488355328 := by decide
  unfold Cd.wrt
  by_cases h : Cd.chk f = 0
  · rw [if_neg (fun h9 => h9 h)]
    by_cases h1 : 1024 < s.size
    · rw [if_pos h1]; exact z
    · rw [if_neg h1]
      cases hq : Cd.wrK f s s.size with
      | none => exact z
      | some bs =>
        simp only
        rw [Cd.size_pk]
        have := Cd.wrK_len (Cd.chk_zero h).1 _ bs hq
        omega
  · rw [if_pos h]; exact z
end Go.Proofs.YtbjbjbpgmojcbabGreat
namespace Go.Proofs.YtbjbjbpgmojcbabGreat.Cd
theorem tot_congr {g h : Nat → Int} : ∀ k, (∀ i, i < k → g i = h i) → tot g k = tot h k := by
  intro k
  induction k with
  | zero => intro _; rfl
  | succ k ih => intro e; rw [tot, tot, ih (fun i hi => e i (by omega)), e k (by omega)]
theorem tot_chg {g h : Nat → Int} {p : Nat} : ∀ k, p < k → (∀ i, i < k → i ≠ p → g i = h i) → tot g k + h p = tot h k + g p := by
  intro k
  induction k with
  | zero => intro h; omega
  | succ k ih =>
    intro hp e
    rw [tot, tot]
    by_cases hk : p = k
    · subst hk
      rw [tot_congr p (fun i hi => e i (by omega) (by omega))]
      omega
    · have h1 := ih (by omega) (fun i hi => e i (by omega))
      have h2 := e k (by omega) (by omega)
      omega
theorem tot_chg2 {g h : Nat → Int} {p q k : Nat} (hp : p < k) (hq : q < k) (hne : p ≠ q) (e : ∀ i, i < k → i ≠ p → i ≠ q → g i = h i) : tot g k + h p + h q = tot h k + g p + g q := by
  have h1 : tot g k + upd g p (h p) p = tot (upd g p (h p)) k + g p := tot_chg k hp (fun i _ hi => (upd_other g _ hi).symm)
  have h2 : tot (upd g p (h p)) k + h q = tot h k + upd g p (h p) q := tot_chg k hq (fun i hi h9 => by
    by_cases h8 : i = p
    · subst h8; exact upd_same _ _ _
    · rw [upd_other _ _ h8]; exact e i hi h8 h9)
  rw [upd_same] at h1
  rw [upd_other _ _ (fun e => hne e.symm)] at h2
  omega
theorem tot_dvd {g : Nat → Int} {d : Int} : ∀ k, (∀ i, i < k → d ∣ g i) → d ∣ tot g k := by
  intro k
  induction k with
  | zero => intro _; exact ⟨0, by simp [tot]⟩
  | succ k ih => intro h; rw [tot]; exact Int.dvd_add (ih (fun i hi => h i (by omega))) (h k (by omega))
theorem has_max (R : Nat → Nat) (P : Nat → Prop) : ∀ k, (∃ i, i < k ∧ P i) → ∃ a, a < k ∧ P a ∧ ∀ i, i < k → P i → R i ≤ R a := by
  intro k
  induction k with
  | zero => rintro ⟨i, h, _⟩; omega
  | succ k ih =>
    rintro ⟨i, hi, hP⟩
    by_cases h : ∃ i, i < k ∧ P i
    · obtain ⟨a, ha, hPa, hm⟩ := ih h
      by_cases hk : P k ∧ R a < R k
      · refine ⟨k, by omega, hk.1, fun j hj hPj => ?_⟩
        by_cases e : j = k
        · subst e; exact Nat.le_refl _
        · have := hm j (by omega) hPj; omega
      · refine ⟨a, by omega, hPa, fun j hj hPj => ?_⟩
        by_cases e : j = k
        · subst e
          have h9 : ¬ R a < R j := fun h8 => hk ⟨hPj, h8⟩
          omega
        · exact hm j (by omega) hPj
    · obtain rfl : i = k := by
        by_cases e : i = k
        · exact e
        · exact absurd ⟨i, by omega, hP⟩ h
      refine ⟨i, by omega, hP, fun j hj hPj => ?_⟩
      by_cases e : j = i
      · subst e; exact Nat.le_refl _
      · exact absurd ⟨j, by omega, hPj⟩ h
def kr (W : Nat → Int) (R : Nat → Nat) (M : Nat) (i : Nat) : Int := if W i = 0 then 0 else 2 ^ (M - R i)
def cs (W : Nat → Int) (R : Nat → Nat) (i : Nat) : Int := W i * (R i : Int)
def updN (f : Nat → Nat) (k v : Nat) : Nat → Nat := fun i => if i = k then v else f i
theorem updN_same (f : Nat → Nat) (k v : Nat) : updN f k v k = v := by simp [updN]
theorem updN_other (f : Nat → Nat) {k i : Nat} (v : Nat) (h : i ≠ k) : updN f k v i = f i := by simp [updN, h]
theorem kr_ge (W : Nat → Int) (R : Nat → Nat) (M i : Nat) : 0 ≤ kr W R M i := by
  unfold kr
  split
  · exact Int.le_refl _
  · have := pow_pos (M - R i); omega
theorem kr_pos {W : Nat → Int} {R : Nat → Nat} {M i : Nat} (h : W i ≠ 0) : kr W R M i = 2 ^ (M - R i) := by rw [kr, if_neg h]
structure Fit (W : Nat → Int) (M : Nat) (R : Nat → Nat) : Prop where
  le : ∀ i, i < 16 → W i ≠ 0 → R i ≤ M
  sum : tot (kr W R M) 16 ≤ 2 ^ M
theorem two_pow (a b : Nat) : (2 : Int) ^ (a + b) = 2 ^ a * 2 ^ b := Int.pow_add ..
theorem fit_two {W : Nat → Int} {M : Nat} {R : Nat → Nat} (hW : ∀ i, i < 16 → 0 ≤ W i) (h : Fit W M R) {p q : Nat} (hp : p < 16) (hq : q < 16) (hne : p ≠ q) (np : W p ≠ 0) (nq : W q ≠ 0) :
    ∃ R1 y a b, Fit W M R1 ∧ tot (cs W R1) 16 ≤ tot (cs W R) 16 ∧ a < 16 ∧ b < 16 ∧ a ≠ b ∧ W a ≠ 0 ∧ W b ≠ 0 ∧ R1 a = y ∧ R1 b = y ∧ ∀ i, i < 16 → W i ≠ 0 → R1 i ≤ y := by
  obtain ⟨a, ha, na, ma⟩ := has_max R (fun i => W i ≠ 0) 16 ⟨p, hp, np⟩
  obtain ⟨b, hb, nb, mb⟩ := has_max R (fun i => W i ≠ 0 ∧ i ≠ a) 16 (by
    by_cases e : p = a
    · exact ⟨q, hq, nq, by omega⟩
    · exact ⟨p, hp, np, e⟩)
  have hyM := h.le b hb nb.1
  have hxM := h.le a ha na
  refine ⟨updN R a (R b), R b, a, b, ⟨?_, ?_⟩, ?_, ha, hb, fun e => nb.2 e.symm, na, nb.1, updN_same _ _ _, updN_other _ _ nb.2, ?_⟩
  · intro i hi ni
    by_cases e : i = a
    · subst e; rw [updN_same]; exact hyM
    · rw [updN_other _ _ e]; exact h.le i hi ni
  · -- what is left has room
    have c1 := tot_chg (g := kr W (updN R a (R b)) M) (h := upd (kr W R M) a 0) (p := a) 16 ha (fun i _ e => by rw [upd_other _ _ e, kr, kr, updN_other _ _ e])
    have c2 := tot_chg (g := kr W R M) (h := upd (kr W R M) a 0) (p := a) 16 ha (fun i _ e => by rw [upd_other _ _ e])
    rw [upd_same] at c1 c2
    rw [kr_pos (R := updN R a (R b)) na, updN_same] at c1
    rw [kr_pos na] at c2
    have hd : (2 : Int) ^ (M - R b) ∣ tot (upd (kr W R M) a 0) 16 := tot_dvd 16 (fun i hi => by
      by_cases e : i = a
      · subst e; rw [upd_same]; exact ⟨0, by simp⟩
      · rw [upd_other _ _ e, kr]
        split
        · exact ⟨0, by simp⟩
        · rename_i ni
          have := mb i hi ⟨ni, e⟩
          exact ⟨2 ^ (R b - R i), by rw [← two_pow]; congr 1; omega⟩)
    obtain ⟨j, hj⟩ := hd
    have hs := h.sum
    have h1 := pow_pos (M - R a)
    have h2 := pow_pos (M - R b)
    have hM : (2 : Int) ^ M = 2 ^ (M - R b) * 2 ^ R b := by rw [← two_pow]; congr 1; omega
    generalize (2 : Int) ^ (M - R b) = u at *
    generalize (2 : Int) ^ R b = v at *
    have hlt : u * j < u * v := by omega
    have hjv : j < v := Int.lt_of_mul_lt_mul_left hlt (by omega)
    have h3 : u * (j + 1) ≤ u * v := Int.mul_le_mul_of_nonneg_left (by omega) (by omega)
    rw [Int.mul_add, Int.mul_one] at h3
    omega
  · have c1 := tot_chg (g := cs W (updN R a (R b))) (h := cs W R) (p := a) 16 ha (fun i _ e => by rw [cs, cs, updN_other _ _ e])
    have h1 : cs W (updN R a (R b)) a ≤ cs W R a := by
      unfold cs
      rw [updN_same]
      exact Int.mul_le_mul_of_nonneg_left (by have := ma b hb nb.1; omega) (hW a ha)
    omega
  · intro i hi ni
    by_cases e : i = a
    · subst e; rw [updN_same]; exact Nat.le_refl _
    · rw [updN_other _ _ e]; exact mb i hi ⟨ni, e⟩
theorem fit_swap {W : Nat → Int} {M : Nat} {R : Nat → Nat} (h : Fit W M R) {p a : Nat} (hp : p < 16) (ha : a < 16) (hne : p ≠ a) (np : W p ≠ 0) (na : W a ≠ 0) (hw : W p ≤ W a) (hr : R p ≤ R a) :
    Fit W M (updN (updN R p (R a)) a (R p)) ∧ tot (cs W (updN (updN R p (R a)) a (R p))) 16 ≤ tot (cs W R) 16 := by
  have ep : updN (updN R p (R a)) a (R p) p = R a := by rw [updN_other _ _ hne, updN_same]
  have ea : updN (updN R p (R a)) a (R p) a = R p := updN_same _ _ _
  have eo : ∀ i, i ≠ p → i ≠ a → updN (updN R p (R a)) a (R p) i = R i := fun i h1 h2 => by rw [updN_other _ _ h2, updN_other _ _ h1]
  generalize updN (updN R p (R a)) a (R p) = R1 at *
  refine ⟨⟨fun i hi ni => ?_, ?_⟩, ?_⟩
  · by_cases e1 : i = p
    · subst e1; rw [ep]; exact h.le a ha na
    · by_cases e2 : i = a
      · subst e2; rw [ea]; exact h.le p hp np
      · rw [eo i e1 e2]; exact h.le i hi ni
  · have c := tot_chg2 (g := kr W R1 M) (h := kr W R M) hp ha hne (fun i _ h1 h2 => by rw [kr, kr, eo i h1 h2])
    rw [kr_pos np, kr_pos na, kr_pos np, kr_pos na, ep, ea] at c
    have := h.sum
    omega
  · have c := tot_chg2 (g := cs W R1) (h := cs W R) hp ha hne (fun i _ h1 h2 => by rw [cs, cs, eo i h1 h2])
    unfold cs at c ⊢
    rw [ep, ea] at c
    have h1 : 0 ≤ (W a - W p) * ((R a : Int) - (R p : Int)) := Int.mul_nonneg (by omega) (by omega)
    rw [Int.sub_mul, Int.mul_sub, Int.mul_sub] at h1
    omega
theorem fit_deep {W : Nat → Int} {M : Nat} {R : Nat → Nat} (hW : ∀ i, i < 16 → 0 ≤ W i) (h : Fit W M R) {p q : Nat} (hp : p < 16) (hq : q < 16) (hne : p ≠ q) (np : W p ≠ 0) (nq : W q ≠ 0)
    (lp : ∀ i, i < 16 → W i ≠ 0 → W p ≤ W i) (lq : ∀ i, i < 16 → W i ≠ 0 → i ≠ p → W q ≤ W i) :
    ∃ R1 y, Fit W M R1 ∧ tot (cs W R1) 16 ≤ tot (cs W R) 16 ∧ R1 p = y ∧ R1 q = y := by
  obtain ⟨R1, y, a, b, f1, c1, ha, hb, hab, na, nb, ea, eb, mx⟩ := fit_two hW h hp hq hne np nq
  have s1 : ∃ R2 b, Fit W M R2 ∧ tot (cs W R2) 16 ≤ tot (cs W R1) 16 ∧ R2 p = y ∧ b < 16 ∧ b ≠ p ∧ W b ≠ 0 ∧ R2 b = y ∧ ∀ i, i < 16 → W i ≠ 0 → R2 i ≤ y := by
    by_cases e : R1 p = y
    · by_cases e2 : b = p
      · exact ⟨R1, a, f1, Int.le_refl _, e, ha, by omega, na, ea, mx⟩
      · exact ⟨R1, b, f1, Int.le_refl _, e, hb, e2, nb, eb, mx⟩
    · have hpa : p ≠ a := fun h => e (by rw [h]; exact ea)
      have hpb : b ≠ p := fun h => e (by rw [← h]; exact eb)
      obtain ⟨f2, c2⟩ := fit_swap f1 hp ha hpa np na (lp a ha na) (by rw [ea]; exact mx p hp np)
      refine ⟨_, b, f2, c2, by rw [updN_other _ _ hpa, updN_same, ea], hb, hpb, nb, by rw [updN_other _ _ (fun e => hab e.symm), updN_other _ _ hpb]; exact eb, fun i hi ni => ?_⟩
      by_cases e1 : i = a
      · subst e1; rw [updN_same]; exact mx p hp np
      · rw [updN_other _ _ e1]
        by_cases e2 : i = p
        · subst e2; rw [updN_same, ea]; exact Nat.le_refl _
        · rw [updN_other _ _ e2]; exact mx i hi ni
  obtain ⟨R2, b, f2, c2, ep, hb, hbp, nb, eb, mx⟩ := s1
  by_cases e : R2 q = y
  · exact ⟨R2, y, f2, by omega, ep, e⟩
  · have hqb : q ≠ b := fun h => e (by rw [h]; exact eb)
    obtain ⟨f3, c3⟩ := fit_swap f2 hq hb hqb nq nb (lq b hb nb hbp) (by rw [eb]; exact mx q hq nq)
    exact ⟨_, y, f3, by omega, by rw [updN_other _ _ (fun e => hbp e.symm), updN_other _ _ hne]; exact ep, by rw [updN_other _ _ hqb, updN_same]; exact eb⟩
theorem rW_at {W : Nat → Int} {p q : Nat} (hne : p ≠ q) : rW W p q (min p q) = W p + W q ∧ rW W p q (max p q) = 0 ∧ ∀ i, i ≠ p → i ≠ q → rW W p q i = W i := by
  refine ⟨upd_same _ _ _, ?_, fun i h1 h2 => ?_⟩
  · unfold rW
    rw [upd_other _ _ (by omega)]
    by_cases h : p ≤ q
    · rw [show max p q = q by omega, upd_same]
    · rw [show max p q = p by omega, upd_other _ _ (by omega), upd_same]
  · unfold rW
    rw [upd_other _ _ (by omega), upd_other _ _ h2, upd_other _ _ h1]
theorem tot_mm {g h : Nat → Int} {p q : Nat} (hp : p < 16) (hq : q < 16) (hne : p ≠ q) (e : ∀ i, i < 16 → i ≠ p → i ≠ q → g i = h i) : tot g 16 + h (min p q) + h (max p q) = tot h 16 + g p + g q := by
  have c := tot_chg2 hp hq hne e
  by_cases h9 : p ≤ q
  · rw [show min p q = p by omega, show max p q = q by omega]; omega
  · rw [show min p q = q by omega, show max p q = p by omega]; omega
theorem fit_merge {W : Nat → Int} {M : Nat} {R : Nat → Nat} (hW : ∀ i, i < 16 → 0 ≤ W i) (h : Fit W M R) {p q y : Nat} (hp : p < 16) (hq : q < 16) (hne : p ≠ q) (np : W p ≠ 0) (nq : W q ≠ 0) (ep : R p = y) (eq : R q = y) :
    Fit (rW W p q) M (updN R (min p q) (y - 1)) ∧ tot (cs (rW W p q) (updN R (min p q) (y - 1))) 16 + W p + W q = tot (cs W R) 16 := by
  obtain ⟨w1, w2, w3⟩ := rW_at (W := W) hne
  have hyM := h.le p hp np
  rw [ep] at hyM
  have hWp := hW p hp
  have hWq := hW q hq
  have nn : ¬ rW W p q (min p q) = 0 := by rw [w1]; omega
  have hmm : max p q ≠ min p q := by omega
  have hy : 1 ≤ y := by
    rcases Nat.eq_zero_or_pos y with h0 | h0
    · exfalso
      have c := tot_chg2 (g := upd (upd (kr W R M) p 0) q 0) (h := kr W R M) hp hq hne (fun i _ h1 h2 => by rw [upd_other _ _ h2, upd_other _ _ h1])
      have g0 := tot_ge (W := upd (upd (kr W R M) p 0) q 0) 16 (fun i _ => by
        unfold upd
        split
        · exact Int.le_refl _
        · split
          · exact Int.le_refl _
          · exact kr_ge _ _ _ _)
      rw [upd_same, upd_other _ _ hne, upd_same, kr_pos np, kr_pos nq, ep, eq, h0] at c
      have h1 := pow_pos M
      have hs := h.sum
      rw [show M - 0 = M from rfl] at c
      omega
    · exact h0
  refine ⟨⟨fun i hi ni => ?_, ?_⟩, ?_⟩
  · by_cases e1 : i = min p q
    · rw [e1, updN_same]; omega
    · rw [updN_other _ _ e1]
      by_cases e2 : i = max p q
      · exact absurd (by rw [e2]; exact w2) ni
      · rw [w3 i (by omega) (by omega)] at ni
        exact h.le i hi ni
  · have c := tot_mm (g := kr W R M) (h := kr (rW W p q) (updN R (min p q) (y - 1)) M) hp hq hne (fun i _ h1 h2 => by rw [kr, kr, w3 i h1 h2, updN_other _ _ (by omega)])
    rw [kr_pos np, kr_pos nq, ep, eq, kr_pos nn, updN_same] at c
    have e0 : kr (rW W p q) (updN R (min p q) (y - 1)) M (max p q) = 0 := by rw [kr, if_pos w2]
    have e1 : (2 : Int) ^ (M - (y - 1)) = 2 ^ (M - y) + 2 ^ (M - y) := by
      rw [show M - (y - 1) = (M - y) + 1 by omega, Int.pow_succ]; omega
    have := h.sum
    omega
  · have c := tot_mm (g := cs W R) (h := cs (rW W p q) (updN R (min p q) (y - 1))) hp hq hne (fun i _ h1 h2 => by rw [cs, cs, w3 i h1 h2, updN_other _ _ (by omega)])
    have e0 : cs (rW W p q) (updN R (min p q) (y - 1)) (max p q) = 0 := by rw [cs, w2, Int.zero_mul]
    have e1 : cs (rW W p q) (updN R (min p q) (y - 1)) (min p q) + W p + W q = cs W R p + cs W R q := by
      unfold cs
      rw [w1, updN_same, ep, eq, show ((y - 1 : Nat) : Int) = (y : Int) - 1 by omega, ← Int.add_mul, Int.mul_sub]
      omega
    omega
def hd : Nat → (Nat → Int) → Nat → Nat
  | 0, _ => fun _ => 0
  | n + 1, W => if (lt2 W 16).2 = -1 then fun _ => 0 else fun i => if i = (lt2 W 16).1.toNat ∨ i = (lt2 W 16).2.toNat then hd n (rW W (lt2 W 16).1.toNat (lt2 W 16).2.toNat) (min (lt2 W 16).1.toNat (lt2 W 16).2.toNat) + 1 else hd n (rW W (lt2 W 16).1.toNat (lt2 W 16).2.toNat) i
theorem hd_end {n : Nat} {W : Nat → Int} (h : (lt2 W 16).2 = -1) : hd n W = fun _ => 0 := by
  cases n with
  | zero => rfl
  | succ n => rw [hd, if_pos h]
theorem hd_next {n : Nat} {W : Nat → Int} {p q : Nat} (h : lt2 W 16 = ((p : Int), (q : Int))) : hd (n + 1) W = fun i => if i = p ∨ i = q then hd n (rW W p q) (min p q) + 1 else hd n (rW W p q) i := by
  rw [hd, h, if_neg (by simp only; omega)]
  rfl
theorem bldR_hd : ∀ n (W T L : Nat → Int), (∀ i, 0 ≤ T i) → ∀ i, bldR n W T L i = L i + (hd n W (T i).toNat : Int) := by
  intro n
  induction n with
  | zero => intro W T L _ i; rw [bldR, hd]; simp
  | succ n ih =>
    intro W T L hT i
    by_cases h : (lt2 W 16).2 = -1
    · rw [bldR_end h, hd_end h]; simp
    · obtain ⟨p, q, hpq, hp, hq, hne, np, nq⟩ := lt2_two h
      rw [bldR_next hpq, hd_next hpq, ih _ _ _ (fun j => by unfold rT; split; omega; exact hT j)]
      have := hT i
      unfold rT rL
      by_cases e : T i = p ∨ T i = q
      · rw [if_pos e, if_pos e]
        simp only [Int.toNat_natCast]
        rw [if_pos (by omega)]
        push_cast
        omega
      · rw [if_neg e, if_neg e]
        simp only
        rw [if_neg (by omega)]
theorem lt2_min (W : Nat → Int) : ∀ k, (∀ i, i < k → W i ≠ 0 → (lt2 W k).1 ≠ -1 ∧ W (lt2 W k).1.toNat ≤ W i) ∧ (∀ i, i < k → W i ≠ 0 → (i : Int) ≠ (lt2 W k).1 → (lt2 W k).2 ≠ -1 ∧ W (lt2 W k).2.toNat ≤ W i) := by
  intro k
  induction k with
  | zero => exact ⟨fun i h => by omega, fun i h => by omega⟩
  | succ k ih =>
    obtain ⟨i1, i2⟩ := ih
    have hs := lt2_sg W k
    rw [lt2, ltS]
    generalize lt2 W k = P at *
    obtain ⟨A, B⟩ := P
    simp only at *
    by_cases h0 : W k = 0
    · rw [if_pos h0]
      refine ⟨fun i hi ni => i1 i ?_ ni, fun i hi ni => i2 i ?_ ni⟩ <;> (by_cases e : i = k; (subst e; exact absurd h0 ni); omega)
    · rw [if_neg h0]
      by_cases h1 : A = -1 ∨ W k < W A.toNat
      · rw [if_pos h1]
        simp only [Int.toNat_natCast]
        refine ⟨fun i hi ni => ⟨by omega, ?_⟩, fun i hi ni ne => ?_⟩
        · by_cases e : i = k
          · subst e; exact Int.le_refl _
          · have := i1 i (by omega) ni; omega
        · exact i1 i (by omega) ni
      · rw [if_neg h1]
        by_cases h2 : B = -1 ∨ W k < W B.toNat
        · rw [if_pos h2]
          simp only [Int.toNat_natCast]
          refine ⟨fun i hi ni => ?_, fun i hi ni ne => ⟨by omega, ?_⟩⟩
          · by_cases e : i = k
            · subst e; omega
            · exact i1 i (by omega) ni
          · by_cases e : i = k
            · subst e; exact Int.le_refl _
            · have := i2 i (by omega) ni ne; omega
        · rw [if_neg h2]
          simp only
          refine ⟨fun i hi ni => ?_, fun i hi ni ne => ?_⟩
          · by_cases e : i = k
            · subst e; omega
            · exact i1 i (by omega) ni
          · by_cases e : i = k
            · subst e; omega
            · exact i2 i (by omega) ni ne
theorem hd_best : ∀ n (W : Nat → Int), (∀ i, i < 16 → 0 ≤ W i) → cnt W 16 ≤ n → ∀ M R, Fit W M R → tot (cs W (hd n W)) 16 ≤ tot (cs W R) 16 := by
  intro n
  induction n with
  | zero =>
    intro W hW hc M R _
    rw [hd, tot_congr (h := fun _ => 0) 16 (fun i _ => by simp [cs])]
    have h1 : tot (fun _ => (0 : Int)) 16 = 0 := by simp [tot]
    rw [h1]
    exact tot_ge 16 (fun i hi => Int.mul_nonneg (hW i hi) (by omega))
  | succ n ih =>
    intro W hW hc M R hF
    by_cases h : (lt2 W 16).2 = -1
    · rw [hd_end h, tot_congr (h := fun _ => 0) 16 (fun i _ => by simp [cs])]
      have h1 : tot (fun _ => (0 : Int)) 16 = 0 := by simp [tot]
      rw [h1]
      exact tot_ge 16 (fun i hi => Int.mul_nonneg (hW i hi) (by omega))
    · obtain ⟨p, q, hpq, hp, hq, hne, np, nq⟩ := lt2_two h
      obtain ⟨m1, m2⟩ := lt2_min W 16
      rw [hpq] at m1 m2
      simp only [Int.toNat_natCast] at m1 m2
      obtain ⟨R1, y, f1, c1, ep, eq⟩ := fit_deep hW hF hp hq hne np nq (fun i hi ni => (m1 i hi ni).2) (fun i hi ni e => (m2 i hi ni (by omega)).2)
      obtain ⟨f2, c2⟩ := fit_merge hW f1 hp hq hne np nq ep eq
      have c3 := (rW_cnt hW hp hq hne np nq).1
      have c4 := ih (rW W p q) (rW_pos hW hp hq) (by omega) M _ f2
      obtain ⟨w1, w2, w3⟩ := rW_at (W := W) hne
      rw [hd_next hpq]
      have c5 := tot_mm (g := cs W (fun i => if i = p ∨ i = q then hd n (rW W p q) (min p q) + 1 else hd n (rW W p q) i)) (h := cs (rW W p q) (hd n (rW W p q))) hp hq hne (fun i _ h1 h2 => by
        rw [cs, cs, w3 i h1 h2, if_neg (by omega)])
      have e0 : cs (rW W p q) (hd n (rW W p q)) (max p q) = 0 := by rw [cs, w2, Int.zero_mul]
      have e1 : cs (rW W p q) (hd n (rW W p q)) (min p q) + W p + W q = cs W (fun i => if i = p ∨ i = q then hd n (rW W p q) (min p q) + 1 else hd n (rW W p q) i) p + cs W (fun i => if i = p ∨ i = q then hd n (rW W p q) (min p q) + 1 else hd n (rW W p q) i) q := by
        simp only [cs, true_or, or_true, if_true]
        rw [w1]
        push_cast
        rw [Int.add_mul, Int.mul_add, Int.mul_add]
        omega
      omega
theorem hd_fit : ∀ n (W : Nat → Int), (∀ i, i < 16 → 0 ≤ W i) → cnt W 16 ≤ n → (∀ i, hd n W i + 1 ≤ cnt W 16 ∨ hd n W i = 0) ∧ (∀ i, i < 16 → W i = 0 → hd n W i = 0) ∧ (∀ M, 15 ≤ M → 1 ≤ cnt W 16 → tot (kr W (hd n W) M) 16 = 2 ^ M) := by
  intro n
  induction n with
  | zero =>
    intro W hW hc
    rw [hd]
    exact ⟨fun i => .inr rfl, fun i _ _ => rfl, fun M _ h => by omega⟩
  | succ n ih =>
    intro W hW hc
    by_cases h : (lt2 W 16).2 = -1
    · rw [hd_end h]
      refine ⟨fun i => .inr rfl, fun i _ _ => rfl, fun M _ h1 => ?_⟩
      -- one alone
      obtain ⟨m1, m2⟩ := lt2_min W 16
      have alone : ∀ i, i < 16 → W i ≠ 0 → (i : Int) = (lt2 W 16).1 := fun i hi ni => by
        by_cases e : (i : Int) = (lt2 W 16).1
        · exact e
        · exact absurd h (m2 i hi ni e).1
      obtain ⟨i, hi, ni⟩ : ∃ i, i < 16 ∧ W i ≠ 0 := by
        have : ∀ k, 1 ≤ cnt W k → ∃ i, i < k ∧ W i ≠ 0 := by
          intro k
          induction k with
          | zero => intro h; simp [cnt] at h
          | succ k ih =>
            intro h
            rw [cnt] at h
            by_cases e : W k = 0
            · rw [if_pos e] at h
              obtain ⟨i, hi, ni⟩ := ih (by omega)
              exact ⟨i, by omega, ni⟩
            · exact ⟨k, by omega, e⟩
        exact this 16 h1
      have c := tot_chg (g := kr W (fun _ => 0) M) (h := fun _ => 0) (p := i) 16 hi (fun j hj ne => by
        rw [kr]
        by_cases e : W j = 0
        · rw [if_pos e]
        · exfalso
          have a1 := alone j hj e
          have a2 := alone i hi ni
          omega)
      rw [kr_pos ni] at c
      have z : tot (fun _ => (0 : Int)) 16 = 0 := by simp [tot]
      simp only [Nat.sub_zero] at c
      omega
    · obtain ⟨p, q, hpq, hp, hq, hne, np, nq⟩ := lt2_two h
      obtain ⟨c3, _, c2⟩ := rW_cnt hW hp hq hne np nq
      obtain ⟨i1, i2, i3⟩ := ih (rW W p q) (rW_pos hW hp hq) (by omega)
      obtain ⟨w1, w2, w3⟩ := rW_at (W := W) hne
      rw [hd_next hpq]
      refine ⟨fun i => ?_, fun i hi h0 => ?_, fun M hM _ => ?_⟩
      · simp only
        by_cases e : i = p ∨ i = q
        · rw [if_pos e]
          have := i1 (min p q)
          omega
        · rw [if_neg e]
          have := i1 i
          omega
      · simp only
        have e1 : i ≠ p := fun e => np (by rw [← e]; exact h0)
        have e2 : i ≠ q := fun e => nq (by rw [← e]; exact h0)
        rw [if_neg (by omega)]
        exact i2 i hi (by rw [w3 i e1 e2]; exact h0)
      · have c := tot_mm (g := kr W (fun i => if i = p ∨ i = q then hd n (rW W p q) (min p q) + 1 else hd n (rW W p q) i) M) (h := kr (rW W p q) (hd n (rW W p q)) M) hp hq hne (fun i _ h1 h2 => by
          simp only [kr]
          rw [w3 i h1 h2, if_neg (show ¬ (i = p ∨ i = q) by omega)])
        have hWp := hW p hp
        have hWq := hW q hq
        have nn : ¬ rW W p q (min p q) = 0 := by rw [w1]; omega
        rw [kr_pos np, kr_pos nq, kr_pos nn] at c
        have e0 : kr (rW W p q) (hd n (rW W p q)) M (max p q) = 0 := by rw [kr, if_pos w2]
        simp only [true_or, or_true, if_true] at c
        have hb := i1 (min p q)
        have hc16 := cnt_le W 16
        have e1 : (2 : Int) ^ (M - hd n (rW W p q) (min p q)) = 2 ^ (M - (hd n (rW W p q) (min p q) + 1)) + 2 ^ (M - (hd n (rW W p q) (min p q) + 1)) := by
          rw [show M - hd n (rW W p q) (min p q) = (M - (hd n (rW W p q) (min p q) + 1)) + 1 by omega, Int.pow_succ]
          omega
        have := i3 M hM (by omega)
        omega
theorem cst_tot {f c : Nat → Int} : ∀ k, (∀ i, i < k → ¬ (0 < c i ∧ f i = 0)) → cst f c k = some (tot (fun i => c i * f i) k) := by
  intro k
  induction k with
  | zero => intro _; rfl
  | succ k ih =>
    intro h
    rw [cst, ih (fun i hi => h i (by omega))]
    simp only
    rw [if_neg (h k (by omega)), tot]
theorem cst_inv {f c : Nat → Int} : ∀ k n, cst f c k = some n → (∀ i, i < k → ¬ (0 < c i ∧ f i = 0)) ∧ n = tot (fun i => c i * f i) k := by
  intro k
  induction k with
  | zero => intro n h; simp [cst] at h; exact ⟨fun i h => by omega, by rw [← h]; rfl⟩
  | succ k ih =>
    intro n h
    rw [cst] at h
    cases hq : cst f c k with
    | none => rw [hq] at h; simp at h
    | some m =>
      rw [hq] at h
      simp only at h
      split at h
      · simp at h
      · rename_i h9
        simp only [Option.some.injEq] at h
        obtain ⟨h1, h2⟩ := ih m hq
        refine ⟨fun i hi => ?_, by rw [tot, ← h2, ← h]⟩
        by_cases e : i = k
        · subst e; exact h9
        · exact h1 i (by omega)
theorem sm_tot (f : Nat → Int) : ∀ k, sm f k = tot (fun i => wt (f i)) k := by
  intro k
  induction k with
  | zero => rfl
  | succ k ih => rw [sm, tot, ih]
theorem tot_le_tot {g h : Nat → Int} : ∀ k, (∀ i, i < k → g i ≤ h i) → tot g k ≤ tot h k := by
  intro k
  induction k with
  | zero => intro _; exact Int.le_refl _
  | succ k ih => intro e; rw [tot, tot]; have := e k (by omega); have := ih (fun i hi => e i (by omega)); omega
theorem rival_fit {r c : Nat → Int} (hr : chk r = 0) (hn : ∀ i, i < 16 → ¬ (0 < c i ∧ r i = 0)) (hc : ∀ i, i < 16 → 0 ≤ c i) : Fit c 15 (fun i => (r i).toNat) := by
  obtain ⟨h1, _, h3⟩ := chk_zero hr
  refine ⟨fun i hi _ => by have := h1 i hi; omega, ?_⟩
  rw [sm_tot] at h3
  refine Int.le_trans (tot_le_tot 16 (fun i hi => ?_)) (show tot (fun i => wt (r i)) 16 ≤ 2 ^ 15 from h3)
  have h4 := h1 i hi
  have h5 := hc i hi
  have h6 := hn i hi
  rw [kr]
  split
  · exact (wt_b h4.1 h4.2).1
  · rw [wt_pos (by omega)]
    refine pow_le_of ?_
    omega
theorem bld_best (c : Nat → Int) (h : (bld c).2 = 0) : chk (bld c).1 = 0 ∧ (cost (bld c).1 c).2 = 0 ∧ ∀ r, (cost r c).2 = 0 → (cost (bld c).1 c).1 ≤ (cost r c).1 := by
  have hin : InR c 2048 16 := by
    by_cases h1 : InR c 2048 16
    · exact h1
    · rw [bld, if_pos h1] at h; simp at h
  have hfst : (lt2 c 16).1 ≠ -1 := by
    intro h1
    rw [bld, if_neg (fun h => h hin), if_pos h1] at h
    simp at h
  have hc : ∀ i, i < 16 → 0 ≤ c i := fun i hi => (hin i hi).1
  have rest : ∀ (L : Nat → Int), chk L = 0 → (∀ i, i < 16 → ¬ (0 < c i ∧ L i = 0)) → (∀ r, chk r = 0 → (∀ i, i < 16 → ¬ (0 < c i ∧ r i = 0)) → tot (fun i => c i * L i) 16 ≤ tot (fun i => c i * r i) 16) →
      chk L = 0 ∧ (cost L c).2 = 0 ∧ ∀ r, (cost r c).2 = 0 → (cost L c).1 ≤ (cost r c).1 := by
    intro L h1 h2 h3
    have e1 : cost L c = (tot (fun i => c i * L i) 16, 0) := by
      rw [cost, if_neg (fun h => h h1), if_neg (fun h => h hin), cst_tot 16 h2]
    refine ⟨h1, by rw [e1], fun r hr => ?_⟩
    rw [e1]
    unfold cost at hr ⊢
    by_cases r1 : chk r = 0
    · rw [if_neg (fun h => h r1), if_neg (fun h => h hin)] at hr ⊢
      cases hq : cst r c 16 with
      | none => rw [hq] at hr; simp at hr
      | some m =>
        obtain ⟨a1, a2⟩ := cst_inv 16 m hq
        simp only
        rw [a2]
        exact h3 r r1 a1
    · rw [if_pos r1] at hr
      simp only at hr
      exact absurd hr r1
  have hmn := lt2_min c 16
  by_cases hsec : (lt2 c 16).2 = -1
  · -- one sign alone
    have e : (bld c).1 = upd (fun _ => 0) (lt2 c 16).1.toNat 1 := by rw [bld, if_neg (fun h => h hin), if_neg hfst, if_pos hsec]
    rw [e]
    obtain ⟨s1, _⟩ := lt2_sg c 16
    rcases s1 with s1 | ⟨p, e1, hp, np⟩
    · exact absurd s1 hfst
    rw [e1, Int.toNat_natCast]
    have alone : ∀ i, i < 16 → c i ≠ 0 → i = p := fun i hi ni => by
      by_cases e : (i : Int) = (lt2 c 16).1
      · omega
      · exact absurd hsec (hmn.2 i hi ni e).1
    have hsm : sm (upd (fun _ => 0) p 1) 16 = 16384 := by
      rw [sm_tot]
      have cc := tot_chg (g := fun i => wt (upd (fun _ => 0) p 1 i)) (h := fun _ => 0) (p := p) 16 hp (fun j hj ne => by rw [upd_other _ _ ne]; exact wt_zero (by omega))
      simp only at cc
      rw [upd_same, wt_pos (by omega)] at cc
      have z : tot (fun _ => (0 : Int)) 16 = 0 := by simp [tot]
      have z2 : (2 : Int) ^ (15 - (1 : Int)).toNat = 16384 := by decide
      omega
    refine rest _ (chk_ok (fun i hi => ?_) (by omega)) (fun i hi h9 => ?_) (fun r r1 r2 => ?_)
    · by_cases e9 : i = p
      · rw [e9, upd_same]; omega
      · rw [upd_other _ _ e9]; omega
    · have := alone i hi (by omega)
      subst this
      rw [upd_same] at h9
      omega
    · refine tot_le_tot 16 (fun i hi => ?_)
      have h5 := hc i hi
      have h4 := (chk_zero r1).1 i hi
      by_cases e : c i = 0
      · rw [e]; omega
      · have e2 := alone i hi e
        subst e2
        rw [upd_same]
        have := r2 i hi
        exact Int.mul_le_mul_of_nonneg_left (by omega) h5
  · have e : (bld c).1 = bldR 16 c (fun i => i) (fun _ => 0) := by rw [bld, if_neg (fun h => h hin), if_neg hfst, if_neg hsec]
    have e2 : ∀ i, (bld c).1 i = (hd 16 c i : Int) := fun i => by rw [e, bldR_hd 16 c _ _ (fun i => by omega)]; simp
    obtain ⟨p, q, hpq, hp, hq, hne, np, nq⟩ := lt2_two hsec
    obtain ⟨c3, _, c2⟩ := rW_cnt hc hp hq hne np nq
    obtain ⟨f1, f2, f3⟩ := hd_fit 16 c hc (cnt_le c 16)
    have f4 := f3 15 (Nat.le_refl _) (by omega)
    have c16 := cnt_le c 16
    have hb : ∀ i, hd 16 c i ≤ 15 := fun i => by have := f1 i; omega
    -- what weighs has a word
    have hw : ∀ i, i < 16 → c i ≠ 0 → 1 ≤ hd 16 c i := fun i hi ni => by
      rcases Nat.eq_zero_or_pos (hd 16 c i) with h0 | h0
      · exfalso
        obtain ⟨j, hj, nj, hij⟩ : ∃ j, j < 16 ∧ c j ≠ 0 ∧ i ≠ j := by
          by_cases e : i = p
          · exact ⟨q, hq, nq, by omega⟩
          · exact ⟨p, hp, np, e⟩
        have cc := tot_chg2 (g := upd (upd (kr c (hd 16 c) 15) i 0) j 0) (h := kr c (hd 16 c) 15) hi hj hij (fun k _ h1 h2 => by rw [upd_other _ _ h2, upd_other _ _ h1])
        have g0 := tot_ge (W := upd (upd (kr c (hd 16 c) 15) i 0) j 0) 16 (fun k _ => by
          unfold upd
          split
          · exact Int.le_refl _
          · split
            · exact Int.le_refl _
            · exact kr_ge _ _ _ _)
        rw [upd_same, upd_other _ _ hij, upd_same, kr_pos ni, kr_pos nj, h0] at cc
        have := pow_pos (15 - hd 16 c j)
        rw [show 15 - 0 = 15 from rfl] at cc
        omega
      · exact h0
    have hsm : sm (bld c).1 16 = 32768 := by
      rw [sm_tot, tot_congr (h := kr c (hd 16 c) 15) 16 (fun i hi => ?_), f4]
      · rfl
      · rw [e2 i, kr]
        by_cases ni : c i = 0
        · rw [if_pos ni, f2 i hi ni]
          exact wt_zero (by omega)
        · have := hw i hi ni
          have h15 := hb i
          rw [if_neg ni, wt_pos (by omega)]
          congr 1
          omega
    refine rest _ (chk_ok (fun i hi => ?_) (by omega)) (fun i hi h9 => ?_) (fun r r1 r2 => ?_)
    · rw [e2 i]; have := hb i; omega
    · rw [e2 i] at h9
      have := hw i hi (by omega)
      omega
    · have b := hd_best 16 c hc (cnt_le c 16) 15 _ (rival_fit r1 r2 hc)
      rw [tot_congr (h := cs c (hd 16 c)) 16 (fun i hi => by rw [cs, e2 i])]
      refine Int.le_trans b (Int.le_of_eq (tot_congr 16 (fun i hi => ?_)))
      have h4 := (chk_zero r1).1 i hi
      rw [cs, Int.toNat_of_nonneg h4.1]
end Go.Proofs.YtbjbjbpgmojcbabGreat.Cd
namespace Go.Proofs.YtbjbjbpgmojcbabGreat
open Go.RowKit
theorem size_mk8 (l : List UInt8) : (⟨l.toArray⟩ : ByteArray).size = l.length := by simp [ByteArray.size]
theorem Own8.form8 {w : World} {B : Nat} {v : Value} {l : List UInt8} (h : Own8 w B v l) (hl : l ≠ []) : ∃ g cap, v = .slice (some ⟨g, 0, none⟩) l.length cap ∧ B ≤ g := by
  rcases h with ⟨_, h⟩ | ⟨g, cap, h0, h1, _⟩
  · exact absurd h hl
  · exact ⟨g, cap, h0, h1⟩
def BufAt (w : World) (B gb : Nat) (l : List UInt8) : Prop :=
  B ≤ gb ∧ gb < w.heap.size ∧ w.frozen? ⟨gb, 0, none⟩ = false ∧
  ((w.cell? ⟨gb, 0, none⟩ = some (.slice none 0 0) ∧ l = []) ∨ ∃ g cp, w.cell? ⟨gb, 0, none⟩ = some (.slice (some ⟨g, 0, none⟩) l.length cp) ∧ Own8 w B (.slice (some ⟨g, 0, none⟩) l.length cp) l ∧ g ≠ gb)
theorem BufAt.below {w w' : World} {B gb : Nat} {l : List UInt8} (h : BufAt w B gb l) (hb : Below w.heap.size w w') : BufAt w' B gb l := by
  obtain ⟨a, b, c, d⟩ := h
  refine ⟨a, Nat.lt_of_lt_of_le b hb.size, (hb.frozen (by exact b)).trans c, ?_⟩
  rcases d with ⟨d, e⟩ | ⟨g, cp, d, e, f⟩
  · exact .inl ⟨(hb.cell (by exact b)).trans d, e⟩
  · exact .inr ⟨g, cp, (hb.cell (by exact b)).trans d, e.below hb, f⟩
theorem BufAt.put {w w' : World} {B gb g cp : Nat} {v : Value} {l' : List UInt8} (hB : B ≤ gb) (hg : gb < w.heap.size) (hf : w.frozen? ⟨gb, 0, none⟩ = false) (hc : (w.cell? ⟨gb, 0, none⟩).isSome = true)
    (hne : v.ownBlock ≠ some gb) (hA : App w w' B v (.slice (some ⟨g, 0, none⟩) l'.length cp) l') :
    BufAt (w'.setCell ⟨gb, 0, none⟩ (.slice (some ⟨g, 0, none⟩) l'.length cp)) B gb l' ∧ Below B w (w'.setCell ⟨gb, 0, none⟩ (.slice (some ⟨g, 0, none⟩) l'.length cp)) := by
  have hgb : some gb ≠ v.ownBlock := fun e => hne e.symm
  have hsz := hA.below.size
  have hgne : g ≠ gb := by
    rcases hA.at_ g rfl with h | h
    · intro e; subst e; exact hne h
    · omega
  have hblk := hA.block gb hg hgb
  refine ⟨⟨hB, by simpa [World.setCell] using Nat.lt_of_lt_of_le hg hsz, ?_, .inr ⟨g, cp, ?_, ?_, hgne⟩⟩, hA.below.setCell (p := ⟨gb, 0, none⟩) hB _⟩
  · rw [World.frozen?_setCell, World.frozen?_of_block (w := w) (by exact hblk)]
    exact hf
  · obtain ⟨u, hu⟩ := Option.isSome_iff_exists.1 hc
    refine World.cell?_setCell_same _ _ _ (u := u) ?_
    rw [World.cell?_of_block (w := w) (by exact hblk)]
    exact hu
  · refine hA.own.kept (by simp [World.setCell]) (fun k hk => ?_)
    have : g = k := by simpa [Value.ownBlock] using hk
    subst this
    exact Below.heap_setCell _ _ _ _ (by simpa using hgne)
theorem BufAt.app {w w' : World} {B gb g cp : Nat} {v u : Value} {l' : List UInt8} (hB : B ≤ gb) (hg : gb < w.heap.size) (hf : w.frozen? ⟨gb, 0, none⟩ = false) (hc : w.cell? ⟨gb, 0, none⟩ = some u)
    (hne : v.ownBlock ≠ some gb) (hA : App w w' B v (.slice (some ⟨g, 0, none⟩) l'.length cp) l') :
    w'.cell? ⟨gb, 0, none⟩ = some u ∧ w'.frozen? ⟨gb, 0, none⟩ = false ∧ Hid (BufAt (w'.setCell ⟨gb, 0, none⟩ (.slice (some ⟨g, 0, none⟩) l'.length cp)) B gb l') ∧ Hid (Below B w (w'.setCell ⟨gb, 0, none⟩ (.slice (some ⟨g, 0, none⟩) l'.length cp))) := by
  have hgb : some gb ≠ v.ownBlock := fun e => hne e.symm
  have hblk := hA.block gb hg hgb
  have hP := BufAt.put hB hg hf (by rw [hc]; rfl) hne hA
  exact ⟨(World.cell?_of_block (w := w) (by exact hblk)).trans hc, (World.frozen?_of_block (w := w) (by exact hblk)).trans hf, hP.1, hP.2⟩
def BufQ (w : World) (B gb : Nat) (l : List UInt8) (q : Nat) : Prop :=
  BufAt w B gb l ∧ q < w.heap.size ∧ q ≠ gb ∧ ∀ g n cp, w.cell? ⟨gb, 0, none⟩ = some (.slice (some ⟨g, 0, none⟩) n cp) → g ≠ q
theorem BufAt.box {w : World} {B gb : Nat} {l : List UInt8} (h : BufAt w B gb l) (o : Obj) : BufQ (w.alloc o) B gb l w.heap.size := by
  have hb := (Below.refl w.heap.size w).alloc (Nat.le_refl _) o
  refine ⟨h.below hb, by simp, by have := h.2.1; omega, fun g n cp hc => ?_⟩
  rw [hb.cell (by exact h.2.1)] at hc
  rcases h.2.2.2 with ⟨d, _⟩ | ⟨g', cp', d, e, _⟩
  · rw [d] at hc; simp at hc
  · rw [d] at hc
    simp at hc
    have := (e.lt g' rfl).2
    omega
theorem BufQ.below {w w' : World} {B gb q : Nat} {l : List UInt8} (h : BufQ w B gb l q) (hb : Below w.heap.size w w') : BufQ w' B gb l q :=
  ⟨h.1.below hb, Nat.lt_of_lt_of_le h.2.1 hb.size, h.2.2.1, fun g n cp hc => h.2.2.2 g n cp (by rw [← hb.cell (by exact h.1.2.1)]; exact hc)⟩
theorem BufQ.app {w w' : World} {B gb g cp q : Nat} {v : Value} {l l' : List UInt8} (h : BufQ w B gb l q) (hc : w.cell? ⟨gb, 0, none⟩ = some v) (hne : v.ownBlock ≠ some gb)
    (hv : v = .slice none 0 0 ∨ ∃ g n cp, v = .slice (some ⟨g, 0, none⟩) n cp) (hA : App w w' B v (.slice (some ⟨g, 0, none⟩) l'.length cp) l') :
    w'.cell? ⟨gb, 0, none⟩ = some v ∧ w'.frozen? ⟨gb, 0, none⟩ = false ∧ Hid (BufQ (w'.setCell ⟨gb, 0, none⟩ (.slice (some ⟨g, 0, none⟩) l'.length cp)) B gb l' q) ∧ Hid (Below B w (w'.setCell ⟨gb, 0, none⟩ (.slice (some ⟨g, 0, none⟩) l'.length cp))) ∧
      Hid ((w'.setCell ⟨gb, 0, none⟩ (.slice (some ⟨g, 0, none⟩) l'.length cp)).heap[q]? = w.heap[q]?) := by
  obtain ⟨h1, h2, h3, h4⟩ := h
  have hq : some q ≠ v.ownBlock := by
    rcases hv with rfl | ⟨g', n, cp', rfl⟩
    · simp [Value.ownBlock]
    · have := h4 g' n cp' hc
      simp [Value.ownBlock]
      omega
  obtain ⟨a1, a2, a3, a4⟩ := BufAt.app h1.1 h1.2.1 h1.2.2.1 hc hne hA
  have hsz := hA.below.size
  have hblk := hA.block q h2 hq
  have hgq : g ≠ q := by
    rcases hA.at_ g rfl with h | h
    · intro e
      subst e
      exact hq h.symm
    · omega
  have hset : (w'.setCell ⟨gb, 0, none⟩ (.slice (some ⟨g, 0, none⟩) l'.length cp)).cell? ⟨gb, 0, none⟩ = some (.slice (some ⟨g, 0, none⟩) l'.length cp) := World.cell?_setCell_same _ _ _ a1
  refine ⟨a1, a2, ⟨a3.out, by simpa [World.setCell] using Nat.lt_of_lt_of_le h2 hsz, h3, fun g' n' cp' hc' => ?_⟩, a4, ?_⟩
  · rw [hset] at hc'
    simp at hc'
    omega
  · show (w'.setCell _ _).heap[q]? = _
    rw [Below.heap_setCell _ _ _ _ (by simpa using h3)]
    exact hblk
theorem wp_append8t {ops : Array Oper} {rest : List Oper} {o : Oper} {a : Act} {Q : Exit → Act → World → Prop} (w : World) (hgd : o.guard = none) (sl x : Operand) (ho : o.op = .call { callee := .builtin .append, args := #[sl, x], argTypes := #[93, 9] })
    (B : Nat) (v : Value) (l : List UInt8) (hs : a.eval sl = v) (h : Own8 w B v l) (s : ByteArray) (hx : a.eval x = .string s)
    (hlen : l.length + s.size ≤ 140737488355328) (hB : B ≤ w.heap.size) (hne : l ++ s.data.toList ≠ [])
    (hK : ∀ g cp w', App w w' B v (.slice (some ⟨g, 0, none⟩) (l ++ s.data.toList).length cp) (l ++ s.data.toList) → wpList Tryz.prog ops Q rest (a.put o.dst (.slice (some ⟨g, 0, none⟩) (l ++ s.data.toList).length cp)) w') : wpList Tryz.prog ops Q (o :: rest) a w := by
  refine wp_append8s w hgd sl x ho B v l hs h s hx hlen hB (fun v' w' hA => ?_)
  obtain ⟨g, cp, rfl, _⟩ := hA.own.form8 hne
  exact hK g cp w' hA
set_option maxRecDepth 4000 in
set_option maxHeartbeats 1000000 in
theorem put1_any (B gb : Nat) (l : List UInt8) (n : Int) (w : World) (q : Nat) (hbuf : BufQ w B gb l q) (hBw : B ≤ w.heap.size) (h0 : 0 ≤ n) (h1 : n ≤ 2147483647) (hl : l.length ≤ 1000000) :
    Calls Tryz.prog 159 #[.int .i64 n, .pointer (some ⟨gb, 0, none⟩)] w fun e w' => e = .returned (.tuple #[]) ∧ Below B w w' ∧ BufQ w' B gb (l ++ Nm.nb n.toNat) q ∧ w'.heap[q]? = w.heap[q]? := by
  have hl5 := Nm.nb_len5 n.toNat (by omega)
  obtain ⟨s, hs⟩ : ∃ s : ByteArray, s = ⟨(Nm.nb n.toNat).toArray⟩ := ⟨_, rfl⟩
  have hsd : s.data.toList = Nm.nb n.toNat := by rw [hs]
  have hs5 : s.size ≤ 5 := by rw [hs, size_mk8]; exact hl5
  have Hne : Hid (∀ l : List UInt8, l ++ s.data.toList ≠ []) := fun l e => Nm.nb_ne n.toNat (by rw [← hsd]; exact (List.append_eq_nil_iff.1 e).2)
  have HL : Hid (s.data.toList = Nm.nb n.toNat) := hsd
  have hc := put_yes n w h0 h1
  rw [← hs] at hc
  clear hs hsd
  go_enter Tryz.func159, Tryz.ntmps159
  go_wp2_with fail
  refine hc.mono ?_
  rintro e w1 ⟨rfl, G⟩
  have hb1 := hbuf.below G
  have hBw1 : B ≤ w1.heap.size := Nat.le_trans hBw G.size
  have HG : Below B w w1 := G.mono hBw
  have HQ : Hid (w1.heap[q]? = w.heap[q]?) := G.block q hbuf.2.1
  have HB1 : Hid (BufQ w1 B gb l q) := hb1
  clear hbuf G hc
  obtain ⟨⟨a, b, c, d⟩, _, _, _⟩ := hb1
  have len8 : ∀ l : List UInt8, (l ++ s.data.toList).length = l.length + s.size := fun l => by simp
  have Hlen : Hid (∀ l : List UInt8, (l ++ s.data.toList).length = l.length + s.size) := len8
  clear len8
  rcases d with ⟨d, e⟩ | ⟨g, cp, d, e, f⟩
  · subst e
    go_wp2_with (at_builtin; go_must (refine wp_append8t _ rfl _ _ rfl B (.slice none 0 0) [] rfl (Own8.nil _ _) s rfl (by simp; omega) hBw1 (Hne.out _) ?_; intro g1 cp1 w3 hA; obtain ⟨k1, k2, k3, k4, k5⟩ := BufQ.app HB1.out d (by simp [Value.ownBlock]) (Or.inl rfl) hA))
    go_end0
    have h3 := k3.out
    have h4 := k4.out
    have h5 := k5.out
    rw [Hlen.out, HL.out] at h3
    rw [Hlen.out] at h4 h5
    simp only [List.length_nil, Nat.zero_add, List.nil_append] at h3 h4 h5
    exact ⟨rfl, HG.trans h4, h3, h5.trans HQ.out⟩
  · go_wp2_with (at_builtin; go_must (refine wp_append8t _ rfl _ _ rfl B (.slice (some ⟨g, 0, none⟩) l.length cp) l rfl e s rfl (by omega) hBw1 (Hne.out _) ?_; intro g1 cp1 w3 hA; obtain ⟨k1, k2, k3, k4, k5⟩ := BufQ.app HB1.out d (by simp [Value.ownBlock]; exact f) (Or.inr ⟨_, _, _, rfl⟩) hA))
    go_end0
    have h3 := k3.out
    have h4 := k4.out
    have h5 := k5.out
    rw [Hlen.out, HL.out] at h3
    rw [Hlen.out] at h4 h5
    exact ⟨rfl, HG.trans h4, h3, h5.trans HQ.out⟩
def Open (w : World) (B gb q : Nat) (l : List UInt8) (x y z : Value) (T : TypeId) (g cp : Nat) : Prop :=
  w.cell? ⟨q, 0, none⟩ = some x ∧ w.cell? ⟨q, 1, none⟩ = some y ∧ w.cell? ⟨q, 2, none⟩ = some z ∧ w.frozen? ⟨gb, 0, none⟩ = false ∧
    w.cell? ⟨gb, 0, none⟩ = some (.slice (some ⟨g, 0, none⟩) l.length cp) ∧ Hid (Own8 w B (.slice (some ⟨g, 0, none⟩) l.length cp) l) ∧ g ≠ gb ∧ Hid (BufQ w B gb l q) ∧ Hid (w.heap[q]? = some (.cells #[x, y, z] T))
theorem BufQ.open {w : World} {B gb q : Nat} {l : List UInt8} {x y z : Value} {T : TypeId} (h : BufQ w B gb l q) (hl : l ≠ []) (hq : w.heap[q]? = some (.cells #[x, y, z] T)) : ∃ g cp, Open w B gb q l x y z T g cp := by
  have H : Hid (BufQ w B gb l q) := h
  have e : ∀ j, w.cell? ⟨q, j, none⟩ = #[x, y, z][j]? := fun j => cell_of_row w q j _ _ _ hq
  obtain ⟨⟨_, _, c, d⟩, _⟩ := h
  rcases d with ⟨_, d⟩ | ⟨g, cp, d1, d2, d3⟩
  · exact absurd d hl
  · exact ⟨g, cp, by rw [e]; rfl, by rw [e]; rfl, by rw [e]; rfl, c, d1, d2, d3, H, hq⟩
theorem put1_open (B gb q : Nat) (l : List UInt8) (n : Int) (w : World) (x y z : Value) (T : TypeId) (hbuf : BufQ w B gb l q) (hq : w.heap[q]? = some (.cells #[x, y, z] T)) (hBw : B ≤ w.heap.size) (h0 : 0 ≤ n) (h1 : n ≤ 2147483647) (hl : l.length ≤ 1000000) :
    Calls Tryz.prog 159 #[.int .i64 n, .pointer (some ⟨gb, 0, none⟩)] w fun e w' => e = .returned (.tuple #[]) ∧ Below B w w' ∧ ∃ L2 g cp, Hid (L2 = l ++ Nm.nb n.toNat) ∧ L2.length ≤ l.length + 5 ∧ Open w' B gb q L2 x y z T g cp := by
  refine (put1_any B gb l n w q hbuf hBw h0 h1 hl).mono ?_
  rintro e w' ⟨rfl, hb, hbq, hh⟩
  obtain ⟨g, cp, ho⟩ := BufQ.open hbq (by simp [Nm.nb_ne]) (hh.trans hq)
  exact ⟨rfl, hb, _, g, cp, rfl, by have := Nm.nb_len5 n.toNat (by omega); simp; omega, ho⟩
def tb (t : Tk.T) : List UInt8 := if t.lit.size ≠ 0 then Nm.nb (2 * t.lit.size) ++ t.lit.data.toList else Nm.nb (2 * t.len + 1).toNat ++ Nm.nb t.far.toNat
def tbs : List Tk.T → List UInt8
  | [] => []
  | t :: l => tb t ++ tbs l
theorem tbs_snoc (l : List Tk.T) (t : Tk.T) : tbs (l ++ [t]) = tbs l ++ tb t := by
  induction l with
  | nil => simp [tbs]
  | cons a l ih => simp [tbs, ih]
theorem BufAt.alloc {w : World} {B gb : Nat} {l : List UInt8} (h : BufAt w B gb l) (o : Obj) : BufAt (w.alloc o) B gb l := h.below ((Below.refl _ _).alloc (Nat.le_refl _) o)
set_option maxHeartbeats 1000000 in
theorem write_bad (dict : ByteArray) (ad : Option Addr) (cap : Nat) (l : List Tk.T) (w : World) (hl : SlAt w ad l) (hs : Sane l) (e0 : Int) (he : checkOf dict l = e0) (hne : (e0 != 0) = true) :
    Calls Tryz.prog 128 #[.string dict, .slice ad l.length cap] w fun e w' => e = .returned (.tuple #[.string ⟨#[]⟩, .int .i64 e0]) ∧ Below w.heap.size w w' := by
  have hc := fun w hl => check_any dict ad cap l w hl hs
  rw [he] at hc
  clear he
  go_enter Tryz.func128, Tryz.ntmps128
  go_wp2_with fail
  refine (hc _ hl).mono ?_
  rintro e w1 ⟨rfl, G⟩
  clear hc
  go_wp2_with fail
  go_ret2
  exact ⟨rfl, G⟩
set_option maxRecDepth 4000 in
set_option maxHeartbeats 4000000 in
theorem write_ok (dict : ByteArray) (b off cap : Nat) (l : List Tk.T) (w : World) (hb : b < w.heap.size) (hl : TkAt w b off l) (hs : Sane l) (hd : dict.size ≤ 256) (s1 : List UInt8) (hr : Tk.run dict.size dict.data.toList false l = (0, s1)) :
    Calls Tryz.prog 128 #[.string dict, .slice (some ⟨b, off, none⟩) l.length cap] w fun e w' => e = .returned (.tuple #[.string ⟨(tbs l).toArray⟩, .int .i64 0]) ∧ Below w.heap.size w w' := by
  have hc := check_some dict b off cap l w hd hb hl hs
  rw [hr] at hc
  have hd' : (dict.size : Int) ≤ 256 := by omega
  have hn' : (l.length : Int) ≤ 140737488355328 := by have := hs.1; omega
  have hmf : ∀ (fn : Fn) (first cap : Array Value) (w : World), (Instr.makeFunc fn first cap).run Tryz.prog w = .ok (.func fn first cap) w := fun _ _ _ _ => rfl
  go_enter Tryz.func128, Tryz.ntmps128
  go_wp2_with fail
  refine hc.mono ?_
  rintro e w1 ⟨rfl, G⟩
  clear hc
  have Hr : Hid (Tk.run dict.size dict.data.toList false l = (0, s1)) := hr
  clear hr
  go_wp2_with fail
  go_loopw [20] (fun i wr => ∃ (k : Nat) (s : List UInt8) (p : Bool) (L : List UInt8), k ≤ l.length ∧ i = .int .i64 k ∧ BufAt wr w.heap.size w1.heap.size L ∧ Hid (L = tbs (l.take k)) ∧ L.length + 11 * dict.size ≤ 11 * s.length ∧
      Hid (Tk.run dict.size s p (l.drop k) = (0, s1)) ∧ dict.size ≤ s.length ∧ s.length ≤ dict.size + 512 ∧ Below w.heap.size w wr)
    (fun i _ => l.length - (intOf i).toNat)
  case atStart =>
    refine ⟨0, dict.data.toList, false, [], by omega, rfl, ?_, rfl, by simp, Hr, by simp, by simp, G.alloc G.size _⟩
    exact ⟨G.size, by simp, by rw [World.frozen?_alloc_mark]; simp, .inl ⟨by rw [World.cell?_alloc_mark]; rfl, rfl⟩⟩
  case round =>
    have hw1 := G.size
    clear G
    obtain ⟨k, s, p, L, hk, rfl, hbuf, hL, hLl, hrun, hs1, hs2, G⟩ := hrel
    by_cases hlt : k < l.length
    · have hdrop : l.drop k = l[k] :: l.drop (k + 1) := List.drop_eq_getElem_cons hlt
      obtain ⟨c0, c1, c2⟩ := hl k hlt
      rw [← G.cell (by exact hb)] at c0 c1 c2
      rw [hdrop] at hrun
      have HT : Hid (tbs (l.take (k + 1)) = L ++ tb l[k]) := by
        show _ = _
        rw [hL.out, ← tbs_snoc]
        congr 1
        simp
      clear hdrop hl hs
      generalize l[k] = t at *
      have he : Tk.err dict.size s p t = 0 := by
        by_cases h : Tk.err dict.size s p t = 0
        · exact h
        · have := hrun.out
          rw [Tk.run_bad h] at this
          simp only [Prod.mk.injEq] at this
          exact absurd this.1 h
      have HR : Hid (Tk.run dict.size (Tk.make s t) (decide (t.lit.size ≠ 0)) (l.drop (k + 1)) = (0, s1)) := by
        have := hrun.out
        rw [Tk.run_good he] at this
        exact this
      have hmk := Tk.make_ok he
      have hgs := G.size
      have HB : Hid (BufAt wr w.heap.size w1.heap.size L) := hbuf
      clear hbuf he hrun
      by_cases h0 : t.lit.size ≠ 0
      · have hE0 := empty_not h0
        have HMK : Hid ((Tk.make s t).length = s.length + t.lit.size) := by
          have := hmk.2.2.2.1 h0
          show _ = _
          rw [hmk.1, this.2]
          rfl
        have hl512 : (t.lit.size : Int) ≤ 512 := by have := hmk.2.2.2.2; omega
        have Hb512 : Hid ((s.length : Int) - dict.size + t.lit.size ≤ 512) := by have := hmk.2.2.2.2; show _ ≤ _; omega
        clear hmk
        have Hne : Hid (∀ l : List UInt8, l ++ t.lit.data.toList ≠ []) := fun l e => h0 (by simpa using congrArg List.length (List.append_eq_nil_iff.1 e).2)
        have hsd : t.lit.size ≤ 512 := by omega
        go_wp2_with (first | (go_at_call 159; go_must (refine (put1_open w.heap.size w1.heap.size wr.heap.size L _ _ _ _ _ _ (HB.out.box _) (heap_alloc_new _ _) (sz_alloc _ hgs) (by omega) (by omega) (by omega)).mono ?_; rintro e w3 ⟨rfl, hb3, L2, g3, cp3, HL2, hl2, x1, x2, x3, x4, x5, x6, x7, x8, x9⟩; have hgs3 := hb3.size; have hsz3 := sz_alloc (.cells #[.string t.lit, .int .i64 t.far, .int .i64 t.len] 165) hgs)) | (at_builtin; go_must (refine wp_append8t _ rfl _ _ rfl w.heap.size (.slice (some ⟨g3, 0, none⟩) L2.length cp3) L2 rfl x6.out t.lit rfl (by omega) (by omega) (Hne.out _) ?_; intro g4 cp4 w4 hA; obtain ⟨k1, k2, k3, k4, k5⟩ := BufQ.app x8.out x5 (by simp [Value.ownBlock]; exact x7) (Or.inr ⟨_, _, _, rfl⟩) hA)))
        go_roundw
        case rel =>
          have e1 : (L2 ++ t.lit.data.toList).length = L2.length + t.lit.size := by simp
          have h3 := k3.out
          have h4 := k4.out
          have e2 := HMK.out
          have e3 := Hb512.out
          rw [e1] at h3 h4
          refine ⟨k + 1, Tk.make s t, _, L2 ++ t.lit.data.toList, by omega, by go_num, h3.1, ?_, by rw [e1]; omega, HR, by omega, by omega, ((G.alloc hgs _).trans hb3).trans h4⟩
          show _ = _
          rw [HT.out, HL2.out, tb, if_pos h0, List.append_assoc]
          congr 2
        case measure => simp [intOf]; omega
      · have h00 : t.lit.size = 0 := by omega
        have hE0 := empty_of h00
        obtain ⟨f1, f2, f3, f4⟩ := hmk.2.2.1 h00
        have HMK : Hid ((Tk.make s t).length = s.length + t.len.toNat) := by
          show _ = _
          rw [hmk.1, h00]
          rfl
        have Hb512 : Hid ((s.length : Int) - dict.size + t.len ≤ 512) := by have := hmk.2.2.2.2; show _ ≤ _; omega
        have tok : True := trivial
        clear hmk
        go_wp2_with (first | (go_at_call 159; have _t := tok; clear tok; go_must (refine (put1_open w.heap.size w1.heap.size wr.heap.size L _ _ _ _ _ _ (HB.out.box _) (heap_alloc_new _ _) (sz_alloc _ hgs) (by omega) (by omega) (by omega)).mono ?_; rintro e w3 ⟨rfl, hb3, L2, g3, cp3, HL2, hl2, x1, x2, x3, x4, x5, x6, x7, x8, x9⟩; have hgs3 := hb3.size; have hsz3 := sz_alloc (.cells #[.string t.lit, .int .i64 t.far, .int .i64 t.len] 165) hgs)) | (go_at_call 159; go_must (refine (put1_open w.heap.size w1.heap.size wr.heap.size L2 _ _ _ _ _ _ x8.out x9.out (by omega) (by omega) (by omega) (by omega)).mono ?_; rintro e w4 ⟨rfl, hb4, L3, g4, cp4, HL3, hl3, y1, y2, y3, y4, y5, y6, y7, y8, y9⟩)))
        go_roundw
        case rel =>
          have e2 := HMK.out
          have e3 := Hb512.out
          refine ⟨k + 1, Tk.make s t, _, L3, by omega, by go_num, y8.out.1, ?_, by omega, HR, by omega, by omega, ((G.alloc hgs _).trans hb3).trans hb4⟩
          show _ = _
          rw [HL3.out, HL2.out, HT.out, tb, if_neg h0, List.append_assoc]
        case measure => simp [intOf]; omega
    · have hd1 : decide ((k : Int) < (l.length : Int)) = false := by simp; omega
      have hd2 : decide (k < l.length) = false := by simp; omega
      have HE : Hid (tbs l = L) := by
        show _ = _
        rw [hL.out, List.take_of_length_le (by omega)]
      obtain ⟨_, _, _, d⟩ := hbuf
      rcases d with ⟨d, e⟩ | ⟨g, cp, d, e, f⟩
      · have hcv := Lib.run_convert_nil_bytes wr 93 9 5 0 Tryz.underlying93 Tryz.underlying5 Tryz.underlying9
        subst e
        clear hl hs
        go_wp2_with fail
        go_ret2
        exact ⟨by rw [HE.out]; rfl, G⟩
      · obtain ⟨_, _, hq, _, _, _, _, q5⟩ := e.form (by simp)
        simp only [Value.slice.injEq, Option.some.injEq, Addr.mk.injEq, and_true, true_and] at hq
        obtain ⟨rfl, rfl⟩ := hq
        have hcv := Own8.conv q5 0 cp
        simp only [Nat.sub_zero, List.drop_zero] at hcv
        clear hl hs q5 e
        go_wp2_with fail
        go_ret2
        exact ⟨by rw [HE.out]; rfl, G⟩
end Go.Proofs.YtbjbjbpgmojcbabGreat
namespace Go.Proofs.YtbjbjbpgmojcbabGreat
open Go.RowKit
attribute [local go_sem ↓] Go.wp_at_zero Go.wp_at_succ
set_option maxHeartbeats 1000000 in
theorem write_nil (dict : ByteArray) (ad : Option Addr) (cap : Nat) (w : World) (hd : dict.size ≤ 256) :
    Calls Tryz.prog 128 #[.string dict, .slice ad 0 cap] w fun e w' => e = .returned (.tuple #[.string ⟨#[]⟩, .int .i64 0]) ∧ Below w.heap.size w w' := by
  have hc := check_nil dict ad cap w hd
  have hmf : ∀ (fn : Fn) (first cap : Array Value) (w : World), (Instr.makeFunc fn first cap).run Tryz.prog w = .ok (.func fn first cap) w := fun _ _ _ _ => rfl
  have hcv := fun w => Lib.run_convert_nil_bytes (P := Tryz.prog) w 93 9 5 0 Tryz.underlying93 Tryz.underlying5 Tryz.underlying9
  go_enter Tryz.func128, Tryz.ntmps128
  go_wp2_with fail
  refine hc.mono ?_
  rintro e w1 ⟨rfl, G⟩
  clear hc
  go_wp2_with fail
  refine wp_loop_rounds 1 ?_
  rw [rounds_succ]
  go_wp2_with fail
  go_ret2
  exact ⟨rfl, G.alloc G.size _⟩
def writeOf (dict : ByteArray) (l : List Tk.T) : ByteArray := if checkOf dict l ≠ 0 then ⟨#[]⟩ else ⟨(tbs l).toArray⟩
theorem check_ok {dict : ByteArray} {l : List Tk.T} (h0 : checkOf dict l = 0) : dict.size ≤ 256 ∧ (Tk.run dict.size dict.data.toList false l).1 = 0 := by
  unfold checkOf at h0
  by_cases h : 256 < dict.size
  · rw [if_pos h] at h0; omega
  · rw [if_neg h] at h0
    exact ⟨by omega, h0⟩
theorem write_any (dict : ByteArray) (ad : Option Addr) (cap : Nat) (l : List Tk.T) (w : World) (hl : SlAt w ad l) (hs : Sane l) :
    Calls Tryz.prog 128 #[.string dict, .slice ad l.length cap] w fun e w' => e = .returned (.tuple #[.string (writeOf dict l), .int .i64 (checkOf dict l)]) ∧ Below w.heap.size w w' := by
  unfold writeOf
  by_cases h0 : checkOf dict l = 0
  · rw [if_neg (by simpa using h0), h0]
    obtain ⟨hd, h1⟩ := check_ok h0
    rcases hl with rfl | ⟨b, off, rfl, hb, ht⟩
    · exact write_nil dict ad cap w hd
    · exact write_ok dict b off cap l w hb ht hs hd _ (by rw [← h1])
  · rw [if_pos h0]
    exact write_bad dict ad cap l w hl hs _ rfl (by simpa using h0)
def Small (l : List Tk.T) : Prop := l.length ≤ 1000 ∧ ∀ t ∈ l, t.lit.size ≤ 1000 ∧ 0 ≤ t.len ∧ t.len ≤ 1000 ∧ 0 ≤ t.far ∧ t.far ≤ 1000
theorem tb_len (t : Tk.T) (h : t.lit.size ≤ 1000 ∧ 0 ≤ t.len ∧ t.len ≤ 1000 ∧ 0 ≤ t.far ∧ t.far ≤ 1000) : (tb t).length ≤ 1010 := by
  unfold tb
  split
  · have := Nm.nb_len5 (2 * t.lit.size) (by omega)
    simp
    omega
  · have h1 := Nm.nb_len5 (2 * t.len + 1).toNat (by omega)
    have h2 := Nm.nb_len5 t.far.toNat (by omega)
    simp
    omega
end Go.Proofs.YtbjbjbpgmojcbabGreat
namespace Go.Proofs.YtbjbjbpgmojcbabGreat
def Okt (t : Tk.T) : Prop := (t.lit.size ≠ 0 ∧ t.far = 0 ∧ t.len = 0 ∧ t.lit.size ≤ 512) ∨ (t.lit.size = 0 ∧ 1 ≤ t.far ∧ t.far ≤ 768 ∧ 3 ≤ t.len ∧ t.len ≤ 64)
theorem run_ok1 {d : Nat} {s : List UInt8} {p : Bool} {t : Tk.T} {l : List Tk.T} (h : (Tk.run d s p (t :: l)).1 = 0) : Tk.err d s p t = 0 ∧ (Tk.run d (Tk.make s t) (decide (t.lit.size ≠ 0)) l).1 = 0 := by
  by_cases e : Tk.err d s p t = 0
  · rw [Tk.run_good e] at h
    exact ⟨e, h⟩
  · rw [Tk.run_bad e] at h
    exact absurd h e
theorem tb_two {t : Tk.T} (h : Okt t) : (tb t).length ≤ 2 * (t.lit.size + t.len.toNat) := by
  unfold tb
  rcases h with ⟨h0, h1, h2, h3⟩ | ⟨h0, h1, h2, h3, h4⟩
  · rw [if_pos h0, List.length_append]
    have hl : t.lit.data.toList.length = t.lit.size := by simp
    rw [hl]
    by_cases h5 : 2 * t.lit.size < 128
    · rw [Nm.nb_lt h5]
      simp only [List.length_cons, List.length_nil]
      omega
    · have := Nm.nb_len_le 1 (2 * t.lit.size) (by omega)
      omega
  · rw [if_neg (by omega), List.length_append]
    have a1 := Nm.nb_len_le 1 (2 * t.len + 1).toNat (by omega)
    have a2 := Nm.nb_len_le 1 t.far.toNat (by omega)
    omega
theorem run_okt {d : Nat} (hd : d ≤ 256) : ∀ (l : List Tk.T) (s : List UInt8) (p : Bool), d ≤ s.length → s.length ≤ d + 512 → (Tk.run d s p l).1 = 0 →
    (∀ t ∈ l, Okt t) ∧ (tbs l).length + 2 * s.length ≤ 2 * (d + 512) ∧ l.length + s.length ≤ d + 512 := by
  intro l
  induction l with
  | nil => intro s p h1 h2 _; refine ⟨fun t h => by simp at h, ?_, ?_⟩ <;> simp [tbs] <;> omega
  | cons t l ih =>
    intro s p h1 h2 h
    obtain ⟨he, h⟩ := run_ok1 h
    obtain ⟨m1, m2, m3, m4, m5⟩ := Tk.make_ok he
    have ok : Okt t := by
      by_cases h0 : t.lit.size = 0
      · have := m3 h0
        exact .inr ⟨h0, by omega, by omega, by omega, by omega⟩
      · have := m4 h0
        exact .inl ⟨h0, this.1, this.2, by omega⟩
    have ht := tb_two ok
    obtain ⟨i1, i2, i3⟩ := ih (Tk.make s t) _ (by omega) (by omega) h
    have hpos : 1 ≤ t.lit.size + t.len.toNat := by rcases ok with h | h <;> omega
    refine ⟨?_, ?_, ?_⟩
    · intro u hu
      rcases List.mem_cons.1 hu with rfl | hu
      · exact ok
      · exact i1 u hu
    · simp only [tbs, List.length_append]
      omega
    · simp only [List.length_cons]
      omega
theorem check_okt {dict : ByteArray} {l : List Tk.T} (h : checkOf dict l = 0) : (∀ t ∈ l, Okt t) ∧ (tbs l).length ≤ 1024 ∧ l.length ≤ 512 := by
  obtain ⟨hd, h1⟩ := check_ok h
  have hl : dict.data.toList.length = dict.size := by simp
  have := run_okt hd l dict.data.toList false (by omega) (by omega) h1
  exact ⟨this.1, by omega, by omega⟩
theorem check_small {dict : ByteArray} {l : List Tk.T} (h : checkOf dict l = 0) : Small l := by
  obtain ⟨h1, _, h3⟩ := check_okt h
  refine ⟨by omega, fun t ht => ?_⟩
  rcases h1 t ht with h | h <;> omega
theorem small_sane {l : List Tk.T} (h : Small l) : Sane l := ⟨by have := h.1; omega, fun t ht => by have := h.2 t ht; omega⟩
theorem one_tb {t : Tk.T} (h : Okt t) (r : List UInt8) : Tk.one ⟨(tb t ++ r).toArray⟩ = some (t, (tb t).length) := by
  unfold Tk.one tb
  rcases h with ⟨h0, h1, h2, h3⟩ | ⟨h0, h1, h2, h3, h4⟩
  · rw [if_pos h0]
    have hl : t.lit.data.toList.length = t.lit.size := by simp
    have hf : Nm.from_ (⟨(Nm.nb (2 * t.lit.size) ++ t.lit.data.toList ++ r).toArray⟩ : ByteArray).data.toList = some (2 * t.lit.size, (Nm.nb (2 * t.lit.size)).length) := by
      show Nm.from_ (Nm.nb (2 * t.lit.size) ++ t.lit.data.toList ++ r).toArray.toList = _
      rw [List.toList_toArray, List.append_assoc]
      exact Nm.from_nb _ _ (by omega)
    rw [hf]
    simp only
    rw [if_neg (by omega), if_neg]
    · congr 2
      · obtain ⟨x, f, n⟩ := t
        simp only at h1 h2
        subst h1 h2
        congr 1
        apply Nm.ba_ext
        rw [Tk.ext_data]
        show (((Nm.nb (2 * x.size) ++ x.data.toList ++ r).toArray.toList).drop _).take _ = _
        rw [List.toList_toArray, List.append_assoc, List.drop_left, show (Nm.nb (2 * x.size)).length + 2 * x.size / 2 - (Nm.nb (2 * x.size)).length = x.data.toList.length by simp]
        exact List.take_left ..
      · rw [List.length_append, hl]
        omega
    · show ¬ (Nm.nb (2 * t.lit.size) ++ t.lit.data.toList ++ r).toArray.size - _ < _
      simp only [List.size_toArray, List.length_append, hl]
      omega
  · rw [if_neg (by omega)]
    have hf : Nm.from_ (⟨(Nm.nb (2 * t.len + 1).toNat ++ Nm.nb t.far.toNat ++ r).toArray⟩ : ByteArray).data.toList = some ((2 * t.len + 1).toNat, (Nm.nb (2 * t.len + 1).toNat).length) := by
      show Nm.from_ (Nm.nb (2 * t.len + 1).toNat ++ Nm.nb t.far.toNat ++ r).toArray.toList = _
      rw [List.toList_toArray, List.append_assoc]
      exact Nm.from_nb _ _ (by omega)
    rw [hf]
    simp only
    rw [if_pos (by omega), Tk.ext_end]
    have hg : Nm.from_ ((⟨(Nm.nb (2 * t.len + 1).toNat ++ Nm.nb t.far.toNat ++ r).toArray⟩ : ByteArray).data.toList.drop (Nm.nb (2 * t.len + 1).toNat).length) = some (t.far.toNat, (Nm.nb t.far.toNat).length) := by
      show Nm.from_ ((Nm.nb (2 * t.len + 1).toNat ++ Nm.nb t.far.toNat ++ r).toArray.toList.drop _) = _
      rw [List.toList_toArray, List.append_assoc, List.drop_left]
      exact Nm.from_nb _ _ (by omega)
    rw [hg]
    simp only
    congr 2
    · obtain ⟨x, f, n⟩ := t
      simp only at h0 h1 h2 h3 h4
      congr 1
      · apply Nm.ba_ext
        have : x.data.toList.length = 0 := h0
        rw [List.eq_nil_of_length_eq_zero this]
      · simp only
        omega
      · simp only
        omega
    · rw [List.length_append]
theorem D_tbs : ∀ (l : List Tk.T), (∀ t ∈ l, Okt t) → Tk.D ⟨(tbs l).toArray⟩ = some l := by
  intro l
  induction l with
  | nil => intro _; exact Tk.D_nil rfl
  | cons t l ih =>
    intro h
    rw [show tbs (t :: l) = tb t ++ tbs l from rfl, Tk.D_some (one_tb (h t (by simp)) (tbs l))]
    have e : (⟨(tb t ++ tbs l).toArray⟩ : ByteArray).extract (tb t).length (⟨(tb t ++ tbs l).toArray⟩ : ByteArray).size = ⟨(tbs l).toArray⟩ := by
      apply Nm.ba_ext
      rw [Tk.ext_end]
      show (tb t ++ tbs l).toArray.toList.drop _ = (tbs l).toArray.toList
      rw [List.toList_toArray, List.toList_toArray, List.drop_left]
    rw [e, ih (fun u hu => h u (by simp [hu]))]
    rfl
theorem tb_one {s : ByteArray} {t : Tk.T} {k : Nat} (h : Tk.one s = some (t, k)) (ho : Okt t) : tb t = s.data.toList.take k := by
  unfold Tk.one at h
  have hl : s.data.toList.length = s.size := by simp
  cases hf : Nm.from_ s.data.toList with
  | none => rw [hf] at h; simp at h
  | some x =>
    obtain ⟨n, j⟩ := x
    rw [hf] at h
    simp only at h
    obtain ⟨f1, f2, f3, f4, f5⟩ := Nm.nb_from hf
    by_cases hp : n % 2 = 1
    · rw [if_pos hp] at h
      cases hg : Nm.from_ (s.extract j s.size).data.toList with
      | none => rw [hg] at h; simp at h
      | some y =>
        obtain ⟨f, i⟩ := y
        rw [hg] at h
        simp only [Option.some.injEq, Prod.mk.injEq] at h
        obtain ⟨rfl, rfl⟩ := h
        obtain ⟨g1, g2, g3, g4, g5⟩ := Nm.nb_from hg
        rw [Tk.ext_end] at g2
        unfold tb
        rw [if_neg (fun h => h rfl)]
        simp only
        rw [show (2 * ((n / 2 : Nat) : Int) + 1).toNat = n by omega, show ((f : Nat) : Int).toNat = f by omega, f2, g2, List.take_add]
    · rw [if_neg hp] at h
      by_cases hb : s.size - j < n / 2
      · rw [if_pos hb] at h; simp at h
      · rw [if_neg hb] at h
        simp only [Option.some.injEq, Prod.mk.injEq] at h
        obtain ⟨rfl, rfl⟩ := h
        have hz : (s.extract j (j + n / 2)).size = n / 2 := by simp; omega
        unfold tb
        rcases ho with ho | ho
        · rw [if_pos ho.1]
          simp only
          rw [hz, show 2 * (n / 2) = n by omega, f2, Tk.ext_data, show j + n / 2 - j = n / 2 by omega, List.take_add]
        · exact absurd ho.2.1 (by simp)
theorem tbs_D : ∀ (n : Nat) (s : ByteArray) (l : List Tk.T), s.size ≤ n → Tk.D s = some l → (∀ t ∈ l, Okt t) → tbs l = s.data.toList := by
  intro n
  induction n with
  | zero =>
    intro s l h1 h2 _
    rw [Tk.D_nil (by omega)] at h2
    cases h2
    have : s.data.toList.length = 0 := show s.size = 0 by omega
    rw [List.eq_nil_of_length_eq_zero this]
    rfl
  | succ n ih =>
    intro s l h1 h2 h3
    by_cases h0 : s.size = 0
    · exact ih s l (by omega) h2 h3
    · cases ho : Tk.one s with
      | none => rw [Tk.D_none h0 ho] at h2; cases h2
      | some x =>
        obtain ⟨t, k⟩ := x
        have hp := Tk.one_pos ho
        rw [Tk.D_some ho] at h2
        cases hD : Tk.D (s.extract k s.size) with
        | none => rw [hD] at h2; cases h2
        | some m =>
          rw [hD] at h2
          simp only [Option.map_some, Option.some.injEq] at h2
          subst h2
          have := ih (s.extract k s.size) m (by rw [Tk.ext_size]; omega) hD (fun u hu => h3 u (by simp [hu]))
          rw [Tk.ext_end] at this
          rw [show tbs (t :: m) = tb t ++ tbs m from rfl, this, tb_one ho (h3 t (by simp)), List.take_append_drop]
theorem readOf_some {dict s : ByteArray} {l : List Tk.T} (hd : dict.size ≤ 256) (h : readOf dict s = some l) : Tk.D s = some l ∧ checkOf dict l = 0 := by
  unfold readOf at h
  cases hD : Tk.D s with
  | none => rw [hD] at h; simp at h
  | some m =>
    rw [hD] at h
    simp only at h
    by_cases hr : (Tk.run dict.size dict.data.toList false m).1 = 0
    · rw [if_pos hr] at h
      cases h
      refine ⟨rfl, ?_⟩
      unfold checkOf
      rw [if_neg (by omega), hr]
    · rw [if_neg hr] at h; cases h
theorem readOf_of {dict s : ByteArray} {l : List Tk.T} (hD : Tk.D s = some l) (hc : checkOf dict l = 0) : readOf dict s = some l := by
  unfold readOf
  rw [hD]
  simp only
  rw [if_pos (check_ok hc).2]
theorem read_tbs {dict s : ByteArray} {l : List Tk.T} (hd : dict.size ≤ 256) (h : readOf dict s = some l) : (⟨(tbs l).toArray⟩ : ByteArray) = s ∧ checkOf dict l = 0 := by
  obtain ⟨h1, h2⟩ := readOf_some hd h
  refine ⟨?_, h2⟩
  rw [tbs_D s.size s l (Nat.le_refl _) h1 (check_okt h2).1, Nm.ba_list]
theorem read_long0 {dict s : ByteArray} (hd : dict.size ≤ 256) (h : 1024 < s.size) : readOf dict s = none := by
  cases hr : readOf dict s with
  | none => rfl
  | some l =>
    obtain ⟨h1, h2⟩ := read_tbs hd hr
    have := (check_okt h2).2.1
    rw [← h1] at h
    have e : (⟨(tbs l).toArray⟩ : ByteArray).size = (tbs l).length := rfl
    omega
theorem read_write {dict : ByteArray} {l : List Tk.T} (hc : checkOf dict l = 0) : readOf dict ⟨(tbs l).toArray⟩ = some l := readOf_of (D_tbs l (check_okt hc).1) hc
theorem copy_take (l : List UInt8) (a far : Nat) (h1 : 1 ≤ far) (h2 : far ≤ a) : ∀ n, (∀ j, j < n → l[a - far + j]? = l[a + j]?) → a + n ≤ l.length → Tk.copy far n (l.take a) = l.take (a + n) := by
  intro n
  induction n with
  | zero => intro _ _; rfl
  | succ n ih =>
    intro h hl
    rw [Tk.copy_succ, ih (fun j hj => h j (by omega)) (by omega)]
    have hlen : (l.take (a + n)).length = a + n := by rw [List.length_take]; omega
    rw [hlen, List.getD_eq_getElem?_getD, List.getElem?_take, if_pos (by omega), show a + n - far = a - far + n by omega, h n (by omega), List.getElem?_eq_getElem (show a + n < l.length by omega), Option.getD_some, show a + (n + 1) = (a + n) + 1 by omega, List.take_add_one, List.getElem?_eq_getElem (show a + n < l.length by omega)]
    rfl
theorem err_copy {d : Nat} {s : List UInt8} {p : Bool} {f n : Nat} (h1 : 3 ≤ n) (h2 : n ≤ 64) (h3 : 1 ≤ f) (h4 : f ≤ s.length) (h5 : s.length + n ≤ d + 512) : Tk.err d s p ⟨⟨#[]⟩, (f : Nat), (n : Nat)⟩ = 0 := by
  unfold Tk.err
  rw [if_neg (fun h => h rfl), if_neg (by simp only; omega), if_neg (by simp only; omega)]
theorem make_copy {s : List UInt8} {f n : Nat} : Tk.make s ⟨⟨#[]⟩, (f : Nat), (n : Nat)⟩ = Tk.copy f n s := by
  unfold Tk.make
  rw [if_neg (fun h => h rfl)]
  rfl
theorem err_lay {d : Nat} {s : List UInt8} {x : ByteArray} (h0 : x.size ≠ 0) (h5 : s.length + x.size ≤ d + 512) : Tk.err d s false ⟨x, 0, 0⟩ = 0 := by
  unfold Tk.err
  rw [if_pos h0, if_neg (by simp), if_neg (by simp only; omega)]
theorem make_lay {s : List UInt8} {x : ByteArray} (h0 : x.size ≠ 0) : Tk.make s ⟨x, 0, 0⟩ = s ++ x.data.toList := by
  unfold Tk.make
  rw [if_pos h0]
theorem run_lay (s : ByteArray) (d f a : Nat) (m : List Tk.T) (h1 : f ≤ a) (h2 : a ≤ s.size) (h3 : s.size ≤ d + 512) : ∃ p, Tk.run d (s.data.toList.take f) false (Tk.lay s f a ++ m) = Tk.run d (s.data.toList.take a) p m := by
  have hl : s.data.toList.length = s.size := by simp
  unfold Tk.lay
  by_cases h : f < a
  · rw [if_pos h]
    have hz : (s.extract f a).size = a - f := by simp; omega
    have hlen : (s.data.toList.take f).length = f := by rw [List.length_take]; omega
    refine ⟨decide ((s.extract f a).size ≠ 0), ?_⟩
    rw [List.cons_append, List.nil_append, Tk.run_good (err_lay (by omega) (by rw [hlen, hz]; omega)), make_lay (by omega), Tk.ext_data, ← List.take_add, show f + (a - f) = a by omega]
  · rw [if_neg h]
    refine ⟨false, ?_⟩
    rw [show f = a by omega]
    rfl
theorem P_run (s : ByteArray) (d : Nat) (h3 : s.size ≤ d + 512) : ∀ (n a f : Nat), s.size - a ≤ n → f ≤ a → a ≤ s.size → Tk.run d (s.data.toList.take f) false (Tk.P s a f) = (0, s.data.toList) := by
  have hl : s.data.toList.length = s.size := by simp
  intro n
  induction n with
  | zero =>
    intro a f h1 h2 h4
    rw [Tk.P_end (by omega)]
    obtain ⟨p, hp⟩ := run_lay s d f a [] h2 h4 h3
    rw [List.append_nil] at hp
    rw [hp, Tk.run, List.take_of_length_le (by omega)]
  | succ n ih =>
    intro a f h1 h2 h4
    by_cases ha : a < s.size
    · by_cases hb : (Tk.bst s.data.toList a).2 < 3
      · rw [Tk.P_lit ha hb]
        exact ih (a + 1) f (by omega) (by omega) (by omega)
      · rw [Tk.P_copy ha hb]
        obtain ⟨b1, b2⟩ := Tk.bst_ok s.data.toList a
        generalize Tk.bst s.data.toList a = b at *
        obtain ⟨far, len⟩ := b
        simp only at hb b1 b2 ⊢
        rcases b2 with b2 | ⟨b2, b3, b4, b5⟩
        · simp only [Prod.mk.injEq] at b2; omega
        · unfold Tk.most at b1
          have hlen : (s.data.toList.take a).length = a := by rw [List.length_take]; omega
          obtain ⟨p, hp⟩ := run_lay s d f a (⟨⟨#[]⟩, (far : Nat), (len : Nat)⟩ :: Tk.P s (a + len) (a + len)) h2 h4 h3
          rw [hp, Tk.run_good (err_copy (by omega) (by omega) b2 (by omega) (by omega)), make_copy, copy_take s.data.toList a far b2 b3 len (fun j hj => Tk.alk_same _ _ _ _ j (by rw [← b5]; exact hj)) (by omega)]
          exact ih (a + len) (a + len) (by omega) (Nat.le_refl _) (by omega)
    · exact ih a f (by omega) h2 h4
theorem parse_plays (dict text : ByteArray) (hd : dict.size ≤ 256) (ht : text.size ≤ 512) : checkOf dict (Tk.P (dict ++ text) dict.size dict.size) = 0 ∧ playOf dict (Tk.P (dict ++ text) dict.size dict.size) = text := by
  have h := P_run (dict ++ text) dict.size (by rw [Nm.apps]; omega) _ dict.size dict.size (Nat.le_refl _) (Nat.le_refl _) (by rw [Nm.apps]; omega)
  have hl : dict.data.toList.length = dict.size := by simp
  rw [Nm.appd, ← hl, List.take_left] at h
  rw [hl] at h
  have hc : checkOf dict (Tk.P (dict ++ text) dict.size dict.size) = 0 := by
    unfold checkOf
    rw [if_neg (by omega), h]
  refine ⟨hc, ?_⟩
  unfold playOf
  rw [if_neg (by rw [hc]; simp), h]
  simp only
  rw [← hl, List.drop_left, Nm.ba_list]
end Go.Proofs.YtbjbjbpgmojcbabGreat
