/- Plain: what chapter 3's own ReadCode does, held against Read. -/
import Derived.Test.YtbjbjbpgmojcbaaRefWrite
namespace Go.Proofs.Ytbjbjbpgmojcbaa
namespace Cd

/-- The bits from a on. -/
def rem (b : ByteArray) (a : Nat) : List Bool := (List.range (8 * b.size - a)).map fun j => decide (bitAt b (a + j) = 1)
theorem rem_len (b : ByteArray) (a : Nat) : (rem b a).length = 8 * b.size - a := by simp [rem]
theorem rem_bq (b : ByteArray) (a j : Nat) (h : j < 8 * b.size - a) : bq (rem b a) j = bitAt b (a + j) := by
  have h1 := bitAt_le b (a + j)
  simp only [bq, rem, List.getD_eq_getElem?_getD, List.getElem?_map, List.getElem?_range h, Option.map_some, Option.getD_some, bv]
  by_cases e : bitAt b (a + j) = 1
  · simp [e]
  · have : bitAt b (a + j) = 0 := by omega
    simp [this]
theorem rem_drop (b : ByteArray) (a d : Nat) : (rem b a).drop d = rem b (a + d) := by
  apply List.ext_getElem?
  intro i
  rw [List.getElem?_drop]
  unfold rem
  rw [List.getElem?_map, List.getElem?_map]
  by_cases h : i < 8 * b.size - (a + d)
  · rw [List.getElem?_range (by omega), List.getElem?_range h]
    simp only [Option.map_some, Nat.add_assoc]
  · rw [List.getElem?_eq_none (by simp; omega), List.getElem?_eq_none (by simp; omega)]
    rfl
/-- Two lists of bits that are the same bit for bit. -/
theorem bits_ext {xs ys : List Bool} (hl : xs.length = ys.length) (h : ∀ j, j < xs.length → bq xs j = bq ys j) : xs = ys := by
  apply List.ext_getElem hl
  intro i h1 h2
  have h3 := h i h1
  simp only [bq, List.getD_eq_getElem?_getD, List.getElem?_eq_getElem h1, List.getElem?_eq_getElem h2, Option.getD_some] at h3
  revert h3
  cases xs[i] <;> cases ys[i] <;> simp [bv]
theorem bq_take {xs : List Bool} {n j : Nat} (h : j < n) : bq (xs.take n) j = bq xs j := by
  simp [bq, List.getD_eq_getElem?_getD, h]
/-- Does this sign's word stand at the front? -/
def cnd (f : Nat → Int) (bs : List Bool) (i : Nat) : Prop := 0 < f i ∧ (f i).toNat ≤ bs.length ∧ bs.take (f i).toNat = cw f i
instance (f : Nat → Int) (bs : List Bool) (i : Nat) : Decidable (cnd f bs i) := inferInstanceAs (Decidable (_ ∧ _ ∧ _))
theorem cnd_s15 {f : Nat → Int} (h : chk f = 0) {b : ByteArray} {a i : Nat} (ha : a ≤ 8 * b.size) (hi : i < 16) : cnd f (rem b a) i ↔ s15 f b a = ((i : Int), a + (f i).toNat) := by
  obtain ⟨h1, _, _⟩ := chk_zero h
  have h2 := h1 i hi
  constructor
  · rintro ⟨c1, c2, c3⟩
    obtain ⟨N, hN⟩ : ∃ N : Nat, f i = (N : Int) := ⟨(f i).toNat, by omega⟩
    rw [hN, Int.toNat_natCast] at c2 c3 ⊢
    rw [rem_len] at c2
    have hlt := wds_lt h hi hN (by omega) (by omega)
    have h9 := wds_v f i
    refine sgn_reads hi hN (fun j hj e1 e2 => ?_) (fun n hn1 hn j hj e1 => wds_free hi hN (by omega) (by omega) n hn1 hn j hj e1) N 15 1 0 _ (by omega) (by omega) (by omega) (by omega) (by omega) (Int.ediv_eq_zero_of_lt h9.1 hlt) (fun j hj => ?_)
    · exact wds_inj (n := N - 1) hj hi (by omega) (by omega) (by omega) e2
    · rw [← rem_bq b a j (by omega), ← bq_take hj, c3, cw, hN]
      exact bq_wb _ hj
  · intro hs
    have hne : (s15 f b a).1 ≠ -1 := by rw [hs]; simp only; omega
    obtain ⟨s, d, e, hs2, hf, hd, hm, hz, hw, hj⟩ := sgn_told (f := f) (ws := wds f) (b := b) 15 1 0 a (Nat.le_refl _) hne
    have e2 : ((s : Int), a + d) = ((i : Int), a + (f i).toNat) := e.symm.trans hs
    simp only [Prod.mk.injEq] at e2
    obtain rfl : s = i := by omega
    have hfd : f s = (d : Int) := by omega
    refine ⟨by omega, by rw [rem_len, hfd, Int.toNat_natCast]; omega, ?_⟩
    rw [hfd, Int.toNat_natCast]
    have hlen : (cw f s).length = d := by rw [cw, wb_len, hfd, Int.toNat_natCast]
    refine bits_ext (by rw [List.length_take, rem_len, hlen]; omega) (fun j hjl => ?_)
    have hjd : j < d := by rw [List.length_take] at hjl; omega
    rw [bq_take hjd, rem_bq b a j (by omega)]
    have h3 := hj j hjd
    rw [← bq_wb (wds f s) hjd] at h3
    rw [cw, hfd, Int.toNat_natCast]
    omega
/-- The first of the first k signs whose word stands there. -/
def frK (f : Nat → Int) (bs : List Bool) : Nat → Int
  | 0 => -1
  | k + 1 => if frK f bs k ≠ -1 then frK f bs k else if cnd f bs k then (k : Int) else -1
theorem frK_no {f : Nat → Int} {bs : List Bool} {k : Nat} (h : frK f bs k = -1) (h1 : ¬ cnd f bs k) : frK f bs (k + 1) = -1 := by rw [frK, if_neg (by omega), if_neg h1]
theorem frK_yes {f : Nat → Int} {bs : List Bool} {k : Nat} (h : frK f bs k = -1) (h1 : cnd f bs k) : ∀ j, frK f bs (k + 1 + j) = (k : Int) := by
  intro j
  induction j with
  | zero => rw [Nat.add_zero, frK, if_neg (by omega), if_pos h1]
  | succ j ih => rw [← Nat.add_assoc, frK, ih, if_pos (by omega)]
/-- What front tells. -/
def frt (f : Nat → Int) (bs : List Bool) : Int := frK f bs 16
theorem frK_all {f : Nat → Int} {bs : List Bool} : ∀ k, (∀ i, i < k → ¬ cnd f bs i) → frK f bs k = -1 := by
  intro k
  induction k with
  | zero => intro _; rfl
  | succ k ih => intro h; exact frK_no (ih (fun i hi => h i (by omega))) (h k (by omega))
theorem frt_is {f : Nat → Int} (h : chk f = 0) {b : ByteArray} {a : Nat} (ha : a ≤ 8 * b.size) : frt f (rem b a) = (s15 f b a).1 ∧ ((s15 f b a).1 ≠ -1 → (s15 f b a).2 = a + (f (s15 f b a).1.toNat).toNat) := by
  by_cases hne : (s15 f b a).1 = -1
  · refine ⟨?_, fun h9 => absurd hne h9⟩
    rw [hne]
    refine frK_all 16 (fun i hi hc => ?_)
    have := (cnd_s15 h ha hi).1 hc
    rw [this] at hne
    simp only at hne
    omega
  · obtain ⟨s, d, e, hs2, hf, hd, _⟩ := sgn_told (f := f) (ws := wds f) (b := b) 15 1 0 a (Nat.le_refl _) hne
    have e' : s15 f b a = ((s : Int), a + d) := e
    have hfd : f s = (d : Int) := by omega
    have hc : cnd f (rem b a) s := (cnd_s15 h ha hs2).2 (by rw [e', hfd, Int.toNat_natCast])
    rw [e']
    simp only [Int.toNat_natCast]
    refine ⟨?_, fun _ => by rw [hfd, Int.toNat_natCast]⟩
    have h1 := frK_all (f := f) (bs := rem b a) s (fun i hi hci => by
      have := (cnd_s15 h ha (by omega)).1 hci
      rw [e'] at this
      simp only [Prod.mk.injEq] at this
      omega)
    have h2 := frK_yes h1 hc (15 - s)
    rw [show s + 1 + (15 - s) = 16 by omega] at h2
    exact h2
theorem chr_inj {a b : Bool} (h : chr a = chr b) : a = b := by revert h; cases a <;> cases b <;> simp [chr]
theorem str_inj {xs ys : List Bool} (h : str xs = str ys) : xs = ys := by
  have h1 : xs.map chr = ys.map chr := by
    have := congrArg (fun s => s.data.toList) h
    simpa [str] using this
  apply List.ext_getElem
  · have := congrArg List.length h1; simpa using this
  · intro i h2 h3
    have h4 : (xs.map chr)[i]? = (ys.map chr)[i]? := by rw [h1]
    simp only [List.getElem?_map, List.getElem?_eq_getElem h2, List.getElem?_eq_getElem h3, Option.map_some, Option.some.injEq] at h4
    exact chr_inj h4
theorem str_extract (bs : List Bool) (n : Nat) : (str bs).extract 0 n = str (bs.take n) := by
  apply ByteArray.ext
  simp [str, ByteArray.data_extract, List.map_take]
theorem str_extract2 (bs : List Bool) (n : Nat) : (str bs).extract n (str bs).size = str (bs.drop n) := by
  apply ByteArray.ext
  rw [str_size]
  simp [str, ByteArray.data_extract, List.map_drop, List.take_of_length_le]
/-- The bits of the first k bytes. -/
def pre (b : ByteArray) (k : Nat) : List Bool := (List.range (8 * k)).map fun j => decide (bitAt b j = 1)
theorem pre_len (b : ByteArray) (k : Nat) : (pre b k).length = 8 * k := by simp [pre]
theorem pre_next (b : ByteArray) (k : Nat) : pre b (k + 1) = pre b k ++ wb (at8 b k) 8 := by
  unfold pre
  rw [show 8 * (k + 1) = 8 * k + 8 by omega, List.range_add, List.map_append, List.map_map]
  congr 1
  have h : ∀ r, r < 8 → decide (bitAt b (8 * k + r) = 1) = decide (((at8 b k : Nat) : Int) / 2 ^ (7 - r) % 2 = 1) := fun r hr => by
    rw [bitAt_at b k r hr]
    have e : (((at8 b k : Nat) : Int) / 2 ^ (7 - r) % 2) = ((at8 b k / 2 ^ (7 - r) % 2 : Nat) : Int) := by push_cast; rfl
    rw [e]
    generalize at8 b k / 2 ^ (7 - r) % 2 = y
    by_cases hy : y = 1
    · simp [hy]
    · have : ¬ (y : Int) = 1 := by omega
      simp [hy, this]
  simp only [wb, List.range_succ, List.range_zero, List.map_cons, List.map_nil, List.nil_append, Function.comp, List.cons_append]
  rw [h 0 (by omega), h 1 (by omega), h 2 (by omega), h 3 (by omega), h 4 (by omega), h 5 (by omega), h 6 (by omega), h 7 (by omega)]
theorem pre_all (b : ByteArray) : pre b b.size = rem b 0 := by simp [pre, rem]
/-- Too many bytes are none. -/
theorem rd_long {f : Nat → Int} {b : ByteArray} {n : Int} (hc : chk f = 0) (hn : ¬ (n < 0 ∨ 1024 < n)) (h : 4 * n < (b.size : Int)) : rd f b n = (⟨#[]⟩, 1) := by
  cases hq : rdK f b n.toNat with
  | none => exact rd_none hc hn hq
  | some x =>
    obtain ⟨o, a⟩ := x
    rw [rd_some hc hn hq]
    by_cases he : end_ b a = true
    · exfalso
      obtain ⟨bs, l1, l2, l3, e1, e2⟩ := rdK_told _ o a hq
      have h1 := wrK_len (chk_zero hc).1 _ bs e1
      rw [end_, Bool.and_eq_true, decide_eq_true_eq] at he
      omega
    · rw [if_neg he]
/-- It is right, if what is written of it is what was read. -/
theorem rd_again {f : Nat → Int} {b : ByteArray} {n : Int} {o : List UInt8} {a : Nat} (hc : chk f = 0) (hn : ¬ (n < 0 ∨ 1024 < n)) (hq : rdK f b n.toNat = some (o, a)) : (wrt f ⟨o.toArray⟩).2 = 0 ∧ o.length = n.toNat ∧ rd f b n = if (wrt f ⟨o.toArray⟩).1 = b then (⟨o.toArray⟩, 0) else (⟨#[]⟩, 1) := by
  obtain ⟨bs, l1, l2, l3, e1, e2⟩ := rdK_told _ o a hq
  have hso : (⟨o.toArray⟩ : ByteArray).size = n.toNat := by
    show o.toArray.size = _
    simp [l1]
  have hw : wrt f ⟨o.toArray⟩ = (⟨(pk bs).toArray⟩, 0) := by
    rw [wrt, if_neg (fun h => h hc), if_neg (by omega), hso, e1]
  rw [hw]
  refine ⟨rfl, l1, ?_⟩
  rw [rd_some hc hn hq]
  by_cases he : end_ b a = true
  · rw [if_pos he, if_pos (end_bits l2 e2 he).symm]
  · rw [if_neg he, if_neg]
    intro h9
    apply he
    have := end_pk bs
    simp only at h9
    rw [h9, l2] at this
    exact this
end Cd
end Go.Proofs.Ytbjbjbpgmojcbaa
