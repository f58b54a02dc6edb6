/- A part of the proof: what it leans on. -/
import Derived.Below
import Derived.Shelf.LaysM
import Derived.Shelf.Strconv.Clone
import Derived.Test.YtbjbjbpgmojcbaaProg
import Derived.WalkKit
import Derived.WalkSpells
import Derived.WalkLawsBesides
import Derived.Deep.RegionHeld3
import Derived.Deep.RegionWith
import Derived.Deep.AppendLies
import Derived.Laws.IdiomStrings
import Derived.Lib.BufferRead
import Derived.BigQuiet
import Derived.Deep.QuietTactic
import Derived.Deep.WholeRow
import Derived.Deep.MidRow
import Derived.Lib.AppendStr
namespace Go.Proofs.Ytbjbjbpgmojcbaa
open Go.RowKit
theorem bch {B : Nat} {a b c : World} (h1 : Below B a b) (h2 : Below b.heap.size b c) (hB : B ≤ a.heap.size) : Below B a c := h1.trans (h2.mono (Nat.le_trans hB h1.size))
end Go.Proofs.Ytbjbjbpgmojcbaa
namespace Go.Proofs
open Go.Shelf
def Try.laysM316_ren : Go.Shelf.Ren := ⟨fun | 316 => 83 | n => n, fun | 9 => 9 | 3 => 3 | 4 => 4 | 37 => 69 | 0 => 0 | 127 => 121 | 5 => 5 | n => n, fun | n => n⟩
theorem Try.laysM316 : Go.Proofs.LaysM.n316 Try.prog Try.laysM316_ren := {
  mixed := by kernel_rfl
  f316 := Try.func83.trans (congrArg some (by kernel_rfl))
  t0 := Try.underlying0
  a0 := Try.isAgg0
  z0 := Try.sizeOf0
  v0 := Try.zeroValue0
  t3 := Try.underlying3
  a3 := Try.isAgg3
  z3 := Try.sizeOf3
  v3 := Try.zeroValue3
  t4 := Try.underlying4
  a4 := Try.isAgg4
  z4 := Try.sizeOf4
  v4 := Try.zeroValue4
  t9 := Try.underlying9
  a9 := Try.isAgg9
  z9 := Try.sizeOf9
  v9 := Try.zeroValue9
  t37 := Try.underlying69
  a37 := Try.isAgg69
  z37 := Try.sizeOf69
  v37 := Try.zeroValue69
  t127 := Try.underlying121
  a127 := Try.isAgg121
  z127 := Try.sizeOf121
  v127 := Try.zeroValue121
  t5 := Try.underlying5
  a5 := Try.isAgg5
  z5 := Try.sizeOf5
  v5 := Try.zeroValue5
  i0 := by kernel_rfl
  i3 := by kernel_rfl
  i4 := by kernel_rfl
  i5 := by kernel_rfl
  i9 := by kernel_rfl
  i37 := by kernel_rfl
  i127 := by kernel_rfl }
open Go.RowKit in
theorem Try.stringslite_Clone (s : ByteArray) (w : World) (hlim : s.size ≤ 281474976710656) :
    Calls Try.prog 83 #[.string s] w fun e w' => e = .returned (.string s) ∧ Below w.heap.size w w' := Any.stringslite_Clone Try.laysM316 s w hlim
end Go.Proofs
namespace Go.Proofs.Ytbjbjbpgmojcbaa
open Go.RowKit
set_option maxHeartbeats 400000 in
theorem clone_any (s : ByteArray) (w : World) (h : s.size ≤ 281474976710656) :
    Calls Try.prog 54 #[.string s] w fun e w' => e = .returned (.string s) ∧ Below w.heap.size w w' := by
  go_enter Try.func54, Try.ntmps54
  go_wp2_with (go_at_call 83; refine (Try.stringslite_Clone _ _ h).mono ?_; rintro e w' ⟨rfl, hb⟩)
  go_ret
  exact ⟨rfl, hb⟩
end Go.Proofs.Ytbjbjbpgmojcbaa
namespace Go.Proofs.Ytbjbjbpgmojcbaa.Nm
def nbGo : Nat → Nat → List UInt8
  | 0, n => [UInt8.ofNat n]
  | f + 1, n => if n < 128 then [UInt8.ofNat n] else UInt8.ofNat (128 + n % 128) :: nbGo f (n / 128)
def nb (n : Nat) : List UInt8 := nbGo n n
theorem nbGo_fuel : ∀ (f g n : Nat), n ≤ f → n ≤ g → nbGo f n = nbGo g n := by
  intro f
  induction f with
  | zero =>
    intro g n hf hg
    have : n = 0 := by omega
    subst this
    cases g <;> simp [nbGo]
  | succ f ih =>
    intro g n hf hg
    cases g with
    | zero =>
      have : n = 0 := by omega
      subst this
      simp [nbGo]
    | succ g =>
      simp only [nbGo]
      by_cases h : n < 128
      · simp [h]
      · simp only [h, if_false]
        rw [ih g (n / 128) (by omega) (by omega)]
theorem nb_lt {n : Nat} (h : n < 128) : nb n = [UInt8.ofNat n] := by
  unfold nb
  cases n with
  | zero => rfl
  | succ n => simp [nbGo, h]
theorem nb_ge {n : Nat} (h : 128 ≤ n) : nb n = UInt8.ofNat (128 + n % 128) :: nb (n / 128) := by
  unfold nb
  obtain ⟨m, rfl⟩ : ∃ m, n = m + 1 := ⟨n - 1, by omega⟩
  rw [nbGo, if_neg (by omega), nbGo_fuel m ((m + 1) / 128) ((m + 1) / 128) (by omega) (by omega)]
theorem nb_ne (n : Nat) : nb n ≠ [] := by
  by_cases h : n < 128
  · rw [nb_lt h]; simp
  · rw [nb_ge (by omega)]; simp
theorem nb_len_le : ∀ (k n : Nat), n < 128 ^ (k + 1) → (nb n).length ≤ k + 1 := by
  intro k
  induction k with
  | zero => intro n h; rw [nb_lt (by simpa using h)]; simp
  | succ k ih =>
    intro n h
    by_cases h2 : n < 128
    · rw [nb_lt h2]; simp
    · rw [nb_ge (by omega), List.length_cons]
      have := ih (n / 128) (by
        rw [Nat.pow_succ] at h
        exact (Nat.div_lt_iff_lt_mul (by omega)).2 h)
      omega
theorem nb_len5 (n : Nat) (h : n ≤ 2147483647) : (nb n).length ≤ 5 := nb_len_le 4 n (by omega)
theorem nb_len_pos (n : Nat) : 1 ≤ (nb n).length := by
  have := nb_ne n
  cases h : nb n with
  | nil => exact absurd h this
  | cons a l => simp
def val : List UInt8 → Nat
  | [] => 0
  | b :: t => b.toNat % 128 + 128 * val t
theorem val_snoc (p : List UInt8) (b : UInt8) : val (p ++ [b]) = val p + b.toNat % 128 * 128 ^ p.length := by
  induction p with
  | nil => simp [val]
  | cons a p ih =>
    simp only [List.cons_append, val, ih, List.length_cons, Nat.pow_succ, Nat.mul_add]
    rw [show b.toNat % 128 * (128 ^ p.length * 128) = 128 * (b.toNat % 128 * 128 ^ p.length) by
      rw [← Nat.mul_assoc, Nat.mul_comm]]
    omega
theorem val_lt (p : List UInt8) : val p < 128 ^ p.length := by
  induction p with
  | nil => simp [val]
  | cons a p ih =>
    simp only [val, List.length_cons, Nat.pow_succ]
    have : a.toNat % 128 < 128 := Nat.mod_lt _ (by omega)
    omega
def pre : Nat → List UInt8 → Option (List UInt8)
  | 0, _ => none
  | _ + 1, [] => none
  | k + 1, b :: t => if b.toNat < 128 then some [b] else (pre k t).map (b :: ·)
theorem pre_none : ∀ (k : Nat) (l : List UInt8), (∀ j, j < k → ∀ b, l[j]? = some b → 128 ≤ b.toNat) → pre k l = none := by
  intro k
  induction k with
  | zero => intro l _; cases l <;> rfl
  | succ k ih =>
    intro l h
    cases l with
    | nil => rfl
    | cons b t =>
      have hb := h 0 (by omega) b rfl
      rw [pre, if_neg (by omega), ih t (fun j hj c hc => h (j + 1) (by omega) c (by simpa using hc))]
      rfl
theorem pre_some : ∀ (k i : Nat) (l : List UInt8) (b : UInt8), i < k → l[i]? = some b → b.toNat < 128 →
    (∀ j, j < i → ∀ c, l[j]? = some c → 128 ≤ c.toNat) → pre k l = some (l.take (i + 1)) := by
  intro k
  induction k with
  | zero => intro i l b h; omega
  | succ k ih =>
    intro i l b hi hb hlt h
    cases l with
    | nil => simp at hb
    | cons c t =>
      cases i with
      | zero =>
        simp at hb
        subst hb
        simp [pre, hlt]
      | succ i =>
        have hc := h 0 (by omega) c rfl
        rw [pre, if_neg (by omega), ih i t b (by omega) (by simpa using hb) hlt (fun j hj d hd => h (j + 1) (by omega) d (by simpa using hd))]
        rfl
def from_ (l : List UInt8) : Option (Nat × Nat) :=
  match pre 5 l with
  | none => none
  | some p => if val p ≤ 2147483647 ∧ nb (val p) = p then some (val p, p.length) else none
theorem pre_shape : ∀ (k : Nat) (l p : List UInt8), pre k l = some p →
    ∃ q b, p = q ++ [b] ∧ b.toNat < 128 ∧ (∀ c ∈ q, 128 ≤ c.toNat) ∧ l = p ++ l.drop p.length ∧ p.length ≤ k := by
  intro k
  induction k with
  | zero => intro l p h; simp [pre] at h
  | succ k ih =>
    intro l p h
    cases l with
    | nil => simp [pre] at h
    | cons b t =>
      by_cases hb : b.toNat < 128
      · simp [pre, hb] at h
        subst h
        exact ⟨[], b, rfl, hb, by simp, by simp, by simp⟩
      · rw [pre, if_neg hb] at h
        cases hp : pre k t with
        | none => rw [hp] at h; simp at h
        | some p' =>
          rw [hp] at h
          simp at h
          subst h
          obtain ⟨q, c, rfl, h1, h2, h3, h4⟩ := ih t p' hp
          refine ⟨b :: q, c, by simp, h1, ?_, ?_, ?_⟩
          · intro d hd
            rcases List.mem_cons.1 hd with rfl | hd
            · omega
            · exact h2 d hd
          · simp only [List.cons_append, List.length_cons, List.drop_succ_cons]
            rw [← h3]
          · simp only [List.length_cons]; omega
theorem u8_ofNat_toNat (b : UInt8) : UInt8.ofNat b.toNat = b := by simp
theorem u8_part (b : UInt8) (h : 128 ≤ b.toNat) : UInt8.ofNat (128 + b.toNat % 128) = b := by
  have h2 := b.toNat_lt
  have : 128 + b.toNat % 128 = b.toNat := by omega
  rw [this, u8_ofNat_toNat]
theorem nb_val : ∀ (q : List UInt8) (b : UInt8), b.toNat < 128 → (∀ c ∈ q, 128 ≤ c.toNat) → (q = [] ∨ b ≠ 0) → nb (val (q ++ [b])) = q ++ [b] := by
  intro q
  induction q with
  | nil =>
    intro b hb _ _
    simp only [List.nil_append, val, Nat.mul_zero, Nat.add_zero]
    rw [Nat.mod_eq_of_lt hb, nb_lt hb, u8_ofNat_toNat]
  | cons c q ih =>
    intro b hb hq h0
    have hb0 : b ≠ 0 := by
      rcases h0 with h0 | h0
      · simp at h0
      · exact h0
    have hc := hq c (by simp)
    have ih' := ih b hb (fun d hd => hq d (by simp [hd])) (Or.inr hb0)
    have hpos : 1 ≤ val (q ++ [b]) := by
      rw [val_snoc]
      have : 1 ≤ b.toNat % 128 := by
        rw [Nat.mod_eq_of_lt hb]
        rcases Nat.eq_zero_or_pos b.toNat with h | h
        · exact absurd (by simpa using congrArg UInt8.ofNat h) hb0
        · exact h
      have h2 : 1 ≤ 128 ^ q.length := Nat.pow_pos (by omega)
      have := Nat.mul_le_mul this h2
      omega
    simp only [List.cons_append, val]
    rw [nb_ge (by omega)]
    rw [show (c.toNat % 128 + 128 * val (q ++ [b])) % 128 = c.toNat % 128 by omega,
      show (c.toNat % 128 + 128 * val (q ++ [b])) / 128 = val (q ++ [b]) by omega, u8_part c hc, ih']
theorem nb_last_ne : ∀ (f n : Nat), n ≤ f → 128 ≤ n → ∃ q b, nb n = q ++ [b] ∧ b ≠ 0 := by
  intro f
  induction f with
  | zero => intro n h1 h2; omega
  | succ f ih =>
    intro n h1 h2
    rw [nb_ge h2]
    by_cases h : n / 128 < 128
    · rw [nb_lt h]
      refine ⟨[UInt8.ofNat (128 + n % 128)], UInt8.ofNat (n / 128), rfl, ?_⟩
      intro e
      have := congrArg UInt8.toNat e
      simp at this
      omega
    · obtain ⟨q, b, hq, hb⟩ := ih (n / 128) (by omega) (by omega)
      exact ⟨UInt8.ofNat (128 + n % 128) :: q, b, by rw [hq]; rfl, hb⟩
theorem nb_spare (q : List UInt8) (h : q ≠ []) (n : Nat) : nb n ≠ q ++ [0] := by
  intro e
  by_cases hn : n < 128
  · rw [nb_lt hn] at e
    have := congrArg List.length e
    simp at this
    exact h this
  · obtain ⟨q', b, hq, hb⟩ := nb_last_ne n n (Nat.le_refl _) (by omega)
    rw [hq] at e
    have := List.append_inj' e rfl
    simp at this
    exact hb this.2
theorem val_nb : ∀ (f n : Nat), n ≤ f → val (nb n) = n := by
  intro f
  induction f with
  | zero =>
    intro n h
    have : n = 0 := by omega
    subst this
    rw [nb_lt (by omega)]; simp [val]
  | succ f ih =>
    intro n h
    by_cases hn : n < 128
    · rw [nb_lt hn]
      simp only [val, UInt8.toNat_ofNat']
      omega
    · rw [nb_ge (by omega)]
      simp only [val, UInt8.toNat_ofNat']
      rw [ih (n / 128) (by omega)]
      omega
theorem pre_nb : ∀ (k n : Nat) (r : List UInt8), (nb n).length ≤ k → pre k (nb n ++ r) = some (nb n) := by
  intro k
  induction k with
  | zero => intro n r h; have := nb_len_pos n; omega
  | succ k ih =>
    intro n r h
    by_cases hn : n < 128
    · rw [nb_lt hn]
      simp only [List.cons_append, List.nil_append, pre, UInt8.toNat_ofNat']
      rw [if_pos (by omega)]
    · rw [nb_ge (by omega)] at h ⊢
      simp only [List.length_cons] at h
      simp only [List.cons_append, pre, UInt8.toNat_ofNat']
      rw [if_neg (by omega), ih (n / 128) r (by omega)]
      rfl
theorem from_nb (n : Nat) (r : List UInt8) (h : n ≤ 2147483647) : from_ (nb n ++ r) = some (n, (nb n).length) := by
  unfold from_
  rw [pre_nb 5 n r (nb_len5 n h)]
  simp only [val_nb n n (Nat.le_refl _)]
  simp [h]
theorem nb_from {l : List UInt8} {n k : Nat} (h : from_ l = some (n, k)) : n ≤ 2147483647 ∧ nb n = l.take k ∧ k ≤ l.length ∧ 1 ≤ k ∧ k ≤ 5 := by
  unfold from_ at h
  cases hp : pre 5 l with
  | none => rw [hp] at h; simp at h
  | some p =>
    rw [hp] at h
    simp only at h
    by_cases hc : val p ≤ 2147483647 ∧ nb (val p) = p
    · rw [if_pos hc] at h
      simp only [Option.some.injEq, Prod.mk.injEq] at h
      obtain ⟨rfl, rfl⟩ := h
      obtain ⟨q, b, hqb, _, _, h3, h4⟩ := pre_shape 5 l p hp
      refine ⟨hc.1, ?_, ?_, ?_, h4⟩
      · rw [hc.2]
        conv => rhs; rw [h3]
        simp
      · rw [h3]; simp
      · rw [hqb]; simp
    · rw [if_neg hc] at h; simp at h
theorem from_of (l : List UInt8) (i : Nat) (b : UInt8) (hi : i < 5) (hb : l[i]? = some b) (hlt : b.toNat < 128)
    (h : ∀ j, j < i → ∀ c, l[j]? = some c → 128 ≤ c.toNat) :
    from_ l = if (b = 0 ∧ 0 < i) ∨ 2147483647 < val (l.take (i + 1)) then none else some (val (l.take (i + 1)), i + 1) := by
  have hp := pre_some 5 i l b hi hb hlt h
  have hil : i < l.length := by
    rcases Nat.lt_or_ge i l.length with h | h
    · exact h
    · rw [List.getElem?_eq_none h] at hb; simp at hb
  have ht : l.take (i + 1) = l.take i ++ [b] := by
    rw [List.take_succ_eq_append_getElem hil]
    congr 1
    rw [List.getElem?_eq_getElem hil] at hb
    simpa using hb
  have hlen : (l.take (i + 1)).length = i + 1 := by simp; omega
  unfold from_
  rw [hp]
  simp only
  by_cases hv : 2147483647 < val (l.take (i + 1))
  · rw [if_neg (by omega), if_pos (Or.inr hv)]
  · by_cases hs : b = 0 ∧ 0 < i
    · rw [if_pos (Or.inl hs), if_neg]
      intro hc
      have h2 := hc.2
      rw [ht, hs.1] at h2
      exact nb_spare (l.take i) (by intro e; have := congrArg List.length e; rw [List.length_take, List.length_nil] at this; omega) _ h2
    · have hn : ¬((b = 0 ∧ 0 < i) ∨ 2147483647 < val (l.take (i + 1))) := by
        rintro (h | h)
        · exact hs h
        · exact hv h
      rw [if_neg hn, if_pos, hlen]
      refine ⟨by omega, ?_⟩
      rw [ht]
      refine nb_val (l.take i) b hlt ?_ ?_
      · intro c hc
        obtain ⟨j, hj, rfl⟩ := List.getElem_of_mem hc
        have hj2 : j < i := by simp at hj; omega
        refine h j hj2 _ ?_
        rw [List.getElem_take]
        exact List.getElem?_eq_getElem _
      · by_cases hi0 : i = 0
        · left; subst hi0; simp
        · right; intro e; exact hs ⟨e, by omega⟩
theorem from_of2 (l : List UInt8) (i : Nat) (b : UInt8) (hi : i < 5) (hb : l[i]? = some b) (hlt : b.toNat < 128)
    (h : ∀ j, j < i → ∀ c, l[j]? = some c → 128 ≤ c.toNat) :
    from_ l = if val (l.take (i + 1)) ≤ 2147483647 ∧ nb (val (l.take (i + 1))) = l.take (i + 1) then some (val (l.take (i + 1)), i + 1) else none := by
  have hil : i < l.length := by
    rcases Nat.lt_or_ge i l.length with h | h
    · exact h
    · rw [List.getElem?_eq_none h] at hb; simp at hb
  have hlen : (l.take (i + 1)).length = i + 1 := by simp; omega
  unfold from_
  rw [pre_some 5 i l b hi hb hlt h]
  simp only [hlen]
theorem from_none (l : List UInt8) (h : ∀ j, j < 5 → ∀ b, l[j]? = some b → 128 ≤ b.toNat) : from_ l = none := by
  unfold from_
  rw [pre_none 5 l h]
theorem ba_app (a b : List UInt8) : (⟨a.toArray⟩ : ByteArray) ++ ⟨b.toArray⟩ = ⟨(a ++ b).toArray⟩ := by
  apply ByteArray.ext
  simp
theorem ba_list (s : ByteArray) : (⟨s.data.toList.toArray⟩ : ByteArray) = s := by
  apply ByteArray.ext
  simp
theorem ext_le {s : ByteArray} {a b X : Nat} (h : s.size ≤ X) : (s.extract a b).size ≤ X := by simp; omega
theorem appd (a b : ByteArray) : (a ++ b).data.toList = a.data.toList ++ b.data.toList := by simp
theorem apps (a b : ByteArray) : (a ++ b).size = a.size + b.size := by simp
theorem ba_ext {a b : ByteArray} (h : a.data.toList = b.data.toList) : a = b := by
  apply ByteArray.ext
  exact Array.toList_inj.1 h
theorem at_list (s : ByteArray) (k : Nat) (h : k < s.size) : s.data.toList[k]? = some s[k] := by
  rw [List.getElem?_eq_getElem (by simpa using h)]
  rfl
theorem val_take (s : ByteArray) (k : Nat) (h : k < s.size) : val (s.data.toList.take (k + 1)) = val (s.data.toList.take k) + s[k].toNat % 128 * 2 ^ (7 * k) := by
  have hl : k < s.data.toList.length := by simpa using h
  rw [List.take_succ_eq_append_getElem hl, val_snoc, List.length_take, Nat.min_eq_left (by omega), Nat.pow_mul]
  rfl
def num (s : ByteArray) : Nat := match from_ s.data.toList with | none => 0 | some x => x.1
def size (s : ByteArray) : Nat := match from_ s.data.toList with | none => 0 | some x => x.2
def rest (s : ByteArray) : ByteArray := match from_ s.data.toList with | none => ⟨#[]⟩ | some x => s.extract x.2 s.size
def is (s : ByteArray) : Bool := (from_ s.data.toList).isSome
theorem rest_none {s : ByteArray} (h : from_ s.data.toList = none) : rest s = ⟨#[]⟩ ∧ is s = false := by simp [rest, is, h]
theorem rest_some {s : ByteArray} {n k : Nat} (h : from_ s.data.toList = some (n, k)) : rest s = s.extract k s.size ∧ is s = true := by simp [rest, is, h]
theorem num_none {s : ByteArray} (h : from_ s.data.toList = none) : num s = 0 ∧ size s = 0 := by simp [num, size, h]
theorem num_some {s : ByteArray} {n k : Nat} (h : from_ s.data.toList = some (n, k)) : num s = n ∧ size s = k := by simp [num, size, h]
end Go.Proofs.Ytbjbjbpgmojcbaa.Nm
namespace Go.Proofs.Ytbjbjbpgmojcbaa
open Go.RowKit
theorem bcell {W w1 : World} (hb : Below W.heap.size W w1) : ∀ b o, b < W.heap.size → w1.cell? ⟨b, o, none⟩ = W.cell? ⟨b, o, none⟩ :=
  fun b o h => hb.cell (p := ⟨b, o, none⟩) h
set_option maxRecDepth 100000 in
set_option maxHeartbeats 400000 in
theorem begin_any (s : ByteArray) (w : World) (hs : s.size ≤ maxLen) :
    Calls Try.prog 53 #[.string s] w fun e w' => e = .returned (.tuple #[.int .i64 (Nm.num s : Nat), .int .i64 (Nm.size s : Nat)]) ∧ w' = w := by
  have hs2 : (s.size : Int) ≤ 9223372036854775807 := by unfold maxLen at hs; omega
  clear hs
  obtain ⟨lim, hlim⟩ : ∃ lim : Nat, min (s.size : Int) 5 = (lim : Int) := ⟨min s.size 5, by omega⟩
  have hl1 : lim ≤ s.size := by omega
  have hl2 : lim ≤ 5 := by omega
  have hl3 : Hid (lim = s.size ∨ lim = 5) := by show _ ∨ _; omega
  go_enter Try.func53, Try.ntmps53
  go_wp2
  clear hlim
  go_loop [4, 9] (fun n i => ∃ k : Nat, k ≤ lim ∧ i = .int .i64 k ∧ n = .int .u64 (Nm.val (s.data.toList.take k) : Nat) ∧ Hid (∀ j, j < k → ∀ b, s.data.toList[j]? = some b → 128 ≤ b.toNat)) (fun _ i => 5 - (intOf i).toNat)
  case atStart => exact ⟨0, by omega, rfl, rfl, fun j h => by omega⟩
  case round =>
    obtain ⟨k, hk, rfl, rfl, hall⟩ := hrel
    have hvl := Nm.val_lt (s.data.toList.take k)
    generalize hm : Nm.val (s.data.toList.take k) = m at *
    have Hm : Hid (Nm.val (s.data.toList.take k) = m) := hm
    clear hm
    by_cases hlt : k < lim
    · have hmb : (m : Int) < 268435456 := by
        have h3 : (s.data.toList.take k).length ≤ 4 := by rw [List.length_take]; omega
        have h4 : 128 ^ (s.data.toList.take k).length ≤ 128 ^ 4 := Nat.pow_le_pow_right (by omega) h3
        omega
      clear hvl
      have h1 : k < s.size := by omega
      obtain ⟨x, hx⟩ : ∃ x : Int, (s[k].toNat : Int) = x := ⟨_, rfl⟩
      have hx0 : 0 ≤ x := by omega
      have hx1 : x ≤ 255 := by have := s[k].toNat_lt; omega
      have hp : (2 : Int) ^ (7 * k) ≤ 2 ^ 28 := by
        have : k = 0 ∨ k = 1 ∨ k = 2 ∨ k = 3 ∨ k = 4 := by omega
        rcases this with rfl | rfl | rfl | rfl | rfl <;> decide
      have hp0 : (0 : Int) < 2 ^ (7 * k) := Int.pow_pos (by omega)
      obtain ⟨y, hy⟩ : ∃ y : Int, x % 128 * 2 ^ (7 * k) = y := ⟨_, rfl⟩
      have hy0 : 0 ≤ y := by rw [← hy]; exact Int.mul_nonneg (by omega) (by omega)
      have hy1 : y ≤ 34359738368 := by
        rw [← hy]
        have h9 : x % 128 * 2 ^ (7 * k) ≤ 128 * 2 ^ 28 := Int.mul_le_mul (by omega) hp (by omega) (by omega)
        have h8 : (128 * 2 ^ 28 : Int) = 34359738368 := by decide
        omega
      clear hp hp0
      have Hv : Hid ((Nm.val (s.data.toList.take (k + 1)) : Int) = (m : Int) + y) := by
        show (Nm.val (s.data.toList.take (k + 1)) : Int) = (m : Int) + y
        rw [Nm.val_take s k h1, Hm.out, ← hy, ← hx]
        simp
      have Hx : Hid ((s[k].toNat : Int) = x) := hx
      by_cases hb : 128 ≤ x
      · go_wp2
        go_round
        case rel =>
          refine ⟨k + 1, by omega, by go_num, by rw [← Hv.out], ?_⟩
          show ∀ j, _
          intro j hj b hjb
          by_cases hjk : j = k
          · subst hjk
            rw [Nm.at_list s j h1] at hjb
            simp only [Option.some.injEq] at hjb
            subst hjb
            have := Hx.out
            omega
          · exact hall.out j (by omega) b hjb
        case measure => simp [intOf]; omega
      · have hf := Nm.from_of s.data.toList k s[k] (by omega) (Nm.at_list s k h1) (by omega) hall.out
        have Hf : Hid (Nm.from_ s.data.toList = if (s[k] = 0 ∧ 0 < k) ∨ 2147483647 < Nm.val (s.data.toList.take (k + 1)) then none else some (Nm.val (s.data.toList.take (k + 1)), k + 1)) := hf
        clear hf
        by_cases hA : x = 0 ∧ 0 < k
        · have hk' : (0 : Int) < (k : Int) := by omega
          have HF : Hid (Nm.num s = 0 ∧ Nm.size s = 0) := by
            refine Nm.num_none ?_
            rw [Hf.out, if_pos]
            left
            exact ⟨by apply UInt8.toNat_inj.1; have := Hx.out; simp; omega, hA.2⟩
          obtain ⟨rfl, hA2⟩ := hA
          obtain rfl : y = 0 := by rw [← hy]; simp
          have hd : decide (0 < k) = true := by simpa using hA2
          clear hy
          go_wp2
          go_ret2
          exact ⟨by rw [HF.out.1, HF.out.2]; rfl, rfl⟩
        · by_cases hbig : 2147483647 < (m : Int) + y
          · have HF : Hid (Nm.num s = 0 ∧ Nm.size s = 0) := by
              refine Nm.num_none ?_
              rw [Hf.out, if_pos]
              right
              have := Hv.out
              omega
            by_cases hz : x = 0
            · exfalso
              obtain rfl : k = 0 := by omega
              have h0 := Hm.out
              simp [Nm.val] at h0
              subst hz
              simp at hy
              omega
            · have hz' : (x == 0) = false := by simp [hz]
              clear hA hz
              go_wp2
              go_ret2
              exact ⟨by rw [HF.out.1, HF.out.2]; rfl, rfl⟩
          · have HF : Hid ((Nm.num s : Int) = (m : Int) + y ∧ Nm.size s = k + 1) := by
              have h7 : Nm.from_ s.data.toList = some (Nm.val (s.data.toList.take (k + 1)), k + 1) := by
                rw [Hf.out, if_neg]
                rintro (h | h)
                · refine hA ⟨?_, h.2⟩
                  have := Hx.out
                  rw [h.1] at this
                  simpa using this.symm
                · have := Hv.out
                  omega
              have h8 := Nm.num_some h7
              refine ⟨?_, h8.2⟩
              rw [h8.1]
              exact Hv.out
            by_cases hz : x = 0
            · obtain rfl : k = 0 := by omega
              subst hz
              obtain rfl : y = 0 := by rw [← hy]; simp
              obtain rfl : m = 0 := by have h0 := Hm.out; simpa [Nm.val] using h0.symm
              clear hA hy
              go_wp2
              go_ret2
              exact ⟨by rw [HF.out.1, HF.out.2]; rfl, rfl⟩
            · have hz' : (x == 0) = false := by simp [hz]
              clear hA hz
              go_wp2
              go_ret2
              exact ⟨by rw [HF.out.1, HF.out.2]; rfl, rfl⟩
    · have HF : Hid (Nm.num s = 0 ∧ Nm.size s = 0) := by
        refine Nm.num_none (Nm.from_none _ ?_)
        intro j hj b hjb
        refine hall.out j ?_ b hjb
        have : j < s.size := by
          rcases Nat.lt_or_ge j s.size with h | h
          · exact h
          · rw [List.getElem?_eq_none (by simpa using h)] at hjb; simp at hjb
        have := hl3.out
        omega
      clear hvl
      go_wp2
      go_ret2
      exact ⟨by rw [HF.out.1, HF.out.2]; rfl, rfl⟩
end Go.Proofs.Ytbjbjbpgmojcbaa
namespace Go.Proofs.Ytbjbjbpgmojcbaa
open Go.RowKit
theorem info_u8 : (Try.prog.info? 5).map (fun i => (i.zero, i.size, i.bytes)) = some (some (.int .u8 0), 1, 1) := by kernel_rfl
def bcs (l : List UInt8) : List Value := l.map fun b => .int .u8 (b.toNat : Int)
theorem bcs_append (a b : List UInt8) : bcs (a ++ b) = bcs a ++ bcs b := by simp [bcs]
theorem bcs_length (a : List UInt8) : (bcs a).length = a.length := by simp [bcs]
theorem bcs_snoc (l : List UInt8) (x : Int) (h0 : 0 ≤ x) (h1 : x < 256) : bcs (l ++ [UInt8.ofNat x.toNat]) = bcs l ++ [.int .u8 x] := by
  rw [bcs_append]
  congr 1
  simp only [bcs, List.map_cons, List.map_nil, UInt8.toNat_ofNat']
  congr 2
  omega
theorem one_u8 (x : Int) : ∀ u ∈ [Value.int .u8 x], u.oneCell' = true := by intro u hu; simp at hu; subst hu; rfl
theorem ml_le {a : Nat} (h : a ≤ 140737488355328) : a ≤ maxLen := by unfold maxLen; omega
theorem sz_alloc {B : Nat} {w : World} (o : Obj) (h : B ≤ w.heap.size) : B ≤ (w.alloc o).heap.size := by simp; omega
theorem conv_own {w : World} {base n : Nat} {v : Value} {l : List UInt8} (h : w.ownsRow base 5 1 v n (bcs l)) :
    (convert 69 9 v).run Try.prog w = .ok (.string ⟨l.toArray⟩) w := by
  have hlen := h.1
  rw [bcs_length, Nat.mul_one] at hlen
  rcases h.2 with ⟨rfl, h0⟩ | ⟨g, cap, cur, rfl, _, hg, _, _, _, htk⟩
  · have : l = [] := List.eq_nil_of_length_eq_zero (by omega)
    subst this
    exact Lib.run_convert_nil_bytes w _ _ _ _ Try.underlying69 Try.underlying5 Try.underlying9
  · subst hlen
    rw [Nat.mul_one] at htk
    exact run_convert_bytes_back w _ _ _ _ cap l Try.underlying69 Try.underlying5 Try.underlying9
      (fun j hj => Lib.cells_of_row hg l.length j _ (by rw [htk]; simp [bcs, hj]))
theorem grown_own {B n : Nat} {a w w1 : World} {v : Value} {e : TypeId} {xs : List Value} {o : Obj} (G : Below B a w) (hown : w.ownsRow B e 1 v n xs) (hB : B ≤ w.heap.size)
    (hg : (w.alloc o).grownBy w1 v.ownBlock) : Below B a w1 :=
  (G.alloc hB o).grown hg (by simp; omega) (fun k hk => (hown.lt k hk).1)
set_option maxHeartbeats 400000 in
theorem put_yes (n : Int) (w : World) (h0 : 0 ≤ n) (h : n ≤ 2147483647) :
    Calls Try.prog 15 #[.int .i64 n] w fun e w' => e = .returned (.tuple #[.string ⟨(Nm.nb n.toNat).toArray⟩, .int .i64 0]) ∧ Below w.heap.size w w' := by
  obtain ⟨i0, hi, hz0, hz1, hz2⟩ := info_parts info_u8
  have hd1 : decide (n < 0) = false := by simp; omega
  have hd2 : decide (2147483647 < n) = false := by simp; omega
  go_enter Try.func15, Try.ntmps15
  go_wp2
  go_loopw [0, 4] (fun nv bv wr => ∃ (m : Int) (l : List UInt8), 0 ≤ m ∧ m ≤ 2147483647 ∧ nv = .int .i64 m ∧ Hid (Nm.nb n.toNat = l ++ Nm.nb m.toNat) ∧ wr.ownsRow w.heap.size 5 1 bv l.length (bcs l) ∧ Below w.heap.size w wr)
    (fun nv _ _ => (intOf nv).toNat)
  case atStart => exact ⟨n, [], h0, h, rfl, rfl, World.ownsRow_nil _ _ _ _, Below.refl _ _⟩
  case round =>
    obtain ⟨m, l, hm0, hm, rfl, hl, hown, G⟩ := hrel
    have hlen : l.length ≤ 5 := by
      have h5 := Nm.nb_len5 n.toNat (by omega)
      rw [hl.out, List.length_append] at h5
      omega
    have hsz := G.size
    by_cases hlt : 128 ≤ m
    · go_wp2_with (at_builtin; refine wpList_append_own _ rfl _ _ 69 rfl w.heap.size 5 i0 (.int .u8 0) 1 1 Try.underlying69 hi hz0 hz1 hz2 rfl (by decide) _ _ _ rfl (hown.alloc _) ⟨wr.heap.size, 0, none⟩ 1 1 [.int .u8 (m % 128 + 128)] rfl rfl (cell_one_new _ _ _) (one_u8 _) (ml_le (by omega)) (by omega) (sz_alloc _ hsz) ?_; intro v' w1 hown' hgrow _)
      have G1 := grown_own G hown hsz hgrow
      have e1 : bcs (l ++ [UInt8.ofNat (m % 128 + 128).toNat]) = bcs l ++ [.int .u8 (m % 128 + 128)] := bcs_snoc l _ (by omega) (by omega)
      have HL : Hid (Nm.nb n.toNat = (l ++ [UInt8.ofNat (m % 128 + 128).toNat]) ++ Nm.nb (m / 128).toNat) := by
        show _ = _
        have e2 : Nm.nb m.toNat = UInt8.ofNat (m % 128 + 128).toNat :: Nm.nb (m / 128).toNat := by
          rw [Nm.nb_ge (n := m.toNat) (by omega), show (m % 128 + 128).toNat = 128 + m.toNat % 128 by omega, show (m / 128).toNat = m.toNat / 128 by omega]
        rw [hl.out, e2, List.append_assoc, List.singleton_append]
      have HO : w1.ownsRow w.heap.size 5 1 v' (l ++ [UInt8.ofNat (m % 128 + 128).toNat]).length (bcs (l ++ [UInt8.ofNat (m % 128 + 128).toNat])) := by
        rw [e1, List.length_append]; exact hown'
      clear hown' hgrow hown e1 G hl
      go_wp2
      go_roundw
      case rel => exact ⟨m / 128, _, by omega, by omega, rfl, HL, HO, G1⟩
      case measure => simp [intOf]; omega
    · have He : Hid (bcs (Nm.nb n.toNat) = bcs l ++ [.int .u8 m]) := by
        show _ = _
        rw [hl.out, Nm.nb_lt (n := m.toNat) (by omega)]
        exact bcs_snoc l _ (by omega) (by omega)
      clear hl
      go_wp2_with (at_builtin; refine wpList_append_own _ rfl _ _ 69 rfl w.heap.size 5 i0 (.int .u8 0) 1 1 Try.underlying69 hi hz0 hz1 hz2 rfl (by decide) _ _ _ rfl (hown.alloc _) ⟨wr.heap.size, 0, none⟩ 1 1 [.int .u8 m] rfl rfl (cell_one_new _ _ _) (one_u8 _) (ml_le (by omega)) (by omega) (sz_alloc _ hsz) ?_; intro v' w1 hown' hgrow _; have hcv := conv_own (l := Nm.nb n.toNat) (by rw [He.out]; exact hown'))
      go_ret2
      exact ⟨rfl, grown_own G hown hsz hgrow⟩
end Go.Proofs.Ytbjbjbpgmojcbaa
namespace Go.Proofs.Ytbjbjbpgmojcbaa
open Go.RowKit
set_option maxHeartbeats 400000 in
theorem text_yes (s : ByteArray) (w : World) (h : s.size ≤ 512) :
    Calls Try.prog 19 #[.string s] w fun e w' => e = .returned (.tuple #[.string (⟨(Nm.nb s.size).toArray⟩ ++ s), .int .i64 0]) ∧ Below w.heap.size w w' := by
  have h2 : (s.size : Int) ≤ 512 := by omega
  have hc := put_yes s.size w (by omega) (by omega)
  rw [Int.toNat_natCast] at hc
  have hl := Nm.nb_len5 s.size (by omega)
  go_enter Try.func19, Try.ntmps19
  go_wp2_with fail
  refine hc.mono ?_
  rintro e w' ⟨rfl, G⟩
  clear hc
  generalize hL : Nm.nb s.size = L at *
  have HL : Hid (Nm.nb s.size = L) := hL
  clear hL
  go_wp2_with fail
  go_ret2
  exact ⟨by rw [HL.out]; rfl, G⟩
theorem conv_cell (x : Int) (h0 : 0 ≤ x) (h1 : x < 256) (W : World) (g : Nat) (hc : W.cell? ⟨g, 0, none⟩ = some (.int .u8 x)) :
    (convert 69 9 (.slice (some ⟨g, 0, none⟩) 1 1)).run Try.prog W = .ok (.string ⟨#[UInt8.ofNat x.toNat]⟩) W := by
  refine run_convert_bytes_back W _ _ _ ⟨g, 0, none⟩ 1 [UInt8.ofNat x.toNat] Try.underlying69 Try.underlying5 Try.underlying9 (fun j hj => ?_)
  have : j = 0 := by simpa using hj
  subst this
  show W.cell? ⟨g, 0, none⟩ = _
  rw [hc]
  simp only [List.getElem_cons_zero, UInt8.toNat_ofNat']
  congr 2
  omega
set_option maxRecDepth 4000 in
set_option maxHeartbeats 400000 in
theorem numBytes_any (k : Nat) : ∀ (n : Int) (w : World), 0 ≤ n → n ≤ k → n ≤ 2147483647 →
    Calls Try.prog 16 #[.int .i64 n] w fun e w' => e = .returned (.string ⟨(Nm.nb n.toNat).toArray⟩) ∧ Below w.heap.size w w' := by
  induction k with
  | zero =>
    intro n w h0 hk _
    obtain rfl : n = 0 := by omega
    have hcv := conv_cell 0 (by omega) (by omega)
    go_enter Try.func16, Try.ntmps16
    go_wp2_with fail
    go_ret
    exact ⟨rfl, (Below.refl _ _).alloc (Nat.le_refl _) _⟩
  | succ k ih =>
    intro n w h0 hk hb
    by_cases hn : n < 128
    · have hcv := conv_cell n (by omega) (by omega)
      have HN : Hid (Nm.nb n.toNat = [UInt8.ofNat n.toNat]) := Nm.nb_lt (by omega)
      clear ih
      go_enter Try.func16, Try.ntmps16
      go_wp2_with fail
      go_ret
      exact ⟨by rw [HN.out]; rfl, (Below.refl _ _).alloc (Nat.le_refl _) _⟩
    · have hcv := conv_cell (128 + n % 128) (by omega) (by omega)
      have IH : Hid (∀ (n : Int) (w : World), 0 ≤ n → n ≤ k → n ≤ 2147483647 →
        Calls Try.prog 16 #[.int .i64 n] w fun e w' => e = .returned (.string ⟨(Nm.nb n.toNat).toArray⟩) ∧ Below w.heap.size w w') := ih
      clear ih
      have hl : (Nm.nb (n / 128).toNat).length ≤ 5 := Nm.nb_len5 _ (by omega)
      have HN : Hid (Nm.nb n.toNat = UInt8.ofNat (128 + n % 128).toNat :: Nm.nb (n / 128).toNat) := by
        show _ = _
        rw [Nm.nb_ge (n := n.toNat) (by omega), show (128 + n % 128).toNat = 128 + n.toNat % 128 by omega, show (n / 128).toNat = n.toNat / 128 by omega]
      have hr1 : IntKind.i64.wrap (128 + n % 128) = 128 + n % 128 := IntWalk.i64_in _ ⟨by omega, by omega⟩
      have hr3 : n.tmod 128 = n % 128 := Int.tmod_eq_emod_of_nonneg h0
      have hr4 : n.tdiv 128 = n / 128 := Int.tdiv_eq_ediv_of_nonneg h0
      have hr5 : IntKind.i64.wrap (n / 128) = n / 128 := IntWalk.i64_in _ ⟨by omega, by omega⟩
      have hr2 : IntKind.u8.wrap (128 + n % 128) = 128 + n % 128 := IntWalk.u8_in _ ⟨by omega, by omega⟩
      go_enter Try.func16, Try.ntmps16
      go_wp2_with fail
      go_region_with (go_at_call 16; refine (IH.out _ _ (by omega) (by omega) (by omega)).mono ?_; rintro e w1 ⟨rfl, hB⟩; have hk1 := bcell hB)
      all_goals go_wp2
      all_goals go_ret
      all_goals refine ⟨?_, ?_⟩
      all_goals first | exact congrArg (fun s => Ending.returned (Value.string s)) ((Nm.ba_app [_] _).trans (by rw [HN.out]; rfl)) | skip
      all_goals first | exact bch ((Below.refl _ _).alloc (Nat.le_refl _) _).drew hB (Nat.le_refl _) | exact bch (Below.refl _ _).drew hB (Nat.le_refl _) | exact (bch (Below.refl _ _).drew hB (Nat.le_refl _)).alloc hB.size _ | skip
end Go.Proofs.Ytbjbjbpgmojcbaa
namespace Go.Proofs.Ytbjbjbpgmojcbaa
open Go.RowKit
set_option maxHeartbeats 2000000 in
theorem numFrom_any (s : ByteArray) (w : World) (hs : s.size ≤ 281474976710656) :
    Calls Try.prog 18 #[.string s] w fun e w' => e = .returned (.tuple #[.int .i64 (Nm.num s : Nat), .string (Nm.rest s), .bool (Nm.is s)]) ∧ Below w.heap.size w w' := by
  have hs2 : (s.size : Int) ≤ 281474976710656 := by omega
  clear hs
  go_enter Try.func18, Try.ntmps18
  go_wp2_with fail
  go_loop [5, 6, 7] (fun n p i => ∃ k : Nat, k ≤ s.size ∧ k ≤ 5 ∧ i = .int .i64 k ∧ n = .int .i64 (Nm.val (s.data.toList.take k) : Nat) ∧ p = .int .i64 (128 ^ k : Int) ∧ Hid (∀ j, j < k → ∀ b, s.data.toList[j]? = some b → 128 ≤ b.toNat)) (fun _ _ i => 5 - (intOf i).toNat)
  case atStart => exact ⟨0, by omega, by omega, rfl, rfl, rfl, fun j h => by omega⟩
  case round =>
    obtain ⟨k, hk, hk5, rfl, rfl, rfl, hall⟩ := hrel
    have hvl := Nm.val_lt (s.data.toList.take k)
    generalize hm : Nm.val (s.data.toList.take k) = m at *
    have Hm : Hid (Nm.val (s.data.toList.take k) = m) := hm
    clear hm
    by_cases hlt : k < s.size ∧ k < 5
    · obtain ⟨h1, h2⟩ := hlt
      have hmb : (m : Int) < 268435456 := by
        have h3 : (s.data.toList.take k).length ≤ 4 := by rw [List.length_take]; omega
        have h4 : 128 ^ (s.data.toList.take k).length ≤ 128 ^ 4 := Nat.pow_le_pow_right (by omega) h3
        omega
      clear hvl
      obtain ⟨x, hx⟩ : ∃ x : Int, (s[k].toNat : Int) = x := ⟨_, rfl⟩
      have hx0 : 0 ≤ x := by omega
      have hx1 : x ≤ 255 := by have := s[k].toNat_lt; omega
      generalize hp : (128 : Int) ^ k = p at *
      have hp1 : p ≤ 268435456 := by
        rw [← hp]
        have : k = 0 ∨ k = 1 ∨ k = 2 ∨ k = 3 ∨ k = 4 := by omega
        rcases this with rfl | rfl | rfl | rfl | rfl <;> decide
      have hp0 : 0 < p := by rw [← hp]; exact Int.pow_pos (by omega)
      obtain ⟨y, hy⟩ : ∃ y : Int, p * (x % 128) = y := ⟨_, rfl⟩
      have hy0 : 0 ≤ y := by rw [← hy]; exact Int.mul_nonneg (by omega) (by omega)
      have hy1 : y ≤ 34359738368 := by
        rw [← hy]
        have h9 : p * (x % 128) ≤ 268435456 * 128 := Int.mul_le_mul hp1 (by omega) (by omega) (by omega)
        omega
      have Hp : Hid ((128 : Int) ^ k = p) := hp
      have Hx : Hid ((s[k].toNat : Int) = x) := hx
      have Hv : Hid ((Nm.val (s.data.toList.take (k + 1)) : Int) = (m : Int) + y) := by
        show (Nm.val (s.data.toList.take (k + 1)) : Int) = (m : Int) + y
        rw [Nm.val_take s k h1, Hm.out, ← hy, ← hx, ← hp, Nat.pow_mul]
        simp [Int.mul_comm]
      clear hp
      have hl5 : decide ((k : Int) < 5) = true := by simp; omega
      have hl6 : decide ((k : Int) < (s.size : Int)) = true := by simp; omega
      have hl7 : decide (k < 5) = true := by simp; omega
      have hl8 : decide (k < s.size) = true := by simp; omega
      by_cases hb : 128 ≤ x
      · have hb2 : decide (x < 128) = false := by simp; omega
        go_wp2_with fail
        go_round
        case rel =>
          refine ⟨k + 1, by omega, by omega, by go_num, by rw [← Hv.out], by rw [Int.pow_succ, Hp.out], ?_⟩
          show ∀ j, _
          intro j hj b hjb
          by_cases hjk : j = k
          · subst hjk
            rw [Nm.at_list s j h1] at hjb
            simp only [Option.some.injEq] at hjb
            subst hjb
            have := Hx.out
            omega
          · exact hall.out j (by omega) b hjb
        case measure => simp [intOf]; omega
      · have hb2 : decide (x < 128) = true := by simp; omega
        have Hf : Hid (Nm.from_ s.data.toList = if Nm.val (s.data.toList.take (k + 1)) ≤ 2147483647 ∧ Nm.nb (Nm.val (s.data.toList.take (k + 1))) = s.data.toList.take (k + 1) then some (Nm.val (s.data.toList.take (k + 1)), k + 1) else none) :=
          Nm.from_of2 s.data.toList k s[k] (by omega) (Nm.at_list s k h1) (by omega) hall.out
        have hr1 : IntKind.i64.wrap ((k : Int) + 1) = (k : Int) + 1 := IntWalk.i64_in _ ⟨by omega, by omega⟩
        by_cases hbig : 2147483647 < (m : Int) + y
        · have hb3 : decide (2147483647 < (m : Int) + y) = true := by simp; omega
          have h7 : Nm.from_ s.data.toList = none := by
            rw [Hf.out, if_neg]
            have := Hv.out
            omega
          have HF : Hid (Nm.num s = 0 ∧ Nm.rest s = ⟨#[]⟩ ∧ Nm.is s = false) := ⟨(Nm.num_none h7).1, Nm.rest_none h7⟩
          clear h7
          go_wp2_with fail
          go_quiet (fail)
          go_wp2_with fail
          go_ret3
          exact ⟨by rw [HF.out.1, HF.out.2.1, HF.out.2.2]; rfl, below_drewN (Below.refl _ _) _⟩
        · have hb3 : decide (2147483647 < (m : Int) + y) = false := by simp; omega
          have hi1 : (0 : Int) ≤ (k : Int) + 1 := by omega
          have hi2 : (k : Int) + 1 ≤ (s.size : Int) := by omega
          have HV : Hid (Nm.val (s.data.toList.take (k + 1)) = ((m : Int) + y).toNat) := by
            show _ = _
            have := Hv.out
            omega
          have hL : (s.extract 0 (k + 1)).toList = s.data.toList.take (k + 1) := by
            rw [Lib.toList_data, Lib.extract_data]; simp
          by_cases hE : Nm.nb ((m : Int) + y).toNat = s.data.toList.take (k + 1)
          · have hq : (Nm.nb ((m : Int) + y).toNat == (s.extract 0 (k + 1)).toList) = true := by rw [hL, hE]; simp
            have h7 : Nm.from_ s.data.toList = some (((m : Int) + y).toNat, k + 1) := by
              rw [Hf.out, HV.out, if_pos ⟨by omega, hE⟩]
            have HF : Hid ((Nm.num s : Int) = (m : Int) + y ∧ Nm.rest s = s.extract (k + 1) s.size ∧ Nm.is s = true) :=
              ⟨by rw [(Nm.num_some h7).1]; omega, Nm.rest_some h7⟩
            clear h7 hE hL
            go_wp2_with fail
            go_region_held3 (fun _ => True) (trivial) (first | (go_at_call 16; refine (numBytes_any ((m : Int) + y).toNat _ _ (by omega) (by omega) (by omega)).mono ?_; rintro e w1 ⟨rfl, hB⟩))
            go_wp2_with fail
            go_quiet (fail)
            go_wp2_with fail
            go_ret3
            exact ⟨by rw [HF.out.1, HF.out.2.1, HF.out.2.2]; rfl, below_drewN (bch (Below.refl _ _).drew hB (Nat.le_refl _)) _⟩
          · have hq : (Nm.nb ((m : Int) + y).toNat == (s.extract 0 (k + 1)).toList) = false := by rw [hL]; simp [hE]
            have h7 : Nm.from_ s.data.toList = none := by
              rw [Hf.out, HV.out, if_neg (fun h => hE h.2)]
            have HF : Hid (Nm.num s = 0 ∧ Nm.rest s = ⟨#[]⟩ ∧ Nm.is s = false) := ⟨(Nm.num_none h7).1, Nm.rest_none h7⟩
            clear h7 hE hL
            go_wp2_with fail
            go_region_held3 (fun _ => True) (trivial) (first | (go_at_call 16; refine (numBytes_any ((m : Int) + y).toNat _ _ (by omega) (by omega) (by omega)).mono ?_; rintro e w1 ⟨rfl, hB⟩))
            go_wp2_with fail
            go_ret3
            exact ⟨by rw [HF.out.1, HF.out.2.1, HF.out.2.2]; rfl, bch (Below.refl _ _).drew hB (Nat.le_refl _)⟩
    · have h7 : Nm.from_ s.data.toList = none := by
        refine Nm.from_none _ ?_
        intro j hj b hjb
        refine hall.out j ?_ b hjb
        have : j < s.size := by
          rcases Nat.lt_or_ge j s.size with h | h
          · exact h
          · rw [List.getElem?_eq_none (by simpa using h)] at hjb; simp at hjb
        omega
      have HF : Hid (Nm.num s = 0 ∧ Nm.rest s = ⟨#[]⟩ ∧ Nm.is s = false) := ⟨(Nm.num_none h7).1, Nm.rest_none h7⟩
      clear h7 hvl
      by_cases hks : k < s.size
      · have hl6 : decide ((k : Int) < (s.size : Int)) = true := by simp; omega
        have hl5 : decide ((k : Int) < 5) = false := by simp; omega
        have hl7 : decide (k < 5) = false := by simp; omega
        have hl8 : decide (k < s.size) = true := by simp; omega
        clear hlt
        go_wp2_with fail
        go_ret3
        exact ⟨by rw [HF.out.1, HF.out.2.1, HF.out.2.2]; rfl, Below.refl _ _⟩
      · have hl6 : decide ((k : Int) < (s.size : Int)) = false := by simp; omega
        have hl8 : decide (k < s.size) = false := by simp; omega
        clear hlt
        go_wp2_with fail
        go_ret3
        exact ⟨by rw [HF.out.1, HF.out.2.1, HF.out.2.2]; rfl, Below.refl _ _⟩
theorem numFrom_no (s : ByteArray) (w : World) (hs : s.size ≤ 281474976710656) (h : Nm.from_ s.data.toList = none) :
    Calls Try.prog 18 #[.string s] w fun e w' => e = .returned (.tuple #[.int .i64 0, .string ⟨#[]⟩, .bool false]) ∧ Below w.heap.size w w' := by
  have hc := numFrom_any s w hs
  rw [(Nm.num_none h).1, (Nm.rest_none h).1, (Nm.rest_none h).2] at hc
  exact hc
theorem numFrom_yes (s : ByteArray) (w : World) (n k : Nat) (hs : s.size ≤ 281474976710656) (h : Nm.from_ s.data.toList = some (n, k)) :
    Calls Try.prog 18 #[.string s] w fun e w' => e = .returned (.tuple #[.int .i64 n, .string (s.extract k s.size), .bool true]) ∧ Below w.heap.size w w' := by
  have hc := numFrom_any s w hs
  rw [(Nm.num_some h).1, (Nm.rest_some h).1, (Nm.rest_some h).2] at hc
  exact hc
end Go.Proofs.Ytbjbjbpgmojcbaa
namespace Go.Proofs.Ytbjbjbpgmojcbaa
open Go.RowKit
set_option maxHeartbeats 400000 in
theorem take_no (s : ByteArray) (w : World) (hs : s.size ≤ 281474976710656) (h : Nm.from_ s.data.toList = none) :
    Calls Try.prog 17 #[.string s] w fun e w' => e = .returned (.tuple #[.int .i64 0, .string ⟨#[]⟩, .int .i64 1]) ∧ Below w.heap.size w w' := by
  have hn := Nm.num_none h
  have hc := begin_any s w (by unfold maxLen; omega)
  rw [hn.1, hn.2] at hc
  clear h hn
  go_enter Try.func17, Try.ntmps17
  go_wp2_with fail
  refine hc.mono ?_
  rintro e w' ⟨rfl, rfl⟩
  go_wp2_with fail
  go_ret3
  exact ⟨rfl, Below.refl _ _⟩
set_option maxHeartbeats 400000 in
theorem take_yes (s : ByteArray) (w : World) (n k : Nat) (hs : s.size ≤ 281474976710656) (h : Nm.from_ s.data.toList = some (n, k)) :
    Calls Try.prog 17 #[.string s] w fun e w' => e = .returned (.tuple #[.int .i64 n, .string (s.extract k s.size), .int .i64 0]) ∧ Below w.heap.size w w' := by
  have hn := Nm.num_some h
  have hc := begin_any s w (by unfold maxLen; omega)
  rw [hn.1, hn.2] at hc
  have hb := Nm.nb_from h
  have hk1 : (1 : Int) ≤ (k : Int) := by omega
  have hk2 : k ≤ s.size := by simpa using hb.2.2.1
  have hk0 : ((k : Int) == 0) = false := by simp; omega
  clear h hn hb
  go_enter Try.func17, Try.ntmps17
  go_wp2_with fail
  refine hc.mono ?_
  rintro e w' ⟨rfl, rfl⟩
  clear hc
  go_wp2_with fail
  refine (clone_any _ _ (by simp; omega)).mono ?_
  rintro e w' ⟨rfl, hb⟩
  go_wp2_with fail
  go_ret3
  exact ⟨rfl, hb⟩
end Go.Proofs.Ytbjbjbpgmojcbaa
namespace Go.Proofs.Ytbjbjbpgmojcbaa
open Go.RowKit
def arr (f : Nat → Int) : Array Value := ((List.range 16).map fun i => Value.int .i64 (f i)).toArray
theorem arr_size (f : Nat → Int) : (arr f).size = 16 := by simp [arr]
theorem arr_at (f : Nat → Int) (i : Nat) (h : i < 16) : (arr f)[i]? = some (.int .i64 (f i)) := by simp [arr, h]
theorem arr_info : (Try.prog.info? 54).map (·.size) = some 16 := by kernel_rfl
theorem arr_infoc (f : Nat → Int) : (Try.prog.info? 54).map (·.size) = some (arr f).size := by rw [arr_size]; exact arr_info
theorem run_ix (f : Nat → Int) (k : Nat) (h : k < 16) (w : World) : (Instr.index 54 (.agg (arr f)) (.int .i64 (k : Int))).run Try.prog w = .ok (.int .i64 (f k)) w := by
  have h1 := arr_at f k h
  have h2 : (0 : Int) ≤ (k : Int) ∧ (k : Int) < ((16 : Nat) : Int) := by omega
  generalize arr f = c at *
  simp [Instr.index, run_underlying Try.underlying54, asIntOf, go_sem, h2, part, h1]
  intro h9
  omega
end Go.Proofs.Ytbjbjbpgmojcbaa
namespace Go.Proofs.Ytbjbjbpgmojcbaa.Cd
def InR (f : Nat → Int) (hi : Int) (k : Nat) : Prop := ∀ i, i < k → 0 ≤ f i ∧ f i ≤ hi
instance (f : Nat → Int) (hi : Int) (k : Nat) : Decidable (InR f hi k) := inferInstanceAs (Decidable (∀ i, i < k → 0 ≤ f i ∧ f i ≤ hi))
theorem InR.succ {f : Nat → Int} {hi : Int} {k : Nat} (h : InR f hi k) (h1 : 0 ≤ f k) (h2 : f k ≤ hi) : InR f hi (k + 1) := fun i hlt => by
  rcases Nat.lt_succ_iff_lt_or_eq.1 hlt with h3 | rfl
  · exact h i h3
  · exact ⟨h1, h2⟩
theorem not_InR {f : Nat → Int} {hi : Int} {k n : Nat} (hk : k < n) (h : f k < 0 ∨ hi < f k) : ¬ InR f hi n := fun h9 => by have := h9 k hk; omega
def wt (x : Int) : Int := if 0 < x then 2 ^ (15 - x).toNat else 0
def sm (f : Nat → Int) : Nat → Int
  | 0 => 0
  | k + 1 => sm f k + wt (f k)
theorem pow_le_of {a b : Nat} (h : a ≤ b) : (2 : Int) ^ a ≤ 2 ^ b := by
  have := Nat.pow_le_pow_right (show 0 < 2 by omega) h
  exact_mod_cast this
theorem pow_pos (a : Nat) : (1 : Int) ≤ 2 ^ a := by
  have : 0 < 2 ^ a := Nat.pow_pos (by omega)
  exact_mod_cast this
theorem wt_pos {x : Int} (h : 0 < x) : wt x = 2 ^ (15 - x).toNat := by rw [wt, if_pos h]
theorem wt_zero {x : Int} (h : ¬ 0 < x) : wt x = 0 := by rw [wt, if_neg h]
theorem wt_b {x : Int} (h0 : 0 ≤ x) (h1 : x ≤ 15) : 0 ≤ wt x ∧ wt x ≤ 16384 := by
  unfold wt
  split
  · have h2 : (2 : Int) ^ (15 - x).toNat ≤ 2 ^ 14 := pow_le_of (by omega)
    have h3 := pow_pos (15 - x).toNat
    omega
  · omega
theorem sm_b {f : Nat → Int} : ∀ k, InR f 15 k → 0 ≤ sm f k ∧ sm f k ≤ 16384 * k := by
  intro k
  induction k with
  | zero => intro _; simp [sm]
  | succ k ih =>
    intro h
    have h1 := ih (fun i hi => h i (by omega))
    have h2 := h k (by omega)
    have h3 := wt_b h2.1 h2.2
    rw [sm]
    omega
def used (f : Nat → Int) : Nat → Bool
  | 0 => false
  | k + 1 => used f k || decide (0 < f k)
theorem sm_used {f : Nat → Int} : ∀ k, InR f 15 k → (sm f k = 0 ↔ used f k = false) := by
  intro k
  induction k with
  | zero => intro _; simp [sm, used]
  | succ k ih =>
    intro h
    have h0 : InR f 15 k := fun i hi => h i (by omega)
    have h1 := ih h0
    have h2 := h k (by omega)
    have h3 := sm_b k h0
    rw [sm, used]
    by_cases hp : 0 < f k
    · rw [wt_pos hp]
      have := pow_pos (15 - f k).toNat
      simp [hp]
      omega
    · rw [wt_zero hp]
      simp [hp, h1]
def chk (f : Nat → Int) : Int := if InR f 15 16 then (if sm f 16 = 0 ∨ 32768 < sm f 16 then 1 else 0) else 3
theorem chk_bad {f : Nat → Int} {k : Nat} (hk : k < 16) (h : f k < 0 ∨ 15 < f k) : chk f = 3 := by rw [chk, if_neg (not_InR hk h)]
theorem chk_form {f : Nat → Int} (h : InR f 15 16) (h1 : sm f 16 = 0 ∨ 32768 < sm f 16) : chk f = 1 := by rw [chk, if_pos h, if_pos h1]
theorem chk_ok {f : Nat → Int} (h : InR f 15 16) (h1 : ¬ (sm f 16 = 0 ∨ 32768 < sm f 16)) : chk f = 0 := by rw [chk, if_pos h, if_neg h1]
theorem chk_zero {f : Nat → Int} (h : chk f = 0) : InR f 15 16 ∧ sm f 16 ≠ 0 ∧ sm f 16 ≤ 32768 := by
  unfold chk at h
  by_cases h1 : InR f 15 16
  · rw [if_pos h1] at h
    by_cases h2 : sm f 16 = 0 ∨ 32768 < sm f 16
    · rw [if_pos h2] at h; omega
    · exact ⟨h1, by omega, by omega⟩
  · rw [if_neg h1] at h; omega
def cst (f c : Nat → Int) : Nat → Option Int
  | 0 => some 0
  | k + 1 => match cst f c k with
    | none => none
    | some n => if 0 < c k ∧ f k = 0 then none else some (n + c k * f k)
def cost (f c : Nat → Int) : Int × Int :=
  if chk f ≠ 0 then (0, chk f) else if ¬ InR c 2048 16 then (0, 3) else match cst f c 16 with | none => (0, 5) | some n => (n, 0)
end Go.Proofs.Ytbjbjbpgmojcbaa.Cd
namespace Go.Proofs.Ytbjbjbpgmojcbaa.Tk
structure T where
  lit : ByteArray
  far : Int
  len : Int
def copy (far : Nat) : Nat → List UInt8 → List UInt8
  | 0, s => s
  | n + 1, s => copy far n (s ++ [s.getD (s.length - far) 0])
theorem copy_length (far : Nat) : ∀ (n : Nat) (s : List UInt8), (copy far n s).length = s.length + n := by
  intro n
  induction n with
  | zero => intro s; rfl
  | succ n ih => intro s; rw [copy, ih]; simp; omega
theorem copy_succ (far : Nat) : ∀ (n : Nat) (s : List UInt8), copy far (n + 1) s = copy far n s ++ [(copy far n s).getD ((copy far n s).length - far) 0] := by
  intro n
  induction n with
  | zero => intro s; rfl
  | succ n ih => intro s; rw [copy, ih]; rfl
def err (d : Nat) (s : List UInt8) (p : Bool) (t : T) : Int :=
  if t.lit.size ≠ 0 then
    if t.far ≠ 0 ∨ t.len ≠ 0 ∨ p = true then 1
    else if 512 < (s.length : Int) - d + t.lit.size then 2 else 0
  else if ¬ (3 ≤ t.len ∧ t.len ≤ 64 ∧ 1 ≤ t.far ∧ t.far ≤ s.length) then 1
  else if 512 < (s.length : Int) - d + t.len then 2 else 0
def make (s : List UInt8) (t : T) : List UInt8 :=
  if t.lit.size ≠ 0 then s ++ t.lit.data.toList else copy t.far.toNat t.len.toNat s
def run (d : Nat) : List UInt8 → Bool → List T → Int × List UInt8
  | s, _, [] => (0, s)
  | s, p, t :: l => if err d s p t ≠ 0 then (err d s p t, []) else run d (make s t) (decide (t.lit.size ≠ 0)) l
theorem run_bad {d : Nat} {s : List UInt8} {p : Bool} {t : T} {l : List T} (h : err d s p t ≠ 0) : run d s p (t :: l) = (err d s p t, []) := by simp [run, h]
theorem run_good {d : Nat} {s : List UInt8} {p : Bool} {t : T} {l : List T} (h : err d s p t = 0) : run d s p (t :: l) = run d (make s t) (decide (t.lit.size ≠ 0)) l := by simp [run, h]
theorem make_ok {d : Nat} {s : List UInt8} {p : Bool} {t : T} (h : err d s p t = 0) : (make s t).length = s.length + t.lit.size + t.len.toNat ∧ 0 ≤ t.len ∧ (t.lit.size = 0 → 1 ≤ t.far ∧ t.far ≤ s.length ∧ 3 ≤ t.len ∧ t.len ≤ 64) ∧ (t.lit.size ≠ 0 → t.far = 0 ∧ t.len = 0) ∧ ((s.length : Int) - d + t.lit.size + t.len ≤ 512) := by
  unfold err at h
  unfold make
  by_cases h0 : t.lit.size ≠ 0
  · rw [if_pos h0] at h
    rw [if_pos h0]
    by_cases h1 : t.far ≠ 0 ∨ t.len ≠ 0 ∨ p = true
    · rw [if_pos h1] at h; omega
    · rw [if_neg h1] at h
      by_cases h2 : 512 < (s.length : Int) - d + t.lit.size
      · rw [if_pos h2] at h; omega
      · have hf : t.far = 0 := by
          by_cases e : t.far = 0
          · exact e
          · exact absurd (Or.inl e) h1
        have hl : t.len = 0 := by
          by_cases e : t.len = 0
          · exact e
          · exact absurd (Or.inr (Or.inl e)) h1
        refine ⟨?_, by omega, fun e => absurd e h0, fun _ => ⟨hf, hl⟩, by omega⟩
        simp [hl]
  · rw [if_neg h0] at h
    rw [if_neg h0]
    by_cases h1 : 3 ≤ t.len ∧ t.len ≤ 64 ∧ 1 ≤ t.far ∧ t.far ≤ s.length
    · rw [if_neg (by simpa using h1)] at h
      by_cases h2 : 512 < (s.length : Int) - d + t.len
      · rw [if_pos h2] at h; omega
      · refine ⟨?_, by omega, fun _ => by omega, fun e => absurd e h0, by omega⟩
        rw [copy_length]
        omega
    · rw [if_pos h1] at h; omega
end Go.Proofs.Ytbjbjbpgmojcbaa.Tk
namespace Go.Proofs.Ytbjbjbpgmojcbaa
open Go.RowKit
def Own8 (w : World) (B : Nat) (v : Value) (l : List UInt8) : Prop :=
  (v = .slice none 0 0 ∧ l = []) ∨ ∃ g cap, v = .slice (some ⟨g, 0, none⟩) l.length cap ∧ B ≤ g ∧ g < w.heap.size ∧ l.length ≤ cap ∧ cap ≤ maxLen ∧
    (∀ j b, l[j]? = some b → w.cell? ⟨g, j, none⟩ = some (.int .u8 (b.toNat : Int))) ∧
    (∀ j, l.length ≤ j → j < cap → (w.cell? ⟨g, j, none⟩).isSome = true ∧ w.frozen? ⟨g, j, none⟩ = false)
theorem Own8.nil (w : World) (B : Nat) : Own8 w B (.slice none 0 0) [] := .inl ⟨rfl, rfl⟩
theorem addr_add (g j : Nat) : (⟨g, 0, none⟩ : Addr).add j = ⟨g, j, none⟩ := by unfold Addr.add; split <;> simp_all
theorem Own8.kept {w w' : World} {B : Nat} {v : Value} {l : List UInt8} (h : Own8 w B v l) (hs : w.heap.size ≤ w'.heap.size) (hk : ∀ g, v.ownBlock = some g → w'.heap[g]? = w.heap[g]?) : Own8 w' B v l := by
  rcases h with h | ⟨g, cap, rfl, h1, h2, h3, h4, h5, h6⟩
  · exact .inl h
  · have e := hk g rfl
    refine .inr ⟨g, cap, rfl, h1, by omega, h3, h4, ?_, ?_⟩
    · intro j b hj
      rw [World.cell?_of_block (w := w) (by exact e)]
      exact h5 j b hj
    · intro j ha hb
      rw [World.cell?_of_block (w := w) (by exact e), World.frozen?_of_block (w := w) (by exact e)]
      exact h6 j ha hb
theorem Own8.lt {w : World} {B : Nat} {v : Value} {l : List UInt8} (h : Own8 w B v l) : ∀ g, v.ownBlock = some g → B ≤ g ∧ g < w.heap.size := by
  intro g hg
  rcases h with ⟨rfl, _⟩ | ⟨g', cap, rfl, h1, h2, _⟩
  · simp [Value.ownBlock] at hg
  · simp [Value.ownBlock] at hg
    subst hg
    exact ⟨h1, h2⟩
theorem Own8.below {w w' : World} {B : Nat} {v : Value} {l : List UInt8} (h : Own8 w B v l) (hb : Below w.heap.size w w') : Own8 w' B v l :=
  h.kept hb.size (fun g hg => hb.block g (h.lt g hg).2)
theorem Own8.alloc {w : World} {B : Nat} {v : Value} {l : List UInt8} (h : Own8 w B v l) (o : Obj) : Own8 (w.alloc o) B v l :=
  h.below ((Below.refl _ _).alloc (Nat.le_refl _) o)
theorem Own8.of_row {w : World} {B B' n : Nat} {v : Value} {l : List UInt8} (h : w.ownsRow B' 5 1 v n (bcs l)) (hB : B ≤ B') : Own8 w B v l := by
  have hlen := h.1
  rw [bcs_length, Nat.mul_one] at hlen
  rcases h.2 with ⟨rfl, h0⟩ | ⟨g, cap, cur, rfl, hb, hg, hnc, hcm, hcs, htk⟩
  · exact .inl ⟨rfl, List.eq_nil_of_length_eq_zero (by omega)⟩
  · subst hlen
    rw [Nat.mul_one] at htk hcs
    refine .inr ⟨g, cap, rfl, by omega, (Array.getElem?_eq_some_iff.1 hg).1, hnc, hcm, ?_, ?_⟩
    · intro j b hj
      have hj2 : j < l.length := (List.getElem?_eq_some_iff.1 hj).1
      rw [cell_of_row w g j cur _ _ hg]
      have : (cur.toList.take l.length)[j]? = some (.int .u8 (b.toNat : Int)) := by
        rw [htk]
        simp [bcs, hj]
      rw [List.getElem?_take, if_pos hj2] at this
      simpa using this
    · intro j ha hb2
      rw [cell_of_row w g j cur _ _ hg]
      refine ⟨?_, ?_⟩
      · rw [Array.getElem?_eq_getElem (by omega)]
        rfl
      · simp [World.frozen?, hg]
theorem Own8.of_string (w : World) (s : ByteArray) (hs : s.size ≤ 140737488355328) (B : Nat) (hB : B ≤ w.heap.size) :
    ∃ v w', (convert 9 69 (.string s)).run Try.prog w = .ok v w' ∧ Own8 w' B v s.data.toList ∧ Below w.heap.size w w' ∧ v ≠ .slice none 0 0 ∧ (∀ g, v.ownBlock = some g → w.heap.size ≤ g) := by
  refine ⟨_, _, run_bytes_of_string w _ _ _ s Try.underlying9 Try.underlying69 Try.underlying5, ?_, ?_, by simp, fun g hg => by simp [Value.ownBlock] at hg; omega⟩
  · have hge := grownCap_ge w s.size 0 5
    have hcm : grownCap w s.size 0 5 ≤ maxLen := grownCap_le_maxLen w s.size 0 _ (ml_le hs)
    have hrs : (bytesRow s (grownCap w s.size 0 5)).size = grownCap w s.size 0 5 := by
      simp [bytesRow]
      have : s.data.size = s.size := rfl
      omega
    have hlen : s.data.toList.length = s.size := by simp
    refine .inr ⟨w.heap.size, grownCap w s.size 0 5, by rw [hlen], hB, by simp, by omega, hcm, ?_, ?_⟩
    · intro j b hj
      have hj2 : j < s.data.toList.length := (List.getElem?_eq_some_iff.1 hj).1
      show ((w.drew).alloc _).cell? ⟨w.drew.heap.size, j, none⟩ = _
      rw [World.cell?_alloc_mark]
      have hjs : j < s.data.size := by simpa using hj2
      rw [bytesRow_at s _ j hjs]
      have : s.data[j] = b := by
        rw [List.getElem?_eq_getElem hj2] at hj
        simpa using hj
      rw [this]
    · intro j ha hb
      constructor
      · show (((w.drew).alloc _).cell? ⟨w.drew.heap.size, j, none⟩).isSome = true
        rw [World.cell?_alloc_mark, Array.getElem?_eq_getElem (by omega)]
        rfl
      · show ((w.drew).alloc _).frozen? ⟨w.drew.heap.size, j, none⟩ = false
        rw [World.frozen?_alloc_mark]
        simp
        omega
  · exact ((Below.refl _ w).drew).alloc (Nat.le_refl _) _
structure App (w w' : World) (B : Nat) (v v' : Value) (l' : List UInt8) : Prop where
  own : Own8 w' B v' l'
  below : Below B w w'
  block : ∀ g, g < w.heap.size → some g ≠ v.ownBlock → w'.heap[g]? = w.heap[g]?
  at_ : ∀ g, v'.ownBlock = some g → v.ownBlock = some g ∨ w.heap.size ≤ g
  some_ : v ≠ .slice none 0 0 → v' ≠ .slice none 0 0
theorem App.cell {w w' : World} {B : Nat} {v v' : Value} {l' : List UInt8} (h : App w w' B v v' l') {g o : Nat} (hg : g < w.heap.size) (hne : some g ≠ v.ownBlock) : w'.cell? ⟨g, o, none⟩ = w.cell? ⟨g, o, none⟩ :=
  World.cell?_of_block (w := w) (h.block g hg hne)
theorem Own8.form {w : World} {B : Nat} {v : Value} {l : List UInt8} (h : Own8 w B v l) (hv : v ≠ .slice none 0 0) :
    ∃ g cap, v = .slice (some ⟨g, 0, none⟩) l.length cap ∧ B ≤ g ∧ g < w.heap.size ∧ l.length ≤ cap ∧ cap ≤ maxLen ∧ (∀ j b, l[j]? = some b → w.cell? ⟨g, j, none⟩ = some (.int .u8 (b.toNat : Int))) := by
  rcases h with ⟨h, _⟩ | ⟨g, cap, h0, h1, h2, h3, h4, h5, _⟩
  · exact absurd h hv
  · exact ⟨g, cap, h0, h1, h2, h3, h4, h5⟩
theorem row_ge {w : World} {base n : Nat} {e : TypeId} {v : Value} {xs : List Value} (h : w.ownsRow base e 1 v n xs) : ∀ g, v.ownBlock = some g → base ≤ g := fun g hg => (h.lt g hg).1
theorem run_append8 {w : World} {B : Nat} {v : Value} {l : List UInt8} (h : Own8 w B v l) (ty : TypeId) (b : UInt8) (ad : Addr) (c : Nat) (hx : w.cell? ad = some (.int .u8 (b.toNat : Int))) (hlen : l.length + 1 ≤ 140737488355328) (hB : B ≤ w.heap.size) (hz : ad.spot = none) :
    ∃ v' w', (Builtin.append_ #[69, 69] ty #[v, .slice (some ad) 1 c]).run Try.prog w = .ok v' w' ∧ App w w' B v v' (l ++ [b]) := by
  obtain ⟨i0, hi, hz0, hz1, hz2⟩ := info_parts info_u8
  have hnews : ∀ j u, [Value.int .u8 (b.toNat : Int)][j]? = some u → w.cell? (ad.add j) = some u := by
    intro j u hj
    cases j with
    | zero =>
      simp at hj
      subst hj
      have : ad.add 0 = ad := by obtain ⟨a1, a2, a3⟩ := ad; simp at hz; subst hz; unfold Addr.add; split <;> simp_all
      rw [this]
      exact hx
    | succ j => simp at hj
  rcases h with ⟨rfl, rfl⟩ | ⟨g, cap, rfl, h1, h2, h3, h4, h5, h6⟩
  · obtain ⟨v', w', hr, ho, hg, _⟩ := run_append_own (P := Try.prog) w w.heap.size 69 ty 5 i0 (.int .u8 0) 1 1 Try.underlying69 hi hz0 hz1 hz2 rfl (by decide) _ 0 [] (World.ownsRow_nil w w.heap.size 5 1) ad 1 c [.int .u8 (b.toNat : Int)] rfl hnews (one_u8 _) (ml_le (by omega)) (by omega) (Nat.le_refl _)
    exact ⟨v', w', hr, Own8.of_row (l := [b]) (by simpa [bcs] using ho) hB, (Below.refl _ _).grown hg hB (by simp [Value.ownBlock]), fun k hk hne => hg.block k hk hne, fun g hg2 => Or.inr (row_ge ho g hg2), fun h => absurd rfl h⟩
  · by_cases hroom : l.length + 1 ≤ cap
    · have hr := run_append_room_cells (P := Try.prog) w 69 ty 5 i0 Try.underlying69 hi g 0 l.length cap ad 1 c [.int .u8 (b.toNat : Int)] (by rw [hz1]; rfl) hnews (one_u8 _) hroom
        (fun j hj => by have : j = 0 := by simpa using hj
                        subst this; rw [hz1]; simpa using (h6 l.length (Nat.le_refl _) (by omega)).1)
        (fun j hj => by have : j = 0 := by simpa using hj
                        subst this; rw [hz1]; simpa using (h6 l.length (Nat.le_refl _) (by omega)).2)
      rw [hz1] at hr
      simp only [Nat.zero_add, Nat.mul_one] at hr
      refine ⟨_, _, hr, .inr ⟨g, cap, by simp, h1, ?_, by simp; omega, h4, ?_, ?_⟩, ?_, ?_, fun g' hg' => Or.inl hg', by simp⟩
      · simp [World.setCells, World.setCell]; exact h2
      · intro j u hj
        by_cases hjl : j < l.length
        · rw [List.getElem?_append_left hjl] at hj
          rw [World.cell?_setCells_out _ _ _ _ _ (by intro _ _; left; exact hjl)]
          exact h5 j u hj
        · have hjl2 : j < l.length + 1 := by
            have := (List.getElem?_eq_some_iff.1 hj).1
            simpa using this
          obtain rfl : j = l.length := by omega
          rw [List.getElem?_append_right (Nat.le_refl _), Nat.sub_self] at hj
          simp at hj
          subst hj
          have := World.cell?_setCells_in g [.int .u8 (b.toNat : Int)] l.length w (fun j hj => by
            have : j = 0 := by simpa using hj
            subst this
            exact (h6 l.length (Nat.le_refl _) (by omega)).1) 0 (by simp)
          simpa using this
      · intro j ha hb
        simp only [List.length_append, List.length_singleton] at ha
        rw [World.cell?_setCells_out _ _ _ _ _ (by intro _ _; right; simp; omega), World.frozen?_setCells]
        exact h6 j (by omega) hb
      · simp only [World.setCells]
        exact (Below.refl _ _).setCell (p := ⟨g, l.length, none⟩) h1 _
      · intro k hk hne
        simp only [World.setCells]
        exact Below.heap_setCell _ _ _ _ (fun e => hne (by simp [Value.ownBlock, e]))
    · obtain ⟨v', w', hr, ho, hg⟩ := run_append_arg_grows (P := Try.prog) w 69 ty 5 i0 (.int .u8 0) 1 1 Try.underlying69 hi hz0 hz1 hz2 rfl (by decide) ⟨g, 0, none⟩ l.length cap (bcs l) (by rw [bcs_length, Nat.mul_one])
        (fun j u hj => by
          simp only [bcs, List.getElem?_map, Option.map_eq_some_iff] at hj
          obtain ⟨b', hb', rfl⟩ := hj
          rw [addr_add]
          exact h5 j b' hb') ad 1 c [.int .u8 (b.toNat : Int)] rfl hnews (by omega) (ml_le (by omega)) (by omega)
      refine ⟨v', w', hr, Own8.of_row (l := l ++ [b]) (n := l.length + 1) (by rw [bcs_append]; exact ho) hB, (Below.refl _ _).grown hg hB (by simp), fun k hk _ => hg.block k hk (by simp), fun g hg2 => Or.inr (row_ge ho g hg2), fun _ e => ?_⟩
      subst e
      rcases ho.2 with ⟨_, h0⟩ | ⟨g', cap', cur', h0, _⟩
      · omega
      · simp at h0
theorem strCells_bcs (s : ByteArray) : Lib.strCells s = bcs s.data.toList := rfl
theorem run_append8s {w : World} {B : Nat} {v : Value} {l : List UInt8} (h : Own8 w B v l) (ty : TypeId) (s : ByteArray) (hlen : l.length + s.size ≤ 140737488355328) (hB : B ≤ w.heap.size) :
    ∃ v' w', (Builtin.append_ #[69, 9] ty #[v, .string s]).run Try.prog w = .ok v' w' ∧ App w w' B v v' (l ++ s.data.toList) := by
  obtain ⟨i0, hi, hz0, hz1, hz2⟩ := info_parts info_u8
  have hsl : s.data.toList.length = s.size := by simp
  rcases h with ⟨rfl, rfl⟩ | ⟨g, cap, rfl, h1, h2, h3, h4, h5, h6⟩
  · obtain ⟨v', w', hr, ho, hg, _⟩ := Lib.run_append_own_string (P := Try.prog) w w.heap.size 69 9 ty 5 i0 Try.underlying69 Try.underlying9 hi hz0 hz1 hz2 _ 0 [] (World.ownsRow_nil w w.heap.size 5 1) s (ml_le (by simpa using hlen)) (by simpa using hlen) (Nat.le_refl _)
    exact ⟨v', w', hr, Own8.of_row (l := s.data.toList) (by rw [← strCells_bcs]; exact ho) hB, (Below.refl _ _).grown hg hB (by simp [Value.ownBlock]), fun k hk hne => hg.block k hk hne, fun g hg2 => Or.inr (row_ge ho g hg2), fun h => absurd rfl h⟩
  · by_cases hroom : l.length + s.size ≤ cap
    · have hf := Lib.run_firstCells_string (P := Try.prog) w 1 s
      have hst := run_storeCells_cells (P := Try.prog) g l.length (Lib.strCells s) 0 w
        (fun j hj => by rw [Lib.strCells_length] at hj; exact (h6 _ (by omega) (by omega)).1)
        (fun j hj => by rw [Lib.strCells_length] at hj; exact (h6 _ (by omega) (by omega)).2) (Lib.strCells_oneCell s)
      simp only [Nat.add_zero] at hst
      have hr : (Builtin.append_ #[69, 9] ty #[.slice (some ⟨g, 0, none⟩) l.length cap, .string s]).run Try.prog w = .ok (.slice (some ⟨g, 0, none⟩) (l.length + s.size) cap) (w.setCells g l.length (Lib.strCells s)) := by
        simp [Builtin.append_, run_underlying Try.underlying69, run_underlying Try.underlying9, sizeOf, typeInfo, hi, hz1, Builtin.lenOf, hroom, hf, Addr.add_lit, hst]
      have hsize : ∀ (vs : List Value) (o : Nat) (w : World), (w.setCells g o vs).heap.size = w.heap.size := by
        intro vs
        induction vs with
        | nil => intro o w; rfl
        | cons a vs ih => intro o w; rw [World.setCells, ih]; simp [World.setCell]
      have hblk : ∀ (vs : List Value) (o : Nat) (w : World) (k : Nat), k ≠ g → (w.setCells g o vs).heap[k]? = w.heap[k]? := by
        intro vs
        induction vs with
        | nil => intro o w k _; rfl
        | cons a vs ih => intro o w k hk; rw [World.setCells, ih _ _ _ hk]; exact Below.heap_setCell _ _ _ _ hk
      have hbel : ∀ (vs : List Value) (o : Nat) (a w : World), Below B a w → Below B a (w.setCells g o vs) := by
        intro vs
        induction vs with
        | nil => intro o a w h; exact h
        | cons x vs ih => intro o a w h; rw [World.setCells]; exact ih _ _ _ (h.setCell (p := ⟨g, o, none⟩) h1 _)
      refine ⟨_, _, hr, .inr ⟨g, cap, by simp, h1, ?_, by simp; omega, h4, ?_, ?_⟩, hbel _ _ _ _ (Below.refl _ _), ?_, fun g' hg' => Or.inl hg', by simp⟩
      · rw [hsize]; exact h2
      · intro j u hj
        by_cases hjl : j < l.length
        · rw [List.getElem?_append_left hjl] at hj
          rw [World.cell?_setCells_out _ _ _ _ _ (by intro _ _; left; exact hjl)]
          exact h5 j u hj
        · rw [List.getElem?_append_right (by omega)] at hj
          have hj2 : j - l.length < (Lib.strCells s).length := by
            rw [Lib.strCells_length]
            have := (List.getElem?_eq_some_iff.1 hj).1
            omega
          have hin := World.cell?_setCells_in g (Lib.strCells s) l.length w (fun j hj => by
            rw [Lib.strCells_length] at hj
            exact (h6 _ (by omega) (by omega)).1) (j - l.length) hj2
          rw [show l.length + (j - l.length) = j by omega] at hin
          rw [hin]
          have : (Lib.strCells s)[j - l.length]? = some (.int .u8 (u.toNat : Int)) := by simp [Lib.strCells, hj]
          rw [List.getElem?_eq_getElem hj2] at this
          exact this
      · intro j ha hb
        simp only [List.length_append, hsl] at ha
        rw [World.cell?_setCells_out _ _ _ _ _ (by intro _ _; right; rw [Lib.strCells_length]; omega), World.frozen?_setCells]
        exact h6 j (by omega) hb
      · intro k hk hne
        exact hblk _ _ _ _ (fun e => hne (by simp [Value.ownBlock, e]))
    · have hr := Lib.run_append_grow_string (P := Try.prog) w 69 9 ty 5 i0 (.int .u8 0) Try.underlying69 Try.underlying9 hi hz0 ⟨g, 0, none⟩ l.length cap (bcs l) (by rw [bcs_length, hz1, Nat.mul_one])
        (fun j u hj => by
          simp only [bcs, List.getElem?_map, Option.map_eq_some_iff] at hj
          obtain ⟨b', hb', rfl⟩ := hj
          rw [addr_add]
          exact h5 j b' hb') s (by omega) (by omega) (by rw [hz2]; exact growslice_fits (by omega) (by omega))
      have hge := grownCap_ge w (l.length + s.size) cap 5
      have hcm : grownCap w (l.length + s.size) cap 5 ≤ maxLen := grownCap_le_maxLen w (l.length + s.size) cap _ (ml_le hlen)
      refine ⟨_, _, hr, Own8.of_row (B' := w.heap.size) (n := l.length + s.size) ⟨?_, .inr ⟨w.heap.size, _, _, rfl, Nat.le_refl _, heap_alloc_new w.drew _, hge, hcm, ?_, ?_⟩⟩ hB, ?_, ?_, fun g' hg' => by simp [Value.ownBlock] at hg'; omega, by simp⟩
      · rw [bcs_length]; simp
      · have hz1' : (Value.int IntKind.u8 0).cells.size = 1 := rfl
        simp only [Array.size_append, List.size_toArray, size_zeroCells, hz1', bcs_length, Lib.strCells_length]
        omega
      · simp only [Array.toList_append, List.append_assoc]
        rw [← List.append_assoc, strCells_bcs]
        have : (l.length + s.size) * 1 = (bcs l ++ bcs s.data.toList).length := by rw [List.length_append, bcs_length, bcs_length, hsl]; omega
        rw [this, bcs_append]
        exact List.take_left
      · exact ((Below.refl B w).drew).alloc (by exact hB) _
      · intro k hk _
        exact Below.heap_alloc w.drew _ k hk
theorem Own8.conv {w : World} {l : List UInt8} {g : Nat} (h : ∀ j b, l[j]? = some b → w.cell? ⟨g, j, none⟩ = some (.int .u8 (b.toNat : Int))) (d c : Nat) :
    (convert 69 9 (.slice (some ⟨g, d, none⟩) (l.length - d) c)).run Try.prog w = .ok (.string ⟨(l.drop d).toArray⟩) w := by
  have e : l.length - d = (l.drop d).length := by simp
  rw [e]
  refine run_convert_bytes_back w _ _ _ ⟨g, d, none⟩ c (l.drop d) Try.underlying69 Try.underlying5 Try.underlying9 (fun j hj => ?_)
  have ha : (⟨g, d, none⟩ : Addr).add j = ⟨g, d + j, none⟩ := by unfold Addr.add; split <;> simp_all
  rw [ha]
  refine h (d + j) _ ?_
  rw [← List.getElem?_drop, List.getElem?_eq_getElem hj]
section
variable {ops : Array Oper} {rest : List Oper} {o : Oper} {a : Act} {Q : Exit → Act → World → Prop}
theorem wp_append8 (w : World) (hgd : o.guard = none) (s x : Operand) (ho : o.op = .call { callee := .builtin .append, args := #[s, x], argTypes := #[69, 69] })
    (B : Nat) (v : Value) (l : List UInt8) (hs : a.eval s = v) (h : Own8 w B v l) (b : UInt8) (g c : Nat) (hx : a.eval x = .slice (some ⟨g, 0, none⟩) 1 c) (hc : w.cell? ⟨g, 0, none⟩ = some (.int .u8 (b.toNat : Int)))
    (hlen : l.length + 1 ≤ 140737488355328) (hB : B ≤ w.heap.size)
    (hK : ∀ v' w', App w w' B v v' (l ++ [b]) → wpList Try.prog ops Q rest (a.put o.dst v') w') : wpList Try.prog ops Q (o :: rest) a w := by
  refine wpList_plain hgd fun K hK' => ?_
  obtain ⟨v', w', hr, r1⟩ := run_append8 h o.type b ⟨g, 0, none⟩ c hc hlen hB rfl
  unfold Oper.wp execOp
  simp only [ho, resolve, invoke, builtin, Sem.run_bind, Sem.run_pure, Result.andThen_ok, List.map_toArray, List.map_cons, List.map_nil, hs, hx, hr]
  exact hK' _ _ (hK v' w' r1)
theorem wp_append8s (w : World) (hgd : o.guard = none) (sl x : Operand) (ho : o.op = .call { callee := .builtin .append, args := #[sl, x], argTypes := #[69, 9] })
    (B : Nat) (v : Value) (l : List UInt8) (hs : a.eval sl = v) (h : Own8 w B v l) (s : ByteArray) (hx : a.eval x = .string s)
    (hlen : l.length + s.size ≤ 140737488355328) (hB : B ≤ w.heap.size)
    (hK : ∀ v' w', App w w' B v v' (l ++ s.data.toList) → wpList Try.prog ops Q rest (a.put o.dst v') w') : wpList Try.prog ops Q (o :: rest) a w := by
  refine wpList_plain hgd fun K hK' => ?_
  obtain ⟨v', w', hr, r1⟩ := run_append8s h o.type s hlen hB
  unfold Oper.wp execOp
  simp only [ho, resolve, invoke, builtin, Sem.run_bind, Sem.run_pure, Result.andThen_ok, List.map_toArray, List.map_cons, List.map_nil, hs, hx, hr]
  exact hK' _ _ (hK v' w' r1)
end
end Go.Proofs.Ytbjbjbpgmojcbaa
namespace Go.Proofs.Ytbjbjbpgmojcbaa
open Go.RowKit
theorem empty_iff (s : ByteArray) : s.toList.isEmpty = true ↔ s.size = 0 := by
  rw [Lib.toList_data, List.isEmpty_iff_length_eq_zero]
  have : s.data.toList.length = s.size := by simp
  rw [this]
theorem empty_of {s : ByteArray} (h : s.size = 0) : s.toList.isEmpty = true := (empty_iff s).2 h
theorem empty_not {s : ByteArray} (h : s.size ≠ 0) : s.toList.isEmpty = false := by
  cases e : s.toList.isEmpty with
  | false => rfl
  | true => exact absurd ((empty_iff s).1 e) h
def fits (D M : Int) (L : Bool) (lit : ByteArray) (far len : Int) : Bool :=
  if lit.size ≠ 0 then decide (far = 0 ∧ len = 0 ∧ L = false) else decide (3 ≤ len ∧ len ≤ 64 ∧ 1 ≤ far ∧ far ≤ D + M)
set_option maxHeartbeats 400000 in
theorem fits_lit (g : Nat) (D M : Int) (L : Bool) (lit : ByteArray) (far len : Int) (w : World) (hg : g < w.heap.size)
    (h2 : w.cell? ⟨g, 2, none⟩ = some (.bool L)) (hl : lit.size ≠ 0) :
    Calls Try.prog 84 #[.pointer (some ⟨g, 0, none⟩), .agg #[.string lit, .int .i64 far, .int .i64 len]] w fun e w' => e = .returned (.bool (fits D M L lit far len)) ∧ Below w.heap.size w w' := by
  have hE := empty_not hl
  by_cases hf : far = 0
  · have hf' : (far == 0) = true := by simp [hf]
    by_cases hn : len = 0
    · have hn' : (len == 0) = true := by simp [hn]
      have HR : Hid (fits D M L lit far len = !L) := by
        show fits D M L lit far len = !L
        unfold fits
        rw [if_pos hl]
        cases L <;> simp [hf, hn]
      clear hf hn
      go_enter Try.func84, Try.ntmps84
      go_wp2_with fail
      go_ret
      exact ⟨by rw [HR.out]; rfl, (Below.refl _ _).alloc (Nat.le_refl _) _⟩
    · have hn' : (len == 0) = false := by simp [hn]
      have HR : Hid (fits D M L lit far len = false) := by
        show fits D M L lit far len = false
        unfold fits
        rw [if_pos hl]
        simp [hn]
      clear hf hn
      go_enter Try.func84, Try.ntmps84
      go_wp2_with fail
      go_ret
      exact ⟨by rw [HR.out]; rfl, (Below.refl _ _).alloc (Nat.le_refl _) _⟩
  · have hf' : (far == 0) = false := by simp [hf]
    have HR : Hid (fits D M L lit far len = false) := by
      show fits D M L lit far len = false
      unfold fits
      rw [if_pos hl]
      simp [hf]
    clear hf
    go_enter Try.func84, Try.ntmps84
    go_wp2_with fail
    go_ret
    exact ⟨by rw [HR.out]; rfl, (Below.refl _ _).alloc (Nat.le_refl _) _⟩
set_option maxHeartbeats 400000 in
theorem fits_copy (g : Nat) (D M : Int) (L : Bool) (lit : ByteArray) (far len : Int) (w : World) (hg : g < w.heap.size)
    (h0 : w.cell? ⟨g, 0, none⟩ = some (.int .i64 D)) (h1 : w.cell? ⟨g, 1, none⟩ = some (.int .i64 M))
    (hD0 : 0 ≤ D) (hD1 : D ≤ 256) (hM0 : 0 ≤ M) (hM1 : M ≤ 512) (hl : lit.size = 0) :
    Calls Try.prog 84 #[.pointer (some ⟨g, 0, none⟩), .agg #[.string lit, .int .i64 far, .int .i64 len]] w fun e w' => e = .returned (.bool (fits D M L lit far len)) ∧ Below w.heap.size w w' := by
  have hE := empty_of hl
  have hF : fits D M L lit far len = decide (3 ≤ len ∧ len ≤ 64 ∧ 1 ≤ far ∧ far ≤ D + M) := by unfold fits; rw [if_neg (by omega)]
  have hr1 : IntKind.i64.wrap (D + M) = D + M := IntWalk.i64_in _ ⟨by omega, by omega⟩
  by_cases a1 : 3 ≤ len
  · have b1 : decide (3 ≤ len) = true := by simp; omega
    by_cases a2 : len ≤ 64
    · have b2 : decide (len ≤ 64) = true := by simp; omega
      by_cases a3 : 1 ≤ far
      · have b3 : decide (1 ≤ far) = true := by simp; omega
        by_cases a4 : far ≤ D + M
        · have b4 : decide (far ≤ D + M) = true := by simp; omega
          have HR : Hid (fits D M L lit far len = true) := by rw [hF]; show decide _ = true; simp; omega
          clear hF
          go_enter Try.func84, Try.ntmps84
          go_wp2_with fail
          go_quiet (fail)
          go_wp2_with fail
          go_ret
          exact ⟨by rw [HR.out]; rfl, below_drewN ((Below.refl _ _).alloc (Nat.le_refl _) _) _⟩
        · have b4 : decide (far ≤ D + M) = false := by simp; omega
          have HR : Hid (fits D M L lit far len = false) := by rw [hF]; show decide _ = false; simp; omega
          clear hF
          go_enter Try.func84, Try.ntmps84
          go_wp2_with fail
          go_quiet (fail)
          go_wp2_with fail
          go_ret
          exact ⟨by rw [HR.out]; rfl, below_drewN ((Below.refl _ _).alloc (Nat.le_refl _) _) _⟩
      · have b3 : decide (1 ≤ far) = false := by simp; omega
        have HR : Hid (fits D M L lit far len = false) := by rw [hF]; show decide _ = false; simp; omega
        clear hF
        go_enter Try.func84, Try.ntmps84
        go_wp2_with fail
        go_quiet (fail)
        go_wp2_with fail
        go_ret
        exact ⟨by rw [HR.out]; rfl, below_drewN ((Below.refl _ _).alloc (Nat.le_refl _) _) _⟩
    · have b2 : decide (len ≤ 64) = false := by simp; omega
      have HR : Hid (fits D M L lit far len = false) := by rw [hF]; show decide _ = false; simp; omega
      clear hF
      go_enter Try.func84, Try.ntmps84
      go_wp2_with fail
      go_quiet (fail)
      go_wp2_with fail
      go_ret
      exact ⟨by rw [HR.out]; rfl, below_drewN ((Below.refl _ _).alloc (Nat.le_refl _) _) _⟩
  · have b1 : decide (3 ≤ len) = false := by simp; omega
    have HR : Hid (fits D M L lit far len = false) := by rw [hF]; show decide _ = false; simp; omega
    clear hF
    go_enter Try.func84, Try.ntmps84
    go_wp2_with fail
    go_quiet (fail)
    go_wp2_with fail
    go_ret
    exact ⟨by rw [HR.out]; rfl, below_drewN ((Below.refl _ _).alloc (Nat.le_refl _) _) _⟩
theorem fits_any (g : Nat) (D M : Int) (L : Bool) (lit : ByteArray) (far len : Int) (w : World) (hg : g < w.heap.size)
    (h0 : w.cell? ⟨g, 0, none⟩ = some (.int .i64 D)) (h1 : w.cell? ⟨g, 1, none⟩ = some (.int .i64 M)) (h2 : w.cell? ⟨g, 2, none⟩ = some (.bool L))
    (hD0 : 0 ≤ D) (hD1 : D ≤ 256) (hM0 : 0 ≤ M) (hM1 : M ≤ 512) :
    Calls Try.prog 84 #[.pointer (some ⟨g, 0, none⟩), .agg #[.string lit, .int .i64 far, .int .i64 len]] w fun e w' => e = .returned (.bool (fits D M L lit far len)) ∧ Below w.heap.size w w' := by
  by_cases hl : lit.size = 0
  · exact fits_copy g D M L lit far len w hg h0 h1 hD0 hD1 hM0 hM1 hl
  · exact fits_lit g D M L lit far len w hg h2 hl
def MkAt (w : World) (B g : Nat) (D M : Int) (L : Bool) : Prop :=
  B ≤ g ∧ g < w.heap.size ∧ w.cell? ⟨g, 0, none⟩ = some (.int .i64 D) ∧ w.cell? ⟨g, 1, none⟩ = some (.int .i64 M) ∧ w.cell? ⟨g, 2, none⟩ = some (.bool L) ∧ w.frozen? ⟨g, 1, none⟩ = false ∧ w.frozen? ⟨g, 2, none⟩ = false
theorem MkAt.below {w w' : World} {B g : Nat} {D M : Int} {L : Bool} (h : MkAt w B g D M L) (hb : Below w.heap.size w w') : MkAt w' B g D M L := by
  obtain ⟨a, b, c0, c1, c2, f1, f2⟩ := h
  exact ⟨a, Nat.lt_of_lt_of_le b hb.size, (hb.cell (by exact b)).trans c0, (hb.cell (by exact b)).trans c1, (hb.cell (by exact b)).trans c2, (hb.frozen (by exact b)).trans f1, (hb.frozen (by exact b)).trans f2⟩
theorem MkAt.set2 {w : World} {B g : Nat} {D M : Int} {L : Bool} (h : MkAt w B g D M L) (n : Nat) (M' : Int) (L' : Bool) :
    MkAt (((w.drewN n).setCell ⟨g, 1, none⟩ (.int .i64 M')).setCell ⟨g, 2, none⟩ (.bool L')) B g D M' L' := by
  obtain ⟨a, b, c0, c1, c2, f1, f2⟩ := h
  have d0 : (w.drewN n).cell? ⟨g, 0, none⟩ = some (.int .i64 D) := c0
  have d1 : (w.drewN n).cell? ⟨g, 1, none⟩ = some (.int .i64 M) := c1
  have d2 : (w.drewN n).cell? ⟨g, 2, none⟩ = some (.bool L) := c2
  refine ⟨a, by simpa [World.setCell] using b, ?_, ?_, ?_, ?_, ?_⟩
  · rw [World.cell?_setCell_other _ _ _ _ (by simp), World.cell?_setCell_other _ _ _ _ (by simp)]; exact d0
  · rw [World.cell?_setCell_other _ _ _ _ (by simp)]
    exact World.cell?_setCell_same _ _ _ d1
  · refine World.cell?_setCell_same _ _ _ (u := .bool L) ?_
    rw [World.cell?_setCell_other _ _ _ _ (by simp)]
    exact d2
  · rw [World.frozen?_setCell, World.frozen?_setCell]; exact f1
  · rw [World.frozen?_setCell, World.frozen?_setCell]; exact f2
theorem MkAt.alloc {w : World} {B g : Nat} {D M : Int} {L : Bool} (h : MkAt w B g D M L) (o : Obj) : MkAt (w.alloc o) B g D M L := h.below ((Below.refl _ _).alloc (Nat.le_refl _) o)
theorem fits_mk {w : World} {B g : Nat} {D M : Int} {L : Bool} (h : MkAt w B g D M L) (lit : ByteArray) (far len : Int) (hD0 : 0 ≤ D) (hD1 : D ≤ 256) (hM0 : 0 ≤ M) (hM1 : M ≤ 512) :
    Calls Try.prog 84 #[.pointer (some ⟨g, 0, none⟩), .agg #[.string lit, .int .i64 far, .int .i64 len]] w fun e w' => e = .returned (.bool (fits D M L lit far len)) ∧ Below w.heap.size w w' :=
  fits_any g D M L lit far len w h.2.1 h.2.2.1 h.2.2.2.1 h.2.2.2.2.1 hD0 hD1 hM0 hM1
set_option maxHeartbeats 1000000 in
theorem add_form (B g : Nat) (D M : Int) (L : Bool) (lit : ByteArray) (far len : Int) (w : World) (h : MkAt w B g D M L)
    (hD0 : 0 ≤ D) (hD1 : D ≤ 256) (hM0 : 0 ≤ M) (hM1 : M ≤ 512) (hF : fits D M L lit far len = false) :
    Calls Try.prog 56 #[.pointer (some ⟨g, 0, none⟩), .agg #[.string lit, .int .i64 far, .int .i64 len]] w fun e w' => e = .returned (.int .i64 1) ∧ Below w.heap.size w w' := by
  go_enter Try.func56, Try.ntmps56
  go_wp2_with fail
  refine (fits_mk (h.alloc _) lit far len hD0 hD1 hM0 hM1).mono ?_
  rintro e w1 ⟨rfl, hb⟩
  go_wp2_with fail
  go_ret
  exact ⟨rfl, bch ((Below.refl _ _).alloc (Nat.le_refl _) _) hb (Nat.le_refl _)⟩
theorem box_cells {w w1 : World} {x y z : Value} {T : TypeId} (hb : Below (w.alloc (.cells #[x, y, z] T)).heap.size (w.alloc (.cells #[x, y, z] T)) w1) :
    w1.cell? ⟨w.heap.size, 0, none⟩ = some x ∧ w1.cell? ⟨w.heap.size, 1, none⟩ = some y ∧ w1.cell? ⟨w.heap.size, 2, none⟩ = some z := by
  refine ⟨(hb.cell (by simp)).trans ?_, (hb.cell (by simp)).trans ?_, (hb.cell (by simp)).trans ?_⟩ <;> (rw [World.cell?_alloc_mark]; rfl)
set_option maxHeartbeats 1000000 in
theorem add_many (B g : Nat) (D M : Int) (L : Bool) (lit : ByteArray) (far len : Int) (w : World) (h : MkAt w B g D M L)
    (hD0 : 0 ≤ D) (hD1 : D ≤ 256) (hM0 : 0 ≤ M) (hM1 : M ≤ 512) (hlit : lit.size ≤ 140737488355328) (hln : 0 ≤ len ∧ len ≤ 64) (hF : fits D M L lit far len = true) (hbig : 512 < M + lit.size + len) :
    Calls Try.prog 56 #[.pointer (some ⟨g, 0, none⟩), .agg #[.string lit, .int .i64 far, .int .i64 len]] w fun e w' => e = .returned (.int .i64 2) ∧ Below w.heap.size w w' := by
  obtain ⟨hl0, hl1⟩ := hln
  have hs : (lit.size : Int) ≤ 140737488355328 := by omega
  have hr1 : IntKind.i64.wrap (M + (lit.size : Int)) = M + (lit.size : Int) := IntWalk.i64_in _ ⟨by omega, by omega⟩
  have hr2 : IntKind.i64.wrap (M + (lit.size : Int) + len) = M + (lit.size : Int) + len := IntWalk.i64_in _ ⟨by omega, by omega⟩
  have hd : decide (512 < M + (lit.size : Int) + len) = true := by simp; omega
  go_enter Try.func56, Try.ntmps56
  go_wp2_with fail
  refine (fits_mk (h.alloc _) lit far len hD0 hD1 hM0 hM1).mono ?_
  rintro e w1 ⟨rfl, hb⟩
  have hm := (h.alloc (.cells #[.string lit, .int .i64 far, .int .i64 len] 73)).below hb
  obtain ⟨k0, k1, k2⟩ := box_cells hb
  have m1 := hm.2.2.2.1
  clear hm
  go_wp2_with fail
  go_quiet (fail)
  go_wp2_with fail
  go_ret
  exact ⟨rfl, below_drewN (bch ((Below.refl _ _).alloc (Nat.le_refl _) _) hb (Nat.le_refl _)) _⟩
set_option maxHeartbeats 1000000 in
theorem add_ok (B g : Nat) (D M : Int) (L : Bool) (lit : ByteArray) (far len : Int) (w : World) (h : MkAt w B g D M L)
    (hD0 : 0 ≤ D) (hD1 : D ≤ 256) (hM0 : 0 ≤ M) (hM1 : M ≤ 512) (hln : 0 ≤ len ∧ len ≤ 64) (hF : fits D M L lit far len = true) (hok : M + lit.size + len ≤ 512) :
    Calls Try.prog 56 #[.pointer (some ⟨g, 0, none⟩), .agg #[.string lit, .int .i64 far, .int .i64 len]] w fun e w' => e = .returned (.int .i64 0) ∧ Below B w w' ∧ MkAt w' B g D (M + lit.size + len) (!lit.toList.isEmpty) ∧ Hid (∀ k, k < w.heap.size → k ≠ g → w'.heap[k]? = w.heap[k]?) := by
  obtain ⟨hl0, hl1⟩ := hln
  have hs : (lit.size : Int) ≤ 512 := by omega
  have hr1 : IntKind.i64.wrap (M + (lit.size : Int)) = M + (lit.size : Int) := IntWalk.i64_in _ ⟨by omega, by omega⟩
  have hr2 : IntKind.i64.wrap (M + (lit.size : Int) + len) = M + (lit.size : Int) + len := IntWalk.i64_in _ ⟨by omega, by omega⟩
  have hd : decide (512 < M + (lit.size : Int) + len) = false := by simp; omega
  have hgw := h.2.1
  have hBg := h.1
  go_enter Try.func56, Try.ntmps56
  go_wp2_with fail
  refine (fits_mk (h.alloc _) lit far len hD0 hD1 hM0 hM1).mono ?_
  rintro e w1 ⟨rfl, hb⟩
  have hm := (h.alloc (.cells #[.string lit, .int .i64 far, .int .i64 len] 73)).below hb
  obtain ⟨k0, k1, k2⟩ := box_cells hb
  have HM : Hid (MkAt w1 B g D M L) := hm
  obtain ⟨_, m0, m1, m2, m3, m4, m5⟩ := hm
  have hne : ¬ g = w.heap.size := by omega
  have hne2 : ¬ w.heap.size = g := by omega
  go_wp2_with fail
  go_quiet (fail)
  go_wp2_with fail
  go_ret
  have hB1 : Below B w w1 := (((Below.refl _ _).alloc (Nat.le_refl _) _).trans (hb.mono (by simp))).mono (by omega)
  refine ⟨rfl, ((below_drewN hB1 nq).setCell (p := ⟨g, 1, none⟩) hBg _).setCell (p := ⟨g, 2, none⟩) hBg _, HM.out.set2 nq _ _, fun k hk hkg => ?_⟩
  rw [Below.heap_setCell _ _ _ _ (by exact hkg), Below.heap_setCell _ _ _ _ (by exact hkg)]
  show w1.heap[k]? = _
  rw [hb.block k (by simp; omega)]
  exact Below.heap_alloc _ _ _ hk
theorem err_fits (d : Nat) (s : List UInt8) (p : Bool) (t : Tk.T) (M : Int) (hM : M = (s.length : Int) - d) :
    Tk.err d s p t = if fits d M p t.lit t.far t.len = false then 1 else if 512 < M + t.lit.size + t.len then 2 else 0 := by
  unfold Tk.err fits
  by_cases h0 : t.lit.size ≠ 0
  · rw [if_pos h0, if_pos h0]
    by_cases h1 : t.far ≠ 0 ∨ t.len ≠ 0 ∨ p = true
    · rw [if_pos h1, if_pos]
      simp only [decide_eq_false_iff_not]
      rintro ⟨a, b, c⟩
      rcases h1 with h | h | h
      · exact h a
      · exact h b
      · rw [c] at h; cases h
    · have ha : t.far = 0 := by
        by_cases e : t.far = 0
        · exact e
        · exact absurd (Or.inl e) h1
      have hb : t.len = 0 := by
        by_cases e : t.len = 0
        · exact e
        · exact absurd (Or.inr (Or.inl e)) h1
      have hc : p = false := by
        cases p
        · rfl
        · exact absurd (Or.inr (Or.inr rfl)) h1
      rw [if_neg h1]
      rw [if_neg (c := decide (t.far = 0 ∧ t.len = 0 ∧ p = false) = false) (by simp [ha, hb, hc])]
      rw [hb, hM]
      simp
  · rw [if_neg h0, if_neg h0]
    by_cases h1 : 3 ≤ t.len ∧ t.len ≤ 64 ∧ 1 ≤ t.far ∧ t.far ≤ s.length
    · rw [if_neg (by simpa using h1), if_neg (c := decide (3 ≤ t.len ∧ t.len ≤ 64 ∧ 1 ≤ t.far ∧ t.far ≤ (d : Int) + M) = false) (by simp; omega), hM]
      have : (t.lit.size : Int) = 0 := by omega
      rw [this, Int.add_zero]
    · rw [if_pos h1, if_pos]
      simp only [decide_eq_false_iff_not]
      omega
def TkAt (w : World) (b off : Nat) (l : List Tk.T) : Prop :=
  ∀ i (h : i < l.length), w.cell? ⟨b, off + i * 3, none⟩ = some (.string l[i].lit) ∧ w.cell? ⟨b, off + i * 3 + 1, none⟩ = some (.int .i64 l[i].far) ∧ w.cell? ⟨b, off + i * 3 + 2, none⟩ = some (.int .i64 l[i].len)
def SlAt (w : World) (ad : Option Addr) (l : List Tk.T) : Prop := l = [] ∨ ∃ b off, ad = some ⟨b, off, none⟩ ∧ b < w.heap.size ∧ TkAt w b off l
theorem SlAt.below {w w' : World} {ad : Option Addr} {l : List Tk.T} (h : SlAt w ad l) (hb : Below w.heap.size w w') : SlAt w' ad l := by
  rcases h with h | ⟨b, off, rfl, hlt, ht⟩
  · exact .inl h
  · refine .inr ⟨b, off, rfl, Nat.lt_of_lt_of_le hlt hb.size, fun i hi => ?_⟩
    have := ht i hi
    rw [hb.cell (by exact hlt), hb.cell (by exact hlt), hb.cell (by exact hlt)]
    exact this
def Sane (l : List Tk.T) : Prop := l.length ≤ 140737488355328 ∧ ∀ t ∈ l, t.lit.size ≤ 140737488355328
end Go.Proofs.Ytbjbjbpgmojcbaa
namespace Go.Proofs.Ytbjbjbpgmojcbaa
open Go.RowKit
def checkOf (dict : ByteArray) (l : List Tk.T) : Int := if 256 < dict.size then 2 else (Tk.run dict.size dict.data.toList false l).1
theorem fits_len {D M : Int} {L : Bool} {lit : ByteArray} {far len : Int} (h : fits D M L lit far len = true) : 0 ≤ len ∧ len ≤ 64 := by
  unfold fits at h
  split at h
  · have := of_decide_eq_true h
    omega
  · have := of_decide_eq_true h
    omega
set_option maxHeartbeats 1000000 in
theorem check_many (dict : ByteArray) (ad : Option Addr) (n cap : Nat) (w : World) (hd : 256 < dict.size) :
    Calls Try.prog 29 #[.string dict, .slice ad n cap] w fun e w' => e = .returned (.int .i64 2) ∧ Below w.heap.size w w' := by
  have h : decide ((256 : Int) < (dict.size : Int)) = true := by simp; omega
  have h' : (256 : Int) < (dict.size : Int) := by omega
  go_enter Try.func29, Try.ntmps29
  go_wp2_with fail
  go_ret
  exact ⟨rfl, Below.refl _ _⟩
set_option maxHeartbeats 1000000 in
theorem check_nil (dict : ByteArray) (ad : Option Addr) (cap : Nat) (w : World) (hd : dict.size ≤ 256) :
    Calls Try.prog 29 #[.string dict, .slice ad 0 cap] w fun e w' => e = .returned (.int .i64 0) ∧ Below w.heap.size w w' := by
  have h : decide ((256 : Int) < (dict.size : Int)) = false := by simp; omega
  have h' : (dict.size : Int) ≤ 256 := by omega
  go_enter Try.func29, Try.ntmps29
  go_wp2_with fail
  refine wp_loop_rounds 1 ?_
  rw [rounds_succ]
  go_wp2_with fail
  go_ret
  exact ⟨rfl, (Below.refl _ _).alloc (Nat.le_refl _) _⟩
set_option maxHeartbeats 1000000 in
theorem check_some (dict : ByteArray) (b off cap : Nat) (l : List Tk.T) (w : World) (hd : dict.size ≤ 256) (hb : b < w.heap.size) (hl : TkAt w b off l) (hs : Sane l) :
    Calls Try.prog 29 #[.string dict, .slice (some ⟨b, off, none⟩) l.length cap] w fun e w' => e = .returned (.int .i64 (Tk.run dict.size dict.data.toList false l).1) ∧ Below w.heap.size w w' := by
  have h : decide ((256 : Int) < (dict.size : Int)) = false := by simp; omega
  have h' : (dict.size : Int) ≤ 256 := by omega
  have hn := hs.1
  have hn' : (l.length : Int) ≤ 140737488355328 := by omega
  go_enter Try.func29, Try.ntmps29
  go_wp2_with fail
  go_loopw [17] (fun i wr => ∃ (k : Nat) (s : List UInt8) (p : Bool), k ≤ l.length ∧ i = .int .i64 k ∧ Hid (Tk.run dict.size dict.data.toList false l = Tk.run dict.size s p (l.drop k)) ∧
      dict.size ≤ s.length ∧ s.length ≤ dict.size + 512 ∧ MkAt wr w.heap.size w.heap.size dict.size ((s.length : Int) - dict.size) p ∧ Below w.heap.size w wr)
    (fun i _ => l.length - (intOf i).toNat)
  case atStart =>
    refine ⟨0, dict.data.toList, false, by omega, rfl, rfl, ?_, ?_, ?_, (Below.refl _ _).alloc (Nat.le_refl _) _⟩
    · simp
    · simp
    · have e : ((dict.data.toList.length : Int) - dict.size) = 0 := by simp
      rw [e]
      exact ⟨Nat.le_refl _, by simp, by rw [World.cell?_alloc_mark]; rfl, by rw [World.cell?_alloc_mark]; rfl, by rw [World.cell?_alloc_mark]; rfl, by rw [World.frozen?_alloc_mark]; simp, by rw [World.frozen?_alloc_mark]; simp⟩
  case round =>
    obtain ⟨k, s, p, hk, rfl, hrun, hs1, hs2, hm, G⟩ := hrel
    by_cases hlt : k < l.length
    · have hdrop : l.drop k = l[k] :: l.drop (k + 1) := List.drop_eq_getElem_cons hlt
      have hef := err_fits dict.size s p l[k] _ rfl
      obtain ⟨c0, c1, c2⟩ := hl k hlt
      have hlit := hs.2 l[k] (List.getElem_mem hlt)
      rw [← G.cell (by exact hb)] at c0 c1 c2
      generalize l[k] = t at *
      have Hm : Hid (MkAt wr w.heap.size w.heap.size dict.size ((s.length : Int) - dict.size) p) := hm
      have hM0 : 0 ≤ (s.length : Int) - dict.size := by omega
      have hM1 : (s.length : Int) - dict.size ≤ 512 := by omega
      have hD0 : (0 : Int) ≤ (dict.size : Int) := by omega
      have HE : Hid (Tk.err dict.size s p t = if fits dict.size ((s.length : Int) - dict.size) p t.lit t.far t.len = false then 1 else if 512 < (s.length : Int) - dict.size + t.lit.size + t.len then 2 else 0) := hef
      have HR : Hid (Tk.run dict.size dict.data.toList false l = Tk.run dict.size s p (t :: l.drop (k + 1))) := by
        show _ = _
        rw [hrun.out, hdrop]
      have hgs := G.size
      have hgs2 := hm.2.1
      clear hm hef hdrop hrun hl hs
      cases hF : fits dict.size ((s.length : Int) - dict.size) p t.lit t.far t.len with
      | false =>
        have HX : Hid ((Tk.run dict.size dict.data.toList false l).1 = 1) := by
          have he : Tk.err dict.size s p t = 1 := by rw [HE.out, if_pos hF]
          show _ = _
          rw [HR.out, Tk.run_bad (by omega), he]
        go_wp2_with fail
        refine (add_form w.heap.size w.heap.size dict.size ((s.length : Int) - dict.size) p t.lit t.far t.len _ (Hm.out.alloc _) hD0 h' hM0 hM1 hF).mono ?_
        rintro e w1 ⟨rfl, hb1⟩
        go_wp2_with fail
        go_ret
        exact ⟨by rw [HX.out]; rfl, bch (G.alloc hgs _) hb1 (Nat.le_refl _)⟩
      | true =>
        have hln := fits_len hF
        by_cases hbig : 512 < (s.length : Int) - dict.size + t.lit.size + t.len
        · have HX : Hid ((Tk.run dict.size dict.data.toList false l).1 = 2) := by
            have he : Tk.err dict.size s p t = 2 := by rw [HE.out, if_neg (by rw [hF]; simp), if_pos hbig]
            show _ = _
            rw [HR.out, Tk.run_bad (by omega), he]
          go_wp2_with fail
          refine (add_many w.heap.size w.heap.size dict.size ((s.length : Int) - dict.size) p t.lit t.far t.len _ (Hm.out.alloc _) hD0 h' hM0 hM1 hlit hln hF hbig).mono ?_
          rintro e w1 ⟨rfl, hb1⟩
          go_wp2_with fail
          go_ret
          exact ⟨by rw [HX.out]; rfl, bch (G.alloc hgs _) hb1 (Nat.le_refl _)⟩
        · have he : Tk.err dict.size s p t = 0 := by rw [HE.out, if_neg (by rw [hF]; simp), if_neg hbig]
          have hmk := Tk.make_ok he
          have HX : Hid (Tk.run dict.size dict.data.toList false l = Tk.run dict.size (Tk.make s t) (decide (t.lit.size ≠ 0)) (l.drop (k + 1))) := by
            show _ = _
            rw [HR.out, Tk.run_good he]
          have HK : Hid ((Tk.make s t).length = s.length + t.lit.size + t.len.toNat) := hmk.1
          have HD : Hid ((!t.lit.toList.isEmpty) = decide (t.lit.size ≠ 0)) := by
            show _ = _
            by_cases h0 : t.lit.size = 0
            · rw [empty_of h0]; simp [h0]
            · rw [empty_not h0]; simp [h0]
          clear he hmk
          go_wp2_with fail
          refine (add_ok w.heap.size w.heap.size dict.size ((s.length : Int) - dict.size) p t.lit t.far t.len _ (Hm.out.alloc _) hD0 h' hM0 hM1 hln hF (by omega)).mono ?_
          rintro e w1 ⟨rfl, hb1, hm1, _⟩
          have HM1 : Hid (MkAt w1 w.heap.size w.heap.size dict.size ((s.length : Int) - dict.size + t.lit.size + t.len) (!t.lit.toList.isEmpty)) := hm1
          clear hm1
          go_wp2_with fail
          go_roundw
          case rel =>
            have hk1 := HK.out
            refine ⟨k + 1, Tk.make s t, decide (t.lit.size ≠ 0), by omega, by go_num, HX, by omega, by omega, ?_, (G.alloc hgs _).trans hb1⟩
            rw [← HD.out, show ((Tk.make s t).length : Int) - dict.size = (s.length : Int) - dict.size + t.lit.size + t.len by omega]
            exact HM1.out
          case measure => simp [intOf]; omega
    · have HX : Hid ((Tk.run dict.size dict.data.toList false l).1 = 0) := by
        show _ = _
        rw [hrun.out, List.drop_eq_nil_of_le (by omega)]
        rfl
      clear hm hrun hl hs
      go_wp2_with fail
      go_ret
      exact ⟨by rw [HX.out]; rfl, G⟩
theorem check_any (dict : ByteArray) (ad : Option Addr) (cap : Nat) (l : List Tk.T) (w : World) (hl : SlAt w ad l) (hs : Sane l) :
    Calls Try.prog 29 #[.string dict, .slice ad l.length cap] w fun e w' => e = .returned (.int .i64 (checkOf dict l)) ∧ Below w.heap.size w w' := by
  unfold checkOf
  by_cases hd : 256 < dict.size
  · rw [if_pos hd]
    exact check_many dict ad _ cap w hd
  · rw [if_neg hd]
    rcases hl with rfl | ⟨b, off, rfl, hb, ht⟩
    · exact check_nil dict ad cap w (by omega)
    · exact check_some dict b off cap l w (by omega) hb ht hs
end Go.Proofs.Ytbjbjbpgmojcbaa
