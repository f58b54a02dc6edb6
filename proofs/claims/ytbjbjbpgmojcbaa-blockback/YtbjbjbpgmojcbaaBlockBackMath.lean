/- What Pack makes, Unpack undoes: plain. -/
import Derived.Test.YtbjbjbpgmojcbaaBlockPack
import Derived.Test.YtbjbjbpgmojcbaaBlockUnpack
import Derived.Test.YtbjbjbpgmojcbaaCodeBackMath
import Derived.Test.YtbjbjbpgmojcbaaCodeBestMath
namespace Go.Proofs.Ytbjbjbpgmojcbaa
open Go.RowKit

namespace Cd
theorem wI_same {f g : Nat → Int} {n : Int} {x : Int × (Nat → Int)} : ∀ k, (∀ i, i < k → f i = g i) → wI f n x k = wI g n x k := by
  intro k
  induction k with
  | zero => intro _; rfl
  | succ k ih => intro h; rw [wI, wI, ih (fun i hi => h i (by omega)), h k (by omega)]
theorem wO_same {f g : Nat → Int} (h : ∀ i, i < 16 → f i = g i) : ∀ n, wO f n = wO g n := by
  intro n
  induction n with
  | zero => rfl
  | succ n ih => rw [wO, wO, ih, wI_same 16 h]
theorem wds_same {f g : Nat → Int} (h : ∀ i, i < 16 → f i = g i) : wds f = wds g := by rw [wds, wds, wO_same h]
theorem find_same {f g ws : Nat → Int} {n word : Int} : ∀ k, (∀ i, i < k → f i = g i) → find f ws n word k = find g ws n word k := by
  intro k
  induction k with
  | zero => intro _; rfl
  | succ k ih => intro h; rw [find, find, ih (fun i hi => h i (by omega)), h k (by omega)]
theorem sgn_same {f g ws : Nat → Int} {b : ByteArray} (h : ∀ i, i < 16 → f i = g i) : ∀ m n word a, sgn f ws b m n word a = sgn g ws b m n word a := by
  intro m
  induction m with
  | zero => intro _ _ _; rfl
  | succ m ih => intro n word a; rw [sgn, sgn, ih, fnd, fnd, find_same 16 h]
theorem s15_same {f g : Nat → Int} {b : ByteArray} (h : ∀ i, i < 16 → f i = g i) (a : Nat) : s15 f b a = s15 g b a := by rw [s15, s15, wds_same h, sgn_same h]
theorem rdK_same {f g : Nat → Int} {b : ByteArray} (h : ∀ i, i < 16 → f i = g i) : ∀ k, rdK f b k = rdK g b k := by
  intro k
  induction k with
  | zero => rfl
  | succ k ih => rw [rdK, rdK, ih]; simp only [s15_same h]
theorem sm_same {f g : Nat → Int} : ∀ k, (∀ i, i < k → f i = g i) → sm f k = sm g k := by
  intro k
  induction k with
  | zero => intro _; rfl
  | succ k ih => intro h; rw [sm, sm, ih (fun i hi => h i (by omega)), h k (by omega)]
theorem chk_same {f g : Nat → Int} (h : ∀ i, i < 16 → f i = g i) : chk f = chk g := by
  have e : InR f 15 16 ↔ InR g 15 16 := ⟨fun h9 i hi => by rw [← h i hi]; exact h9 i hi, fun h9 i hi => by rw [h i hi]; exact h9 i hi⟩
  rw [chk, chk, sm_same 16 h]
  by_cases h1 : InR f 15 16
  · rw [if_pos h1, if_pos (e.1 h1)]
  · rw [if_neg h1, if_neg (fun h9 => h1 (e.2 h9))]
theorem rd_same {f g : Nat → Int} {b : ByteArray} {n : Int} (h : ∀ i, i < 16 → f i = g i) : rd f b n = rd g b n := by
  rw [rd, rd, chk_same h, rdK_same h]
theorem wrK_all {f : Nat → Int} {s : ByteArray} : ∀ k, (∀ i, i < k → f (at8 s i / 16) ≠ 0 ∧ f (at8 s i % 16) ≠ 0) → ∃ bs, wrK f s k = some bs := by
  intro k
  induction k with
  | zero => intro _; exact ⟨[], rfl⟩
  | succ k ih =>
    intro h
    obtain ⟨bs, e⟩ := ih (fun i hi => h i (by omega))
    have h1 := h k (by omega)
    exact ⟨_, wrK_next e (fun h9 => h9.elim h1.1 h1.2)⟩
end Cd

namespace Bk
theorem hvK_mono (s : ByteArray) : ∀ k i, hvK s k i ≤ hvK s (k + 1) i := by
  intro k i
  rw [hvK]
  unfold upd
  split
  · rename_i h
    split
    · rename_i h2; rw [← h2, h]; omega
    · rw [h]; omega
  · split
    · rename_i h2; rw [h2]; omega
    · exact Int.le_refl _
theorem hvK_le (s : ByteArray) (k i : Nat) : ∀ j, hvK s k i ≤ hvK s (k + j) i := by
  intro j
  induction j with
  | zero => exact Int.le_refl _
  | succ j ih => exact Int.le_trans ih (hvK_mono s (k + j) i)
theorem hvK_here (s : ByteArray) (k : Nat) : 1 ≤ hvK s (k + 1) (Cd.at8 s k / 16) ∧ 1 ≤ hvK s (k + 1) (Cd.at8 s k % 16) := by
  have h1 := (hvK_b s k (Cd.at8 s k / 16)).1
  have h2 := (hvK_b s k (Cd.at8 s k % 16)).1
  rw [hvK]
  unfold upd
  refine ⟨?_, ?_⟩
  · split
    · split <;> omega
    · rw [if_pos rfl]; omega
  · rw [if_pos rfl]
    split <;> omega
theorem hv_here {s : ByteArray} {k : Nat} (h : k < s.size) : 1 ≤ hv s (Cd.at8 s k / 16) ∧ 1 ≤ hv s (Cd.at8 s k % 16) := by
  have h1 := hvK_here s k
  have h2 := hvK_le s (k + 1) (Cd.at8 s k / 16) (s.size - (k + 1))
  have h3 := hvK_le s (k + 1) (Cd.at8 s k % 16) (s.size - (k + 1))
  rw [show k + 1 + (s.size - (k + 1)) = s.size by omega] at h2 h3
  unfold hv
  omega
theorem bld_fine {s : ByteArray} (h0 : s.size ≠ 0) (h : s.size ≤ 1024) : (Cd.bld (hv s)).2 = 0 := by
  unfold Cd.bld
  rw [if_neg (fun h9 => h9 (hv_in s h))]
  have h1 := (hv_here (s := s) (k := 0) (by omega)).1
  have h2 := ((Cd.lt2_min (hv s) 16).1 (Cd.at8 s 0 / 16) (by have := Cd.at8_lt s 0; omega) (by omega)).1
  rw [if_neg h2]
  split <;> rfl
theorem wrt_fine {s : ByteArray} (h0 : s.size ≠ 0) (h : s.size ≤ 1024) : (Cd.wrt (Cd.bld (hv s)).1 s).2 = 0 := by
  obtain ⟨hc, hz, _⟩ := Cd.bld_best (hv s) (bld_fine h0 h)
  have hn : ∀ i, i < 16 → ¬ (0 < hv s i ∧ (Cd.bld (hv s)).1 i = 0) := by
    cases hq : Cd.cst (Cd.bld (hv s)).1 (hv s) 16 with
    | none => rw [cost_none hc (hv_in s h) hq] at hz; exact absurd hz (by decide)
    | some n => exact (Cd.cst_inv 16 n hq).1
  obtain ⟨bs, e⟩ := Cd.wrK_all (f := (Cd.bld (hv s)).1) (s := s) s.size (fun i hi => by
    have h1 := hv_here hi
    have h2 := Cd.at8_lt s i
    exact ⟨fun h9 => hn _ (by omega) ⟨by omega, h9⟩, fun h9 => hn _ (by omega) ⟨by omega, h9⟩⟩)
  rw [Cd.wrt, if_neg (fun h9 => h9 hc), if_neg (by omega), e]
theorem at8_jn (f : Nat → Int) (h : Cd.InR f 15 16) (j : Nat) (hj : j < 8) : (Cd.at8 ⟨(jn f).toArray⟩ j : Int) = f (2 * j) * 16 + f (2 * j + 1) := by
  have h1 := h (2 * j) (by omega)
  have h2 := h (2 * j + 1) (by omega)
  unfold Cd.at8 jn jnK
  simp only [List.getElem?_map, List.getElem?_range hj, Option.map_some, Option.getD_some]
  rw [UInt8.toNat_ofNat']
  omega
theorem pt_jn (f : Nat → Int) (h : Cd.InR f 15 16) : ∀ i, i < 16 → pt ⟨(jn f).toArray⟩ i = f i := by
  intro i hi
  have h1 := at8_jn f h (i / 2) (by omega)
  have h2 := h (2 * (i / 2)) (by omega)
  have h3 := h (2 * (i / 2) + 1) (by omega)
  unfold pt ptK
  rw [if_pos (by omega)]
  split
  · rename_i h4
    rw [show 2 * (i / 2) = i by omega] at *
    omega
  · rename_i h4
    rw [show 2 * (i / 2) + 1 = i by omega] at *
    omega
theorem ext_front (a b : ByteArray) : (a ++ b).extract 0 a.size = a := by
  apply Nm.ba_ext
  simp [ByteArray.data_extract, ByteArray.data_append, Array.toList_extract]
  rw [List.take_of_length_le (by rw [Cd.size_list]; exact Nat.le_refl _)]
theorem ext_back (a b : ByteArray) : (a ++ b).extract a.size (a ++ b).size = b := by
  apply Nm.ba_ext
  simp [ByteArray.data_extract, ByteArray.data_append, Array.toList_extract]
  rw [List.drop_of_length_le (by rw [Cd.size_list]; exact Nat.le_refl _), List.take_nil, List.nil_append, List.take_of_length_le (by rw [Cd.size_list]; exact Nat.le_refl _)]
theorem jn_size (f : Nat → Int) : (⟨(jn f).toArray⟩ : ByteArray).size = 8 := by
  show (jn _).toArray.size = _
  simp [jn, jnK_len]
theorem dec_enc {s : ByteArray} (h0 : s.size ≠ 0) (h : s.size ≤ 1024) : dec (enc s) = (s, 0) := by
  have hL := bld_in (hv_in s h)
  have hw := wrt_fine h0 h
  unfold enc
  generalize (Cd.bld (hv s)).1 = L at *
  rw [ByteArray.append_assoc]
  have e8 := jn_size L
  have x1 := ext_front ⟨(jn L).toArray⟩ ((⟨(Nm.nb s.size).toArray⟩ : ByteArray) ++ (Cd.wrt L s).1)
  have x2 := ext_back ⟨(jn L).toArray⟩ ((⟨(Nm.nb s.size).toArray⟩ : ByteArray) ++ (Cd.wrt L s).1)
  have x3 := ext_back ⟨(Nm.nb s.size).toArray⟩ (Cd.wrt L s).1
  rw [e8] at x1 x2
  have hf : Nm.from_ ((⟨(Nm.nb s.size).toArray⟩ : ByteArray) ++ (Cd.wrt L s).1).data.toList = some (s.size, (Nm.nb s.size).length) := by
    rw [Nm.appd]
    exact Nm.from_nb s.size _ (by omega)
  have e9 : (⟨(Nm.nb s.size).toArray⟩ : ByteArray).size = (Nm.nb s.size).length := by
    show (Nm.nb s.size).toArray.size = _
    simp
  rw [e9] at x3
  rw [dec_some (n := s.size) (k := (Nm.nb s.size).length) (by rw [ByteArray.size_append, e8]; omega) (by rw [x2]; exact hf), x1, x2, x3, Cd.rd_same (pt_jn L hL), Cd.rd_wrt hw, if_pos rfl]

theorem mnK_of (xs : List ByteArray) : ∀ n, ∃ i, i < n + 1 ∧ mnK xs n = xa xs i := by
  intro n
  induction n with
  | zero => exact ⟨0, by omega, rfl⟩
  | succ n ih =>
    rw [mnK]
    split
    · exact ⟨n, by omega, rfl⟩
    · obtain ⟨i, h1, h2⟩ := ih
      exact ⟨i, by omega, h2⟩
theorem mnK_first (xs : List ByteArray) : ∀ n, (mnK xs n).size ≤ (xa xs 0).size := by
  intro n
  induction n with
  | zero => exact Nat.le_refl _
  | succ n ih =>
    rw [mnK]
    split <;> omega
theorem mnK_mem (xs : List ByteArray) (h : xs ≠ []) : ∀ n, n ≤ xs.length → mnK xs n ∈ xs := by
  intro n
  induction n with
  | zero =>
    intro _
    cases xs with
    | nil => exact absurd rfl h
    | cons x xs => exact List.mem_cons_self
  | succ n ih =>
    intro hn
    rw [mnK]
    split
    · have e : xa xs n = xs[n]'(by omega) := by rw [xa, List.getD_eq_getElem?_getD, List.getElem?_eq_getElem (by omega)]; rfl
      rw [e]
      exact List.getElem_mem _
    · exact ih (by omega)
theorem at_one (x : UInt8) (b : ByteArray) : Cd.at8 ((⟨#[x]⟩ : ByteArray) ++ b) 0 = x.toNat := by
  unfold Cd.at8
  rw [Nm.appd]
  rfl
theorem ext_one (x : UInt8) (b : ByteArray) : ((⟨#[x]⟩ : ByteArray) ++ b).extract 1 ((⟨#[x]⟩ : ByteArray) ++ b).size = b := ext_back ⟨#[x]⟩ b
theorem one_size (x : UInt8) (b : ByteArray) : ((⟨#[x]⟩ : ByteArray) ++ b).size = b.size + 1 := by
  rw [ByteArray.size_append]
  show 1 + _ = _
  omega
theorem ply_tk {dict text : ByteArray} (hd : dict.size ≤ 256) (ht : text.size ≤ 512) : ply dict (tk dict text) = (text, 0) := by
  obtain ⟨h1, h2⟩ := parse_plays dict text hd ht
  unfold ply
  rw [tk, read_write h1]
  simp only [h2]
/-- What Pack makes, Unpack undoes, and it is no more than one byte longer than the text. -/
theorem unp_pak {dict text : ByteArray} (hd : dict.size ≤ 256) (ht : text.size ≤ 512) : (pak dict text).2 = 0 ∧ unp dict (pak dict text).1 = (text, 0) ∧ (pak dict text).1.size ≤ text.size + 1 := by
  have e : pak dict text = (mnK (bks text (tk dict text)) (bks text (tk dict text)).length, 0) := if_neg (by omega)
  rw [e]
  have hp := ply_tk hd ht
  have hz := tk_size hd ht
  generalize tk dict text = s at *
  have hne : bks text s ≠ [] := by unfold bks; split <;> simp
  have hx : xa (bks text s) 0 = (⟨#[0]⟩ : ByteArray) ++ text := by unfold bks; split <;> rfl
  have hf := mnK_first (bks text s) (bks text s).length
  rw [hx, one_size] at hf
  refine ⟨rfl, ?_, hf⟩
  have hm := mnK_mem (bks text s) hne _ (Nat.le_refl _)
  simp only
  generalize mnK (bks text s) (bks text s).length = b at *
  have u0 : unp dict ((⟨#[0]⟩ : ByteArray) ++ text) = (text, 0) := by
    rw [unp, if_neg (by omega), if_neg (by rw [one_size]; omega), at_one, if_pos (by decide), ext_one, whl, if_neg (by omega)]
  have u1 : unp dict ((⟨#[1]⟩ : ByteArray) ++ s) = (text, 0) := by
    rw [unp, if_neg (by omega), if_neg (by rw [one_size]; omega), at_one, if_neg (by decide), if_pos (by decide), ext_one, hp]
  have u2 : s.size ≠ 0 → unp dict ((⟨#[2]⟩ : ByteArray) ++ enc s) = (text, 0) := by
    intro h0
    rw [unp, if_neg (by omega), if_neg (by rw [one_size]; omega), at_one, if_neg (by decide), if_neg (by decide), if_pos (by decide), ext_one, dec_enc h0 hz, if_pos rfl, hp]
  unfold bks at hm
  by_cases h0 : s.size = 0
  · rw [if_pos h0] at hm
    simp only [List.mem_cons, List.not_mem_nil, or_false] at hm
    rcases hm with rfl | rfl
    · exact u0
    · exact u1
  · rw [if_neg h0] at hm
    simp only [List.mem_cons, List.not_mem_nil, or_false] at hm
    rcases hm with rfl | rfl | rfl
    · exact u0
    · exact u1
    · exact u2 h0
end Bk
end Go.Proofs.Ytbjbjbpgmojcbaa
