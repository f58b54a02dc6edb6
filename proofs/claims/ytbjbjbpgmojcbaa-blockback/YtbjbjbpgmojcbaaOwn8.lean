/- Bytes that the call itself made ('[]byte'): what append, '[]byte(s)' and 'string(b)' do to them, whatever mark their row bears. No condition beside those that each fact bears. -/
import Derived.Test.YtbjbjbpgmojcbaaNumsPut
import Derived.Lib.AppendStr
namespace Go.Proofs.Ytbjbjbpgmojcbaa
open Go.RowKit

/-- The slice value v owns the bytes l, in a row from block B on; its spare room may be written. -/
def Own8 (w : World) (B : Nat) (v : Value) (l : List UInt8) : Prop :=
  (v = .slice none 0 0 ∧ l = []) ∨ ∃ g cap, v = .slice (some ⟨g, 0, none⟩) l.length cap ∧ B ≤ g ∧ g < w.heap.size ∧ l.length ≤ cap ∧ cap ≤ maxLen ∧
    (∀ j b, l[j]? = some b → w.cell? ⟨g, j, none⟩ = some (.int .u8 (b.toNat : Int))) ∧
    (∀ j, l.length ≤ j → j < cap → (w.cell? ⟨g, j, none⟩).isSome = true ∧ w.frozen? ⟨g, j, none⟩ = false)

theorem Own8.nil (w : World) (B : Nat) : Own8 w B (.slice none 0 0) [] := .inl ⟨rfl, rfl⟩

theorem addr_add (g j : Nat) : (⟨g, 0, none⟩ : Addr).add j = ⟨g, j, none⟩ := by unfold Addr.add; split <;> simp_all

/-- What blocks from B on hold stays owned where they stay as they are. -/
theorem Own8.kept {w w' : World} {B : Nat} {v : Value} {l : List UInt8} (h : Own8 w B v l) (hs : w.heap.size ≤ w'.heap.size) (hk : ∀ g, v.ownBlock = some g → w'.heap[g]? = w.heap[g]?) : Own8 w' B v l := by
  rcases h with h | ⟨g, cap, rfl, h1, h2, h3, h4, h5, h6⟩
  · exact .inl h
  · have e := hk g rfl
    refine .inr ⟨g, cap, rfl, h1, by omega, h3, h4, ?_, ?_⟩
    · intro j b hj
      rw [World.cell?_of_block (w := w) (by exact e)]
      exact h5 j b hj
    · intro j ha hb
      rw [World.cell?_of_block (w := w) (by exact e), World.frozen?_of_block (w := w) (by exact e)]
      exact h6 j ha hb

theorem Own8.lt {w : World} {B : Nat} {v : Value} {l : List UInt8} (h : Own8 w B v l) : ∀ g, v.ownBlock = some g → B ≤ g ∧ g < w.heap.size := by
  intro g hg
  rcases h with ⟨rfl, _⟩ | ⟨g', cap, rfl, h1, h2, _⟩
  · simp [Value.ownBlock] at hg
  · simp [Value.ownBlock] at hg
    subst hg
    exact ⟨h1, h2⟩

theorem Own8.below {w w' : World} {B : Nat} {v : Value} {l : List UInt8} (h : Own8 w B v l) (hb : Below w.heap.size w w') : Own8 w' B v l :=
  h.kept hb.size (fun g hg => hb.block g (h.lt g hg).2)

theorem Own8.alloc {w : World} {B : Nat} {v : Value} {l : List UInt8} (h : Own8 w B v l) (o : Obj) : Own8 (w.alloc o) B v l :=
  h.below ((Below.refl _ _).alloc (Nat.le_refl _) o)

theorem Own8.drew {w : World} {B : Nat} {v : Value} {l : List UInt8} (h : Own8 w B v l) : Own8 w.drew B v l := h.below (Below.refl _ _).drew

theorem Own8.of_row {w : World} {B B' n : Nat} {v : Value} {l : List UInt8} (h : w.ownsRow B' 5 1 v n (bcs l)) (hB : B ≤ B') : Own8 w B v l := by
  have hlen := h.1
  rw [bcs_length, Nat.mul_one] at hlen
  rcases h.2 with ⟨rfl, h0⟩ | ⟨g, cap, cur, rfl, hb, hg, hnc, hcm, hcs, htk⟩
  · exact .inl ⟨rfl, List.eq_nil_of_length_eq_zero (by omega)⟩
  · subst hlen
    rw [Nat.mul_one] at htk hcs
    refine .inr ⟨g, cap, rfl, by omega, (Array.getElem?_eq_some_iff.1 hg).1, hnc, hcm, ?_, ?_⟩
    · intro j b hj
      have hj2 : j < l.length := (List.getElem?_eq_some_iff.1 hj).1
      rw [cell_of_row w g j cur _ _ hg]
      have : (cur.toList.take l.length)[j]? = some (.int .u8 (b.toNat : Int)) := by
        rw [htk]
        simp [bcs, hj]
      rw [List.getElem?_take, if_pos hj2] at this
      simpa using this
    · intro j ha hb2
      rw [cell_of_row w g j cur _ _ hg]
      refine ⟨?_, ?_⟩
      · rw [Array.getElem?_eq_getElem (by omega)]
        rfl
      · simp [World.frozen?, hg]

/-- '[]byte(s)'. -/
theorem Own8.of_string (w : World) (s : ByteArray) (hs : s.size ≤ 140737488355328) (B : Nat) (hB : B ≤ w.heap.size) :
    ∃ v w', (convert 9 69 (.string s)).run Try.prog w = .ok v w' ∧ Own8 w' B v s.data.toList ∧ Below w.heap.size w w' ∧ v ≠ .slice none 0 0 ∧ (∀ g, v.ownBlock = some g → w.heap.size ≤ g) := by
  refine ⟨_, _, run_bytes_of_string w _ _ _ s Try.underlying9 Try.underlying69 Try.underlying5, ?_, ?_, by simp, fun g hg => by simp [Value.ownBlock] at hg; omega⟩
  · have hge := grownCap_ge w s.size 0 5
    have hcm : grownCap w s.size 0 5 ≤ maxLen := grownCap_le_maxLen w s.size 0 _ (ml_le hs)
    have hrs : (bytesRow s (grownCap w s.size 0 5)).size = grownCap w s.size 0 5 := by
      simp [bytesRow]
      have : s.data.size = s.size := rfl
      omega
    have hlen : s.data.toList.length = s.size := by simp
    refine .inr ⟨w.heap.size, grownCap w s.size 0 5, by rw [hlen], hB, by simp, by omega, hcm, ?_, ?_⟩
    · intro j b hj
      have hj2 : j < s.data.toList.length := (List.getElem?_eq_some_iff.1 hj).1
      show ((w.drew).alloc _).cell? ⟨w.drew.heap.size, j, none⟩ = _
      rw [World.cell?_alloc_mark]
      have hjs : j < s.data.size := by simpa using hj2
      rw [bytesRow_at s _ j hjs]
      have : s.data[j] = b := by
        rw [List.getElem?_eq_getElem hj2] at hj
        simpa using hj
      rw [this]
    · intro j ha hb
      constructor
      · show (((w.drew).alloc _).cell? ⟨w.drew.heap.size, j, none⟩).isSome = true
        rw [World.cell?_alloc_mark, Array.getElem?_eq_getElem (by omega)]
        rfl
      · show ((w.drew).alloc _).frozen? ⟨w.drew.heap.size, j, none⟩ = false
        rw [World.frozen?_alloc_mark]
        simp
        omega
  · exact ((Below.refl _ w).drew).alloc (Nat.le_refl _) _

/-- What an append leaves: v' owns l'; below B all is as it was, and so is each block but v's own; the new row is v's own, or a new one. -/
structure App (w w' : World) (B : Nat) (v v' : Value) (l' : List UInt8) : Prop where
  own : Own8 w' B v' l'
  below : Below B w w'
  block : ∀ g, g < w.heap.size → some g ≠ v.ownBlock → w'.heap[g]? = w.heap[g]?
  at_ : ∀ g, v'.ownBlock = some g → v.ownBlock = some g ∨ w.heap.size ≤ g
  some_ : v ≠ .slice none 0 0 → v' ≠ .slice none 0 0

theorem App.cell {w w' : World} {B : Nat} {v v' : Value} {l' : List UInt8} (h : App w w' B v v' l') {g o : Nat} (hg : g < w.heap.size) (hne : some g ≠ v.ownBlock) : w'.cell? ⟨g, o, none⟩ = w.cell? ⟨g, o, none⟩ :=
  World.cell?_of_block (w := w) (h.block g hg hne)

/-- A value that owns bytes and is not nil, written out. -/
theorem Own8.form {w : World} {B : Nat} {v : Value} {l : List UInt8} (h : Own8 w B v l) (hv : v ≠ .slice none 0 0) :
    ∃ g cap, v = .slice (some ⟨g, 0, none⟩) l.length cap ∧ B ≤ g ∧ g < w.heap.size ∧ l.length ≤ cap ∧ cap ≤ maxLen ∧ (∀ j b, l[j]? = some b → w.cell? ⟨g, j, none⟩ = some (.int .u8 (b.toNat : Int))) := by
  rcases h with ⟨h, _⟩ | ⟨g, cap, h0, h1, h2, h3, h4, h5, _⟩
  · exact absurd h hv
  · exact ⟨g, cap, h0, h1, h2, h3, h4, h5⟩

theorem row_ge {w : World} {base n : Nat} {e : TypeId} {v : Value} {xs : List Value} (h : w.ownsRow base e 1 v n xs) : ∀ g, v.ownBlock = some g → base ≤ g := fun g hg => (h.lt g hg).1

/-- 'append(b, x)': the run. -/
theorem run_append8 {w : World} {B : Nat} {v : Value} {l : List UInt8} (h : Own8 w B v l) (ty : TypeId) (b : UInt8) (ad : Addr) (c : Nat) (hx : w.cell? ad = some (.int .u8 (b.toNat : Int))) (hlen : l.length + 1 ≤ 140737488355328) (hB : B ≤ w.heap.size) (hz : ad.spot = none) :
    ∃ v' w', (Builtin.append_ #[69, 69] ty #[v, .slice (some ad) 1 c]).run Try.prog w = .ok v' w' ∧ App w w' B v v' (l ++ [b]) := by
  obtain ⟨i0, hi, hz0, hz1, hz2⟩ := info_parts info_u8
  have hnews : ∀ j u, [Value.int .u8 (b.toNat : Int)][j]? = some u → w.cell? (ad.add j) = some u := by
    intro j u hj
    cases j with
    | zero =>
      simp at hj
      subst hj
      have : ad.add 0 = ad := by obtain ⟨a1, a2, a3⟩ := ad; simp at hz; subst hz; unfold Addr.add; split <;> simp_all
      rw [this]
      exact hx
    | succ j => simp at hj
  rcases h with ⟨rfl, rfl⟩ | ⟨g, cap, rfl, h1, h2, h3, h4, h5, h6⟩
  · obtain ⟨v', w', hr, ho, hg, _⟩ := run_append_own (P := Try.prog) w w.heap.size 69 ty 5 i0 (.int .u8 0) 1 1 Try.underlying69 hi hz0 hz1 hz2 rfl (by decide) _ 0 [] (World.ownsRow_nil w w.heap.size 5 1) ad 1 c [.int .u8 (b.toNat : Int)] rfl hnews (one_u8 _) (ml_le (by omega)) (by omega) (Nat.le_refl _)
    exact ⟨v', w', hr, Own8.of_row (l := [b]) (by simpa [bcs] using ho) hB, (Below.refl _ _).grown hg hB (by simp [Value.ownBlock]), fun k hk hne => hg.block k hk hne, fun g hg2 => Or.inr (row_ge ho g hg2), fun h => absurd rfl h⟩
  · by_cases hroom : l.length + 1 ≤ cap
    · have hr := run_append_room_cells (P := Try.prog) w 69 ty 5 i0 Try.underlying69 hi g 0 l.length cap ad 1 c [.int .u8 (b.toNat : Int)] (by rw [hz1]; rfl) hnews (one_u8 _) hroom
        (fun j hj => by have : j = 0 := by simpa using hj
                        subst this; rw [hz1]; simpa using (h6 l.length (Nat.le_refl _) (by omega)).1)
        (fun j hj => by have : j = 0 := by simpa using hj
                        subst this; rw [hz1]; simpa using (h6 l.length (Nat.le_refl _) (by omega)).2)
      rw [hz1] at hr
      simp only [Nat.zero_add, Nat.mul_one] at hr
      refine ⟨_, _, hr, .inr ⟨g, cap, by simp, h1, ?_, by simp; omega, h4, ?_, ?_⟩, ?_, ?_, fun g' hg' => Or.inl hg', by simp⟩
      · simp [World.setCells, World.setCell]; exact h2
      · intro j u hj
        by_cases hjl : j < l.length
        · rw [List.getElem?_append_left hjl] at hj
          rw [World.cell?_setCells_out _ _ _ _ _ (by intro _ _; left; exact hjl)]
          exact h5 j u hj
        · have hjl2 : j < l.length + 1 := by
            have := (List.getElem?_eq_some_iff.1 hj).1
            simpa using this
          obtain rfl : j = l.length := by omega
          rw [List.getElem?_append_right (Nat.le_refl _), Nat.sub_self] at hj
          simp at hj
          subst hj
          have := World.cell?_setCells_in g [.int .u8 (b.toNat : Int)] l.length w (fun j hj => by
            have : j = 0 := by simpa using hj
            subst this
            exact (h6 l.length (Nat.le_refl _) (by omega)).1) 0 (by simp)
          simpa using this
      · intro j ha hb
        simp only [List.length_append, List.length_singleton] at ha
        rw [World.cell?_setCells_out _ _ _ _ _ (by intro _ _; right; simp; omega), World.frozen?_setCells]
        exact h6 j (by omega) hb
      · simp only [World.setCells]
        exact (Below.refl _ _).setCell (p := ⟨g, l.length, none⟩) h1 _
      · intro k hk hne
        simp only [World.setCells]
        exact Below.heap_setCell _ _ _ _ (fun e => hne (by simp [Value.ownBlock, e]))
    · obtain ⟨v', w', hr, ho, hg⟩ := run_append_arg_grows (P := Try.prog) w 69 ty 5 i0 (.int .u8 0) 1 1 Try.underlying69 hi hz0 hz1 hz2 rfl (by decide) ⟨g, 0, none⟩ l.length cap (bcs l) (by rw [bcs_length, Nat.mul_one])
        (fun j u hj => by
          simp only [bcs, List.getElem?_map, Option.map_eq_some_iff] at hj
          obtain ⟨b', hb', rfl⟩ := hj
          rw [addr_add]
          exact h5 j b' hb') ad 1 c [.int .u8 (b.toNat : Int)] rfl hnews (by omega) (ml_le (by omega)) (by omega)
      refine ⟨v', w', hr, Own8.of_row (l := l ++ [b]) (n := l.length + 1) (by rw [bcs_append]; exact ho) hB, (Below.refl _ _).grown hg hB (by simp), fun k hk _ => hg.block k hk (by simp), fun g hg2 => Or.inr (row_ge ho g hg2), fun _ e => ?_⟩
      subst e
      rcases ho.2 with ⟨_, h0⟩ | ⟨g', cap', cur', h0, _⟩
      · omega
      · simp at h0

theorem strCells_bcs (s : ByteArray) : Lib.strCells s = bcs s.data.toList := rfl

/-- 'append(b, s...)', s a string: the run. -/
theorem run_append8s {w : World} {B : Nat} {v : Value} {l : List UInt8} (h : Own8 w B v l) (ty : TypeId) (s : ByteArray) (hlen : l.length + s.size ≤ 140737488355328) (hB : B ≤ w.heap.size) :
    ∃ v' w', (Builtin.append_ #[69, 9] ty #[v, .string s]).run Try.prog w = .ok v' w' ∧ App w w' B v v' (l ++ s.data.toList) := by
  obtain ⟨i0, hi, hz0, hz1, hz2⟩ := info_parts info_u8
  have hsl : s.data.toList.length = s.size := by simp
  rcases h with ⟨rfl, rfl⟩ | ⟨g, cap, rfl, h1, h2, h3, h4, h5, h6⟩
  · obtain ⟨v', w', hr, ho, hg, _⟩ := Lib.run_append_own_string (P := Try.prog) w w.heap.size 69 9 ty 5 i0 Try.underlying69 Try.underlying9 hi hz0 hz1 hz2 _ 0 [] (World.ownsRow_nil w w.heap.size 5 1) s (ml_le (by simpa using hlen)) (by simpa using hlen) (Nat.le_refl _)
    exact ⟨v', w', hr, Own8.of_row (l := s.data.toList) (by rw [← strCells_bcs]; exact ho) hB, (Below.refl _ _).grown hg hB (by simp [Value.ownBlock]), fun k hk hne => hg.block k hk hne, fun g hg2 => Or.inr (row_ge ho g hg2), fun h => absurd rfl h⟩
  · by_cases hroom : l.length + s.size ≤ cap
    · have hf := Lib.run_firstCells_string (P := Try.prog) w 1 s
      have hst := run_storeCells_cells (P := Try.prog) g l.length (Lib.strCells s) 0 w
        (fun j hj => by rw [Lib.strCells_length] at hj; exact (h6 _ (by omega) (by omega)).1)
        (fun j hj => by rw [Lib.strCells_length] at hj; exact (h6 _ (by omega) (by omega)).2) (Lib.strCells_oneCell s)
      simp only [Nat.add_zero] at hst
      have hr : (Builtin.append_ #[69, 9] ty #[.slice (some ⟨g, 0, none⟩) l.length cap, .string s]).run Try.prog w = .ok (.slice (some ⟨g, 0, none⟩) (l.length + s.size) cap) (w.setCells g l.length (Lib.strCells s)) := by
        simp [Builtin.append_, run_underlying Try.underlying69, run_underlying Try.underlying9, sizeOf, typeInfo, hi, hz1, Builtin.lenOf, hroom, hf, Addr.add_lit, hst]
      have hsize : ∀ (vs : List Value) (o : Nat) (w : World), (w.setCells g o vs).heap.size = w.heap.size := by
        intro vs
        induction vs with
        | nil => intro o w; rfl
        | cons a vs ih => intro o w; rw [World.setCells, ih]; simp [World.setCell]
      have hblk : ∀ (vs : List Value) (o : Nat) (w : World) (k : Nat), k ≠ g → (w.setCells g o vs).heap[k]? = w.heap[k]? := by
        intro vs
        induction vs with
        | nil => intro o w k _; rfl
        | cons a vs ih => intro o w k hk; rw [World.setCells, ih _ _ _ hk]; exact Below.heap_setCell _ _ _ _ hk
      have hbel : ∀ (vs : List Value) (o : Nat) (a w : World), Below B a w → Below B a (w.setCells g o vs) := by
        intro vs
        induction vs with
        | nil => intro o a w h; exact h
        | cons x vs ih => intro o a w h; rw [World.setCells]; exact ih _ _ _ (h.setCell (p := ⟨g, o, none⟩) h1 _)
      refine ⟨_, _, hr, .inr ⟨g, cap, by simp, h1, ?_, by simp; omega, h4, ?_, ?_⟩, hbel _ _ _ _ (Below.refl _ _), ?_, fun g' hg' => Or.inl hg', by simp⟩
      · rw [hsize]; exact h2
      · intro j u hj
        by_cases hjl : j < l.length
        · rw [List.getElem?_append_left hjl] at hj
          rw [World.cell?_setCells_out _ _ _ _ _ (by intro _ _; left; exact hjl)]
          exact h5 j u hj
        · rw [List.getElem?_append_right (by omega)] at hj
          have hj2 : j - l.length < (Lib.strCells s).length := by
            rw [Lib.strCells_length]
            have := (List.getElem?_eq_some_iff.1 hj).1
            omega
          have hin := World.cell?_setCells_in g (Lib.strCells s) l.length w (fun j hj => by
            rw [Lib.strCells_length] at hj
            exact (h6 _ (by omega) (by omega)).1) (j - l.length) hj2
          rw [show l.length + (j - l.length) = j by omega] at hin
          rw [hin]
          have : (Lib.strCells s)[j - l.length]? = some (.int .u8 (u.toNat : Int)) := by simp [Lib.strCells, hj]
          rw [List.getElem?_eq_getElem hj2] at this
          exact this
      · intro j ha hb
        simp only [List.length_append, hsl] at ha
        rw [World.cell?_setCells_out _ _ _ _ _ (by intro _ _; right; rw [Lib.strCells_length]; omega), World.frozen?_setCells]
        exact h6 j (by omega) hb
      · intro k hk hne
        exact hblk _ _ _ _ (fun e => hne (by simp [Value.ownBlock, e]))
    · have hr := Lib.run_append_grow_string (P := Try.prog) w 69 9 ty 5 i0 (.int .u8 0) Try.underlying69 Try.underlying9 hi hz0 ⟨g, 0, none⟩ l.length cap (bcs l) (by rw [bcs_length, hz1, Nat.mul_one])
        (fun j u hj => by
          simp only [bcs, List.getElem?_map, Option.map_eq_some_iff] at hj
          obtain ⟨b', hb', rfl⟩ := hj
          rw [addr_add]
          exact h5 j b' hb') s (by omega) (by omega) (by rw [hz2]; exact growslice_fits (by omega) (by omega))
      have hge := grownCap_ge w (l.length + s.size) cap 5
      have hcm : grownCap w (l.length + s.size) cap 5 ≤ maxLen := grownCap_le_maxLen w (l.length + s.size) cap _ (ml_le hlen)
      refine ⟨_, _, hr, Own8.of_row (B' := w.heap.size) (n := l.length + s.size) ⟨?_, .inr ⟨w.heap.size, _, _, rfl, Nat.le_refl _, heap_alloc_new w.drew _, hge, hcm, ?_, ?_⟩⟩ hB, ?_, ?_, fun g' hg' => by simp [Value.ownBlock] at hg'; omega, by simp⟩
      · rw [bcs_length]; simp
      · have hz1' : (Value.int IntKind.u8 0).cells.size = 1 := rfl
        simp only [Array.size_append, List.size_toArray, size_zeroCells, hz1', bcs_length, Lib.strCells_length]
        omega
      · simp only [Array.toList_append, List.append_assoc]
        rw [← List.append_assoc, strCells_bcs]
        have : (l.length + s.size) * 1 = (bcs l ++ bcs s.data.toList).length := by rw [List.length_append, bcs_length, bcs_length, hsl]; omega
        rw [this, bcs_append]
        exact List.take_left
      · exact ((Below.refl B w).drew).alloc (by exact hB) _
      · intro k hk _
        exact Below.heap_alloc w.drew _ k hk

/-- 'string(b[d:])'. -/
theorem Own8.conv {w : World} {l : List UInt8} {g : Nat} (h : ∀ j b, l[j]? = some b → w.cell? ⟨g, j, none⟩ = some (.int .u8 (b.toNat : Int))) (d c : Nat) :
    (convert 69 9 (.slice (some ⟨g, d, none⟩) (l.length - d) c)).run Try.prog w = .ok (.string ⟨(l.drop d).toArray⟩) w := by
  have e : l.length - d = (l.drop d).length := by simp
  rw [e]
  refine run_convert_bytes_back w _ _ _ ⟨g, d, none⟩ c (l.drop d) Try.underlying69 Try.underlying5 Try.underlying9 (fun j hj => ?_)
  have ha : (⟨g, d, none⟩ : Addr).add j = ⟨g, d + j, none⟩ := by unfold Addr.add; split <;> simp_all
  rw [ha]
  refine h (d + j) _ ?_
  rw [← List.getElem?_drop, List.getElem?_eq_getElem hj]

section
variable {ops : Array Oper} {rest : List Oper} {o : Oper} {a : Act} {Q : Exit → Act → World → Prop}

/-- 'append(b, x)', at a list of operations. -/
theorem wp_append8 (w : World) (hgd : o.guard = none) (s x : Operand) (ho : o.op = .call { callee := .builtin .append, args := #[s, x], argTypes := #[69, 69] })
    (B : Nat) (v : Value) (l : List UInt8) (hs : a.eval s = v) (h : Own8 w B v l) (b : UInt8) (g c : Nat) (hx : a.eval x = .slice (some ⟨g, 0, none⟩) 1 c) (hc : w.cell? ⟨g, 0, none⟩ = some (.int .u8 (b.toNat : Int)))
    (hlen : l.length + 1 ≤ 140737488355328) (hB : B ≤ w.heap.size)
    (hK : ∀ v' w', App w w' B v v' (l ++ [b]) → wpList Try.prog ops Q rest (a.put o.dst v') w') : wpList Try.prog ops Q (o :: rest) a w := by
  refine wpList_plain hgd fun K hK' => ?_
  obtain ⟨v', w', hr, r1⟩ := run_append8 h o.type b ⟨g, 0, none⟩ c hc hlen hB rfl
  unfold Oper.wp execOp
  simp only [ho, resolve, invoke, builtin, Sem.run_bind, Sem.run_pure, Result.andThen_ok, List.map_toArray, List.map_cons, List.map_nil, hs, hx, hr]
  exact hK' _ _ (hK v' w' r1)

/-- 'append(b, s...)', at a list of operations. -/
theorem wp_append8s (w : World) (hgd : o.guard = none) (sl x : Operand) (ho : o.op = .call { callee := .builtin .append, args := #[sl, x], argTypes := #[69, 9] })
    (B : Nat) (v : Value) (l : List UInt8) (hs : a.eval sl = v) (h : Own8 w B v l) (s : ByteArray) (hx : a.eval x = .string s)
    (hlen : l.length + s.size ≤ 140737488355328) (hB : B ≤ w.heap.size)
    (hK : ∀ v' w', App w w' B v v' (l ++ s.data.toList) → wpList Try.prog ops Q rest (a.put o.dst v') w') : wpList Try.prog ops Q (o :: rest) a w := by
  refine wpList_plain hgd fun K hK' => ?_
  obtain ⟨v', w', hr, r1⟩ := run_append8s h o.type s hlen hB
  unfold Oper.wp execOp
  simp only [ho, resolve, invoke, builtin, Sem.run_bind, Sem.run_pure, Result.andThen_ok, List.map_toArray, List.map_cons, List.map_nil, hs, hx, hr]
  exact hK' _ _ (hK v' w' r1)
end
end Go.Proofs.Ytbjbjbpgmojcbaa
