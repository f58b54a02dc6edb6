/- A part of the proof: what it leans on. -/
import Derived.Lib.AppendStr
import Derived.BigQuiet
import Derived.Deep.QuietTactic
import Derived.Test.YtbjbjbpgmojcbabGreatLrBook01
namespace Go.Proofs.YtbjbjbpgmojcbabGreat
open Go.RowKit
def Own8 (w : World) (B : Nat) (v : Value) (l : List UInt8) : Prop :=
  (v = .slice none 0 0 ∧ l = []) ∨ ∃ g cap, v = .slice (some ⟨g, 0, none⟩) l.length cap ∧ B ≤ g ∧ g < w.heap.size ∧ l.length ≤ cap ∧ cap ≤ maxLen ∧
    (∀ j b, l[j]? = some b → w.cell? ⟨g, j, none⟩ = some (.int .u8 (b.toNat : Int))) ∧
    (∀ j, l.length ≤ j → j < cap → (w.cell? ⟨g, j, none⟩).isSome = true ∧ w.frozen? ⟨g, j, none⟩ = false)
theorem Own8.nil (w : World) (B : Nat) : Own8 w B (.slice none 0 0) [] := .inl ⟨rfl, rfl⟩
theorem addr_add (g j : Nat) : (⟨g, 0, none⟩ : Addr).add j = ⟨g, j, none⟩ := by unfold Addr.add; split <;> simp_all
theorem Own8.kept {w w' : World} {B : Nat} {v : Value} {l : List UInt8} (h : Own8 w B v l) (hs : w.heap.size ≤ w'.heap.size) (hk : ∀ g, v.ownBlock = some g → w'.heap[g]? = w.heap[g]?) : Own8 w' B v l := by
  rcases h with h | ⟨g, cap, rfl, h1, h2, h3, h4, h5, h6⟩
  · exact .inl h
  · have e := hk g rfl
    refine .inr ⟨g, cap, rfl, h1, by omega, h3, h4, ?_, ?_⟩
    · intro j b hj
      rw [World.cell?_of_block (w := w) (by exact e)]
      exact h5 j b hj
    · intro j ha hb
      rw [World.cell?_of_block (w := w) (by exact e), World.frozen?_of_block (w := w) (by exact e)]
      exact h6 j ha hb
theorem Own8.lt {w : World} {B : Nat} {v : Value} {l : List UInt8} (h : Own8 w B v l) : ∀ g, v.ownBlock = some g → B ≤ g ∧ g < w.heap.size := by
  intro g hg
  rcases h with ⟨rfl, _⟩ | ⟨g', cap, rfl, h1, h2, _⟩
  · simp [Value.ownBlock] at hg
  · simp [Value.ownBlock] at hg
    subst hg
    exact ⟨h1, h2⟩
theorem Own8.below {w w' : World} {B : Nat} {v : Value} {l : List UInt8} (h : Own8 w B v l) (hb : Below w.heap.size w w') : Own8 w' B v l :=
  h.kept hb.size (fun g hg => hb.block g (h.lt g hg).2)
theorem Own8.alloc {w : World} {B : Nat} {v : Value} {l : List UInt8} (h : Own8 w B v l) (o : Obj) : Own8 (w.alloc o) B v l :=
  h.below ((Below.refl _ _).alloc (Nat.le_refl _) o)
theorem Own8.drew {w : World} {B : Nat} {v : Value} {l : List UInt8} (h : Own8 w B v l) : Own8 w.drew B v l := h.below (Below.refl _ _).drew
theorem Own8.of_row {w : World} {B B' n : Nat} {v : Value} {l : List UInt8} (h : w.ownsRow B' 5 1 v n (bcs l)) (hB : B ≤ B') : Own8 w B v l := by
  have hlen := h.1
  rw [bcs_length, Nat.mul_one] at hlen
  rcases h.2 with ⟨rfl, h0⟩ | ⟨g, cap, cur, rfl, hb, hg, hnc, hcm, hcs, htk⟩
  · exact .inl ⟨rfl, List.eq_nil_of_length_eq_zero (by omega)⟩
  · subst hlen
    rw [Nat.mul_one] at htk hcs
    refine .inr ⟨g, cap, rfl, by omega, (Array.getElem?_eq_some_iff.1 hg).1, hnc, hcm, ?_, ?_⟩
    · intro j b hj
      have hj2 : j < l.length := (List.getElem?_eq_some_iff.1 hj).1
      rw [cell_of_row w g j cur _ _ hg]
      have : (cur.toList.take l.length)[j]? = some (.int .u8 (b.toNat : Int)) := by
        rw [htk]
        simp [bcs, hj]
      rw [List.getElem?_take, if_pos hj2] at this
      simpa using this
    · intro j ha hb2
      rw [cell_of_row w g j cur _ _ hg]
      refine ⟨?_, ?_⟩
      · rw [Array.getElem?_eq_getElem (by omega)]
        rfl
      · simp [World.frozen?, hg]
theorem Own8.of_string (w : World) (s : ByteArray) (hs : s.size ≤ 140737488355328) (B : Nat) (hB : B ≤ w.heap.size) :
    ∃ v w', (convert 9 93 (.string s)).run Tryz.prog w = .ok v w' ∧ Own8 w' B v s.data.toList ∧ Below w.heap.size w w' ∧ v ≠ .slice none 0 0 ∧ (∀ g, v.ownBlock = some g → w.heap.size ≤ g) := by
  refine ⟨_, _, run_bytes_of_string w _ _ _ s Tryz.underlying9 Tryz.underlying93 Tryz.underlying5, ?_, ?_, by simp, fun g hg => by simp [Value.ownBlock] at hg; omega⟩
  · have hge := grownCap_ge w s.size 0 5
    have hcm : grownCap w s.size 0 5 ≤ maxLen := grownCap_le_maxLen w s.size 0 _ (ml_le hs)
    have hrs : (bytesRow s (grownCap w s.size 0 5)).size = grownCap w s.size 0 5 := by
      simp [bytesRow]
      have : s.data.size = s.size := rfl
      omega
    have hlen : s.data.toList.length = s.size := by simp
    refine .inr ⟨w.heap.size, grownCap w s.size 0 5, by rw [hlen], hB, by simp, by omega, hcm, ?_, ?_⟩
    · intro j b hj
      have hj2 : j < s.data.toList.length := (List.getElem?_eq_some_iff.1 hj).1
      show ((w.drew).alloc _).cell? ⟨w.drew.heap.size, j, none⟩ = _
      rw [World.cell?_alloc_mark]
      have hjs : j < s.data.size := by simpa using hj2
      rw [bytesRow_at s _ j hjs]
      have : s.data[j] = b := by
        rw [List.getElem?_eq_getElem hj2] at hj
        simpa using hj
      rw [this]
    · intro j ha hb
      constructor
      · show (((w.drew).alloc _).cell? ⟨w.drew.heap.size, j, none⟩).isSome = true
        rw [World.cell?_alloc_mark, Array.getElem?_eq_getElem (by omega)]
        rfl
      · show ((w.drew).alloc _).frozen? ⟨w.drew.heap.size, j, none⟩ = false
        rw [World.frozen?_alloc_mark]
        simp
        omega
  · exact ((Below.refl _ w).drew).alloc (Nat.le_refl _) _
structure App (w w' : World) (B : Nat) (v v' : Value) (l' : List UInt8) : Prop where
  own : Own8 w' B v' l'
  below : Below B w w'
  block : ∀ g, g < w.heap.size → some g ≠ v.ownBlock → w'.heap[g]? = w.heap[g]?
  at_ : ∀ g, v'.ownBlock = some g → v.ownBlock = some g ∨ w.heap.size ≤ g
  some_ : v ≠ .slice none 0 0 → v' ≠ .slice none 0 0
theorem App.cell {w w' : World} {B : Nat} {v v' : Value} {l' : List UInt8} (h : App w w' B v v' l') {g o : Nat} (hg : g < w.heap.size) (hne : some g ≠ v.ownBlock) : w'.cell? ⟨g, o, none⟩ = w.cell? ⟨g, o, none⟩ :=
  World.cell?_of_block (w := w) (h.block g hg hne)
theorem Own8.form {w : World} {B : Nat} {v : Value} {l : List UInt8} (h : Own8 w B v l) (hv : v ≠ .slice none 0 0) :
    ∃ g cap, v = .slice (some ⟨g, 0, none⟩) l.length cap ∧ B ≤ g ∧ g < w.heap.size ∧ l.length ≤ cap ∧ cap ≤ maxLen ∧ (∀ j b, l[j]? = some b → w.cell? ⟨g, j, none⟩ = some (.int .u8 (b.toNat : Int))) := by
  rcases h with ⟨h, _⟩ | ⟨g, cap, h0, h1, h2, h3, h4, h5, _⟩
  · exact absurd h hv
  · exact ⟨g, cap, h0, h1, h2, h3, h4, h5⟩
theorem row_ge {w : World} {base n : Nat} {e : TypeId} {v : Value} {xs : List Value} (h : w.ownsRow base e 1 v n xs) : ∀ g, v.ownBlock = some g → base ≤ g := fun g hg => (h.lt g hg).1
theorem run_append8 {w : World} {B : Nat} {v : Value} {l : List UInt8} (h : Own8 w B v l) (ty : TypeId) (b : UInt8) (ad : Addr) (c : Nat) (hx : w.cell? ad = some (.int .u8 (b.toNat : Int))) (hlen : l.length + 1 ≤ 140737488355328) (hB : B ≤ w.heap.size) (hz : ad.spot = none) :
    ∃ v' w', (Builtin.append_ #[93, 93] ty #[v, .slice (some ad) 1 c]).run Tryz.prog w = .ok v' w' ∧ App w w' B v v' (l ++ [b]) := by
  obtain ⟨i0, hi, hz0, hz1, hz2⟩ := info_parts info_u8
  have hnews : ∀ j u, [Value.int .u8 (b.toNat : Int)][j]? = some u → w.cell? (ad.add j) = some u := by
    intro j u hj
    cases j with
    | zero =>
      simp at hj
      subst hj
      have : ad.add 0 = ad := by obtain ⟨a1, a2, a3⟩ := ad; simp at hz; subst hz; unfold Addr.add; split <;> simp_all
      rw [this]
      exact hx
    | succ j => simp at hj
  rcases h with ⟨rfl, rfl⟩ | ⟨g, cap, rfl, h1, h2, h3, h4, h5, h6⟩
  · obtain ⟨v', w', hr, ho, hg, _⟩ := run_append_own (P := Tryz.prog) w w.heap.size 93 ty 5 i0 (.int .u8 0) 1 1 Tryz.underlying93 hi hz0 hz1 hz2 rfl (by decide) _ 0 [] (World.ownsRow_nil w w.heap.size 5 1) ad 1 c [.int .u8 (b.toNat : Int)] rfl hnews (one_u8 _) (ml_le (by omega)) (by omega) (Nat.le_refl _)
    exact ⟨v', w', hr, Own8.of_row (l := [b]) (by simpa [bcs] using ho) hB, (Below.refl _ _).grown hg hB (by simp [Value.ownBlock]), fun k hk hne => hg.block k hk hne, fun g hg2 => Or.inr (row_ge ho g hg2), fun h => absurd rfl h⟩
  · by_cases hroom : l.length + 1 ≤ cap
    · have hr := run_append_room_cells (P := Tryz.prog) w 93 ty 5 i0 Tryz.underlying93 hi g 0 l.length cap ad 1 c [.int .u8 (b.toNat : Int)] (by rw [hz1]; rfl) hnews (one_u8 _) hroom
        (fun j hj => by have : j = 0 := (by simpa using hj); subst this; rw [hz1]; simpa using (h6 l.length (Nat.le_refl _) (by omega)).1)
        (fun j hj => by have : j = 0 := (by simpa using hj); subst this; rw [hz1]; simpa using (h6 l.length (Nat.le_refl _) (by omega)).2)
      rw [hz1] at hr
      simp only [Nat.zero_add, Nat.mul_one] at hr
      refine ⟨_, _, hr, .inr ⟨g, cap, by simp, h1, ?_, by simp; omega, h4, ?_, ?_⟩, ?_, ?_, fun g' hg' => Or.inl hg', by simp⟩
      · simp [World.setCells, World.setCell]; exact h2
      · intro j u hj
        by_cases hjl : j < l.length
        · rw [List.getElem?_append_left hjl] at hj
          rw [World.cell?_setCells_out _ _ _ _ _ (by intro _ _; left; exact hjl)]
          exact h5 j u hj
        · have hjl2 : j < l.length + 1 := by
            have := (List.getElem?_eq_some_iff.1 hj).1
            simpa using this
          obtain rfl : j = l.length := by omega
          rw [List.getElem?_append_right (Nat.le_refl _), Nat.sub_self] at hj
          simp at hj
          subst hj
          have := World.cell?_setCells_in g [.int .u8 (b.toNat : Int)] l.length w (fun j hj => by
            have : j = 0 := by simpa using hj
            subst this
            exact (h6 l.length (Nat.le_refl _) (by omega)).1) 0 (by simp)
          simpa using this
      · intro j ha hb
        simp only [List.length_append, List.length_singleton] at ha
        rw [World.cell?_setCells_out _ _ _ _ _ (by intro _ _; right; simp; omega), World.frozen?_setCells]
        exact h6 j (by omega) hb
      · simp only [World.setCells]
        exact (Below.refl _ _).setCell (p := ⟨g, l.length, none⟩) h1 _
      · intro k hk hne
        simp only [World.setCells]
        exact Below.heap_setCell _ _ _ _ (fun e => hne (by simp [Value.ownBlock, e]))
    · obtain ⟨v', w', hr, ho, hg⟩ := run_append_arg_grows (P := Tryz.prog) w 93 ty 5 i0 (.int .u8 0) 1 1 Tryz.underlying93 hi hz0 hz1 hz2 rfl (by decide) ⟨g, 0, none⟩ l.length cap (bcs l) (by rw [bcs_length, Nat.mul_one])
        (fun j u hj => by
          simp only [bcs, List.getElem?_map, Option.map_eq_some_iff] at hj
          obtain ⟨b', hb', rfl⟩ := hj
          rw [addr_add]
          exact h5 j b' hb') ad 1 c [.int .u8 (b.toNat : Int)] rfl hnews (by omega) (ml_le (by omega)) (by omega)
      refine ⟨v', w', hr, Own8.of_row (l := l ++ [b]) (n := l.length + 1) (by rw [bcs_append]; exact ho) hB, (Below.refl _ _).grown hg hB (by simp), fun k hk _ => hg.block k hk (by simp), fun g hg2 => Or.inr (row_ge ho g hg2), fun _ e => ?_⟩
      subst e
      rcases ho.2 with ⟨_, h0⟩ | ⟨g', cap', cur', h0, _⟩
      · omega
      · simp at h0
theorem strCells_bcs (s : ByteArray) : Lib.strCells s = bcs s.data.toList := rfl
theorem run_append8s {w : World} {B : Nat} {v : Value} {l : List UInt8} (h : Own8 w B v l) (ty : TypeId) (s : ByteArray) (hlen : l.length + s.size ≤ 140737488355328) (hB : B ≤ w.heap.size) :
    ∃ v' w', (Builtin.append_ #[93, 9] ty #[v, .string s]).run Tryz.prog w = .ok v' w' ∧ App w w' B v v' (l ++ s.data.toList) := by
  obtain ⟨i0, hi, hz0, hz1, hz2⟩ := info_parts info_u8
  have hsl : s.data.toList.length = s.size := by simp
  rcases h with ⟨rfl, rfl⟩ | ⟨g, cap, rfl, h1, h2, h3, h4, h5, h6⟩
  · obtain ⟨v', w', hr, ho, hg, _⟩ := Lib.run_append_own_string (P := Tryz.prog) w w.heap.size 93 9 ty 5 i0 Tryz.underlying93 Tryz.underlying9 hi hz0 hz1 hz2 _ 0 [] (World.ownsRow_nil w w.heap.size 5 1) s (ml_le (by simpa using hlen)) (by simpa using hlen) (Nat.le_refl _)
    exact ⟨v', w', hr, Own8.of_row (l := s.data.toList) (by rw [← strCells_bcs]; exact ho) hB, (Below.refl _ _).grown hg hB (by simp [Value.ownBlock]), fun k hk hne => hg.block k hk hne, fun g hg2 => Or.inr (row_ge ho g hg2), fun h => absurd rfl h⟩
  · by_cases hroom : l.length + s.size ≤ cap
    · have hf := Lib.run_firstCells_string (P := Tryz.prog) w 1 s
      have hst := run_storeCells_cells (P := Tryz.prog) g l.length (Lib.strCells s) 0 w
        (fun j hj => by rw [Lib.strCells_length] at hj; exact (h6 _ (by omega) (by omega)).1)
        (fun j hj => by rw [Lib.strCells_length] at hj; exact (h6 _ (by omega) (by omega)).2) (Lib.strCells_oneCell s)
      simp only [Nat.add_zero] at hst
      have hr : (Builtin.append_ #[93, 9] ty #[.slice (some ⟨g, 0, none⟩) l.length cap, .string s]).run Tryz.prog w = .ok (.slice (some ⟨g, 0, none⟩) (l.length + s.size) cap) (w.setCells g l.length (Lib.strCells s)) := by
        simp [Builtin.append_, run_underlying Tryz.underlying93, run_underlying Tryz.underlying9, sizeOf, typeInfo, hi, hz1, Builtin.lenOf, hroom, hf, Addr.add_lit, hst]
      have hsize : ∀ (vs : List Value) (o : Nat) (w : World), (w.setCells g o vs).heap.size = w.heap.size := by
        intro vs
        induction vs with
        | nil => intro o w; rfl
        | cons a vs ih => intro o w; rw [World.setCells, ih]; simp [World.setCell]
      have hblk : ∀ (vs : List Value) (o : Nat) (w : World) (k : Nat), k ≠ g → (w.setCells g o vs).heap[k]? = w.heap[k]? := by
        intro vs
        induction vs with
        | nil => intro o w k _; rfl
        | cons a vs ih => intro o w k hk; rw [World.setCells, ih _ _ _ hk]; exact Below.heap_setCell _ _ _ _ hk
      have hbel : ∀ (vs : List Value) (o : Nat) (a w : World), Below B a w → Below B a (w.setCells g o vs) := by
        intro vs
        induction vs with
        | nil => intro o a w h; exact h
        | cons x vs ih => intro o a w h; rw [World.setCells]; exact ih _ _ _ (h.setCell (p := ⟨g, o, none⟩) h1 _)
      refine ⟨_, _, hr, .inr ⟨g, cap, by simp, h1, ?_, by simp; omega, h4, ?_, ?_⟩, hbel _ _ _ _ (Below.refl _ _), ?_, fun g' hg' => Or.inl hg', by simp⟩
      · rw [hsize]; exact h2
      · intro j u hj
        by_cases hjl : j < l.length
        · rw [List.getElem?_append_left hjl] at hj
          rw [World.cell?_setCells_out _ _ _ _ _ (by intro _ _; left; exact hjl)]
          exact h5 j u hj
        · rw [List.getElem?_append_right (by omega)] at hj
          have hj2 : j - l.length < (Lib.strCells s).length := by
            rw [Lib.strCells_length]
            have := (List.getElem?_eq_some_iff.1 hj).1
            omega
          have hin := World.cell?_setCells_in g (Lib.strCells s) l.length w (fun j hj => by
            rw [Lib.strCells_length] at hj
            exact (h6 _ (by omega) (by omega)).1) (j - l.length) hj2
          rw [show l.length + (j - l.length) = j by omega] at hin
          rw [hin]
          have : (Lib.strCells s)[j - l.length]? = some (.int .u8 (u.toNat : Int)) := by simp [Lib.strCells, hj]
          rw [List.getElem?_eq_getElem hj2] at this
          exact this
      · intro j ha hb
        simp only [List.length_append, hsl] at ha
        rw [World.cell?_setCells_out _ _ _ _ _ (by intro _ _; right; rw [Lib.strCells_length]; omega), World.frozen?_setCells]
        exact h6 j (by omega) hb
      · intro k hk hne
        exact hblk _ _ _ _ (fun e => hne (by simp [Value.ownBlock, e]))
    · have hr := Lib.run_append_grow_string (P := Tryz.prog) w 93 9 ty 5 i0 (.int .u8 0) Tryz.underlying93 Tryz.underlying9 hi hz0 ⟨g, 0, none⟩ l.length cap (bcs l) (by rw [bcs_length, hz1, Nat.mul_one])
        (fun j u hj => by
          simp only [bcs, List.getElem?_map, Option.map_eq_some_iff] at hj
          obtain ⟨b', hb', rfl⟩ := hj
          rw [addr_add]
          exact h5 j b' hb') s (by omega) (by omega) (by rw [hz2]; exact growslice_fits (by omega) (by omega))
      have hge := grownCap_ge w (l.length + s.size) cap 5
      have hcm : grownCap w (l.length + s.size) cap 5 ≤ maxLen := grownCap_le_maxLen w (l.length + s.size) cap _ (ml_le hlen)
      refine ⟨_, _, hr, Own8.of_row (B' := w.heap.size) (n := l.length + s.size) ⟨?_, .inr ⟨w.heap.size, _, _, rfl, Nat.le_refl _, heap_alloc_new w.drew _, hge, hcm, ?_, ?_⟩⟩ hB, ?_, ?_, fun g' hg' => by simp [Value.ownBlock] at hg'; omega, by simp⟩
      · rw [bcs_length]; simp
      · have hz1' : (Value.int IntKind.u8 0).cells.size = 1 := rfl
        simp only [Array.size_append, List.size_toArray, size_zeroCells, hz1', bcs_length, Lib.strCells_length]
        omega
      · simp only [Array.toList_append, List.append_assoc]
        rw [← List.append_assoc, strCells_bcs]
        have : (l.length + s.size) * 1 = (bcs l ++ bcs s.data.toList).length := by rw [List.length_append, bcs_length, bcs_length, hsl]; omega
        rw [this, bcs_append]
        exact List.take_left
      · exact ((Below.refl B w).drew).alloc (by exact hB) _
      · intro k hk _
        exact Below.heap_alloc w.drew _ k hk
theorem Own8.conv {w : World} {l : List UInt8} {g : Nat} (h : ∀ j b, l[j]? = some b → w.cell? ⟨g, j, none⟩ = some (.int .u8 (b.toNat : Int))) (d c : Nat) :
    (convert 93 9 (.slice (some ⟨g, d, none⟩) (l.length - d) c)).run Tryz.prog w = .ok (.string ⟨(l.drop d).toArray⟩) w := by
  have e : l.length - d = (l.drop d).length := by simp
  rw [e]
  refine run_convert_bytes_back w _ _ _ ⟨g, d, none⟩ c (l.drop d) Tryz.underlying93 Tryz.underlying5 Tryz.underlying9 (fun j hj => ?_)
  have ha : (⟨g, d, none⟩ : Addr).add j = ⟨g, d + j, none⟩ := by unfold Addr.add; split <;> simp_all
  rw [ha]
  refine h (d + j) _ ?_
  rw [← List.getElem?_drop, List.getElem?_eq_getElem hj]
section
variable {ops : Array Oper} {rest : List Oper} {o : Oper} {a : Act} {Q : Exit → Act → World → Prop}
theorem wp_append8 (w : World) (hgd : o.guard = none) (s x : Operand) (ho : o.op = .call { callee := .builtin .append, args := #[s, x], argTypes := #[93, 93] })
    (B : Nat) (v : Value) (l : List UInt8) (hs : a.eval s = v) (h : Own8 w B v l) (b : UInt8) (g c : Nat) (hx : a.eval x = .slice (some ⟨g, 0, none⟩) 1 c) (hc : w.cell? ⟨g, 0, none⟩ = some (.int .u8 (b.toNat : Int)))
    (hlen : l.length + 1 ≤ 140737488355328) (hB : B ≤ w.heap.size)
    (hK : ∀ v' w', App w w' B v v' (l ++ [b]) → wpList Tryz.prog ops Q rest (a.put o.dst v') w') : wpList Tryz.prog ops Q (o :: rest) a w := by
  refine wpList_plain hgd fun K hK' => ?_
  obtain ⟨v', w', hr, r1⟩ := run_append8 h o.type b ⟨g, 0, none⟩ c hc hlen hB rfl
  unfold Oper.wp execOp
  simp only [ho, resolve, invoke, builtin, Sem.run_bind, Sem.run_pure, Result.andThen_ok, List.map_toArray, List.map_cons, List.map_nil, hs, hx, hr]
  exact hK' _ _ (hK v' w' r1)
theorem wp_append8s (w : World) (hgd : o.guard = none) (sl x : Operand) (ho : o.op = .call { callee := .builtin .append, args := #[sl, x], argTypes := #[93, 9] })
    (B : Nat) (v : Value) (l : List UInt8) (hs : a.eval sl = v) (h : Own8 w B v l) (s : ByteArray) (hx : a.eval x = .string s)
    (hlen : l.length + s.size ≤ 140737488355328) (hB : B ≤ w.heap.size)
    (hK : ∀ v' w', App w w' B v v' (l ++ s.data.toList) → wpList Tryz.prog ops Q rest (a.put o.dst v') w') : wpList Tryz.prog ops Q (o :: rest) a w := by
  refine wpList_plain hgd fun K hK' => ?_
  obtain ⟨v', w', hr, r1⟩ := run_append8s h o.type s hlen hB
  unfold Oper.wp execOp
  simp only [ho, resolve, invoke, builtin, Sem.run_bind, Sem.run_pure, Result.andThen_ok, List.map_toArray, List.map_cons, List.map_nil, hs, hx, hr]
  exact hK' _ _ (hK v' w' r1)
end
end Go.Proofs.YtbjbjbpgmojcbabGreat
namespace Go.Proofs.YtbjbjbpgmojcbabGreat
open Go.RowKit
theorem empty_iff (s : ByteArray) : s.toList.isEmpty = true ↔ s.size = 0 := by
  rw [Lib.toList_data, List.isEmpty_iff_length_eq_zero]
  have : s.data.toList.length = s.size := by simp
  rw [this]
theorem empty_of {s : ByteArray} (h : s.size = 0) : s.toList.isEmpty = true := (empty_iff s).2 h
theorem empty_not {s : ByteArray} (h : s.size ≠ 0) : s.toList.isEmpty = false := by
  cases e : s.toList.isEmpty with
  | false => rfl
  | true => exact absurd ((empty_iff s).1 e) h
def fits (D M : Int) (L : Bool) (lit : ByteArray) (far len : Int) : Bool :=
  if lit.size ≠ 0 then decide (far = 0 ∧ len = 0 ∧ L = false) else decide (3 ≤ len ∧ len ≤ 64 ∧ 1 ≤ far ∧ far ≤ D + M)
set_option maxHeartbeats 400000 in
theorem fits_lit (g : Nat) (D M : Int) (L : Bool) (lit : ByteArray) (far len : Int) (w : World) (hg : g < w.heap.size)
    (h2 : w.cell? ⟨g, 2, none⟩ = some (.bool L)) (hl : lit.size ≠ 0) :
    Calls Tryz.prog 206 #[.pointer (some ⟨g, 0, none⟩), .agg #[.string lit, .int .i64 far, .int .i64 len]] w fun e w' => e = .returned (.bool (fits D M L lit far len)) ∧ Below w.heap.size w w' := by
  have hE := empty_not hl
  by_cases hf : far = 0
  · have hf' : (far == 0) = true := by simp [hf]
    by_cases hn : len = 0
    · have hn' : (len == 0) = true := by simp [hn]
      have HR : Hid (fits D M L lit far len = !L) := by
        show fits D M L lit far len = !L
        unfold fits
        rw [if_pos hl]
        cases L <;> simp [hf, hn]
      clear hf hn
      go_enter Tryz.func206, Tryz.ntmps206
      go_wp2_with fail
      go_ret
      exact ⟨by rw [HR.out]; rfl, (Below.refl _ _).alloc (Nat.le_refl _) _⟩
    · have hn' : (len == 0) = false := by simp [hn]
      have HR : Hid (fits D M L lit far len = false) := by
        show fits D M L lit far len = false
        unfold fits
        rw [if_pos hl]
        simp [hn]
      clear hf hn
      go_enter Tryz.func206, Tryz.ntmps206
      go_wp2_with fail
      go_ret
      exact ⟨by rw [HR.out]; rfl, (Below.refl _ _).alloc (Nat.le_refl _) _⟩
  · have hf' : (far == 0) = false := by simp [hf]
    have HR : Hid (fits D M L lit far len = false) := by
      show fits D M L lit far len = false
      unfold fits
      rw [if_pos hl]
      simp [hf]
    clear hf
    go_enter Tryz.func206, Tryz.ntmps206
    go_wp2_with fail
    go_ret
    exact ⟨by rw [HR.out]; rfl, (Below.refl _ _).alloc (Nat.le_refl _) _⟩
set_option maxHeartbeats 400000 in
theorem fits_copy (g : Nat) (D M : Int) (L : Bool) (lit : ByteArray) (far len : Int) (w : World) (hg : g < w.heap.size)
    (h0 : w.cell? ⟨g, 0, none⟩ = some (.int .i64 D)) (h1 : w.cell? ⟨g, 1, none⟩ = some (.int .i64 M))
    (hD0 : 0 ≤ D) (hD1 : D ≤ 256) (hM0 : 0 ≤ M) (hM1 : M ≤ 512) (hl : lit.size = 0) :
    Calls Tryz.prog 206 #[.pointer (some ⟨g, 0, none⟩), .agg #[.string lit, .int .i64 far, .int .i64 len]] w fun e w' => e = .returned (.bool (fits D M L lit far len)) ∧ Below w.heap.size w w' := by
  have hE := empty_of hl
  have hF : fits D M L lit far len = decide (3 ≤ len ∧ len ≤ 64 ∧ 1 ≤ far ∧ far ≤ D + M) := by unfold fits; rw [if_neg (by omega)]
  have hr1 : IntKind.i64.wrap (D + M) = D + M := IntWalk.i64_in _ ⟨by omega, by omega⟩
  by_cases a1 : 3 ≤ len
  · have b1 : decide (3 ≤ len) = true := by simp; omega
    by_cases a2 : len ≤ 64
    · have b2 : decide (len ≤ 64) = true := by simp; omega
      by_cases a3 : 1 ≤ far
      · have b3 : decide (1 ≤ far) = true := by simp; omega
        by_cases a4 : far ≤ D + M
        · have b4 : decide (far ≤ D + M) = true := by simp; omega
          have HR : Hid (fits D M L lit far len = true) := by rw [hF]; show decide _ = true; simp; omega
          clear hF
          go_enter Tryz.func206, Tryz.ntmps206
          go_wp2_with fail
          go_quiet (fail)
          go_wp2_with fail
          go_ret
          exact ⟨by rw [HR.out]; rfl, below_drewN ((Below.refl _ _).alloc (Nat.le_refl _) _) _⟩
        · have b4 : decide (far ≤ D + M) = false := by simp; omega
          have HR : Hid (fits D M L lit far len = false) := by rw [hF]; show decide _ = false; simp; omega
          clear hF
          go_enter Tryz.func206, Tryz.ntmps206
          go_wp2_with fail
          go_quiet (fail)
          go_wp2_with fail
          go_ret
          exact ⟨by rw [HR.out]; rfl, below_drewN ((Below.refl _ _).alloc (Nat.le_refl _) _) _⟩
      · have b3 : decide (1 ≤ far) = false := by simp; omega
        have HR : Hid (fits D M L lit far len = false) := by rw [hF]; show decide _ = false; simp; omega
        clear hF
        go_enter Tryz.func206, Tryz.ntmps206
        go_wp2_with fail
        go_quiet (fail)
        go_wp2_with fail
        go_ret
        exact ⟨by rw [HR.out]; rfl, below_drewN ((Below.refl _ _).alloc (Nat.le_refl _) _) _⟩
    · have b2 : decide (len ≤ 64) = false := by simp; omega
      have HR : Hid (fits D M L lit far len = false) := by rw [hF]; show decide _ = false; simp; omega
      clear hF
      go_enter Tryz.func206, Tryz.ntmps206
      go_wp2_with fail
      go_quiet (fail)
      go_wp2_with fail
      go_ret
      exact ⟨by rw [HR.out]; rfl, below_drewN ((Below.refl _ _).alloc (Nat.le_refl _) _) _⟩
  · have b1 : decide (3 ≤ len) = false := by simp; omega
    have HR : Hid (fits D M L lit far len = false) := by rw [hF]; show decide _ = false; simp; omega
    clear hF
    go_enter Tryz.func206, Tryz.ntmps206
    go_wp2_with fail
    go_quiet (fail)
    go_wp2_with fail
    go_ret
    exact ⟨by rw [HR.out]; rfl, below_drewN ((Below.refl _ _).alloc (Nat.le_refl _) _) _⟩
theorem fits_any (g : Nat) (D M : Int) (L : Bool) (lit : ByteArray) (far len : Int) (w : World) (hg : g < w.heap.size)
    (h0 : w.cell? ⟨g, 0, none⟩ = some (.int .i64 D)) (h1 : w.cell? ⟨g, 1, none⟩ = some (.int .i64 M)) (h2 : w.cell? ⟨g, 2, none⟩ = some (.bool L))
    (hD0 : 0 ≤ D) (hD1 : D ≤ 256) (hM0 : 0 ≤ M) (hM1 : M ≤ 512) :
    Calls Tryz.prog 206 #[.pointer (some ⟨g, 0, none⟩), .agg #[.string lit, .int .i64 far, .int .i64 len]] w fun e w' => e = .returned (.bool (fits D M L lit far len)) ∧ Below w.heap.size w w' := by
  by_cases hl : lit.size = 0
  · exact fits_copy g D M L lit far len w hg h0 h1 hD0 hD1 hM0 hM1 hl
  · exact fits_lit g D M L lit far len w hg h2 hl
def MkAt (w : World) (B g : Nat) (D M : Int) (L : Bool) : Prop :=
  B ≤ g ∧ g < w.heap.size ∧ w.cell? ⟨g, 0, none⟩ = some (.int .i64 D) ∧ w.cell? ⟨g, 1, none⟩ = some (.int .i64 M) ∧ w.cell? ⟨g, 2, none⟩ = some (.bool L) ∧ w.frozen? ⟨g, 1, none⟩ = false ∧ w.frozen? ⟨g, 2, none⟩ = false
theorem MkAt.below {w w' : World} {B g : Nat} {D M : Int} {L : Bool} (h : MkAt w B g D M L) (hb : Below w.heap.size w w') : MkAt w' B g D M L := by
  obtain ⟨a, b, c0, c1, c2, f1, f2⟩ := h
  exact ⟨a, Nat.lt_of_lt_of_le b hb.size, (hb.cell (by exact b)).trans c0, (hb.cell (by exact b)).trans c1, (hb.cell (by exact b)).trans c2, (hb.frozen (by exact b)).trans f1, (hb.frozen (by exact b)).trans f2⟩
theorem MkAt.set2 {w : World} {B g : Nat} {D M : Int} {L : Bool} (h : MkAt w B g D M L) (n : Nat) (M' : Int) (L' : Bool) :
    MkAt (((w.drewN n).setCell ⟨g, 1, none⟩ (.int .i64 M')).setCell ⟨g, 2, none⟩ (.bool L')) B g D M' L' := by
  obtain ⟨a, b, c0, c1, c2, f1, f2⟩ := h
  have d0 : (w.drewN n).cell? ⟨g, 0, none⟩ = some (.int .i64 D) := c0
  have d1 : (w.drewN n).cell? ⟨g, 1, none⟩ = some (.int .i64 M) := c1
  have d2 : (w.drewN n).cell? ⟨g, 2, none⟩ = some (.bool L) := c2
  refine ⟨a, by simpa [World.setCell] using b, ?_, ?_, ?_, ?_, ?_⟩
  · rw [World.cell?_setCell_other _ _ _ _ (by simp), World.cell?_setCell_other _ _ _ _ (by simp)]; exact d0
  · rw [World.cell?_setCell_other _ _ _ _ (by simp)]
    exact World.cell?_setCell_same _ _ _ d1
  · refine World.cell?_setCell_same _ _ _ (u := .bool L) ?_
    rw [World.cell?_setCell_other _ _ _ _ (by simp)]
    exact d2
  · rw [World.frozen?_setCell, World.frozen?_setCell]; exact f1
  · rw [World.frozen?_setCell, World.frozen?_setCell]; exact f2
theorem MkAt.alloc {w : World} {B g : Nat} {D M : Int} {L : Bool} (h : MkAt w B g D M L) (o : Obj) : MkAt (w.alloc o) B g D M L := h.below ((Below.refl _ _).alloc (Nat.le_refl _) o)
theorem fits_mk {w : World} {B g : Nat} {D M : Int} {L : Bool} (h : MkAt w B g D M L) (lit : ByteArray) (far len : Int) (hD0 : 0 ≤ D) (hD1 : D ≤ 256) (hM0 : 0 ≤ M) (hM1 : M ≤ 512) :
    Calls Tryz.prog 206 #[.pointer (some ⟨g, 0, none⟩), .agg #[.string lit, .int .i64 far, .int .i64 len]] w fun e w' => e = .returned (.bool (fits D M L lit far len)) ∧ Below w.heap.size w w' :=
  fits_any g D M L lit far len w h.2.1 h.2.2.1 h.2.2.2.1 h.2.2.2.2.1 hD0 hD1 hM0 hM1
set_option maxHeartbeats 1000000 in
theorem add_form (B g : Nat) (D M : Int) (L : Bool) (lit : ByteArray) (far len : Int) (w : World) (h : MkAt w B g D M L)
    (hD0 : 0 ≤ D) (hD1 : D ≤ 256) (hM0 : 0 ≤ M) (hM1 : M ≤ 512) (hF : fits D M L lit far len = false) :
    Calls Tryz.prog 178 #[.pointer (some ⟨g, 0, none⟩), .agg #[.string lit, .int .i64 far, .int .i64 len]] w fun e w' => e = .returned (.int .i64 1) ∧ Below w.heap.size w w' := by
  go_enter Tryz.func178, Tryz.ntmps178
  go_wp2_with fail
  refine (fits_mk (h.alloc _) lit far len hD0 hD1 hM0 hM1).mono ?_
  rintro e w1 ⟨rfl, hb⟩
  go_wp2_with fail
  go_ret
  exact ⟨rfl, bch ((Below.refl _ _).alloc (Nat.le_refl _) _) hb (Nat.le_refl _)⟩
theorem box_cells {w w1 : World} {x y z : Value} {T : TypeId} (hb : Below (w.alloc (.cells #[x, y, z] T)).heap.size (w.alloc (.cells #[x, y, z] T)) w1) :
    w1.cell? ⟨w.heap.size, 0, none⟩ = some x ∧ w1.cell? ⟨w.heap.size, 1, none⟩ = some y ∧ w1.cell? ⟨w.heap.size, 2, none⟩ = some z := by
  refine ⟨(hb.cell (by simp)).trans ?_, (hb.cell (by simp)).trans ?_, (hb.cell (by simp)).trans ?_⟩ <;> (rw [World.cell?_alloc_mark]; rfl)
set_option maxHeartbeats 1000000 in
theorem add_many (B g : Nat) (D M : Int) (L : Bool) (lit : ByteArray) (far len : Int) (w : World) (h : MkAt w B g D M L)
    (hD0 : 0 ≤ D) (hD1 : D ≤ 256) (hM0 : 0 ≤ M) (hM1 : M ≤ 512) (hlit : lit.size ≤ 140737488355328) (hln : 0 ≤ len ∧ len ≤ 64) (hF : fits D M L lit far len = true) (hbig : 512 < M + lit.size + len) :
    Calls Tryz.prog 178 #[.pointer (some ⟨g, 0, none⟩), .agg #[.string lit, .int .i64 far, .int .i64 len]] w fun e w' => e = .returned (.int .i64 2) ∧ Below w.heap.size w w' := by
  obtain ⟨hl0, hl1⟩ := hln
  have hs : (lit.size : Int) ≤ 140737488355328 := by omega
  have hr1 : IntKind.i64.wrap (M + (lit.size : Int)) = M + (lit.size : Int) := IntWalk.i64_in _ ⟨by omega, by omega⟩
  have hr2 : IntKind.i64.wrap (M + (lit.size : Int) + len) = M + (lit.size : Int) + len := IntWalk.i64_in _ ⟨by omega, by omega⟩
  have hd : decide (512 < M + (lit.size : Int) + len) = true := by simp; omega
  go_enter Tryz.func178, Tryz.ntmps178
  go_wp2_with fail
  refine (fits_mk (h.alloc _) lit far len hD0 hD1 hM0 hM1).mono ?_
  rintro e w1 ⟨rfl, hb⟩
  have hm := (h.alloc (.cells #[.string lit, .int .i64 far, .int .i64 len] 165)).below hb
  obtain ⟨k0, k1, k2⟩ := box_cells hb
  have m1 := hm.2.2.2.1
  clear hm
  go_wp2_with fail
  go_quiet (fail)
  go_wp2_with fail
  go_ret
  exact ⟨rfl, below_drewN (bch ((Below.refl _ _).alloc (Nat.le_refl _) _) hb (Nat.le_refl _)) _⟩
set_option maxHeartbeats 1000000 in
theorem add_ok (B g : Nat) (D M : Int) (L : Bool) (lit : ByteArray) (far len : Int) (w : World) (h : MkAt w B g D M L)
    (hD0 : 0 ≤ D) (hD1 : D ≤ 256) (hM0 : 0 ≤ M) (hM1 : M ≤ 512) (hln : 0 ≤ len ∧ len ≤ 64) (hF : fits D M L lit far len = true) (hok : M + lit.size + len ≤ 512) :
    Calls Tryz.prog 178 #[.pointer (some ⟨g, 0, none⟩), .agg #[.string lit, .int .i64 far, .int .i64 len]] w fun e w' => e = .returned (.int .i64 0) ∧ Below B w w' ∧ MkAt w' B g D (M + lit.size + len) (!lit.toList.isEmpty) ∧ Hid (∀ k, k < w.heap.size → k ≠ g → w'.heap[k]? = w.heap[k]?) := by
  obtain ⟨hl0, hl1⟩ := hln
  have hs : (lit.size : Int) ≤ 512 := by omega
  have hr1 : IntKind.i64.wrap (M + (lit.size : Int)) = M + (lit.size : Int) := IntWalk.i64_in _ ⟨by omega, by omega⟩
  have hr2 : IntKind.i64.wrap (M + (lit.size : Int) + len) = M + (lit.size : Int) + len := IntWalk.i64_in _ ⟨by omega, by omega⟩
  have hd : decide (512 < M + (lit.size : Int) + len) = false := by simp; omega
  have hgw := h.2.1
  have hBg := h.1
  go_enter Tryz.func178, Tryz.ntmps178
  go_wp2_with fail
  refine (fits_mk (h.alloc _) lit far len hD0 hD1 hM0 hM1).mono ?_
  rintro e w1 ⟨rfl, hb⟩
  have hm := (h.alloc (.cells #[.string lit, .int .i64 far, .int .i64 len] 165)).below hb
  obtain ⟨k0, k1, k2⟩ := box_cells hb
  have HM : Hid (MkAt w1 B g D M L) := hm
  obtain ⟨_, m0, m1, m2, m3, m4, m5⟩ := hm
  have hne : ¬ g = w.heap.size := by omega
  have hne2 : ¬ w.heap.size = g := by omega
  go_wp2_with fail
  go_quiet (fail)
  go_wp2_with fail
  go_ret
  have hB1 : Below B w w1 := (((Below.refl _ _).alloc (Nat.le_refl _) _).trans (hb.mono (by simp))).mono (by omega)
  refine ⟨rfl, ((below_drewN hB1 nq).setCell (p := ⟨g, 1, none⟩) hBg _).setCell (p := ⟨g, 2, none⟩) hBg _, HM.out.set2 nq _ _, fun k hk hkg => ?_⟩
  rw [Below.heap_setCell _ _ _ _ (by exact hkg), Below.heap_setCell _ _ _ _ (by exact hkg)]
  show w1.heap[k]? = _
  rw [hb.block k (by simp; omega)]
  exact Below.heap_alloc _ _ _ hk
theorem err_fits (d : Nat) (s : List UInt8) (p : Bool) (t : Tk.T) (M : Int) (hM : M = (s.length : Int) - d) :
    Tk.err d s p t = if fits d M p t.lit t.far t.len = false then 1 else if 512 < M + t.lit.size + t.len then 2 else 0 := by
  unfold Tk.err fits
  by_cases h0 : t.lit.size ≠ 0
  · rw [if_pos h0, if_pos h0]
    by_cases h1 : t.far ≠ 0 ∨ t.len ≠ 0 ∨ p = true
    · rw [if_pos h1, if_pos]
      simp only [decide_eq_false_iff_not]
      rintro ⟨a, b, c⟩
      rcases h1 with h | h | h
      · exact h a
      · exact h b
      · rw [c] at h; cases h
    · have ha : t.far = 0 := by
        by_cases e : t.far = 0
        · exact e
        · exact absurd (Or.inl e) h1
      have hb : t.len = 0 := by
        by_cases e : t.len = 0
        · exact e
        · exact absurd (Or.inr (Or.inl e)) h1
      have hc : p = false := by
        cases p
        · rfl
        · exact absurd (Or.inr (Or.inr rfl)) h1
      rw [if_neg h1]
      rw [if_neg (c := decide (t.far = 0 ∧ t.len = 0 ∧ p = false) = false) (by simp [ha, hb, hc])]
      rw [hb, hM]
      simp
  · rw [if_neg h0, if_neg h0]
    by_cases h1 : 3 ≤ t.len ∧ t.len ≤ 64 ∧ 1 ≤ t.far ∧ t.far ≤ s.length
    · rw [if_neg (by simpa using h1), if_neg (c := decide (3 ≤ t.len ∧ t.len ≤ 64 ∧ 1 ≤ t.far ∧ t.far ≤ (d : Int) + M) = false) (by simp; omega), hM]
      have : (t.lit.size : Int) = 0 := by omega
      rw [this, Int.add_zero]
    · rw [if_pos h1, if_pos]
      simp only [decide_eq_false_iff_not]
      omega
def TkAt (w : World) (b off : Nat) (l : List Tk.T) : Prop :=
  ∀ i (h : i < l.length), w.cell? ⟨b, off + i * 3, none⟩ = some (.string l[i].lit) ∧ w.cell? ⟨b, off + i * 3 + 1, none⟩ = some (.int .i64 l[i].far) ∧ w.cell? ⟨b, off + i * 3 + 2, none⟩ = some (.int .i64 l[i].len)
def SlAt (w : World) (ad : Option Addr) (l : List Tk.T) : Prop := l = [] ∨ ∃ b off, ad = some ⟨b, off, none⟩ ∧ b < w.heap.size ∧ TkAt w b off l
theorem SlAt.below {w w' : World} {ad : Option Addr} {l : List Tk.T} (h : SlAt w ad l) (hb : Below w.heap.size w w') : SlAt w' ad l := by
  rcases h with h | ⟨b, off, rfl, hlt, ht⟩
  · exact .inl h
  · refine .inr ⟨b, off, rfl, Nat.lt_of_lt_of_le hlt hb.size, fun i hi => ?_⟩
    have := ht i hi
    rw [hb.cell (by exact hlt), hb.cell (by exact hlt), hb.cell (by exact hlt)]
    exact this
def Sane (l : List Tk.T) : Prop := l.length ≤ 140737488355328 ∧ ∀ t ∈ l, t.lit.size ≤ 140737488355328
end Go.Proofs.YtbjbjbpgmojcbabGreat
namespace Go.Proofs.YtbjbjbpgmojcbabGreat
open Go.RowKit
def checkOf (dict : ByteArray) (l : List Tk.T) : Int := if 256 < dict.size then 2 else (Tk.run dict.size dict.data.toList false l).1
theorem fits_len {D M : Int} {L : Bool} {lit : ByteArray} {far len : Int} (h : fits D M L lit far len = true) : 0 ≤ len ∧ len ≤ 64 := by
  unfold fits at h
  split at h
  · have := of_decide_eq_true h
    omega
  · have := of_decide_eq_true h
    omega
set_option maxHeartbeats 1000000 in
theorem check_many (dict : ByteArray) (ad : Option Addr) (n cap : Nat) (w : World) (hd : 256 < dict.size) :
    Calls Tryz.prog 158 #[.string dict, .slice ad n cap] w fun e w' => e = .returned (.int .i64 2) ∧ Below w.heap.size w w' := by
  have h : decide ((256 : Int) < (dict.size : Int)) = true := by simp; omega
  have h' : (256 : Int) < (dict.size : Int) := by omega
  go_enter Tryz.func158, Tryz.ntmps158
  go_wp2_with fail
  go_ret
  exact ⟨rfl, Below.refl _ _⟩
set_option maxHeartbeats 1000000 in
theorem check_nil (dict : ByteArray) (ad : Option Addr) (cap : Nat) (w : World) (hd : dict.size ≤ 256) :
    Calls Tryz.prog 158 #[.string dict, .slice ad 0 cap] w fun e w' => e = .returned (.int .i64 0) ∧ Below w.heap.size w w' := by
  have h : decide ((256 : Int) < (dict.size : Int)) = false := by simp; omega
  have h' : (dict.size : Int) ≤ 256 := by omega
  go_enter Tryz.func158, Tryz.ntmps158
  go_wp2_with fail
  refine wp_loop_rounds 1 ?_
  rw [rounds_succ]
  go_wp2_with fail
  go_ret
  exact ⟨rfl, (Below.refl _ _).alloc (Nat.le_refl _) _⟩
set_option maxHeartbeats 1000000 in
theorem check_some (dict : ByteArray) (b off cap : Nat) (l : List Tk.T) (w : World) (hd : dict.size ≤ 256) (hb : b < w.heap.size) (hl : TkAt w b off l) (hs : Sane l) :
    Calls Tryz.prog 158 #[.string dict, .slice (some ⟨b, off, none⟩) l.length cap] w fun e w' => e = .returned (.int .i64 (Tk.run dict.size dict.data.toList false l).1) ∧ Below w.heap.size w w' := by
  have h : decide ((256 : Int) < (dict.size : Int)) = false := by simp; omega
  have h' : (dict.size : Int) ≤ 256 := by omega
  have hn := hs.1
  have hn' : (l.length : Int) ≤ 140737488355328 := by omega
  go_enter Tryz.func158, Tryz.ntmps158
  go_wp2_with fail
  go_loopw [17] (fun i wr => ∃ (k : Nat) (s : List UInt8) (p : Bool), k ≤ l.length ∧ i = .int .i64 k ∧ Hid (Tk.run dict.size dict.data.toList false l = Tk.run dict.size s p (l.drop k)) ∧
      dict.size ≤ s.length ∧ s.length ≤ dict.size + 512 ∧ MkAt wr w.heap.size w.heap.size dict.size ((s.length : Int) - dict.size) p ∧ Below w.heap.size w wr)
    (fun i _ => l.length - (intOf i).toNat)
  case atStart =>
    refine ⟨0, dict.data.toList, false, by omega, rfl, rfl, ?_, ?_, ?_, (Below.refl _ _).alloc (Nat.le_refl _) _⟩
    · simp
    · simp
    · have e : ((dict.data.toList.length : Int) - dict.size) = 0 := by simp
      rw [e]
      exact ⟨Nat.le_refl _, by simp, by rw [World.cell?_alloc_mark]; rfl, by rw [World.cell?_alloc_mark]; rfl, by rw [World.cell?_alloc_mark]; rfl, by rw [World.frozen?_alloc_mark]; simp, by rw [World.frozen?_alloc_mark]; simp⟩
  case round =>
    obtain ⟨k, s, p, hk, rfl, hrun, hs1, hs2, hm, G⟩ := hrel
    by_cases hlt : k < l.length
    · have hdrop : l.drop k = l[k] :: l.drop (k + 1) := List.drop_eq_getElem_cons hlt
      have hef := err_fits dict.size s p l[k] _ rfl
      obtain ⟨c0, c1, c2⟩ := hl k hlt
      have hlit := hs.2 l[k] (List.getElem_mem hlt)
      rw [← G.cell (by exact hb)] at c0 c1 c2
      generalize l[k] = t at *
      have Hm : Hid (MkAt wr w.heap.size w.heap.size dict.size ((s.length : Int) - dict.size) p) := hm
      have hM0 : 0 ≤ (s.length : Int) - dict.size := by omega
      have hM1 : (s.length : Int) - dict.size ≤ 512 := by omega
      have hD0 : (0 : Int) ≤ (dict.size : Int) := by omega
      have HE : Hid (Tk.err dict.size s p t = if fits dict.size ((s.length : Int) - dict.size) p t.lit t.far t.len = false then 1 else if 512 < (s.length : Int) - dict.size + t.lit.size + t.len then 2 else 0) := hef
      have HR : Hid (Tk.run dict.size dict.data.toList false l = Tk.run dict.size s p (t :: l.drop (k + 1))) := by
        show _ = _
        rw [hrun.out, hdrop]
      have hgs := G.size
      have hgs2 := hm.2.1
      clear hm hef hdrop hrun hl hs
      cases hF : fits dict.size ((s.length : Int) - dict.size) p t.lit t.far t.len with
      | false =>
        have HX : Hid ((Tk.run dict.size dict.data.toList false l).1 = 1) := by
          have he : Tk.err dict.size s p t = 1 := by rw [HE.out, if_pos hF]
          show _ = _
          rw [HR.out, Tk.run_bad (by omega), he]
        go_wp2_with fail
        refine (add_form w.heap.size w.heap.size dict.size ((s.length : Int) - dict.size) p t.lit t.far t.len _ (Hm.out.alloc _) hD0 h' hM0 hM1 hF).mono ?_
        rintro e w1 ⟨rfl, hb1⟩
        go_wp2_with fail
        go_ret
        exact ⟨by rw [HX.out]; rfl, bch (G.alloc hgs _) hb1 (Nat.le_refl _)⟩
      | true =>
        have hln := fits_len hF
        by_cases hbig : 512 < (s.length : Int) - dict.size + t.lit.size + t.len
        · have HX : Hid ((Tk.run dict.size dict.data.toList false l).1 = 2) := by
            have he : Tk.err dict.size s p t = 2 := by rw [HE.out, if_neg (by rw [hF]; simp), if_pos hbig]
            show _ = _
            rw [HR.out, Tk.run_bad (by omega), he]
          go_wp2_with fail
          refine (add_many w.heap.size w.heap.size dict.size ((s.length : Int) - dict.size) p t.lit t.far t.len _ (Hm.out.alloc _) hD0 h' hM0 hM1 hlit hln hF hbig).mono ?_
          rintro e w1 ⟨rfl, hb1⟩
          go_wp2_with fail
          go_ret
          exact ⟨by rw [HX.out]; rfl, bch (G.alloc hgs _) hb1 (Nat.le_refl _)⟩
        · have he : Tk.err dict.size s p t = 0 := by rw [HE.out, if_neg (by rw [hF]; simp), if_neg hbig]
          have hmk := Tk.make_ok he
          have HX : Hid (Tk.run dict.size dict.data.toList false l = Tk.run dict.size (Tk.make s t) (decide (t.lit.size ≠ 0)) (l.drop (k + 1))) := by
            show _ = _
            rw [HR.out, Tk.run_good he]
          have HK : Hid ((Tk.make s t).length = s.length + t.lit.size + t.len.toNat) := hmk.1
          have HD : Hid ((!t.lit.toList.isEmpty) = decide (t.lit.size ≠ 0)) := by
            show _ = _
            by_cases h0 : t.lit.size = 0
            · rw [empty_of h0]; simp [h0]
            · rw [empty_not h0]; simp [h0]
          clear he hmk
          go_wp2_with fail
          refine (add_ok w.heap.size w.heap.size dict.size ((s.length : Int) - dict.size) p t.lit t.far t.len _ (Hm.out.alloc _) hD0 h' hM0 hM1 hln hF (by omega)).mono ?_
          rintro e w1 ⟨rfl, hb1, hm1, _⟩
          have HM1 : Hid (MkAt w1 w.heap.size w.heap.size dict.size ((s.length : Int) - dict.size + t.lit.size + t.len) (!t.lit.toList.isEmpty)) := hm1
          clear hm1
          go_wp2_with fail
          go_roundw
          case rel =>
            have hk1 := HK.out
            refine ⟨k + 1, Tk.make s t, decide (t.lit.size ≠ 0), by omega, by go_num, HX, by omega, by omega, ?_, (G.alloc hgs _).trans hb1⟩
            rw [← HD.out, show ((Tk.make s t).length : Int) - dict.size = (s.length : Int) - dict.size + t.lit.size + t.len by omega]
            exact HM1.out
          case measure => simp [intOf]; omega
    · have HX : Hid ((Tk.run dict.size dict.data.toList false l).1 = 0) := by
        show _ = _
        rw [hrun.out, List.drop_eq_nil_of_le (by omega)]
        rfl
      clear hm hrun hl hs
      go_wp2_with fail
      go_ret
      exact ⟨by rw [HX.out]; rfl, G⟩
theorem check_any (dict : ByteArray) (ad : Option Addr) (cap : Nat) (l : List Tk.T) (w : World) (hl : SlAt w ad l) (hs : Sane l) :
    Calls Tryz.prog 158 #[.string dict, .slice ad l.length cap] w fun e w' => e = .returned (.int .i64 (checkOf dict l)) ∧ Below w.heap.size w w' := by
  unfold checkOf
  by_cases hd : 256 < dict.size
  · rw [if_pos hd]
    exact check_many dict ad _ cap w hd
  · rw [if_neg hd]
    rcases hl with rfl | ⟨b, off, rfl, hb, ht⟩
    · exact check_nil dict ad cap w (by omega)
    · exact check_some dict b off cap l w (by omega) hb ht hs
end Go.Proofs.YtbjbjbpgmojcbabGreat
namespace Go.Proofs.YtbjbjbpgmojcbabGreat
open Go.RowKit
theorem App.box {wr w3 : World} {B : Nat} {v v' : Value} {l' : List UInt8} {x y z : Value} {T : TypeId} (hA : App (wr.alloc (.cells #[x, y, z] T)) w3 B v v' l') (hne : ∀ g, v.ownBlock = some g → g < wr.heap.size) :
    w3.cell? ⟨wr.heap.size, 0, none⟩ = some x ∧ w3.cell? ⟨wr.heap.size, 1, none⟩ = some y ∧ w3.cell? ⟨wr.heap.size, 2, none⟩ = some z := by
  have h1 : wr.heap.size < (wr.alloc (.cells #[x, y, z] T)).heap.size := by simp
  have h2 : some wr.heap.size ≠ v.ownBlock := fun e => Nat.lt_irrefl _ (hne _ e.symm)
  refine ⟨(hA.cell h1 h2).trans ?_, (hA.cell h1 h2).trans ?_, (hA.cell h1 h2).trans ?_⟩ <;> (rw [World.cell?_alloc_mark]; rfl)
set_option maxHeartbeats 1000000 in
theorem play_bad (dict : ByteArray) (ad : Option Addr) (cap : Nat) (l : List Tk.T) (w : World) (hl : SlAt w ad l) (hs : Sane l) (e0 : Int) (he : checkOf dict l = e0) (hne : (e0 != 0) = true) :
    Calls Tryz.prog 188 #[.string dict, .slice ad l.length cap] w fun e w' => e = .returned (.tuple #[.string ⟨#[]⟩, .int .i64 e0]) ∧ Below w.heap.size w w' := by
  have hc := fun w hl => check_any dict ad cap l w hl hs
  rw [he] at hc
  clear he
  go_enter Tryz.func188, Tryz.ntmps188
  go_wp2_with fail
  refine (hc _ hl).mono ?_
  rintro e w1 ⟨rfl, G⟩
  clear hc
  go_wp2_with fail
  go_ret2
  exact ⟨rfl, G⟩
set_option maxHeartbeats 1000000 in
theorem play_ok (dict : ByteArray) (b off cap : Nat) (l : List Tk.T) (w : World) (hb : b < w.heap.size) (hl : TkAt w b off l) (hs : Sane l) (hd : dict.size ≤ 256) (s1 : List UInt8) (hr : Tk.run dict.size dict.data.toList false l = (0, s1)) :
    Calls Tryz.prog 188 #[.string dict, .slice (some ⟨b, off, none⟩) l.length cap] w fun e w' => e = .returned (.tuple #[.string ⟨(s1.drop dict.size).toArray⟩, .int .i64 0]) ∧ Below w.heap.size w w' := by
  have hc := check_some dict b off cap l w hd hb hl hs
  rw [hr] at hc
  have hd' : (dict.size : Int) ≤ 256 := by omega
  have hn' : (l.length : Int) ≤ 140737488355328 := by have := hs.1; omega
  go_enter Tryz.func188, Tryz.ntmps188
  go_wp2_with fail
  refine hc.mono ?_
  rintro e w1 ⟨rfl, G⟩
  clear hc
  obtain ⟨v, w2, hcv, ho, G2, hv, hvg⟩ := Own8.of_string w1 dict (by omega) w.heap.size G.size
  obtain ⟨g, cp, rfl, hg1, hg2, hg3, hg4, _⟩ := ho.form hv
  have G3 := bch G G2 (Nat.le_refl _)
  have Hr : Hid (Tk.run dict.size dict.data.toList false l = (0, s1)) := hr
  clear hr
  go_wp2_with fail
  clear hcv hv hvg
  go_loopw [7, 20] (fun x i wr => ∃ (k g cp : Nat) (s : List UInt8) (p : Bool), k ≤ l.length ∧ i = .int .i64 k ∧ x = .slice (some ⟨g, 0, none⟩) s.length cp ∧ Own8 wr w.heap.size (.slice (some ⟨g, 0, none⟩) s.length cp) s ∧
      Hid (Tk.run dict.size s p (l.drop k) = (0, s1)) ∧ dict.size ≤ s.length ∧ s.length ≤ dict.size + 512 ∧ Below w.heap.size w wr)
    (fun _ i _ => l.length - (intOf i).toNat)
  case atStart =>
    exact ⟨0, g, cp, dict.data.toList, false, by omega, rfl, by simp, by simpa using ho, Hr, by simp, by simp, G3⟩
  case round =>
    clear ho hg1 hg2 hg3 hg4 G G2 G3
    obtain ⟨k, g', cp', s, p, hk, rfl, rfl, ho, hrun, hs1, hs2, G⟩ := hrel
    by_cases hlt : k < l.length
    · have hdrop : l.drop k = l[k] :: l.drop (k + 1) := List.drop_eq_getElem_cons hlt
      obtain ⟨c0, c1, c2⟩ := hl k hlt
      rw [← G.cell (by exact hb)] at c0 c1 c2
      rw [hdrop] at hrun
      clear hdrop hl hs
      generalize l[k] = t at *
      have he : Tk.err dict.size s p t = 0 := by
        by_cases h : Tk.err dict.size s p t = 0
        · exact h
        · have := hrun.out
          rw [Tk.run_bad h] at this
          simp only [Prod.mk.injEq] at this
          exact absurd this.1 h
      have HR : Hid (Tk.run dict.size (Tk.make s t) (decide (t.lit.size ≠ 0)) (l.drop (k + 1)) = (0, s1)) := by
        have := hrun.out
        rw [Tk.run_good he] at this
        exact this
      have hmk := Tk.make_ok he
      have hgs := G.size
      have HO : Hid (Own8 wr w.heap.size (.slice (some ⟨g', 0, none⟩) s.length cp') s) := ho
      clear ho he hrun
      go_wp2_with (at_builtin; refine wp_append8s _ rfl _ _ rfl w.heap.size (.slice (some ⟨g', 0, none⟩) s.length cp') s rfl (HO.out.alloc _) t.lit rfl (by omega) (sz_alloc _ hgs) ?_; intro v1 w3 hA; obtain ⟨k0, k1, k2⟩ := hA.box (fun g hg => (HO.out.lt g hg).2))
      obtain ⟨wo, rfl⟩ : ∃ wo : World, wo = wr := ⟨_, rfl⟩
      have hown := hA.own
      have hnn := hA.some_ (by simp)
      obtain ⟨g1, cp1, rfl, hh1, hh2, hh3, hh4, _⟩ := hown.form hnn
      have hat := hA.at_ g1 rfl
      have hgo := HO.out.lt g' rfl
      have hne1 : g1 ≠ wo.heap.size := by
        rcases hat with h | h
        · simp [Value.ownBlock] at h; omega
        · simp at h; omega
      have G1 : Below w.heap.size w w3 := (G.alloc hgs _).trans hA.below
      have hsz1 : wo.heap.size < w3.heap.size := by
        have := hA.below.size
        simp at this
        omega
      have hlen0 : (s ++ t.lit.data.toList).length = s.length + t.lit.size := by simp
      have HK : Hid (Tk.make s t = Tk.copy t.far.toNat t.len.toNat (s ++ t.lit.data.toList)) := by
        show _ = _
        unfold Tk.make
        by_cases h0 : t.lit.size = 0
        · have : t.lit.data.toList = [] := List.eq_nil_of_length_eq_zero (by simpa using h0)
          rw [if_neg (by omega), this, List.append_nil]
        · rw [if_pos h0, (hmk.2.2.2.1 h0).2]
          rfl
      have hmk1 := hmk.1
      have hmk2 := hmk.2.1
      have hl00 : 0 ≤ t.len := hmk.2.1
      have hmk5 := hmk.2.2.2.2
      have HF : Hid (0 < t.len → 1 ≤ t.far ∧ t.far ≤ s.length ∧ t.lit.size = 0 ∧ t.len ≤ 64) := by
        intro hp
        by_cases h0 : t.lit.size = 0
        · have := hmk.2.2.1 h0
          omega
        · have := hmk.2.2.2.1 h0
          omega
      clear hmk hA hnn hat k0 c0 c1 c2
      generalize hS : s ++ t.lit.data.toList = S at *
      clear hS
      have hl64 : t.len ≤ 64 ∨ t.len ≤ 0 := by
        by_cases hp : 0 < t.len
        · left; exact (HF.out hp).2.2.2
        · right; omega
      have hl65 : t.len ≤ 64 := by omega
      have HL0 : Hid (S.length = s.length + t.lit.size) := hlen0
      have HM1 : Hid ((Tk.make s t).length = s.length + t.lit.size + t.len.toNat) := hmk1
      clear hl64 hmk2 hlen0 hmk1
      go_loopw [7, 30] (fun x i wi => ∃ (j g cp : Nat), (j : Int) ≤ t.len ∧ i = .int .i64 j ∧ x = .slice (some ⟨g, 0, none⟩) (Tk.copy t.far.toNat j S).length cp ∧ Own8 wi w.heap.size (.slice (some ⟨g, 0, none⟩) (Tk.copy t.far.toNat j S).length cp) (Tk.copy t.far.toNat j S) ∧
          g ≠ wo.heap.size ∧ wo.heap.size < wi.heap.size ∧ wi.cell? ⟨wo.heap.size, 1, none⟩ = some (.int .i64 t.far) ∧ Below w.heap.size w wi)
        (fun _ i _ => 64 - (intOf i).toNat)
      case atStart => exact ⟨0, g1, cp1, by omega, rfl, rfl, hown, hne1, hsz1, k1, G1⟩
      case round =>
        clear hown hne1 hsz1 k1 G1 hh1 hh2 hh3 hh4 k2 G hgo
        obtain ⟨j, g2, cp2, hj, rfl, rfl, hown, hne2, hsz2, k1, G⟩ := hrel
        by_cases hjl : (j : Int) < t.len
        · obtain ⟨f1, f2, f3, f4⟩ := HF.out (by omega)
          have hlen0 := HL0.out
          obtain ⟨F, hF⟩ := Int.eq_ofNat_of_zero_le (a := t.far) (by omega)
          have hcl := Tk.copy_length t.far.toNat j S
          have hcs := Tk.copy_succ t.far.toNat j S
          generalize hfn : t.far.toNat = fn at *
          generalize Tk.copy fn j S = X at *
          obtain ⟨ga, ca, hq, _, q2, _, _, q5⟩ := hown.form (by simp)
          simp only [Value.slice.injEq, Option.some.injEq, Addr.mk.injEq, and_true, true_and] at hq
          obtain ⟨rfl, rfl⟩ := hq
          have hfF : fn = F := by omega
          subst hfF
          rw [hF] at k1
          have HFF : Hid (t.far = (fn : Int)) := hF
          have hXl : fn ≤ X.length := by omega
          have hix : X.length - fn < X.length := by omega
          obtain ⟨bt, hbt⟩ : ∃ bt, X[X.length - fn]? = some bt := ⟨_, List.getElem?_eq_getElem hix⟩
          have hld := q5 _ _ hbt
          have HX1 : Hid (Tk.copy fn (j + 1) S = X ++ [bt]) := by
            show _ = _
            rw [hcs]
            simp [List.getD, hbt]
          have HO2 : Hid (Own8 wr w.heap.size (.slice (some ⟨g2, 0, none⟩) X.length cp2) X) := hown
          have hi1 : (0 : Int) ≤ (X.length : Int) - (fn : Int) := by omega
          have hi2 : (X.length : Int) - (fn : Int) < (X.length : Int) := by omega
          have hXb : (X.length : Int) ≤ 1000 := by omega
          have hgs2 := G.size
          have HCL : Hid (X.length = S.length + j) := hcl
          clear hown hcs q5 hbt hfn HF hF hcl f3 f1 f2 f4 hlen0
          go_wp2_with (at_builtin; refine wp_append8 _ rfl _ _ rfl w.heap.size (.slice (some ⟨g2, 0, none⟩) X.length cp2) X rfl (HO2.out.alloc _) bt wr.heap.size 1 rfl (by rw [World.cell?_alloc_mark]; rfl) (by omega) (sz_alloc _ hgs2) ?_; intro v4 w4 hA4)
          go_roundw
          case rel =>
            obtain ⟨g3, cp3, rfl, r1, r2, r3, r4, _⟩ := hA4.own.form (hA4.some_ (by simp))
            have hat := hA4.at_ g3 rfl
            have hsz4 := hA4.below.size
            simp at hsz4
            refine ⟨j + 1, g3, cp3, by omega, by go_num, by rw [HX1.out], by rw [HX1.out]; exact hA4.own, ?_, by omega, ?_, (G.alloc hgs2 _).trans hA4.below⟩
            · rcases hat with h | h
              · have : g2 = g3 := by simpa [Value.ownBlock] using h
                omega
              · simp at h; omega
            · rw [hA4.cell (by simp; omega) (by simp [Value.ownBlock]; omega), HFF.out, ← k1]
              exact (Below.refl _ _ |>.alloc (Nat.le_refl _) _).cell (by exact hsz2)
          case measure => simp [intOf]; omega
        · have hjt : j = t.len.toNat := by omega
          subst hjt
          have HK2 := HK.out
          rw [← HK2] at hown
          clear HK2 k1
          go_wp2_with fail
          go_roundw
          case rel =>
            have h9 := HM1.out
            refine ⟨k + 1, g2, cp2, Tk.make s t, _, by omega, by go_num, by rw [HK.out], hown, HR, by omega, by omega, G⟩
          case measure => simp [intOf]; omega
    · have hs1' : s = s1 := by
        have := hrun.out
        rw [List.drop_eq_nil_of_le (by omega)] at this
        simpa [Tk.run] using this
      subst hs1'
      obtain ⟨ga, ca, hq, _, q2, q3, q4, q5⟩ := ho.form (by simp)
      simp only [Value.slice.injEq, Option.some.injEq, Addr.mk.injEq, and_true, true_and] at hq
      obtain ⟨rfl, rfl⟩ := hq
      have hcv := fun c => Own8.conv q5 dict.size c
      have hi1 : (dict.size : Int) ≤ (s.length : Int) := by omega
      have hi2 : (s.length : Int) ≤ (cp' : Int) := by omega
      have hi3 : (s.length : Int) ≤ 1000 := by omega
      have hi4 : (cp' : Int) ≤ 9223372036854775807 := by unfold maxLen at q4; omega
      have hd1 : decide ((k : Int) < (l.length : Int)) = false := by simp; omega
      have hd2 : decide (k < l.length) = false := by simp; omega
      by_cases hcd : cp' = dict.size
      · have hsl : s.length = dict.size := by omega
        have hcv0 : ∀ c, (convert 93 9 (.slice (some ⟨g', 0, none⟩) 0 c)).run Tryz.prog wr = .ok (.string ⟨#[]⟩) wr := fun c =>
          Own8.conv (w := wr) (l := []) (g := g') (fun j b hj => by simp at hj) 0 c
        have HS : Hid (s.drop dict.size = []) := List.drop_eq_nil_of_le (by omega)
        subst hcd
        clear hrun q5 hl hs ho hcv
        go_wp2_with fail
        go_ret2
        exact ⟨by rw [HS.out]; rfl, G⟩
      · clear hrun q5 hl hs ho
        go_wp2_with fail
        go_ret2
        exact ⟨rfl, G⟩
set_option maxHeartbeats 1000000 in
theorem play_nil (dict : ByteArray) (ad : Option Addr) (cap : Nat) (w : World) (hd : dict.size ≤ 256) :
    Calls Tryz.prog 188 #[.string dict, .slice ad 0 cap] w fun e w' => e = .returned (.tuple #[.string ⟨#[]⟩, .int .i64 0]) ∧ Below w.heap.size w w' := by
  have hc := check_nil dict ad cap w hd
  have hd' : (dict.size : Int) ≤ 256 := by omega
  go_enter Tryz.func188, Tryz.ntmps188
  go_wp2_with fail
  refine hc.mono ?_
  rintro e w1 ⟨rfl, G⟩
  clear hc
  obtain ⟨v, w2, hcv, ho, G2, hv, hvg⟩ := Own8.of_string w1 dict (by omega) w.heap.size G.size
  obtain ⟨g, cp, rfl, hg1, hg2, hg3, hg4, q5⟩ := ho.form hv
  have G3 := bch G G2 (Nat.le_refl _)
  have hlen : dict.data.toList.length = dict.size := by simp
  rw [hlen] at hcv hg3
  have hcv1 := fun c => Own8.conv q5 dict.size c
  rw [hlen, Nat.sub_self, List.drop_eq_nil_of_le (by omega)] at hcv1
  have hcv0 : ∀ c, (convert 93 9 (.slice (some ⟨g, 0, none⟩) 0 c)).run Tryz.prog w2 = .ok (.string ⟨#[]⟩) w2 := fun c =>
    Own8.conv (w := w2) (l := []) (g := g) (fun j b hj => by simp at hj) 0 c
  have hi2 : (dict.size : Int) ≤ (cp : Int) := by omega
  have hi4 : (cp : Int) ≤ 9223372036854775807 := by unfold maxLen at hg4; omega
  clear q5 hv hvg ho hlen
  by_cases hcd : cp = dict.size
  · subst hcd
    go_wp2_with fail
    refine wp_loop_rounds 1 ?_
    rw [rounds_succ]
    go_wp2_with fail
    go_ret2
    exact ⟨rfl, G3⟩
  · go_wp2_with fail
    refine wp_loop_rounds 1 ?_
    rw [rounds_succ]
    go_wp2_with fail
    go_ret2
    exact ⟨rfl, G3⟩
def playOf (dict : ByteArray) (l : List Tk.T) : ByteArray := if checkOf dict l ≠ 0 then ⟨#[]⟩ else ⟨((Tk.run dict.size dict.data.toList false l).2.drop dict.size).toArray⟩
theorem play_any (dict : ByteArray) (ad : Option Addr) (cap : Nat) (l : List Tk.T) (w : World) (hl : SlAt w ad l) (hs : Sane l) :
    Calls Tryz.prog 188 #[.string dict, .slice ad l.length cap] w fun e w' => e = .returned (.tuple #[.string (playOf dict l), .int .i64 (checkOf dict l)]) ∧ Below w.heap.size w w' := by
  unfold playOf
  by_cases h0 : checkOf dict l = 0
  · rw [if_neg (by simpa using h0), h0]
    have hd : dict.size ≤ 256 := by
      unfold checkOf at h0
      by_cases h : 256 < dict.size
      · rw [if_pos h] at h0; omega
      · omega
    have h1 : (Tk.run dict.size dict.data.toList false l).1 = 0 := by
      unfold checkOf at h0
      rwa [if_neg (by omega)] at h0
    rcases hl with rfl | ⟨b, off, rfl, hb, ht⟩
    · have e : (Tk.run dict.size dict.data.toList false []).2.drop dict.size = [] := List.drop_eq_nil_of_le (by simp [Tk.run])
      rw [e]
      exact play_nil dict ad cap w hd
    · exact play_ok dict b off cap l w hb ht hs hd _ (by rw [← h1])
  · rw [if_pos h0]
    exact play_bad dict ad cap l w hl hs _ rfl (by simpa using h0)
end Go.Proofs.YtbjbjbpgmojcbabGreat
namespace Go.Proofs.YtbjbjbpgmojcbabGreat
open Go.RowKit
theorem size_list (S : ByteArray) : S.data.toList.length = S.size := by simp
end Go.Proofs.YtbjbjbpgmojcbabGreat
namespace Go.Proofs.YtbjbjbpgmojcbabGreat
open Go.RowKit
theorem w64 {x : Int} (h0 : -9223372036854775808 ≤ x) (h1 : x ≤ 9223372036854775807) : wrap64 x = x := by
  unfold wrap64
  omega
theorem add_wt {s x : Int} (hs : 0 ≤ s ∧ s ≤ 262144) (h0 : 0 < x) (h1 : x ≤ 15) : wrap64 (s + wrap64 (2 ^ (15 - x).toNat)) = s + Cd.wt x := by
  have h := Cd.wt_b (x := x) (by omega) h1
  rw [← Cd.wt_pos h0, w64 (x := Cd.wt x) (by omega) (by omega), w64 (by omega) (by omega)]
set_option maxRecDepth 4000 in
set_option maxHeartbeats 400000 in
theorem codeCheck_any (f : Nat → Int) (w : World) :
    Calls Tryz.prog 181 #[.agg (arr f)] w fun e w' => e = .returned (.int .i64 (Cd.chk f)) ∧ Below w.heap.size w w' := by
  have hat := arr_at f
  have hin := arr_infoc f
  have hix := run_ix f
  have hbel : ∀ o, Below w.heap.size w (w.alloc o) := fun o => (Below.refl _ _).alloc (Nat.le_refl _) o
  generalize hE : Cd.chk f = E at *
  have HE : Hid (Cd.chk f = E) := hE
  clear hE
  generalize arr f = c at *
  go_enter Tryz.func181, Tryz.ntmps181
  go_wp2_with (refine wpList_load_row rfl 127 _ rfl w.heap.size rfl 127 c (0, 0) _ (heap_alloc_last w _) Tryz.underlying127 rfl hin ?_)
  go_loop [3, 7] (fun s i => ∃ k : Nat, k ≤ 16 ∧ i = .int .i64 k ∧ s = .int .i64 (Cd.sm f k) ∧ Hid (Cd.InR f 15 k)) (fun _ i => 16 - (intOf i).toNat)
  case atStart => exact ⟨0, by omega, rfl, rfl, fun i h => by omega⟩
  case round =>
    obtain ⟨k, hk, rfl, rfl, hR⟩ := hrel
    have HS : Hid (0 ≤ Cd.sm f k ∧ Cd.sm f k ≤ 262144) := by have := Cd.sm_b k hR.out; show _ ∧ _; omega
    by_cases hlt : k < 16
    · have hi := hix k hlt
      have HX : Hid (Cd.sm f (k + 1) = Cd.sm f k + Cd.wt (f k)) := rfl
      have HB : Hid (f k < 0 ∨ 15 < f k → E = 3) := fun h => HE.out.symm.trans (Cd.chk_bad hlt h)
      have HN : Hid (0 ≤ f k → f k ≤ 15 → Cd.InR f 15 (k + 1)) := fun h1 h2 => hR.out.succ h1 h2
      clear hat hix hin
      generalize f k = x at *
      generalize Cd.sm f k = s at *
      have hk1 : decide ((k : Int) < 16) = true := by simp; omega
      have hk2 : decide (k < 16) = true := by simp; omega
      by_cases h1 : x < 0
      · have d1 : decide (x < 0) = true := by simp; omega
        have HE3 := HB.out (.inl h1)
        subst HE3
        go_wp2_with fail
        go_ret
        exact ⟨rfl, hbel _⟩
      · have d1 : decide (x < 0) = false := by simp; omega
        by_cases h2 : 15 < x
        · have d2 : decide (15 < x) = true := by simp; omega
          have HE3 := HB.out (.inr h2)
          subst HE3
          go_wp2_with fail
          go_ret
          exact ⟨rfl, hbel _⟩
        · have d2 : decide (15 < x) = false := by simp; omega
          by_cases h3 : 0 < x
          · have d3 : decide (0 < x) = true := by simp; omega
            go_wp2_with fail
            refine ⟨⟨k + 1, by omega, by go_num, ?_, HN.out (by omega) (by omega)⟩, by simp [intOf]; omega⟩
            rw [HX.out, add_wt HS.out h3 (by omega)]
          · have d3 : decide (0 < x) = false := by simp; omega
            go_wp2_with fail
            refine ⟨⟨k + 1, by omega, by go_num, ?_, HN.out (by omega) (by omega)⟩, by simp [intOf]; omega⟩
            rw [HX.out, Cd.wt_zero (by omega)]
            simp
    · obtain rfl : k = 16 := by omega
      have HF : Hid (Cd.sm f 16 = 0 ∨ 32768 < Cd.sm f 16 → E = 1) := fun h => HE.out.symm.trans (Cd.chk_form hR.out h)
      have HO : Hid (¬ (Cd.sm f 16 = 0 ∨ 32768 < Cd.sm f 16) → E = 0) := fun h => HE.out.symm.trans (Cd.chk_ok hR.out h)
      clear hat hix hin
      generalize Cd.sm f 16 = s at *
      by_cases h1 : s = 0
      · have := HF.out (.inl h1)
        subst h1 this
        go_wp2_with fail
        go_ret
        exact ⟨rfl, hbel _⟩
      · have d1 : (s == 0) = false := by simpa using h1
        by_cases h2 : 32768 < s
        · have d2 : decide (32768 < s) = true := by simp; omega
          have := HF.out (.inr h2)
          subst this
          go_wp2_with fail
          go_ret
          exact ⟨rfl, hbel _⟩
        · have d2 : decide (32768 < s) = false := by simp; omega
          have := HO.out (by omega)
          subst this
          go_wp2_with fail
          go_ret
          exact ⟨rfl, hbel _⟩
set_option maxRecDepth 4000 in
set_option maxHeartbeats 400000 in
theorem countable_any (f : Nat → Int) (w : World) :
    Calls Tryz.prog 179 #[.agg (arr f)] w fun e w' => e = .returned (.bool (decide (Cd.InR f 2048 16))) ∧ Below w.heap.size w w' := by
  have hin := arr_infoc f
  have hix := run_ix f
  have hbel : ∀ o, Below w.heap.size w (w.alloc o) := fun o => (Below.refl _ _).alloc (Nat.le_refl _) o
  generalize hE : decide (Cd.InR f 2048 16) = E at *
  have HE : Hid (decide (Cd.InR f 2048 16) = E) := hE
  clear hE
  generalize arr f = c at *
  go_enter Tryz.func179, Tryz.ntmps179
  go_wp2_with (refine wpList_load_row rfl 127 _ rfl w.heap.size rfl 127 c (0, 0) _ (heap_alloc_last w _) Tryz.underlying127 rfl hin ?_)
  go_loop [6] (fun i => ∃ k : Nat, k ≤ 16 ∧ i = .int .i64 k ∧ Hid (Cd.InR f 2048 k)) (fun i => 16 - (intOf i).toNat)
  case atStart => exact ⟨0, by omega, rfl, fun i h => by omega⟩
  case round =>
    obtain ⟨k, hk, rfl, hR⟩ := hrel
    by_cases hlt : k < 16
    · have hi := hix k hlt
      have HB : Hid (f k < 0 ∨ 2048 < f k → E = false) := fun h => HE.out.symm.trans (decide_eq_false (Cd.not_InR hlt h))
      have HN : Hid (0 ≤ f k → f k ≤ 2048 → Cd.InR f 2048 (k + 1)) := fun h1 h2 => hR.out.succ h1 h2
      clear hix hin
      generalize f k = x at *
      have hk1 : decide ((k : Int) < 16) = true := by simp; omega
      have hk2 : decide (k < 16) = true := by simp; omega
      by_cases h1 : x < 0
      · have d1 : decide (x < 0) = true := by simp; omega
        have HE3 := HB.out (.inl h1)
        subst HE3
        go_wp2_with fail
        go_ret
        exact ⟨rfl, hbel _⟩
      · have d1 : decide (x < 0) = false := by simp; omega
        by_cases h2 : 2048 < x
        · have d2 : decide (2048 < x) = true := by simp; omega
          have HE3 := HB.out (.inr h2)
          subst HE3
          go_wp2_with fail
          go_ret
          exact ⟨rfl, hbel _⟩
        · have d2 : decide (2048 < x) = false := by simp; omega
          go_wp2_with fail
          exact ⟨⟨k + 1, by omega, by go_num, HN.out (by omega) (by omega)⟩, by simp [intOf]; omega⟩
    · obtain rfl : k = 16 := by omega
      have := HE.out.symm.trans (decide_eq_true hR.out)
      subst this
      clear hix hin
      go_wp2_with fail
      go_ret
      exact ⟨rfl, hbel _⟩
end Go.Proofs.YtbjbjbpgmojcbabGreat
namespace Go.Proofs.YtbjbjbpgmojcbabGreat
open Go.RowKit
theorem cost_none {f c : Nat → Int} (h : Cd.chk f = 0) (h1 : Cd.InR c 2048 16) (h2 : Cd.cst f c 16 = none) : Cd.cost f c = (0, 5) := by rw [Cd.cost, if_neg (by simpa using h), if_neg (by simpa using h1), h2]
def RowAt (w : World) (g : Nat) (f : Nat → Int) : Prop := g < w.heap.size ∧ w.heap[g]? = some (.cells (arr f) 127 (0, 0))
theorem RowAt.below {g : Nat} {w w' : World} {f : Nat → Int} (h : RowAt w g f) (hb : Below w.heap.size w w') : RowAt w' g f := ⟨Nat.lt_of_lt_of_le h.1 hb.size, by rw [hb.block g h.1]; exact h.2⟩
theorem RowAt.cell {g : Nat} {w : World} {f : Nat → Int} (h : RowAt w g f) (k : Nat) (hk : k < 16) : w.cell? ⟨g, k, none⟩ = some (.int .i64 (f k)) := by rw [cell_of_row w g k _ _ _ h.2, arr_at f k hk]
theorem RowAt.new (w : World) (f : Nat → Int) : RowAt (w.alloc (.cells (arr f) 127)) w.heap.size f := ⟨by simp, heap_alloc_last w _⟩
theorem RowAt.alloc {g : Nat} {w : World} {f : Nat → Int} (h : RowAt w g f) (o : Obj) : RowAt (w.alloc o) g f := h.below ((Below.refl _ _).alloc (Nat.le_refl _) o)
theorem RowAt.two (w : World) (f c : Nat → Int) : RowAt ((w.alloc (.cells (arr f) 127)).alloc (.cells (arr c) 127)) w.heap.size f ∧ RowAt ((w.alloc (.cells (arr f) 127)).alloc (.cells (arr c) 127)) (w.heap.size + 1) c :=
  ⟨(RowAt.new w f).alloc _, by have := RowAt.new (w.alloc (.cells (arr f) 127)) c; simpa using this⟩
theorem below2 (w : World) (o p : Obj) : Below w.heap.size w ((w.alloc o).alloc p) := ((Below.refl _ _).alloc (Nat.le_refl _) o).alloc (by simp) p
end Go.Proofs.YtbjbjbpgmojcbabGreat
namespace Go.Proofs.YtbjbjbpgmojcbabGreat
open Go.RowKit
namespace Cd
def ltS (W : Nat → Int) (p : Int × Int) (k : Nat) : Int × Int :=
  if W k = 0 then p else if p.1 = -1 ∨ W k < W p.1.toNat then ((k : Int), p.1) else if p.2 = -1 ∨ W k < W p.2.toNat then (p.1, (k : Int)) else p
def lt2 (W : Nat → Int) : Nat → Int × Int
  | 0 => (-1, -1)
  | k + 1 => ltS W (lt2 W k) k
def Sg (W : Nat → Int) (k : Nat) (a : Int) : Prop := a = -1 ∨ ∃ p : Nat, a = p ∧ p < k ∧ W p ≠ 0
theorem Sg.mono {W : Nat → Int} {k j : Nat} {a : Int} (h : Sg W k a) (hk : k ≤ j) : Sg W j a := by
  rcases h with h | ⟨p, h1, h2, h3⟩
  · exact .inl h
  · exact .inr ⟨p, h1, by omega, h3⟩
theorem lt2_sg (W : Nat → Int) : ∀ k, Sg W k (lt2 W k).1 ∧ Sg W k (lt2 W k).2 := by
  intro k
  induction k with
  | zero => exact ⟨.inl rfl, .inl rfl⟩
  | succ k ih =>
    have i1 := ih.1.mono (Nat.le_succ k)
    have i2 := ih.2.mono (Nat.le_succ k)
    rw [lt2, ltS]
    by_cases h0 : W k = 0
    · rw [if_pos h0]; exact ⟨i1, i2⟩
    · have hk : Sg W (k + 1) (k : Int) := .inr ⟨k, rfl, by omega, h0⟩
      rw [if_neg h0]
      split
      · exact ⟨hk, i1⟩
      · split
        · exact ⟨i1, hk⟩
        · exact ⟨i1, i2⟩
end Cd
set_option maxRecDepth 4000 in
set_option maxHeartbeats 1000000 in
theorem lightest_any (W : Nat → Int) (w : World) :
    Calls Tryz.prog 180 #[.agg (arr W)] w fun e w' => e = .returned (.tuple #[.int .i64 (Cd.lt2 W 16).1, .int .i64 (Cd.lt2 W 16).2]) ∧ Below w.heap.size w w' := by
  have hat := arr_at W
  have hin := arr_infoc W
  have hix := run_ix W
  have hbel : ∀ o, Below w.heap.size w (w.alloc o) := fun o => (Below.refl _ _).alloc (Nat.le_refl _) o
  generalize hE : Cd.lt2 W 16 = E at *
  have HE : Hid (Cd.lt2 W 16 = E) := hE
  clear hE
  go_enter Tryz.func180, Tryz.ntmps180
  go_wp2_with (refine wpList_load_row rfl 127 _ rfl w.heap.size rfl 127 (arr W) (0, 0) _ (heap_alloc_last w _) Tryz.underlying127 rfl hin ?_)
  go_loop [4, 5, 9] (fun a b i => ∃ (k : Nat) (A B : Int), k ≤ 16 ∧ i = .int .i64 k ∧ a = .int .i64 A ∧ b = .int .i64 B ∧ Hid (Cd.lt2 W k = (A, B))) (fun _ _ i => 16 - (intOf i).toNat)
  case atStart => exact ⟨0, -1, -1, by omega, rfl, rfl, rfl, rfl⟩
  case round =>
    obtain ⟨k, A, B, hk, rfl, rfl, rfl, hL⟩ := hrel
    by_cases hlt : k < 16
    · have hi := hix k hlt
      have hk1 : decide ((k : Int) < 16) = true := by simp; omega
      have hk2 : decide (k < 16) = true := by simp; omega
      have hk0 : (0 : Int) ≤ (k : Int) := by omega
      have HN : Hid (Cd.lt2 W (k + 1) = Cd.ltS W (A, B) k) := by show _ = _; rw [Cd.lt2, hL.out]
      have SA : Hid (Cd.Sg W k A ∧ Cd.Sg W k B) := by have := Cd.lt2_sg W k; rw [hL.out] at this; exact this
      by_cases h0 : W k = 0
      · have HN' : Hid (Cd.lt2 W (k + 1) = (A, B)) := by show _ = _; rw [HN.out, Cd.ltS, if_pos h0]
        rw [h0] at hi
        clear hix h0 hat hin
        go_wp2_with fail
        exact ⟨⟨k + 1, A, B, by omega, by go_num, rfl, rfl, HN'⟩, by simp [intOf]; omega⟩
      · have d0 : (W k == 0) = false := by simpa using h0
        by_cases hA : A = -1
        · have HN' : Hid (Cd.lt2 W (k + 1) = ((k : Int), -1)) := by show _ = _; rw [HN.out, Cd.ltS, if_neg h0, if_pos (.inl hA), hA]
          subst hA
          generalize W k = y at *
          clear hix h0 hat hin
          go_wp2_with fail
          exact ⟨⟨k + 1, _, _, by omega, by go_num, rfl, rfl, HN'⟩, by simp [intOf]; omega⟩
        · obtain ⟨p, rfl, hp, _⟩ := SA.out.1.resolve_left hA
          have dA : ((p : Int) == -1) = false := by simp
          have hcp := hat p (by omega)
          have hp1 : (p : Int) < 16 := by omega
          by_cases hx : W k < W p
          · have HN' : Hid (Cd.lt2 W (k + 1) = ((k : Int), (p : Int))) := by show _ = _; rw [HN.out, Cd.ltS, if_neg h0, if_pos (.inr hx)]
            have dx : decide (W k < W p) = true := by simpa using hx
            generalize W k = y at *
            generalize W p = z at *
            clear hix h0 hat hin hA hx
            go_wp2_with fail
            exact ⟨⟨k + 1, _, _, by omega, by go_num, rfl, rfl, HN'⟩, by simp [intOf]; omega⟩
          · have dx : decide (W k < W p) = false := by simpa using hx
            have hnot : ¬ ((p : Int) = -1 ∨ W k < W (p : Int).toNat) := fun h => h.elim hA hx
            by_cases hB : B = -1
            · have HN' : Hid (Cd.lt2 W (k + 1) = ((p : Int), (k : Int))) := by show _ = _; rw [HN.out, Cd.ltS, if_neg h0, if_neg hnot, if_pos (.inl hB)]
              subst hB
              generalize W k = y at *
              generalize W p = z at *
              clear hix h0 hat hin hA hx hnot
              go_wp2_with fail
              exact ⟨⟨k + 1, _, _, by omega, by go_num, rfl, rfl, HN'⟩, by simp [intOf]; omega⟩
            · obtain ⟨q, rfl, hq, _⟩ := SA.out.2.resolve_left hB
              have dB : ((q : Int) == -1) = false := by simp
              have hcq := hat q (by omega)
              have hq1 : (q : Int) < 16 := by omega
              by_cases hy : W k < W q
              · have HN' : Hid (Cd.lt2 W (k + 1) = ((p : Int), (k : Int))) := by show _ = _; rw [HN.out, Cd.ltS, if_neg h0, if_neg hnot, if_pos (.inr hy)]
                have dy : decide (W k < W q) = true := by simpa using hy
                generalize W k = y at *
                generalize W p = z at *
                generalize W q = z2 at *
                clear hix h0 hat hin hA hx hB hy hnot
                go_wp2_with fail
                exact ⟨⟨k + 1, _, _, by omega, by go_num, rfl, rfl, HN'⟩, by simp [intOf]; omega⟩
              · have HN' : Hid (Cd.lt2 W (k + 1) = ((p : Int), (q : Int))) := by show _ = _; rw [HN.out, Cd.ltS, if_neg h0, if_neg hnot, if_neg (fun h => h.elim hB hy)]
                have dy : decide (W k < W q) = false := by simpa using hy
                generalize W k = y at *
                generalize W p = z at *
                generalize W q = z2 at *
                clear hix h0 hat hin hA hx hB hy hnot
                go_wp2_with fail
                exact ⟨⟨k + 1, _, _, by omega, by go_num, rfl, rfl, HN'⟩, by simp [intOf]; omega⟩
    · obtain rfl : k = 16 := by omega
      have h9 := HE.out.symm.trans hL.out
      subst h9
      clear hix hat hin
      go_wp2_with fail
      go_ret2
      exact ⟨rfl, hbel _⟩
end Go.Proofs.YtbjbjbpgmojcbabGreat
namespace Go.Proofs.YtbjbjbpgmojcbabGreat
open Go.RowKit
def upd (f : Nat → Int) (k : Nat) (v : Int) : Nat → Int := fun i => if i = k then v else f i
theorem upd_same (f : Nat → Int) (k : Nat) (v : Int) : upd f k v k = v := by simp [upd]
theorem upd_other (f : Nat → Int) {k i : Nat} (v : Int) (h : i ≠ k) : upd f k v i = f i := by simp [upd, h]
theorem arr_congr {f g : Nat → Int} (h : ∀ i, i < 16 → f i = g i) : arr f = arr g := by
  unfold arr
  congr 1
  apply List.map_congr_left
  intro i hi
  rw [h i (List.mem_range.1 hi)]
theorem arr_upd (f : Nat → Int) (k : Nat) (v : Int) : (arr f).setIfInBounds k (.int .i64 v) = arr (upd f k v) := by
  apply Array.ext_getElem?
  intro i
  rw [Array.getElem?_setIfInBounds, arr_size]
  by_cases hi : i < 16
  · rw [arr_at _ i hi, arr_at _ i hi]
    by_cases h : k = i
    · subst h
      simp [upd, hi]
    · have h' : ¬ i = k := fun e => h e.symm
      simp [upd, h, h']
  · have h1 : (arr f)[i]? = none := by rw [Array.getElem?_eq_none]; rw [arr_size]; omega
    have h2 : (arr (upd f k v))[i]? = none := by rw [Array.getElem?_eq_none]; rw [arr_size]; omega
    rw [h1, h2]
    split
    · rename_i h; subst h; simp [hi]
    · rfl
theorem arr_zero : (#[.int .i64 0, .int .i64 0, .int .i64 0, .int .i64 0, .int .i64 0, .int .i64 0, .int .i64 0, .int .i64 0, .int .i64 0, .int .i64 0, .int .i64 0, .int .i64 0, .int .i64 0, .int .i64 0, .int .i64 0, .int .i64 0] : Array Value) = arr (fun _ => 0) := rfl
theorem arr_one (f : Nat → Int) : (arr f).all (·.oneCell') = true := by
  rw [Array.all_eq_true_iff_forall_mem]
  intro v hv
  simp [arr] at hv
  obtain ⟨i, _, rfl⟩ := hv
  rfl
theorem RowAt.set {w : World} {g : Nat} {f : Nat → Int} (h : RowAt w g f) (k : Nat) (v : Int) : RowAt (w.setCell ⟨g, k, none⟩ (.int .i64 v)) g (upd f k v) := by
  refine ⟨by have := h.1; simpa [World.setCell] using this, ?_⟩
  show (w.heap.modify g _)[g]? = _
  rw [Array.getElem?_modify, if_pos rfl, h.2]
  simp only [Option.map_some, Option.isSome_none, Bool.false_eq_true, if_false]
  rw [arr_upd]
theorem RowAt.setFar {w : World} {g : Nat} {f : Nat → Int} (h : RowAt w g f) {q : Nat} (hq : q ≠ g) (k : Nat) (v : Value) : RowAt (w.setCell ⟨q, k, none⟩ v) g f := by
  refine ⟨by have := h.1; simpa [World.setCell] using this, ?_⟩
  show (w.heap.modify q _)[g]? = _
  rw [Array.getElem?_modify, if_neg hq, h.2]
theorem RowAt.setRow {w : World} {g : Nat} {f : Nat → Int} (h : RowAt w g f) (f' : Nat → Int) : RowAt (w.setRow g (arr f')) g f' := by
  refine ⟨by have := h.1; simpa [World.setRow] using this, ?_⟩
  show (w.heap.modify g _)[g]? = _
  rw [Array.getElem?_modify, if_pos rfl, h.2]
  rfl
theorem RowAt.setRowFar {w : World} {g : Nat} {f : Nat → Int} (h : RowAt w g f) {q : Nat} (hq : q ≠ g) (c : Array Value) : RowAt (w.setRow q c) g f := by
  refine ⟨by have := h.1; simpa [World.setRow] using this, ?_⟩
  show (w.heap.modify q _)[g]? = _
  rw [Array.getElem?_modify, if_neg hq, h.2]
theorem below_setRow {B : Nat} {a w : World} (h : Below B a w) {g : Nat} (hg : B ≤ g) (c : Array Value) : Below B a (w.setRow g c) := by
  refine ⟨h.os, h.tape, h.output, by have := h.size; simpa [World.setRow] using this, fun k hk => ?_⟩
  show (w.heap.modify g _)[k]? = _
  rw [Array.getElem?_modify, if_neg (by omega), h.block k hk]
theorem RowAt.frozen {w : World} {g : Nat} {f : Nat → Int} (h : RowAt w g f) (k : Nat) : w.frozen? ⟨g, k, none⟩ = false := by
  simp [World.frozen?, h.2]
theorem RowAt.congr {w : World} {g : Nat} {f f' : Nat → Int} (h : RowAt w g f) (hf : ∀ i, i < 16 → f i = f' i) : RowAt w g f' := ⟨h.1, by rw [h.2, arr_congr hf]⟩
namespace Cd
def rW (W : Nat → Int) (p q : Nat) : Nat → Int := upd (upd (upd W p 0) q 0) (min p q) (W p + W q)
def rT (T : Nat → Int) (p q : Nat) : Nat → Int := fun i => if T i = p ∨ T i = q then (min p q : Nat) else T i
def rL (T L : Nat → Int) (p q : Nat) : Nat → Int := fun i => if T i = p ∨ T i = q then L i + 1 else L i
def bldR : Nat → (Nat → Int) → (Nat → Int) → (Nat → Int) → (Nat → Int)
  | 0, _, _, L => L
  | n + 1, W, T, L => if (lt2 W 16).2 = -1 then L else bldR n (rW W (lt2 W 16).1.toNat (lt2 W 16).2.toNat) (rT T (lt2 W 16).1.toNat (lt2 W 16).2.toNat) (rL T L (lt2 W 16).1.toNat (lt2 W 16).2.toNat)
def bld (c : Nat → Int) : (Nat → Int) × Int :=
  if ¬ InR c 2048 16 then (fun _ => 0, 3) else if (lt2 c 16).1 = -1 then (fun _ => 0, 5) else if (lt2 c 16).2 = -1 then (upd (fun _ => 0) (lt2 c 16).1.toNat 1, 0) else (bldR 16 c (fun i => i) (fun _ => 0), 0)
def cnt (W : Nat → Int) : Nat → Nat
  | 0 => 0
  | k + 1 => cnt W k + (if W k = 0 then 0 else 1)
def tot (W : Nat → Int) : Nat → Int
  | 0 => 0
  | k + 1 => tot W k + W k
theorem cnt_far {W : Nat → Int} {p : Nat} {v : Int} : ∀ k, k ≤ p → cnt (upd W p v) k = cnt W k := by
  intro k
  induction k with
  | zero => intro _; rfl
  | succ k ih => intro h; rw [cnt, cnt, ih (by omega), upd_other _ _ (by omega)]
theorem tot_far {W : Nat → Int} {p : Nat} {v : Int} : ∀ k, k ≤ p → tot (upd W p v) k = tot W k := by
  intro k
  induction k with
  | zero => intro _; rfl
  | succ k ih => intro h; rw [tot, tot, ih (by omega), upd_other _ _ (by omega)]
theorem cnt_upd {W : Nat → Int} {p : Nat} {v : Int} : ∀ k, p < k → cnt (upd W p v) k + (if W p = 0 then 0 else 1) = cnt W k + (if v = 0 then 0 else 1) := by
  intro k
  induction k with
  | zero => intro h; omega
  | succ k ih =>
    intro h
    rw [cnt, cnt]
    by_cases hk : p = k
    · subst hk
      rw [cnt_far p (Nat.le_refl _), upd_same]
      omega
    · have := ih (by omega)
      rw [upd_other _ _ (by omega)]
      omega
theorem tot_upd {W : Nat → Int} {p : Nat} {v : Int} : ∀ k, p < k → tot (upd W p v) k + W p = tot W k + v := by
  intro k
  induction k with
  | zero => intro h; omega
  | succ k ih =>
    intro h
    rw [tot, tot]
    by_cases hk : p = k
    · subst hk
      rw [tot_far p (Nat.le_refl _), upd_same]
      omega
    · have := ih (by omega)
      rw [upd_other _ _ (by omega)]
      omega
theorem tot_ge {W : Nat → Int} : ∀ k, (∀ i, i < k → 0 ≤ W i) → 0 ≤ tot W k := by
  intro k
  induction k with
  | zero => intro _; exact Int.le_refl _
  | succ k ih => intro h; rw [tot]; have := h k (by omega); have := ih (fun i hi => h i (by omega)); omega
theorem tot_two {W : Nat → Int} {p q : Nat} (h : ∀ i, i < 16 → 0 ≤ W i) (hp : p < 16) (hq : q < 16) (hne : p ≠ q) : W p + W q ≤ tot W 16 := by
  have h1 := tot_upd (W := W) (p := p) (v := 0) 16 hp
  have h2 := tot_upd (W := upd W p 0) (p := q) (v := 0) 16 hq
  rw [upd_other _ _ (fun e => hne e.symm)] at h2
  have h3 := tot_ge (W := upd (upd W p 0) q 0) 16 (fun i hi => by unfold upd; split; omega; split; omega; exact h i hi)
  omega
theorem cnt_le (W : Nat → Int) : ∀ k, cnt W k ≤ k := by
  intro k
  induction k with
  | zero => exact Nat.le_refl _
  | succ k ih => rw [cnt]; split <;> omega
theorem tot_le {W : Nat → Int} : ∀ k, InR W 2048 k → tot W k ≤ 2048 * k := by
  intro k
  induction k with
  | zero => intro _; simp [tot]
  | succ k ih => intro h; rw [tot]; have := h k (by omega); have := ih (fun i hi => h i (by omega)); omega
theorem bldR_end {n : Nat} {W T L : Nat → Int} (h : (lt2 W 16).2 = -1) : bldR n W T L = L := by
  cases n with
  | zero => rfl
  | succ n => rw [bldR, if_pos h]
theorem bldR_next {n : Nat} {W T L : Nat → Int} {p q : Nat} (h : lt2 W 16 = ((p : Int), (q : Int))) : bldR (n + 1) W T L = bldR n (rW W p q) (rT T p q) (rL T L p q) := by
  rw [bldR, h, if_neg (by simp only; omega)]
  rfl
theorem rL_b {T L : Nat → Int} {p q n : Nat} (h : ∀ i, 0 ≤ L i ∧ L i + (n + 1 : Nat) ≤ 16) : ∀ i, 0 ≤ rL T L p q i ∧ rL T L p q i + (n : Nat) ≤ 16 := by
  intro i
  have := h i
  unfold rL
  split <;> omega
theorem lt2_ne (W : Nat → Int) : ∀ k, (lt2 W k).1 = (lt2 W k).2 → (lt2 W k).1 = -1 := by
  intro k
  induction k with
  | zero => intro _; rfl
  | succ k ih =>
    have hs := lt2_sg W k
    have far : ∀ a, Sg W k a → a ≠ (k : Int) := by
      intro a h e
      rcases h with h | ⟨p, h1, h2, _⟩ <;> omega
    rw [lt2, ltS]
    by_cases h0 : W k = 0
    · rw [if_pos h0]; exact ih
    · rw [if_neg h0]
      split
      · intro h; exact absurd h.symm (far _ hs.1)
      · split
        · intro h; exact absurd h (far _ hs.1)
        · exact ih
theorem lt2_two {W : Nat → Int} (h : (lt2 W 16).2 ≠ -1) : ∃ p q : Nat, lt2 W 16 = ((p : Int), (q : Int)) ∧ p < 16 ∧ q < 16 ∧ p ≠ q ∧ W p ≠ 0 ∧ W q ≠ 0 := by
  have first : ∀ k, (lt2 W k).1 = -1 → (lt2 W k).2 = -1 := by
    intro k
    induction k with
    | zero => intro _; rfl
    | succ k ih =>
      rw [lt2, ltS]
      by_cases h0 : W k = 0
      · rw [if_pos h0]; exact ih
      · rw [if_neg h0]
        split
        · intro h9; simp only at h9; omega
        · rename_i h9
          split
          · intro h8; exact absurd (Or.inl h8) h9
          · intro h8; exact absurd (Or.inl h8) h9
  obtain ⟨s1, s2⟩ := lt2_sg W 16
  rcases s2 with s2 | ⟨q, e2, hq, n2⟩
  · exact absurd s2 h
  rcases s1 with s1 | ⟨p, e1, hp, n1⟩
  · exact absurd (first 16 s1) h
  refine ⟨p, q, by rw [← e1, ← e2], hp, hq, ?_, n1, n2⟩
  intro e
  have := lt2_ne W 16 (by rw [e1, e2, e])
  omega
theorem rW_pos {W : Nat → Int} {p q : Nat} (h : ∀ i, i < 16 → 0 ≤ W i) (hp : p < 16) (hq : q < 16) : ∀ i, i < 16 → 0 ≤ rW W p q i := by
  intro i hi
  have h1 := h p hp
  have h2 := h q hq
  have h3 := h i hi
  unfold rW upd
  split
  · omega
  · split
    · omega
    · split
      · omega
      · exact h3
theorem rW_cnt {W : Nat → Int} {p q : Nat} (h : ∀ i, i < 16 → 0 ≤ W i) (hp : p < 16) (hq : q < 16) (hne : p ≠ q) (n1 : W p ≠ 0) (n2 : W q ≠ 0) : cnt (rW W p q) 16 + 1 = cnt W 16 ∧ tot (rW W p q) 16 = tot W 16 ∧ 2 ≤ cnt W 16 := by
  have h1 := h p hp
  have h2 := h q hq
  have c1 := cnt_upd (W := W) (p := p) (v := 0) 16 hp
  have c2 := cnt_upd (W := upd W p 0) (p := q) (v := 0) 16 hq
  have c3 := cnt_upd (W := upd (upd W p 0) q 0) (p := min p q) (v := W p + W q) 16 (by omega)
  have t1 := tot_upd (W := W) (p := p) (v := 0) 16 hp
  have t2 := tot_upd (W := upd W p 0) (p := q) (v := 0) 16 hq
  have t3 := tot_upd (W := upd (upd W p 0) q 0) (p := min p q) (v := W p + W q) 16 (by omega)
  have z : upd (upd W p 0) q 0 (min p q) = 0 := by
    unfold upd
    split
    · rfl
    · rename_i h9
      rw [if_pos]
      omega
  have hn : ¬ W p + W q = 0 := by omega
  rw [upd_other _ _ (fun e => hne e.symm)] at c2 t2
  rw [z] at c3 t3
  simp only [if_neg n1, if_neg n2, if_neg hn, if_true] at c1 c2 c3
  unfold rW
  refine ⟨?_, ?_, ?_⟩ <;> omega
end Cd
end Go.Proofs.YtbjbjbpgmojcbabGreat
