/- The map of places: what it holds, and what one round of reach does to it (the world alone). -/
import Derived.Test.YtbjbjbpgmojcbaaToksParse
import Derived.Test.YtbjbjbpgmojcbaaNumsWalks
import Derived.Maps.GroupsBeside
import Derived.Deep.AppendLies
namespace Go.Proofs.Ytbjbjbpgmojcbaa
open Go.RowKit Go.Maps Go.WideElems Go.ChangeShapes
open Go.WideMaps (keyOf_string_mk)

theorem slaw : Keyed Try.prog 9 := string_keyed Try.underlying9
theorem zeroInts (w : World) : (zeroValue 114).run Try.prog w = .ok (.slice none 0 0) w := by kernel_rfl
theorem skey (k : ByteArray) (h : k.size ≤ maxLen) : keyOf Try.prog 9 (.string k) = some (.string k.data.toList) := keyOf_string_mk Try.underlying9 h

/-- What is read of a map's element. -/
def items : DataW Value → List (DataW Value)
  | .slice es _ => es
  | _ => []

/-- The datum holds, of each three bytes, the places below r. -/
def Reads (D : DataW Value) (s : ByteArray) (r : Nat) : Prop := ∀ k : List UInt8, items (D.atKey (.string k) .nil) = lits .i64 ((Tk.plc s.data.toList k r).map (fun p : Nat => (p : Int)))

theorem lits_inj : ∀ {a b : List Int}, lits (H := Value) .i64 a = lits .i64 b → a = b := by
  intro a
  induction a with
  | nil => intro b h; cases b with
    | nil => rfl
    | cons x b => simp [lits] at h
  | cons x a ih => intro b h; cases b with
    | nil => simp [lits] at h
    | cons y b =>
      simp only [lits, List.map_cons, List.cons.injEq, DataW.lit.injEq, Lit.int.injEq, true_and] at h
      rw [h.1, ih (by unfold lits; exact h.2)]

theorem items_row {w : World} {base : Nat} {v : Value} {zs : List Int} (h : w.ownsInts base 3 .i64 v zs) : items (rowDatum .i64 v zs) = lits .i64 zs := by
  rcases h.datum (H := Value) with ⟨h1, rfl⟩ | h1
  · rw [h1]; rfl
  · rw [h1]; rfl

/-- The value at a key hangs on the map's block alone. -/
theorem look_same {P : Program} {k E t : TypeId} {w w' : World} {b : Nat} {R : Value → Option (DataW Value × List MemPlace)} {es : Array MapEntry} {clock : Nat} {z key v : Value} {kl : Lit} (K : Keyed P k) (ht : P.underlying t = some (.map k E))
    (hz : (zeroValue E).run P w = .ok z w) (hz' : (zeroValue E).run P w' = .ok z w') (hb : w.heap[b]? = some (.map es clock)) (hb' : w'.heap[b]? = w.heap[b]?) (F : Fit P k R es clock) (hkey : keyOf P k key = some kl)
    (h : (Instr.lookup t (.map (some b)) key false).run P w = .ok v w) : (Instr.lookup t (.map (some b)) key false).run P w' = .ok v w' := by
  have F0 : Fit P k (fun v => some ((.held v : DataW Value), ([] : List MemPlace))) es clock := ⟨F.size, F.stamped, fun x hx => by
    obtain ⟨y, hy⟩ := F.reads x hx
    exact ⟨(y.1, .held x.val), by simp [rd, rd_key hy]⟩⟩
  rw [hb] at hb'
  rcases fit_look false K ht hz hb F0 hkey with ⟨r1, _, a1⟩ | ⟨e1, y1, _, _, r1, y1e, a1, _⟩ <;> rcases fit_look false K ht hz' hb' F0 hkey with ⟨r2, _, a2⟩ | ⟨e2, y2, _, _, r2, y2e, a2, _⟩
  · rw [r1] at h; rw [r2]
    simp at h ⊢
    exact h
  · exfalso
    have := (a1 .nil).symm.trans (a2 .nil)
    have h2 := (a1 (.agg [])).symm.trans (a2 (.agg []))
    rw [← this] at h2
    cases h2
  · exfalso
    have := (a2 .nil).symm.trans (a1 .nil)
    have h2 := (a2 (.agg [])).symm.trans (a1 (.agg []))
    rw [← this] at h2
    cases h2
  · rw [r1] at h; rw [r2]
    simp at h y1e y2e ⊢
    have := (a1 .nil).symm.trans (a2 .nil)
    rw [← y1e, ← y2e] at this
    simp at this
    rw [← this, h]

/-- A place's world: what the pointer p of Parse leads to. -/
structure PastAt (w : World) (base gp bm : Nat) (No : Nat → Prop) (s : ByteArray) (r : Nat) : Prop where
  c0 : w.cell? ⟨gp, 0, none⟩ = some (.string s)
  c1 : w.cell? ⟨gp, 1, none⟩ = some (.map (some bm))
  c2 : w.cell? ⟨gp, 2, none⟩ = some (.int .i64 (r : Nat))
  f2 : w.frozen? ⟨gp, 2, none⟩ = false
  gb : gp < base
  ne : gp ≠ bm
  bs : base ≤ w.heap.size
  map : ∃ D : DataW Value, IsMap D ∧ w.ownsGroups Try.prog 9 base 3 .i64 bm r D ∧ w.Shuns bm No ∧ Reads D s r

/-- Nothing was turned but two blocks, and rows above the base that nobody else has. -/
structure Keeps (w w' : World) (base gp bm : Nat) (No : Nat → Prop) : Prop where
  os : w'.os = w.os
  tape : w'.tape = w.tape
  output : w'.output = w.output
  size : w.heap.size ≤ w'.heap.size
  block : ∀ k, k < w.heap.size → k ≠ gp → k ≠ bm → (k < base ∨ No k) → w'.heap[k]? = w.heap[k]?

theorem Keeps.refl (w : World) (base gp bm : Nat) (No : Nat → Prop) : Keeps w w base gp bm No := ⟨rfl, rfl, rfl, Nat.le_refl _, fun _ _ _ _ _ => rfl⟩
theorem Keeps.trans {a b c : World} {base gp bm : Nat} {No : Nat → Prop} (h : Keeps a b base gp bm No) (k : Keeps b c base gp bm No) : Keeps a c base gp bm No :=
  ⟨k.os.trans h.os, k.tape.trans h.tape, k.output.trans h.output, Nat.le_trans h.size k.size, fun i h1 h2 h3 h4 => (k.block i (Nat.lt_of_lt_of_le h1 h.size) h2 h3 h4).trans (h.block i h1 h2 h3 h4)⟩

/-- Over whatever turns no old block. -/
theorem PastAt.below {w w' : World} {base gp bm r : Nat} {No : Nat → Prop} {s : ByteArray} (h : PastAt w base gp bm No s r) (hb : Below w.heap.size w w') : PastAt w' base gp bm No s r := by
  obtain ⟨D, hm, ho, hsh, hr⟩ := h.map
  have hg : w.grownBy w' none := ⟨hb.os, hb.tape, hb.output, hb.size, fun k hk _ => hb.block k hk⟩
  have hlt : gp < w.heap.size := Nat.lt_of_lt_of_le h.gb h.bs
  have hbm : bm < w.heap.size := by obtain ⟨es, clock, hb, _⟩ := ho; exact (Array.getElem?_eq_some_iff.1 hb).1
  refine ⟨?_, ?_, ?_, ?_, h.gb, h.ne, Nat.le_trans h.bs hb.size, D, hm, ho.kept hg (by simp) (fun es clock _ x _ => by cases x.val.ownBlock <;> simp), hsh.kept hg hbm (by simp), hr⟩
  · rw [hb.cell (by exact hlt)]; exact h.c0
  · rw [hb.cell (by exact hlt)]; exact h.c1
  · rw [hb.cell (by exact hlt)]; exact h.c2
  · rw [hb.frozen (by exact hlt)]; exact h.f2

theorem reads_put {D : DataW Value} {s : ByteArray} {r : Nat} (hm : IsMap D) (h : Reads D s r) {k : List UInt8} (hk : Tk.win s.data.toList r = k) {d : DataW Value} {zs : List Int} (hz : items (D.atKey (.string k) .nil) = lits .i64 zs) (hd : items d = lits .i64 (zs ++ [(r : Int)])) : Reads (D.put (.string k) d) s (r + 1) := by
  intro k'
  rw [Tk.plc_succ]
  by_cases e : k' = k
  · subst e
    rw [atKey_put_same hm (k := .string k') (by exact trivial), hd, if_pos hk]
    have := lits_inj ((h k').symm.trans hz)
    rw [List.map_append, this]
    rfl
  · have e3 : ¬ Tk.win s.data.toList r = k' := fun e2 => e (e2.symm.trans hk)
    rw [atKey_put_other (by simp; exact e), h k', if_neg e3, List.append_nil]

/-- One round of reach, at the world: what the look-up gives; what the store leaves. -/
theorem past_round {w : World} {base gp bm r : Nat} {No : Nat → Prop} {s k : ByteArray} (h : PastAt w base gp bm No s r) (hr : r < 1000000) (hk : k.size ≤ maxLen) (hwin : Tk.win s.data.toList r = k.data.toList) :
    ∃ (v : Value) (zs : List Int), (∀ w', w'.heap[bm]? = w.heap[bm]? → (Instr.lookup 78 (.map (some bm)) (.string k) false).run Try.prog w' = .ok v w') ∧ w.ownsRow base 3 1 v zs.length (zs.map (Value.int .i64)) ∧ zs.length ≤ r ∧
      ∀ w1 v', w.grownBy w1 v.ownBlock → w1.ownsRow base 3 1 v' (zs.length + 1) (zs.map (Value.int .i64) ++ [.int .i64 (r : Nat)]) → (v.ownBlock = v'.ownBlock ∨ ∃ g, v'.ownBlock = some g ∧ w.heap.size ≤ g ∧ ¬ No g) →
        ∃ w2, (Instr.mapUpdate 78 (.map (some bm)) (.string k) v').run Try.prog w1 = .ok () w2 ∧ w1.grownBy w2 (some bm) ∧
          (∃ D : DataW Value, IsMap D ∧ w2.ownsGroups Try.prog 9 base 3 .i64 bm (r + 1) D ∧ w2.Shuns bm No ∧ Reads D s (r + 1)) ∧ Keeps w w2 base bm bm No := by
  obtain ⟨D, hm, ho, hsh, hrd⟩ := h.map
  have hbb : bm < base := by obtain ⟨_, _, _, _, _, _, hbb, _⟩ := ho; exact hbb
  have hr2 : r < maxLen := by unfold maxLen; omega
  obtain ⟨v, zs, hrun, hat, hoi, hzl, hback⟩ := ho.at slaw Try.underlying78 (zeroInts w) hr2 (skey k hk)
  have hsv : ∀ g, v.ownBlock = some g → ¬ No g := by
    obtain ⟨es, clock, hb, F, _⟩ := ho
    rcases fit_look false slaw Try.underlying78 (zeroInts w) hb F (skey k hk) with ⟨hrun', _, _⟩ | ⟨e0, y, hm0, _, hrun', _, _, _⟩
    · rw [hrun] at hrun'
      obtain rfl : v = .slice none 0 0 := by simpa using hrun'
      intro g hg'
      cases hg'
    · rw [hrun] at hrun'
      obtain rfl : v = e0.val := by simpa using hrun'
      exact fun g hg' => hsh es clock hb e0 hm0 g hg'
  refine ⟨v, zs, fun w' hw' => ?_, hoi.1, hzl, fun w1 v' hg hown' hloc => ?_⟩
  · obtain ⟨es, clock, hb, F, _⟩ := ho
    exact look_same slaw Try.underlying78 (zeroInts w) (zeroInts w') hb hw' F (skey k hk) hrun
  · have hoi' := hoi.appended hown' (WalkArith.wf_i64 (by omega))
    have hloc' : v'.ownBlock = v.ownBlock ∨ ∃ g, v'.ownBlock = some g ∧ w.heap.size ≤ g := by
      rcases hloc with h1 | ⟨g, h1, h2, _⟩
      · exact .inl h1.symm
      · exact .inr ⟨g, h1, h2⟩
    obtain ⟨w2, hrun2, ho2, hg2⟩ := hback w1 v' (zs ++ [(r : Int)]) hg hoi' (by simp; omega) hloc'
    refine ⟨w2, hrun2, hg2, ⟨_, hm.put _ _, ho2, ?_, ?_⟩, ?_⟩
    · obtain ⟨es, clock, hb, F, hs, _, hbb, _⟩ := ho
      have hblt : bm < w.heap.size := (Array.getElem?_eq_some_iff.1 hb).1
      have hb1 : w1.heap[bm]? = some (.map es clock) := (hg.block bm hblt (fun e1 => by have := (hoi.1.lt bm e1.symm).1; omega)).trans hb
      obtain ⟨es', clock', hb2, hwho⟩ := stored_who slaw Try.underlying78 hb1 F (Nat.lt_of_le_of_lt hs hr2) (skey k hk) hrun2
      intro es2 clock2 hb2' y hy g hyg
      obtain ⟨rfl, rfl⟩ : es' = es2 ∧ clock' = clock2 := by rw [hb2] at hb2'; simpa using hb2'
      rcases hwho y hy with ⟨hy0, _⟩ | ⟨_, hval⟩
      · exact hsh es clock hb y hy0 g hyg
      · rw [hval] at hyg
        rcases hloc with h1 | ⟨g1, h1, _, h3⟩
        · exact hsv g (by rw [h1]; exact hyg)
        · rw [h1] at hyg
          cases hyg
          exact h3
    · exact reads_put hm hrd hwin (by rw [hat]; exact items_row hoi) (items_row hoi')
    · refine ⟨hg2.os.trans hg.os, hg2.tape.trans hg.tape, hg2.output.trans hg.output, Nat.le_trans hg.size hg2.size, fun i h1 _ h3 h4 => ?_⟩
      rw [hg2.block i (Nat.lt_of_lt_of_le h1 hg.size) (by simp; exact h3)]
      refine hg.block i h1 (fun e1 => ?_)
      rcases h4 with h4 | h4
      · have := (hoi.1.lt i e1.symm).1
        omega
      · exact hsv i e1.symm h4

theorem Keeps.wide {w w' : World} {base bm : Nat} {No : Nat → Prop} (h : Keeps w w' base bm bm No) (gp : Nat) : Keeps w w' base gp bm No := ⟨h.os, h.tape, h.output, h.size, fun k h1 _ h3 h4 => h.block k h1 h3 h3 h4⟩
theorem Keeps.cell {w w' : World} {base gp bm : Nat} {No : Nat → Prop} (h : Keeps w w' base gp bm No) {p : Addr} (h1 : p.block < w.heap.size) (h2 : p.block ≠ gp) (h3 : p.block ≠ bm) (h4 : p.block < base ∨ No p.block) : w'.cell? p = w.cell? p := World.cell?_of_block (w := w) (h.block p.block h1 h2 h3 h4)
theorem Keeps.frozen {w w' : World} {base gp bm : Nat} {No : Nat → Prop} (h : Keeps w w' base gp bm No) {p : Addr} (h1 : p.block < w.heap.size) (h2 : p.block ≠ gp) (h3 : p.block ≠ bm) (h4 : p.block < base ∨ No p.block) : w'.frozen? p = w.frozen? p := World.frozen?_of_block (w := w) (h.block p.block h1 h2 h3 h4)
theorem Keeps.below {w w' : World} {base gp bm B : Nat} {No : Nat → Prop} (h : Keeps w w' base gp bm No) (h1 : B ≤ gp) (h2 : B ≤ bm) (h3 : B ≤ base) (h4 : B ≤ w.heap.size) : Below B w w' :=
  ⟨h.os, h.tape, h.output, h.size, fun k hk => h.block k (by omega) (by omega) (by omega) (.inl (by omega))⟩
theorem Keeps.of_below {w w' : World} {base gp bm : Nat} {No : Nat → Prop} (h : Below w.heap.size w w') : Keeps w w' base gp bm No := ⟨h.os, h.tape, h.output, h.size, fun k hk _ _ _ => h.block k hk⟩
theorem Keeps.setCell {w w' : World} {base gp bm : Nat} {No : Nat → Prop} (h : Keeps w w' base gp bm No) (o : Nat) (u : Value) : Keeps w (w'.setCell ⟨gp, o, none⟩ u) base gp bm No :=
  h.trans ⟨rfl, rfl, rfl, by simp, fun k _ h2 _ _ => Below.heap_setCell _ _ _ _ h2⟩

/-- Behind the store of the next place. -/
theorem past_next {w : World} {base gp bm r : Nat} {No : Nat → Prop} {s : ByteArray} (c0 : w.cell? ⟨gp, 0, none⟩ = some (.string s)) (c1 : w.cell? ⟨gp, 1, none⟩ = some (.map (some bm))) (c2 : w.cell? ⟨gp, 2, none⟩ = some (.int .i64 (r : Nat))) (f2 : w.frozen? ⟨gp, 2, none⟩ = false)
    (hgb : gp < base) (hne : gp ≠ bm) (hbs : base ≤ w.heap.size) (hmap : ∃ D : DataW Value, IsMap D ∧ w.ownsGroups Try.prog 9 base 3 .i64 bm (r + 1) D ∧ w.Shuns bm No ∧ Reads D s (r + 1)) :
    PastAt (w.setCell ⟨gp, 2, none⟩ (.int .i64 ((r + 1 : Nat) : Int))) base gp bm No s (r + 1) := by
  obtain ⟨D, hm, ho, hsh, hrd⟩ := hmap
  have hlt : gp < w.heap.size := Nat.lt_of_lt_of_le hgb hbs
  have hbm : bm < w.heap.size := by obtain ⟨es, clock, hb, _⟩ := ho; exact (Array.getElem?_eq_some_iff.1 hb).1
  have hg : w.grownBy (w.setCell ⟨gp, 2, none⟩ (.int .i64 ((r + 1 : Nat) : Int))) (some gp) := ⟨rfl, rfl, rfl, by simp, fun k _ h2 => Below.heap_setCell _ _ _ _ (fun e => h2 (by rw [e]))⟩
  refine ⟨?_, ?_, ?_, ?_, hgb, hne, by simpa using hbs, D, hm, ho.kept hg (by simp; exact fun e => hne e.symm) (ho.rowsAbove (fun j hj => by cases hj; exact hgb)), hsh.kept hg hbm (by simp; exact fun e => hne e.symm), hrd⟩
  · exact (World.cell?_setCell_other w ⟨gp, 2, none⟩ ⟨gp, 0, none⟩ _ (by simp)).trans c0
  · exact (World.cell?_setCell_other w ⟨gp, 2, none⟩ ⟨gp, 1, none⟩ _ (by simp)).trans c1
  · exact World.cell?_setCell_same w _ _ c2
  · rw [World.frozen?_setCell]; exact f2
end Go.Proofs.Ytbjbjbpgmojcbaa
