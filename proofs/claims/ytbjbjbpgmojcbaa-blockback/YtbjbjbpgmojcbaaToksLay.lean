/- What toks.Parse holds in memory, and what its own function literal lays down. -/
import Derived.Test.YtbjbjbpgmojcbaaToksReach
namespace Go.Proofs.Ytbjbjbpgmojcbaa
open Go.RowKit Go.Maps Go.ChangeShapes

/-- The blocks of Parse, in the order in which they are made. -/
structure Ord (B bm gp ga gf gl base : Nat) : Prop where
  b : B ≤ bm
  p : bm < gp
  a : gp < ga
  f : ga < gf
  l : gf < gl
  s : gl < base

/-- What Parse holds: s: dictionary and text; r: how far it was reached; a: at; f: from; l: the toks so far, v their slice. -/
structure PS (w : World) (bm gp ga gf gl base : Nat) (s : ByteArray) (r a f : Nat) (v : Value) (l : List Tk.T) : Prop where
  past : PastAt w base gp bm (fun g => v.ownBlock = some g) s r
  ca : w.cell? ⟨ga, 0, none⟩ = some (.int .i64 (a : Nat))
  fa : w.frozen? ⟨ga, 0, none⟩ = false
  cf : w.cell? ⟨gf, 0, none⟩ = some (.int .i64 (f : Nat))
  ff : w.frozen? ⟨gf, 0, none⟩ = false
  cl : w.cell? ⟨gl, 0, none⟩ = some v
  fl : w.frozen? ⟨gl, 0, none⟩ = false
  own : w.ownsRow base 73 3 v l.length (tcs l)

section
variable {w w' : World} {B bm gp ga gf gl base : Nat} {s : ByteArray} {r a f : Nat} {v : Value} {l : List Tk.T}

theorem PS.bs (h : PS w bm gp ga gf gl base s r a f v l) : base ≤ w.heap.size := h.past.bs

theorem PS.below (h : PS w bm gp ga gf gl base s r a f v l) (O : Ord B bm gp ga gf gl base) (hb : Below w.heap.size w w') : PS w' bm gp ga gf gl base s r a f v l := by
  have hs := h.bs
  obtain ⟨o1, o2, o3, o4, o5, o6⟩ := O
  refine ⟨h.past.below hb, ?_, ?_, ?_, ?_, ?_, ?_, own_below h.own hb⟩
  · exact (hb.cell (by show ga < _; omega)).trans h.ca
  · exact (hb.frozen (by show ga < _; omega)).trans h.fa
  · exact (hb.cell (by show gf < _; omega)).trans h.cf
  · exact (hb.frozen (by show gf < _; omega)).trans h.ff
  · exact (hb.cell (by show gl < _; omega)).trans h.cl
  · exact (hb.frozen (by show gl < _; omega)).trans h.fl

/-- Behind reach. -/
theorem PS.reach {r' : Nat} (h : PS w bm gp ga gf gl base s r a f v l) (O : Ord B bm gp ga gf gl base) (hk : Keeps w w' base gp bm (fun g => v.ownBlock = some g)) (hp : PastAt w' base gp bm (fun g => v.ownBlock = some g) s r') : PS w' bm gp ga gf gl base s r' a f v l := by
  have hs := h.bs
  obtain ⟨o1, o2, o3, o4, o5, o6⟩ := O
  refine ⟨hp, ?_, ?_, ?_, ?_, ?_, ?_, ?_⟩
  · exact (hk.cell (by show ga < _; omega) (by show ga ≠ _; omega) (by show ga ≠ _; omega) (.inl (by show ga < _; omega))).trans h.ca
  · exact (hk.frozen (by show ga < _; omega) (by show ga ≠ _; omega) (by show ga ≠ _; omega) (.inl (by show ga < _; omega))).trans h.fa
  · exact (hk.cell (by show gf < _; omega) (by show gf ≠ _; omega) (by show gf ≠ _; omega) (.inl (by show gf < _; omega))).trans h.cf
  · exact (hk.frozen (by show gf < _; omega) (by show gf ≠ _; omega) (by show gf ≠ _; omega) (.inl (by show gf < _; omega))).trans h.ff
  · exact (hk.cell (by show gl < _; omega) (by show gl ≠ _; omega) (by show gl ≠ _; omega) (.inl (by show gl < _; omega))).trans h.cl
  · exact (hk.frozen (by show gl < _; omega) (by show gl ≠ _; omega) (by show gl ≠ _; omega) (.inl (by show gl < _; omega))).trans h.fl
  · rcases h.own.2 with ⟨e1, e2⟩ | ⟨g, cap, cur, rfl, hg, hh, hrest⟩
    · exact ⟨h.own.1, .inl ⟨e1, e2⟩⟩
    · have hlt := (Array.getElem?_eq_some_iff.1 hh).1
      exact ⟨h.own.1, .inr ⟨g, cap, cur, rfl, hg, (hk.block g hlt (by omega) (by omega) (.inr rfl)).trans hh, hrest⟩⟩

/-- A block below the base, that neither holds the map nor what p points to, is written. -/
theorem PastAt.other {No : Nat → Prop} {g : Nat} (h : PastAt w base gp bm No s r) (hg : w.grownBy w' (some g)) (h1 : g ≠ gp) (h2 : g ≠ bm) (h3 : g < base) : PastAt w' base gp bm No s r := by
  obtain ⟨D, hm, ho, hsh, hr⟩ := h.map
  have hlt : gp < w.heap.size := Nat.lt_of_lt_of_le h.gb h.bs
  have hbm : bm < w.heap.size := by obtain ⟨es, clock, hb, _⟩ := ho; exact (Array.getElem?_eq_some_iff.1 hb).1
  have hne : some gp ≠ some g := by simp; exact fun e => h1 e.symm
  have hne2 : some bm ≠ some g := by simp; exact fun e => h2 e.symm
  exact ⟨(hg.cell_far ⟨gp, 0, none⟩ hlt hne).trans h.c0, (hg.cell_far ⟨gp, 1, none⟩ hlt hne).trans h.c1, (hg.cell_far ⟨gp, 2, none⟩ hlt hne).trans h.c2, (hg.frozen_far ⟨gp, 2, none⟩ hlt hne).trans h.f2, h.gb, h.ne, Nat.le_trans h.bs hg.size, D, hm,
    ho.kept hg hne2 (ho.rowsAbove (fun j hj => by cases hj; exact h3)), hsh.kept hg hbm hne2, hr⟩

theorem grown_set (w : World) (g o : Nat) (u : Value) : w.grownBy (w.setCell ⟨g, o, none⟩ u) (some g) := ⟨rfl, rfl, rfl, by simp, fun k _ h2 => Below.heap_setCell _ _ _ _ (fun e => h2 (by rw [e]))⟩

theorem set_far (w : World) (p q : Addr) (u : Value) (h : p.block ≠ q.block) : (w.setCell p u).cell? q = w.cell? q := World.cell?_setCell_other w p q u (fun e => h (by rw [e]))

theorem PS.setAt (h : PS w bm gp ga gf gl base s r a f v l) (O : Ord B bm gp ga gf gl base) (a' : Nat) : PS (w.setCell ⟨ga, 0, none⟩ (.int .i64 (a' : Nat))) bm gp ga gf gl base s r a' f v l := by
  obtain ⟨o1, o2, o3, o4, o5, o6⟩ := O
  have hg := grown_set w ga 0 (.int .i64 (a' : Nat))
  refine ⟨h.past.other hg (by omega) (by omega) (by omega), World.cell?_setCell_same w _ _ h.ca, ?_, ?_, ?_, ?_, ?_, h.own.kept hg (.inr (fun e => by have := (h.own.lt ga e).1; omega))⟩
  · rw [World.frozen?_setCell]; exact h.fa
  · rw [set_far _ _ _ _ (by show ga ≠ gf; omega)]; exact h.cf
  · rw [World.frozen?_setCell]; exact h.ff
  · rw [set_far _ _ _ _ (by show ga ≠ gl; omega)]; exact h.cl
  · rw [World.frozen?_setCell]; exact h.fl

theorem PS.setFrom (h : PS w bm gp ga gf gl base s r a f v l) (O : Ord B bm gp ga gf gl base) (f' : Nat) : PS (w.setCell ⟨gf, 0, none⟩ (.int .i64 (f' : Nat))) bm gp ga gf gl base s r a f' v l := by
  obtain ⟨o1, o2, o3, o4, o5, o6⟩ := O
  have hg := grown_set w gf 0 (.int .i64 (f' : Nat))
  refine ⟨h.past.other hg (by omega) (by omega) (by omega), ?_, ?_, World.cell?_setCell_same w _ _ h.cf, ?_, ?_, ?_, h.own.kept hg (.inr (fun e => by have := (h.own.lt gf e).1; omega))⟩
  · rw [set_far _ _ _ _ (by show gf ≠ ga; omega)]; exact h.ca
  · rw [World.frozen?_setCell]; exact h.fa
  · rw [World.frozen?_setCell]; exact h.ff
  · rw [set_far _ _ _ _ (by show gf ≠ gl; omega)]; exact h.cl
  · rw [World.frozen?_setCell]; exact h.fl

/-- Behind the append of a tok, and the store of the slice. -/
theorem PS.laid {g cp : Nat} {t : Tk.T} (h : PS w bm gp ga gf gl base s r a f v l) (O : Ord B bm gp ga gf gl base)
    (hown : w'.ownsRow base 73 3 (.slice (some ⟨g, 0, none⟩) (l.length + 1) cp) (l.length + 1) (tcs l ++ [.string t.lit, .int .i64 t.far, .int .i64 t.len])) (hg : w.grownBy w' v.ownBlock) (hat : v.ownBlock = some g ∨ w.heap.size ≤ g) :
    PS (w'.setCell ⟨gl, 0, none⟩ (.slice (some ⟨g, 0, none⟩) (l.length + 1) cp)) bm gp ga gf gl base s r a f (.slice (some ⟨g, 0, none⟩) (l.length + 1) cp) (l ++ [t]) ∧ w'.cell? ⟨gl, 0, none⟩ = some v ∧ w'.frozen? ⟨gl, 0, none⟩ = false := by
  have hs := h.bs
  obtain ⟨o1, o2, o3, o4, o5, o6⟩ := O
  have hnv : ∀ k, k < base → some k ≠ v.ownBlock := fun k hk e => by have := (h.own.lt k e.symm).1; omega
  have hlt : ∀ k, k < base → k < w.heap.size := fun k hk => by omega
  have hc : ∀ k o, k < base → w'.cell? ⟨k, o, none⟩ = w.cell? ⟨k, o, none⟩ := fun k o hk => hg.cell_far _ (hlt k hk) (hnv k hk)
  have hf : ∀ k o, k < base → w'.frozen? ⟨k, o, none⟩ = w.frozen? ⟨k, o, none⟩ := fun k o hk => hg.frozen_far _ (hlt k hk) (hnv k hk)
  obtain ⟨D, hm, ho, hsh, hr⟩ := h.past.map
  have hsh2 : w.Shuns bm (fun k => (Value.slice (some ⟨g, 0, none⟩) (l.length + 1) cp).ownBlock = some k) := hsh.reno ho (fun k hk => by
    have e : g = k := by simpa [Value.ownBlock] using hk
    subst e
    exact hat)
  have hp' : PastAt w' base gp bm (fun k => (Value.slice (some ⟨g, 0, none⟩) (l.length + 1) cp).ownBlock = some k) s r :=
    ⟨(hc gp 0 h.past.gb).trans h.past.c0, (hc gp 1 h.past.gb).trans h.past.c1, (hc gp 2 h.past.gb).trans h.past.c2, (hf gp 2 h.past.gb).trans h.past.f2, h.past.gb, h.past.ne, Nat.le_trans hs hg.size, D, hm,
      ho.kept hg (hnv bm (by omega)) (hsh.rowsOff (fun j hj => hj)), hsh2.kept hg (hlt bm (by omega)) (hnv bm (by omega)), hr⟩
  have hg2 := grown_set w' gl 0 (.slice (some ⟨g, 0, none⟩) (l.length + 1) cp)
  have hcl : w'.cell? ⟨gl, 0, none⟩ = some v := (hc gl 0 o6).trans h.cl
  refine ⟨⟨hp'.other hg2 (by omega) (by omega) o6, ?_, ?_, ?_, ?_, World.cell?_setCell_same w' _ _ hcl, ?_, ?_⟩, hcl, (hf gl 0 o6).trans h.fl⟩
  · rw [set_far _ _ _ _ (by show gl ≠ ga; omega)]; exact (hc ga 0 (by omega)).trans h.ca
  · rw [World.frozen?_setCell]; exact (hf ga 0 (by omega)).trans h.fa
  · rw [set_far _ _ _ _ (by show gl ≠ gf; omega)]; exact (hc gf 0 (by omega)).trans h.cf
  · rw [World.frozen?_setCell]; exact (hf gf 0 (by omega)).trans h.ff
  · rw [World.frozen?_setCell]; exact (hf gl 0 o6).trans h.fl
  · rw [tcs_append, List.length_append]
    exact hown.kept hg2 (.inr (fun e => by have := (hown.lt gl e).1; omega))
end
end Go.Proofs.Ytbjbjbpgmojcbaa
