/- What toks.Parse's own function literal lays down. -/
import Derived.Test.YtbjbjbpgmojcbaaToksLay
import Derived.Deep.RegionLaw
namespace Go.Proofs.Ytbjbjbpgmojcbaa
open Go.RowKit Go.Maps Go.ChangeShapes

set_option maxRecDepth 4000 in
set_option maxHeartbeats 2000000 in
theorem lay1_no {w : World} {B bm gp ga gf gl base : Nat} {s : ByteArray} {r a f : Nat} {v : Value} {l : List Tk.T} (h : PS w bm gp ga gf gl base s r a f v l) (hf : ¬ f < a) :
    Calls Try.prog 57 #[.pointer (some ⟨gf, 0, none⟩), .pointer (some ⟨ga, 0, none⟩), .pointer (some ⟨gl, 0, none⟩), .pointer (some ⟨gp, 0, none⟩)] w fun e w' => e = .returned (.tuple #[]) ∧ Below B w w' ∧ ∃ v', PS w' bm gp ga gf gl base s r a f v' (l ++ Tk.lay s f a) := by
  have hca := h.ca
  have hcf := h.cf
  have d1 : decide ((f : Int) < (a : Int)) = false := by simp; omega
  have d1' : decide (f < a) = false := by simp; omega
  have H : Hid (PS w bm gp ga gf gl base s r a f v l) := h
  clear h
  go_enter Try.func57, Try.ntmps57
  go_wp2_with fail
  go_end0
  refine ⟨rfl, Below.refl _ _, v, ?_⟩
  unfold Tk.lay
  rw [if_neg hf, List.append_nil]
  exact H.out

set_option maxRecDepth 4000 in
set_option maxHeartbeats 4000000 in
theorem lay1_yes {w : World} {B bm gp ga gf gl base : Nat} {s : ByteArray} {r a f : Nat} {v : Value} {l : List Tk.T} (O : Ord B bm gp ga gf gl base) (h : PS w bm gp ga gf gl base s r a f v l) (hf : f < a) (ha : a ≤ s.size) (hs : s.size ≤ 2000) (hl : l.length ≤ 2000) :
    Calls Try.prog 57 #[.pointer (some ⟨gf, 0, none⟩), .pointer (some ⟨ga, 0, none⟩), .pointer (some ⟨gl, 0, none⟩), .pointer (some ⟨gp, 0, none⟩)] w fun e w' => e = .returned (.tuple #[]) ∧ Below B w w' ∧ ∃ v', PS w' bm gp ga gf gl base s r a f v' (l ++ Tk.lay s f a) := by
  obtain ⟨i0, hi, hz0, hz1, hz2⟩ := info_parts info_tok
  have hca := h.ca
  have hcf := h.cf
  have hcl := h.cl
  have hcp := h.past.c0
  have d1 : decide ((f : Int) < (a : Int)) = true := by simp; omega
  have d1' : decide (f < a) = true := by simp; omega
  have hsl := slice_at s (f : Int) (a : Int) f a rfl rfl (by omega) ha
  have hbs := h.bs
  obtain ⟨o1, o2, o3, o4, o5, o6⟩ := O
  have O : Hid (Ord B bm gp ga gf gl base) := ⟨o1, o2, o3, o4, o5, o6⟩
  have H : Hid (PS w bm gp ga gf gl base s r a f v l) := h
  have hlay : Tk.lay s f a = [⟨s.extract f a, 0, 0⟩] := by unfold Tk.lay; rw [if_pos hf]
  have HB : Hid (Tk.lay s f a = [⟨s.extract f a, 0, 0⟩]) := hlay
  clear h hlay
  have nfl : gf ≠ gl := by omega
  have nal : ga ≠ gl := by omega
  have npl : gp ≠ gl := by omega
  have nlf : gl ≠ gf := by omega
  have nla : gl ≠ ga := by omega
  have nlp : gl ≠ gp := by omega
  have xs : (s.extract f a).size ≤ 281474976710656 := Nm.ext_le (by omega)
  go_enter Try.func57, Try.ntmps57
  go_wp2_with fail
  have HL : Hid (∀ (w1 : World) (g cp : Nat) (w2 : World) (T : TypeId), Below w.heap.size w w1 → PS w1 bm gp ga gf gl base s r a f v l → (w1.alloc (.cells #[.string (s.extract f a), .int .i64 0, .int .i64 0] T)).grownBy w2 v.ownBlock →
      w2.ownsRow base 73 3 (.slice (some ⟨g, 0, none⟩) (l.length + 1) cp) (l.length + 1) (tcs l ++ [.string (s.extract f a), .int .i64 0, .int .i64 0]) → (v.ownBlock = some g ∨ g = (w1.alloc (.cells #[.string (s.extract f a), .int .i64 0, .int .i64 0] T)).heap.size) →
      Hid (Below B w (w2.setCell ⟨gl, 0, none⟩ (.slice (some ⟨g, 0, none⟩) (l.length + 1) cp)) ∧ PS (w2.setCell ⟨gl, 0, none⟩ (.slice (some ⟨g, 0, none⟩) (l.length + 1) cp)) bm gp ga gf gl base s r a f (.slice (some ⟨g, 0, none⟩) (l.length + 1) cp) (l ++ [⟨s.extract f a, 0, 0⟩])) ∧ w2.cell? ⟨gl, 0, none⟩ = some v ∧ w2.frozen? ⟨gl, 0, none⟩ = false) := by
    intro w1 g cp w2 T hb hp hg hown hat
    have hg1 := (World.grownBy_alloc w1 _ _).trans hg
    obtain ⟨q1, q2, q3⟩ := hp.laid (t := ⟨s.extract f a, 0, 0⟩) O.out hown hg1 (hat.imp id (fun e => by rw [e]; simp))
    refine ⟨⟨?_, q1⟩, q2, q3⟩
    have h1 : Below B w w1 := hb.mono (by omega)
    have h2 := h1.grown hg1 (by have := hp.bs; omega) (fun k hk => by have := (hp.own.lt k hk).1; omega)
    exact h2.setCell (by show B ≤ gl; omega) _
  go_region_law (first | (refine step_append_lies _ rfl _ _ 40 rfl base 73 i0 (.agg #[.string ⟨#[]⟩, .int .i64 0, .int .i64 0]) 3 32 Try.underlying40 hi hz0 hz1 hz2 rfl (by decide) v _ _ rfl (H1.out.own.alloc _) ⟨w1.heap.size, 0, none⟩ 1 1 [.string (s.extract f a), .int .i64 0, .int .i64 0] rfl rfl (news3 _ _ _ _ _) (one3 _ _ _ rfl rfl rfl) (by decide) (ml_le (by omega)) (by omega) (by simp; omega) _ rfl ?_; intro g cp w2 hown2 hgrow2 hat2 hlt2; obtain ⟨HP, k1, k2⟩ := HL.out w1 g cp w2 _ hb H1.out hgrow2 hown2 hat2; clear hgrow2 hown2 hat2 hlt2) | (go_simp; go_at_call 54; refine (clone_any _ _ xs).mono ?_; rintro e w1 ⟨rfl, hb⟩; replace hb : Below w.heap.size w w1 := (by exact Below.trans (Below.refl _ _).drew hb); have H1 : Hid (PS w1 bm gp ga gf gl base s r a f v l) := H.out.below O.out hb; have hcl1 := H1.out.cl; have hcl2 : ∀ o, (w1.alloc o).cell? ⟨gl, 0, none⟩ = some v := fun o => (World.cell?_alloc_lt _ _ _ (World.block_lt_of_cell? w1 _ hcl1)).trans hcl1; have hbs1 := H1.out.bs))
  all_goals
    go_wp2_with fail
    go_end0
    exact ⟨rfl, HP.out.1, _, by rw [HB.out]; exact HP.out.2⟩
end Go.Proofs.Ytbjbjbpgmojcbaa
