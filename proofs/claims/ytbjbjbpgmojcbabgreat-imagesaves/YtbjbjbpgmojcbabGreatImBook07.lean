/- A part of the proof: what it leans on. -/
import Derived.Deep.DrawnRows
import Derived.Deep.RegionLaw
import Derived.Test.YtbjbjbpgmojcbabGreatImBook01
import Derived.Test.YtbjbjbpgmojcbabGreatImBook02
import Derived.Test.YtbjbjbpgmojcbabGreatImBook03
import Derived.Test.YtbjbjbpgmojcbabGreatImBook04
import Derived.Test.YtbjbjbpgmojcbabGreatImBook06
namespace Go.Proofs.YtbjbjbpgmojcbabGreat
open Go.RowKit
theorem size_mk8 (l : List UInt8) : (⟨l.toArray⟩ : ByteArray).size = l.length := by simp [ByteArray.size]
theorem Own8.form8 {w : World} {B : Nat} {v : Value} {l : List UInt8} (h : Own8 w B v l) (hl : l ≠ []) : ∃ g cap, v = .slice (some ⟨g, 0, none⟩) l.length cap ∧ B ≤ g := by
  rcases h with ⟨_, h⟩ | ⟨g, cap, h0, h1, _⟩
  · exact absurd h hl
  · exact ⟨g, cap, h0, h1⟩
def BufAt (w : World) (B gb : Nat) (l : List UInt8) : Prop :=
  B ≤ gb ∧ gb < w.heap.size ∧ w.frozen? ⟨gb, 0, none⟩ = false ∧
  ((w.cell? ⟨gb, 0, none⟩ = some (.slice none 0 0) ∧ l = []) ∨ ∃ g cp, w.cell? ⟨gb, 0, none⟩ = some (.slice (some ⟨g, 0, none⟩) l.length cp) ∧ Own8 w B (.slice (some ⟨g, 0, none⟩) l.length cp) l ∧ g ≠ gb)
theorem BufAt.below {w w' : World} {B gb : Nat} {l : List UInt8} (h : BufAt w B gb l) (hb : Below w.heap.size w w') : BufAt w' B gb l := by
  obtain ⟨a, b, c, d⟩ := h
  refine ⟨a, Nat.lt_of_lt_of_le b hb.size, (hb.frozen (by exact b)).trans c, ?_⟩
  rcases d with ⟨d, e⟩ | ⟨g, cp, d, e, f⟩
  · exact .inl ⟨(hb.cell (by exact b)).trans d, e⟩
  · exact .inr ⟨g, cp, (hb.cell (by exact b)).trans d, e.below hb, f⟩
theorem BufAt.put {w w' : World} {B gb g cp : Nat} {v : Value} {l' : List UInt8} (hB : B ≤ gb) (hg : gb < w.heap.size) (hf : w.frozen? ⟨gb, 0, none⟩ = false) (hc : (w.cell? ⟨gb, 0, none⟩).isSome = true)
    (hne : v.ownBlock ≠ some gb) (hA : App w w' B v (.slice (some ⟨g, 0, none⟩) l'.length cp) l') :
    BufAt (w'.setCell ⟨gb, 0, none⟩ (.slice (some ⟨g, 0, none⟩) l'.length cp)) B gb l' ∧ Below B w (w'.setCell ⟨gb, 0, none⟩ (.slice (some ⟨g, 0, none⟩) l'.length cp)) := by
  have hgb : some gb ≠ v.ownBlock := fun e => hne e.symm
  have hsz := hA.below.size
  have hgne : g ≠ gb := by
    rcases hA.at_ g rfl with h | h
    · intro e; subst e; exact hne h
    · omega
  have hblk := hA.block gb hg hgb
  refine ⟨⟨hB, by simpa [World.setCell] using Nat.lt_of_lt_of_le hg hsz, ?_, .inr ⟨g, cp, ?_, ?_, hgne⟩⟩, hA.below.setCell (p := ⟨gb, 0, none⟩) hB _⟩
  · rw [World.frozen?_setCell, World.frozen?_of_block (w := w) (by exact hblk)]
    exact hf
  · obtain ⟨u, hu⟩ := Option.isSome_iff_exists.1 hc
    refine World.cell?_setCell_same _ _ _ (u := u) ?_
    rw [World.cell?_of_block (w := w) (by exact hblk)]
    exact hu
  · refine hA.own.kept (by simp [World.setCell]) (fun k hk => ?_)
    have : g = k := by simpa [Value.ownBlock] using hk
    subst this
    exact Below.heap_setCell _ _ _ _ (by simpa using hgne)
theorem BufAt.app {w w' : World} {B gb g cp : Nat} {v u : Value} {l' : List UInt8} (hB : B ≤ gb) (hg : gb < w.heap.size) (hf : w.frozen? ⟨gb, 0, none⟩ = false) (hc : w.cell? ⟨gb, 0, none⟩ = some u)
    (hne : v.ownBlock ≠ some gb) (hA : App w w' B v (.slice (some ⟨g, 0, none⟩) l'.length cp) l') :
    w'.cell? ⟨gb, 0, none⟩ = some u ∧ w'.frozen? ⟨gb, 0, none⟩ = false ∧ Hid (BufAt (w'.setCell ⟨gb, 0, none⟩ (.slice (some ⟨g, 0, none⟩) l'.length cp)) B gb l') ∧ Hid (Below B w (w'.setCell ⟨gb, 0, none⟩ (.slice (some ⟨g, 0, none⟩) l'.length cp))) := by
  have hgb : some gb ≠ v.ownBlock := fun e => hne e.symm
  have hblk := hA.block gb hg hgb
  have hP := BufAt.put hB hg hf (by rw [hc]; rfl) hne hA
  exact ⟨(World.cell?_of_block (w := w) (by exact hblk)).trans hc, (World.frozen?_of_block (w := w) (by exact hblk)).trans hf, hP.1, hP.2⟩
def BufQ (w : World) (B gb : Nat) (l : List UInt8) (q : Nat) : Prop :=
  BufAt w B gb l ∧ q < w.heap.size ∧ q ≠ gb ∧ ∀ g n cp, w.cell? ⟨gb, 0, none⟩ = some (.slice (some ⟨g, 0, none⟩) n cp) → g ≠ q
theorem BufAt.box {w : World} {B gb : Nat} {l : List UInt8} (h : BufAt w B gb l) (o : Obj) : BufQ (w.alloc o) B gb l w.heap.size := by
  have hb := (Below.refl w.heap.size w).alloc (Nat.le_refl _) o
  refine ⟨h.below hb, by simp, by have := h.2.1; omega, fun g n cp hc => ?_⟩
  rw [hb.cell (by exact h.2.1)] at hc
  rcases h.2.2.2 with ⟨d, _⟩ | ⟨g', cp', d, e, _⟩
  · rw [d] at hc; simp at hc
  · rw [d] at hc
    simp at hc
    have := (e.lt g' rfl).2
    omega
theorem BufQ.below {w w' : World} {B gb q : Nat} {l : List UInt8} (h : BufQ w B gb l q) (hb : Below w.heap.size w w') : BufQ w' B gb l q :=
  ⟨h.1.below hb, Nat.lt_of_lt_of_le h.2.1 hb.size, h.2.2.1, fun g n cp hc => h.2.2.2 g n cp (by rw [← hb.cell (by exact h.1.2.1)]; exact hc)⟩
theorem BufQ.app {w w' : World} {B gb g cp q : Nat} {v : Value} {l l' : List UInt8} (h : BufQ w B gb l q) (hc : w.cell? ⟨gb, 0, none⟩ = some v) (hne : v.ownBlock ≠ some gb)
    (hv : v = .slice none 0 0 ∨ ∃ g n cp, v = .slice (some ⟨g, 0, none⟩) n cp) (hA : App w w' B v (.slice (some ⟨g, 0, none⟩) l'.length cp) l') :
    w'.cell? ⟨gb, 0, none⟩ = some v ∧ w'.frozen? ⟨gb, 0, none⟩ = false ∧ Hid (BufQ (w'.setCell ⟨gb, 0, none⟩ (.slice (some ⟨g, 0, none⟩) l'.length cp)) B gb l' q) ∧ Hid (Below B w (w'.setCell ⟨gb, 0, none⟩ (.slice (some ⟨g, 0, none⟩) l'.length cp))) ∧
      Hid ((w'.setCell ⟨gb, 0, none⟩ (.slice (some ⟨g, 0, none⟩) l'.length cp)).heap[q]? = w.heap[q]?) := by
  obtain ⟨h1, h2, h3, h4⟩ := h
  have hq : some q ≠ v.ownBlock := by
    rcases hv with rfl | ⟨g', n, cp', rfl⟩
    · simp [Value.ownBlock]
    · have := h4 g' n cp' hc
      simp [Value.ownBlock]
      omega
  obtain ⟨a1, a2, a3, a4⟩ := BufAt.app h1.1 h1.2.1 h1.2.2.1 hc hne hA
  have hsz := hA.below.size
  have hblk := hA.block q h2 hq
  have hgq : g ≠ q := by
    rcases hA.at_ g rfl with h | h
    · intro e
      subst e
      exact hq h.symm
    · omega
  have hset : (w'.setCell ⟨gb, 0, none⟩ (.slice (some ⟨g, 0, none⟩) l'.length cp)).cell? ⟨gb, 0, none⟩ = some (.slice (some ⟨g, 0, none⟩) l'.length cp) := World.cell?_setCell_same _ _ _ a1
  refine ⟨a1, a2, ⟨a3.out, by simpa [World.setCell] using Nat.lt_of_lt_of_le h2 hsz, h3, fun g' n' cp' hc' => ?_⟩, a4, ?_⟩
  · rw [hset] at hc'
    simp at hc'
    omega
  · show (w'.setCell _ _).heap[q]? = _
    rw [Below.heap_setCell _ _ _ _ (by simpa using h3)]
    exact hblk
theorem wp_append8t {ops : Array Oper} {rest : List Oper} {o : Oper} {a : Act} {Q : Exit → Act → World → Prop} (w : World) (hgd : o.guard = none) (sl x : Operand) (ho : o.op = .call { callee := .builtin .append, args := #[sl, x], argTypes := #[93, 9] })
    (B : Nat) (v : Value) (l : List UInt8) (hs : a.eval sl = v) (h : Own8 w B v l) (s : ByteArray) (hx : a.eval x = .string s)
    (hlen : l.length + s.size ≤ 140737488355328) (hB : B ≤ w.heap.size) (hne : l ++ s.data.toList ≠ [])
    (hK : ∀ g cp w', App w w' B v (.slice (some ⟨g, 0, none⟩) (l ++ s.data.toList).length cp) (l ++ s.data.toList) → wpList Tryz.prog ops Q rest (a.put o.dst (.slice (some ⟨g, 0, none⟩) (l ++ s.data.toList).length cp)) w') : wpList Tryz.prog ops Q (o :: rest) a w := by
  refine wp_append8s w hgd sl x ho B v l hs h s hx hlen hB (fun v' w' hA => ?_)
  obtain ⟨g, cp, rfl, _⟩ := hA.own.form8 hne
  exact hK g cp w' hA
set_option maxRecDepth 4000 in
set_option maxHeartbeats 1000000 in
theorem put1_any (B gb : Nat) (l : List UInt8) (n : Int) (w : World) (q : Nat) (hbuf : BufQ w B gb l q) (hBw : B ≤ w.heap.size) (h0 : 0 ≤ n) (h1 : n ≤ 2147483647) (hl : l.length ≤ 1000000) :
    Calls Tryz.prog 159 #[.int .i64 n, .pointer (some ⟨gb, 0, none⟩)] w fun e w' => e = .returned (.tuple #[]) ∧ Below B w w' ∧ BufQ w' B gb (l ++ Nm.nb n.toNat) q ∧ w'.heap[q]? = w.heap[q]? := by
  have hl5 := Nm.nb_len5 n.toNat (by omega)
  obtain ⟨s, hs⟩ : ∃ s : ByteArray, s = ⟨(Nm.nb n.toNat).toArray⟩ := ⟨_, rfl⟩
  have hsd : s.data.toList = Nm.nb n.toNat := by rw [hs]
  have hs5 : s.size ≤ 5 := by rw [hs, size_mk8]; exact hl5
  have Hne : Hid (∀ l : List UInt8, l ++ s.data.toList ≠ []) := fun l e => Nm.nb_ne n.toNat (by rw [← hsd]; exact (List.append_eq_nil_iff.1 e).2)
  have HL : Hid (s.data.toList = Nm.nb n.toNat) := hsd
  have hc := put_yes n w h0 h1
  rw [← hs] at hc
  clear hs hsd
  go_enter Tryz.func159, Tryz.ntmps159
  go_wp2_with fail
  refine hc.mono ?_
  rintro e w1 ⟨rfl, G⟩
  have hb1 := hbuf.below G
  have hBw1 : B ≤ w1.heap.size := Nat.le_trans hBw G.size
  have HG : Below B w w1 := G.mono hBw
  have HQ : Hid (w1.heap[q]? = w.heap[q]?) := G.block q hbuf.2.1
  have HB1 : Hid (BufQ w1 B gb l q) := hb1
  clear hbuf G hc
  obtain ⟨⟨a, b, c, d⟩, _, _, _⟩ := hb1
  have len8 : ∀ l : List UInt8, (l ++ s.data.toList).length = l.length + s.size := fun l => by simp
  have Hlen : Hid (∀ l : List UInt8, (l ++ s.data.toList).length = l.length + s.size) := len8
  clear len8
  rcases d with ⟨d, e⟩ | ⟨g, cp, d, e, f⟩
  · subst e
    go_wp2_with (at_builtin; go_must (refine wp_append8t _ rfl _ _ rfl B (.slice none 0 0) [] rfl (Own8.nil _ _) s rfl (by simp; omega) hBw1 (Hne.out _) ?_; intro g1 cp1 w3 hA; obtain ⟨k1, k2, k3, k4, k5⟩ := BufQ.app HB1.out d (by simp [Value.ownBlock]) (Or.inl rfl) hA))
    go_end0
    have h3 := k3.out
    have h4 := k4.out
    have h5 := k5.out
    rw [Hlen.out, HL.out] at h3
    rw [Hlen.out] at h4 h5
    simp only [List.length_nil, Nat.zero_add, List.nil_append] at h3 h4 h5
    exact ⟨rfl, HG.trans h4, h3, h5.trans HQ.out⟩
  · go_wp2_with (at_builtin; go_must (refine wp_append8t _ rfl _ _ rfl B (.slice (some ⟨g, 0, none⟩) l.length cp) l rfl e s rfl (by omega) hBw1 (Hne.out _) ?_; intro g1 cp1 w3 hA; obtain ⟨k1, k2, k3, k4, k5⟩ := BufQ.app HB1.out d (by simp [Value.ownBlock]; exact f) (Or.inr ⟨_, _, _, rfl⟩) hA))
    go_end0
    have h3 := k3.out
    have h4 := k4.out
    have h5 := k5.out
    rw [Hlen.out, HL.out] at h3
    rw [Hlen.out] at h4 h5
    exact ⟨rfl, HG.trans h4, h3, h5.trans HQ.out⟩
def Open (w : World) (B gb q : Nat) (l : List UInt8) (x y z : Value) (T : TypeId) (g cp : Nat) : Prop :=
  w.cell? ⟨q, 0, none⟩ = some x ∧ w.cell? ⟨q, 1, none⟩ = some y ∧ w.cell? ⟨q, 2, none⟩ = some z ∧ w.frozen? ⟨gb, 0, none⟩ = false ∧
    w.cell? ⟨gb, 0, none⟩ = some (.slice (some ⟨g, 0, none⟩) l.length cp) ∧ Hid (Own8 w B (.slice (some ⟨g, 0, none⟩) l.length cp) l) ∧ g ≠ gb ∧ Hid (BufQ w B gb l q) ∧ Hid (w.heap[q]? = some (.cells #[x, y, z] T))
theorem BufQ.open {w : World} {B gb q : Nat} {l : List UInt8} {x y z : Value} {T : TypeId} (h : BufQ w B gb l q) (hl : l ≠ []) (hq : w.heap[q]? = some (.cells #[x, y, z] T)) : ∃ g cp, Open w B gb q l x y z T g cp := by
  have H : Hid (BufQ w B gb l q) := h
  have e : ∀ j, w.cell? ⟨q, j, none⟩ = #[x, y, z][j]? := fun j => cell_of_row w q j _ _ _ hq
  obtain ⟨⟨_, _, c, d⟩, _⟩ := h
  rcases d with ⟨_, d⟩ | ⟨g, cp, d1, d2, d3⟩
  · exact absurd d hl
  · exact ⟨g, cp, by rw [e]; rfl, by rw [e]; rfl, by rw [e]; rfl, c, d1, d2, d3, H, hq⟩
theorem put1_open (B gb q : Nat) (l : List UInt8) (n : Int) (w : World) (x y z : Value) (T : TypeId) (hbuf : BufQ w B gb l q) (hq : w.heap[q]? = some (.cells #[x, y, z] T)) (hBw : B ≤ w.heap.size) (h0 : 0 ≤ n) (h1 : n ≤ 2147483647) (hl : l.length ≤ 1000000) :
    Calls Tryz.prog 159 #[.int .i64 n, .pointer (some ⟨gb, 0, none⟩)] w fun e w' => e = .returned (.tuple #[]) ∧ Below B w w' ∧ ∃ L2 g cp, Hid (L2 = l ++ Nm.nb n.toNat) ∧ L2.length ≤ l.length + 5 ∧ Open w' B gb q L2 x y z T g cp := by
  refine (put1_any B gb l n w q hbuf hBw h0 h1 hl).mono ?_
  rintro e w' ⟨rfl, hb, hbq, hh⟩
  obtain ⟨g, cp, ho⟩ := BufQ.open hbq (by simp [Nm.nb_ne]) (hh.trans hq)
  exact ⟨rfl, hb, _, g, cp, rfl, by have := Nm.nb_len5 n.toNat (by omega); simp; omega, ho⟩
def tb (t : Tk.T) : List UInt8 := if t.lit.size ≠ 0 then Nm.nb (2 * t.lit.size) ++ t.lit.data.toList else Nm.nb (2 * t.len + 1).toNat ++ Nm.nb t.far.toNat
def tbs : List Tk.T → List UInt8
  | [] => []
  | t :: l => tb t ++ tbs l
theorem tbs_snoc (l : List Tk.T) (t : Tk.T) : tbs (l ++ [t]) = tbs l ++ tb t := by
  induction l with
  | nil => simp [tbs]
  | cons a l ih => simp [tbs, ih]
set_option maxHeartbeats 1000000 in
theorem write_bad (dict : ByteArray) (ad : Option Addr) (cap : Nat) (l : List Tk.T) (w : World) (hl : SlAt w ad l) (hs : Sane l) (e0 : Int) (he : checkOf dict l = e0) (hne : (e0 != 0) = true) :
    Calls Tryz.prog 128 #[.string dict, .slice ad l.length cap] w fun e w' => e = .returned (.tuple #[.string ⟨#[]⟩, .int .i64 e0]) ∧ Below w.heap.size w w' := by
  have hc := fun w hl => check_any dict ad cap l w hl hs
  rw [he] at hc
  clear he
  go_enter Tryz.func128, Tryz.ntmps128
  go_wp2_with fail
  refine (hc _ hl).mono ?_
  rintro e w1 ⟨rfl, G⟩
  clear hc
  go_wp2_with fail
  go_ret2
  exact ⟨rfl, G⟩
set_option maxRecDepth 4000 in
set_option maxHeartbeats 4000000 in
theorem write_ok (dict : ByteArray) (b off cap : Nat) (l : List Tk.T) (w : World) (hb : b < w.heap.size) (hl : TkAt w b off l) (hs : Sane l) (hd : dict.size ≤ 256) (s1 : List UInt8) (hr : Tk.run dict.size dict.data.toList false l = (0, s1)) :
    Calls Tryz.prog 128 #[.string dict, .slice (some ⟨b, off, none⟩) l.length cap] w fun e w' => e = .returned (.tuple #[.string ⟨(tbs l).toArray⟩, .int .i64 0]) ∧ Below w.heap.size w w' := by
  have hc := check_some dict b off cap l w hd hb hl hs
  rw [hr] at hc
  have hd' : (dict.size : Int) ≤ 256 := by omega
  have hn' : (l.length : Int) ≤ 140737488355328 := by have := hs.1; omega
  have hmf : ∀ (fn : Fn) (first cap : Array Value) (w : World), (Instr.makeFunc fn first cap).run Tryz.prog w = .ok (.func fn first cap) w := fun _ _ _ _ => rfl
  go_enter Tryz.func128, Tryz.ntmps128
  go_wp2_with fail
  refine hc.mono ?_
  rintro e w1 ⟨rfl, G⟩
  clear hc
  have Hr : Hid (Tk.run dict.size dict.data.toList false l = (0, s1)) := hr
  clear hr
  go_wp2_with fail
  go_loopw [20] (fun i wr => ∃ (k : Nat) (s : List UInt8) (p : Bool) (L : List UInt8), k ≤ l.length ∧ i = .int .i64 k ∧ BufAt wr w.heap.size w1.heap.size L ∧ Hid (L = tbs (l.take k)) ∧ L.length + 11 * dict.size ≤ 11 * s.length ∧
      Hid (Tk.run dict.size s p (l.drop k) = (0, s1)) ∧ dict.size ≤ s.length ∧ s.length ≤ dict.size + 512 ∧ Below w.heap.size w wr)
    (fun i _ => l.length - (intOf i).toNat)
  case atStart =>
    refine ⟨0, dict.data.toList, false, [], by omega, rfl, ?_, rfl, by simp, Hr, by simp, by simp, G.alloc G.size _⟩
    exact ⟨G.size, by simp, by rw [World.frozen?_alloc_mark]; simp, .inl ⟨by rw [World.cell?_alloc_mark]; rfl, rfl⟩⟩
  case round =>
    have hw1 := G.size
    clear G
    obtain ⟨k, s, p, L, hk, rfl, hbuf, hL, hLl, hrun, hs1, hs2, G⟩ := hrel
    by_cases hlt : k < l.length
    · have hdrop : l.drop k = l[k] :: l.drop (k + 1) := List.drop_eq_getElem_cons hlt
      obtain ⟨c0, c1, c2⟩ := hl k hlt
      rw [← G.cell (by exact hb)] at c0 c1 c2
      rw [hdrop] at hrun
      have HT : Hid (tbs (l.take (k + 1)) = L ++ tb l[k]) := by
        show _ = _
        rw [hL.out, ← tbs_snoc]
        congr 1
        simp
      clear hdrop hl hs
      generalize l[k] = t at *
      have he : Tk.err dict.size s p t = 0 := by
        by_cases h : Tk.err dict.size s p t = 0
        · exact h
        · have := hrun.out
          rw [Tk.run_bad h] at this
          simp only [Prod.mk.injEq] at this
          exact absurd this.1 h
      have HR : Hid (Tk.run dict.size (Tk.make s t) (decide (t.lit.size ≠ 0)) (l.drop (k + 1)) = (0, s1)) := by
        have := hrun.out
        rw [Tk.run_good he] at this
        exact this
      have hmk := Tk.make_ok he
      have hgs := G.size
      have HB : Hid (BufAt wr w.heap.size w1.heap.size L) := hbuf
      clear hbuf he hrun
      by_cases h0 : t.lit.size ≠ 0
      · have hE0 := empty_not h0
        have HMK : Hid ((Tk.make s t).length = s.length + t.lit.size) := by
          have := hmk.2.2.2.1 h0
          show _ = _
          rw [hmk.1, this.2]
          rfl
        have hl512 : (t.lit.size : Int) ≤ 512 := by have := hmk.2.2.2.2; omega
        have Hb512 : Hid ((s.length : Int) - dict.size + t.lit.size ≤ 512) := by have := hmk.2.2.2.2; show _ ≤ _; omega
        clear hmk
        have Hne : Hid (∀ l : List UInt8, l ++ t.lit.data.toList ≠ []) := fun l e => h0 (by simpa using congrArg List.length (List.append_eq_nil_iff.1 e).2)
        have hsd : t.lit.size ≤ 512 := by omega
        go_wp2_with (first | (go_at_call 159; go_must (refine (put1_open w.heap.size w1.heap.size wr.heap.size L _ _ _ _ _ _ (HB.out.box _) (heap_alloc_new _ _) (sz_alloc _ hgs) (by omega) (by omega) (by omega)).mono ?_; rintro e w3 ⟨rfl, hb3, L2, g3, cp3, HL2, hl2, x1, x2, x3, x4, x5, x6, x7, x8, x9⟩; have hgs3 := hb3.size; have hsz3 := sz_alloc (.cells #[.string t.lit, .int .i64 t.far, .int .i64 t.len] 165) hgs)) | (at_builtin; go_must (refine wp_append8t _ rfl _ _ rfl w.heap.size (.slice (some ⟨g3, 0, none⟩) L2.length cp3) L2 rfl x6.out t.lit rfl (by omega) (by omega) (Hne.out _) ?_; intro g4 cp4 w4 hA; obtain ⟨k1, k2, k3, k4, k5⟩ := BufQ.app x8.out x5 (by simp [Value.ownBlock]; exact x7) (Or.inr ⟨_, _, _, rfl⟩) hA)))
        go_roundw
        case rel =>
          have e1 : (L2 ++ t.lit.data.toList).length = L2.length + t.lit.size := by simp
          have h3 := k3.out
          have h4 := k4.out
          have e2 := HMK.out
          have e3 := Hb512.out
          rw [e1] at h3 h4
          refine ⟨k + 1, Tk.make s t, _, L2 ++ t.lit.data.toList, by omega, by go_num, h3.1, ?_, by rw [e1]; omega, HR, by omega, by omega, ((G.alloc hgs _).trans hb3).trans h4⟩
          show _ = _
          rw [HT.out, HL2.out, tb, if_pos h0, List.append_assoc]
          congr 2
        case measure => simp [intOf]; omega
      · have h00 : t.lit.size = 0 := by omega
        have hE0 := empty_of h00
        obtain ⟨f1, f2, f3, f4⟩ := hmk.2.2.1 h00
        have HMK : Hid ((Tk.make s t).length = s.length + t.len.toNat) := by
          show _ = _
          rw [hmk.1, h00]
          rfl
        have Hb512 : Hid ((s.length : Int) - dict.size + t.len ≤ 512) := by have := hmk.2.2.2.2; show _ ≤ _; omega
        have tok : True := trivial
        clear hmk
        go_wp2_with (first | (go_at_call 159; have _t := tok; clear tok; go_must (refine (put1_open w.heap.size w1.heap.size wr.heap.size L _ _ _ _ _ _ (HB.out.box _) (heap_alloc_new _ _) (sz_alloc _ hgs) (by omega) (by omega) (by omega)).mono ?_; rintro e w3 ⟨rfl, hb3, L2, g3, cp3, HL2, hl2, x1, x2, x3, x4, x5, x6, x7, x8, x9⟩; have hgs3 := hb3.size; have hsz3 := sz_alloc (.cells #[.string t.lit, .int .i64 t.far, .int .i64 t.len] 165) hgs)) | (go_at_call 159; go_must (refine (put1_open w.heap.size w1.heap.size wr.heap.size L2 _ _ _ _ _ _ x8.out x9.out (by omega) (by omega) (by omega) (by omega)).mono ?_; rintro e w4 ⟨rfl, hb4, L3, g4, cp4, HL3, hl3, y1, y2, y3, y4, y5, y6, y7, y8, y9⟩)))
        go_roundw
        case rel =>
          have e2 := HMK.out
          have e3 := Hb512.out
          refine ⟨k + 1, Tk.make s t, _, L3, by omega, by go_num, y8.out.1, ?_, by omega, HR, by omega, by omega, ((G.alloc hgs _).trans hb3).trans hb4⟩
          show _ = _
          rw [HL3.out, HL2.out, HT.out, tb, if_neg h0, List.append_assoc]
        case measure => simp [intOf]; omega
    · have hd1 : decide ((k : Int) < (l.length : Int)) = false := by simp; omega
      have hd2 : decide (k < l.length) = false := by simp; omega
      have HE : Hid (tbs l = L) := by
        show _ = _
        rw [hL.out, List.take_of_length_le (by omega)]
      obtain ⟨_, _, _, d⟩ := hbuf
      rcases d with ⟨d, e⟩ | ⟨g, cp, d, e, f⟩
      · have hcv := Lib.run_convert_nil_bytes wr 93 9 5 0 Tryz.underlying93 Tryz.underlying5 Tryz.underlying9
        subst e
        clear hl hs
        go_wp2_with fail
        go_ret2
        exact ⟨by rw [HE.out]; rfl, G⟩
      · obtain ⟨_, _, hq, _, _, _, _, q5⟩ := e.form (by simp)
        simp only [Value.slice.injEq, Option.some.injEq, Addr.mk.injEq, and_true, true_and] at hq
        obtain ⟨rfl, rfl⟩ := hq
        have hcv := Own8.conv q5 0 cp
        simp only [Nat.sub_zero, List.drop_zero] at hcv
        clear hl hs q5 e
        go_wp2_with fail
        go_ret2
        exact ⟨by rw [HE.out]; rfl, G⟩
end Go.Proofs.YtbjbjbpgmojcbabGreat
namespace Go.Proofs.YtbjbjbpgmojcbabGreat
open Go.RowKit
attribute [local go_sem ↓] Go.wp_at_zero Go.wp_at_succ
set_option maxHeartbeats 1000000 in
theorem write_nil (dict : ByteArray) (ad : Option Addr) (cap : Nat) (w : World) (hd : dict.size ≤ 256) :
    Calls Tryz.prog 128 #[.string dict, .slice ad 0 cap] w fun e w' => e = .returned (.tuple #[.string ⟨#[]⟩, .int .i64 0]) ∧ Below w.heap.size w w' := by
  have hc := check_nil dict ad cap w hd
  have hmf : ∀ (fn : Fn) (first cap : Array Value) (w : World), (Instr.makeFunc fn first cap).run Tryz.prog w = .ok (.func fn first cap) w := fun _ _ _ _ => rfl
  have hcv := fun w => Lib.run_convert_nil_bytes (P := Tryz.prog) w 93 9 5 0 Tryz.underlying93 Tryz.underlying5 Tryz.underlying9
  go_enter Tryz.func128, Tryz.ntmps128
  go_wp2_with fail
  refine hc.mono ?_
  rintro e w1 ⟨rfl, G⟩
  clear hc
  go_wp2_with fail
  refine wp_loop_rounds 1 ?_
  rw [rounds_succ]
  go_wp2_with fail
  go_ret2
  exact ⟨rfl, G.alloc G.size _⟩
def writeOf (dict : ByteArray) (l : List Tk.T) : ByteArray := if checkOf dict l ≠ 0 then ⟨#[]⟩ else ⟨(tbs l).toArray⟩
theorem check_ok {dict : ByteArray} {l : List Tk.T} (h0 : checkOf dict l = 0) : dict.size ≤ 256 ∧ (Tk.run dict.size dict.data.toList false l).1 = 0 := by
  unfold checkOf at h0
  by_cases h : 256 < dict.size
  · rw [if_pos h] at h0; omega
  · rw [if_neg h] at h0
    exact ⟨by omega, h0⟩
theorem write_any (dict : ByteArray) (ad : Option Addr) (cap : Nat) (l : List Tk.T) (w : World) (hl : SlAt w ad l) (hs : Sane l) :
    Calls Tryz.prog 128 #[.string dict, .slice ad l.length cap] w fun e w' => e = .returned (.tuple #[.string (writeOf dict l), .int .i64 (checkOf dict l)]) ∧ Below w.heap.size w w' := by
  unfold writeOf
  by_cases h0 : checkOf dict l = 0
  · rw [if_neg (by simpa using h0), h0]
    obtain ⟨hd, h1⟩ := check_ok h0
    rcases hl with rfl | ⟨b, off, rfl, hb, ht⟩
    · exact write_nil dict ad cap w hd
    · exact write_ok dict b off cap l w hb ht hs hd _ (by rw [← h1])
  · rw [if_pos h0]
    exact write_bad dict ad cap l w hl hs _ rfl (by simpa using h0)
def Small (l : List Tk.T) : Prop := l.length ≤ 1000 ∧ ∀ t ∈ l, t.lit.size ≤ 1000 ∧ 0 ≤ t.len ∧ t.len ≤ 1000 ∧ 0 ≤ t.far ∧ t.far ≤ 1000
end Go.Proofs.YtbjbjbpgmojcbabGreat
namespace Go.Proofs.YtbjbjbpgmojcbabGreat
def Okt (t : Tk.T) : Prop := (t.lit.size ≠ 0 ∧ t.far = 0 ∧ t.len = 0 ∧ t.lit.size ≤ 512) ∨ (t.lit.size = 0 ∧ 1 ≤ t.far ∧ t.far ≤ 768 ∧ 3 ≤ t.len ∧ t.len ≤ 64)
theorem run_ok1 {d : Nat} {s : List UInt8} {p : Bool} {t : Tk.T} {l : List Tk.T} (h : (Tk.run d s p (t :: l)).1 = 0) : Tk.err d s p t = 0 ∧ (Tk.run d (Tk.make s t) (decide (t.lit.size ≠ 0)) l).1 = 0 := by
  by_cases e : Tk.err d s p t = 0
  · rw [Tk.run_good e] at h
    exact ⟨e, h⟩
  · rw [Tk.run_bad e] at h
    exact absurd h e
theorem tb_two {t : Tk.T} (h : Okt t) : (tb t).length ≤ 2 * (t.lit.size + t.len.toNat) := by
  unfold tb
  rcases h with ⟨h0, h1, h2, h3⟩ | ⟨h0, h1, h2, h3, h4⟩
  · rw [if_pos h0, List.length_append]
    have hl : t.lit.data.toList.length = t.lit.size := by simp
    rw [hl]
    by_cases h5 : 2 * t.lit.size < 128
    · rw [Nm.nb_lt h5]
      simp only [List.length_cons, List.length_nil]
      omega
    · have := Nm.nb_len_le 1 (2 * t.lit.size) (by omega)
      omega
  · rw [if_neg (by omega), List.length_append]
    have a1 := Nm.nb_len_le 1 (2 * t.len + 1).toNat (by omega)
    have a2 := Nm.nb_len_le 1 t.far.toNat (by omega)
    omega
theorem run_okt {d : Nat} (hd : d ≤ 256) : ∀ (l : List Tk.T) (s : List UInt8) (p : Bool), d ≤ s.length → s.length ≤ d + 512 → (Tk.run d s p l).1 = 0 →
    (∀ t ∈ l, Okt t) ∧ (tbs l).length + 2 * s.length ≤ 2 * (d + 512) ∧ l.length + s.length ≤ d + 512 := by
  intro l
  induction l with
  | nil => intro s p h1 h2 _; refine ⟨fun t h => by simp at h, ?_, ?_⟩ <;> simp [tbs] <;> omega
  | cons t l ih =>
    intro s p h1 h2 h
    obtain ⟨he, h⟩ := run_ok1 h
    obtain ⟨m1, m2, m3, m4, m5⟩ := Tk.make_ok he
    have ok : Okt t := by
      by_cases h0 : t.lit.size = 0
      · have := m3 h0
        exact .inr ⟨h0, by omega, by omega, by omega, by omega⟩
      · have := m4 h0
        exact .inl ⟨h0, this.1, this.2, by omega⟩
    have ht := tb_two ok
    obtain ⟨i1, i2, i3⟩ := ih (Tk.make s t) _ (by omega) (by omega) h
    have hpos : 1 ≤ t.lit.size + t.len.toNat := by rcases ok with h | h <;> omega
    refine ⟨?_, ?_, ?_⟩
    · intro u hu
      rcases List.mem_cons.1 hu with rfl | hu
      · exact ok
      · exact i1 u hu
    · simp only [tbs, List.length_append]
      omega
    · simp only [List.length_cons]
      omega
theorem check_okt {dict : ByteArray} {l : List Tk.T} (h : checkOf dict l = 0) : (∀ t ∈ l, Okt t) ∧ (tbs l).length ≤ 1024 ∧ l.length ≤ 512 := by
  obtain ⟨hd, h1⟩ := check_ok h
  have hl : dict.data.toList.length = dict.size := by simp
  have := run_okt hd l dict.data.toList false (by omega) (by omega) h1
  exact ⟨this.1, by omega, by omega⟩
theorem check_small {dict : ByteArray} {l : List Tk.T} (h : checkOf dict l = 0) : Small l := by
  obtain ⟨h1, _, h3⟩ := check_okt h
  refine ⟨by omega, fun t ht => ?_⟩
  rcases h1 t ht with h | h <;> omega
theorem small_sane {l : List Tk.T} (h : Small l) : Sane l := ⟨by have := h.1; omega, fun t ht => by have := h.2 t ht; omega⟩
theorem one_tb {t : Tk.T} (h : Okt t) (r : List UInt8) : Tk.one ⟨(tb t ++ r).toArray⟩ = some (t, (tb t).length) := by
  unfold Tk.one tb
  rcases h with ⟨h0, h1, h2, h3⟩ | ⟨h0, h1, h2, h3, h4⟩
  · rw [if_pos h0]
    have hl : t.lit.data.toList.length = t.lit.size := by simp
    have hf : Nm.from_ (⟨(Nm.nb (2 * t.lit.size) ++ t.lit.data.toList ++ r).toArray⟩ : ByteArray).data.toList = some (2 * t.lit.size, (Nm.nb (2 * t.lit.size)).length) := by
      show Nm.from_ (Nm.nb (2 * t.lit.size) ++ t.lit.data.toList ++ r).toArray.toList = _
      rw [List.toList_toArray, List.append_assoc]
      exact Nm.from_nb _ _ (by omega)
    rw [hf]
    simp only
    rw [if_neg (by omega), if_neg]
    · congr 2
      · obtain ⟨x, f, n⟩ := t
        simp only at h1 h2
        subst h1 h2
        congr 1
        apply Nm.ba_ext
        rw [Tk.ext_data]
        show (((Nm.nb (2 * x.size) ++ x.data.toList ++ r).toArray.toList).drop _).take _ = _
        rw [List.toList_toArray, List.append_assoc, List.drop_left, show (Nm.nb (2 * x.size)).length + 2 * x.size / 2 - (Nm.nb (2 * x.size)).length = x.data.toList.length by simp]
        exact List.take_left ..
      · rw [List.length_append, hl]
        omega
    · show ¬ (Nm.nb (2 * t.lit.size) ++ t.lit.data.toList ++ r).toArray.size - _ < _
      simp only [List.size_toArray, List.length_append, hl]
      omega
  · rw [if_neg (by omega)]
    have hf : Nm.from_ (⟨(Nm.nb (2 * t.len + 1).toNat ++ Nm.nb t.far.toNat ++ r).toArray⟩ : ByteArray).data.toList = some ((2 * t.len + 1).toNat, (Nm.nb (2 * t.len + 1).toNat).length) := by
      show Nm.from_ (Nm.nb (2 * t.len + 1).toNat ++ Nm.nb t.far.toNat ++ r).toArray.toList = _
      rw [List.toList_toArray, List.append_assoc]
      exact Nm.from_nb _ _ (by omega)
    rw [hf]
    simp only
    rw [if_pos (by omega), Tk.ext_end]
    have hg : Nm.from_ ((⟨(Nm.nb (2 * t.len + 1).toNat ++ Nm.nb t.far.toNat ++ r).toArray⟩ : ByteArray).data.toList.drop (Nm.nb (2 * t.len + 1).toNat).length) = some (t.far.toNat, (Nm.nb t.far.toNat).length) := by
      show Nm.from_ ((Nm.nb (2 * t.len + 1).toNat ++ Nm.nb t.far.toNat ++ r).toArray.toList.drop _) = _
      rw [List.toList_toArray, List.append_assoc, List.drop_left]
      exact Nm.from_nb _ _ (by omega)
    rw [hg]
    simp only
    congr 2
    · obtain ⟨x, f, n⟩ := t
      simp only at h0 h1 h2 h3 h4
      congr 1
      · apply Nm.ba_ext
        have : x.data.toList.length = 0 := h0
        rw [List.eq_nil_of_length_eq_zero this]
      · simp only
        omega
      · simp only
        omega
    · rw [List.length_append]
theorem D_tbs : ∀ (l : List Tk.T), (∀ t ∈ l, Okt t) → Tk.D ⟨(tbs l).toArray⟩ = some l := by
  intro l
  induction l with
  | nil => intro _; exact Tk.D_nil rfl
  | cons t l ih =>
    intro h
    rw [show tbs (t :: l) = tb t ++ tbs l from rfl, Tk.D_some (one_tb (h t (by simp)) (tbs l))]
    have e : (⟨(tb t ++ tbs l).toArray⟩ : ByteArray).extract (tb t).length (⟨(tb t ++ tbs l).toArray⟩ : ByteArray).size = ⟨(tbs l).toArray⟩ := by
      apply Nm.ba_ext
      rw [Tk.ext_end]
      show (tb t ++ tbs l).toArray.toList.drop _ = (tbs l).toArray.toList
      rw [List.toList_toArray, List.toList_toArray, List.drop_left]
    rw [e, ih (fun u hu => h u (by simp [hu]))]
    rfl
theorem tb_one {s : ByteArray} {t : Tk.T} {k : Nat} (h : Tk.one s = some (t, k)) (ho : Okt t) : tb t = s.data.toList.take k := by
  unfold Tk.one at h
  have hl : s.data.toList.length = s.size := by simp
  cases hf : Nm.from_ s.data.toList with
  | none => rw [hf] at h; simp at h
  | some x =>
    obtain ⟨n, j⟩ := x
    rw [hf] at h
    simp only at h
    obtain ⟨f1, f2, f3, f4, f5⟩ := Nm.nb_from hf
    by_cases hp : n % 2 = 1
    · rw [if_pos hp] at h
      cases hg : Nm.from_ (s.extract j s.size).data.toList with
      | none => rw [hg] at h; simp at h
      | some y =>
        obtain ⟨f, i⟩ := y
        rw [hg] at h
        simp only [Option.some.injEq, Prod.mk.injEq] at h
        obtain ⟨rfl, rfl⟩ := h
        obtain ⟨g1, g2, g3, g4, g5⟩ := Nm.nb_from hg
        rw [Tk.ext_end] at g2
        unfold tb
        rw [if_neg (fun h => h rfl)]
        simp only
        rw [show (2 * ((n / 2 : Nat) : Int) + 1).toNat = n by omega, show ((f : Nat) : Int).toNat = f by omega, f2, g2, List.take_add]
    · rw [if_neg hp] at h
      by_cases hb : s.size - j < n / 2
      · rw [if_pos hb] at h; simp at h
      · rw [if_neg hb] at h
        simp only [Option.some.injEq, Prod.mk.injEq] at h
        obtain ⟨rfl, rfl⟩ := h
        have hz : (s.extract j (j + n / 2)).size = n / 2 := by simp; omega
        unfold tb
        rcases ho with ho | ho
        · rw [if_pos ho.1]
          simp only
          rw [hz, show 2 * (n / 2) = n by omega, f2, Tk.ext_data, show j + n / 2 - j = n / 2 by omega, List.take_add]
        · exact absurd ho.2.1 (by simp)
theorem tbs_D : ∀ (n : Nat) (s : ByteArray) (l : List Tk.T), s.size ≤ n → Tk.D s = some l → (∀ t ∈ l, Okt t) → tbs l = s.data.toList := by
  intro n
  induction n with
  | zero =>
    intro s l h1 h2 _
    rw [Tk.D_nil (by omega)] at h2
    cases h2
    have : s.data.toList.length = 0 := show s.size = 0 by omega
    rw [List.eq_nil_of_length_eq_zero this]
    rfl
  | succ n ih =>
    intro s l h1 h2 h3
    by_cases h0 : s.size = 0
    · exact ih s l (by omega) h2 h3
    · cases ho : Tk.one s with
      | none => rw [Tk.D_none h0 ho] at h2; cases h2
      | some x =>
        obtain ⟨t, k⟩ := x
        have hp := Tk.one_pos ho
        rw [Tk.D_some ho] at h2
        cases hD : Tk.D (s.extract k s.size) with
        | none => rw [hD] at h2; cases h2
        | some m =>
          rw [hD] at h2
          simp only [Option.map_some, Option.some.injEq] at h2
          subst h2
          have := ih (s.extract k s.size) m (by rw [Tk.ext_size]; omega) hD (fun u hu => h3 u (by simp [hu]))
          rw [Tk.ext_end] at this
          rw [show tbs (t :: m) = tb t ++ tbs m from rfl, this, tb_one ho (h3 t (by simp)), List.take_append_drop]
theorem readOf_some {dict s : ByteArray} {l : List Tk.T} (hd : dict.size ≤ 256) (h : readOf dict s = some l) : Tk.D s = some l ∧ checkOf dict l = 0 := by
  unfold readOf at h
  cases hD : Tk.D s with
  | none => rw [hD] at h; simp at h
  | some m =>
    rw [hD] at h
    simp only at h
    by_cases hr : (Tk.run dict.size dict.data.toList false m).1 = 0
    · rw [if_pos hr] at h
      cases h
      refine ⟨rfl, ?_⟩
      unfold checkOf
      rw [if_neg (by omega), hr]
    · rw [if_neg hr] at h; cases h
theorem readOf_of {dict s : ByteArray} {l : List Tk.T} (hD : Tk.D s = some l) (hc : checkOf dict l = 0) : readOf dict s = some l := by
  unfold readOf
  rw [hD]
  simp only
  rw [if_pos (check_ok hc).2]
theorem read_tbs {dict s : ByteArray} {l : List Tk.T} (hd : dict.size ≤ 256) (h : readOf dict s = some l) : (⟨(tbs l).toArray⟩ : ByteArray) = s ∧ checkOf dict l = 0 := by
  obtain ⟨h1, h2⟩ := readOf_some hd h
  refine ⟨?_, h2⟩
  rw [tbs_D s.size s l (Nat.le_refl _) h1 (check_okt h2).1, Nm.ba_list]
theorem read_long0 {dict s : ByteArray} (hd : dict.size ≤ 256) (h : 1024 < s.size) : readOf dict s = none := by
  cases hr : readOf dict s with
  | none => rfl
  | some l =>
    obtain ⟨h1, h2⟩ := read_tbs hd hr
    have := (check_okt h2).2.1
    rw [← h1] at h
    have e : (⟨(tbs l).toArray⟩ : ByteArray).size = (tbs l).length := rfl
    omega
theorem from_read {dict s : ByteArray} (hd : dict.size ≤ 256) : fromOf dict s = readOf dict s := by
  unfold fromOf readOf
  cases hD : Tk.D s with
  | none => rfl
  | some l =>
    simp only
    by_cases hr : (Tk.run dict.size dict.data.toList false l).1 = 0
    · have hc : checkOf dict l = 0 := by unfold checkOf; rw [if_neg (by omega), hr]
      rw [if_pos hr, if_pos ⟨(check_okt hc).2.2, hc⟩]
    · have hc : ¬ checkOf dict l = 0 := by unfold checkOf; rw [if_neg (by omega)]; exact hr
      rw [if_neg hr, if_neg (fun h => hc h.2)]
theorem read_write {dict : ByteArray} {l : List Tk.T} (hc : checkOf dict l = 0) : readOf dict ⟨(tbs l).toArray⟩ = some l := readOf_of (D_tbs l (check_okt hc).1) hc
theorem copy_take (l : List UInt8) (a far : Nat) (h1 : 1 ≤ far) (h2 : far ≤ a) : ∀ n, (∀ j, j < n → l[a - far + j]? = l[a + j]?) → a + n ≤ l.length → Tk.copy far n (l.take a) = l.take (a + n) := by
  intro n
  induction n with
  | zero => intro _ _; rfl
  | succ n ih =>
    intro h hl
    rw [Tk.copy_succ, ih (fun j hj => h j (by omega)) (by omega)]
    have hlen : (l.take (a + n)).length = a + n := by rw [List.length_take]; omega
    rw [hlen, List.getD_eq_getElem?_getD, List.getElem?_take, if_pos (by omega), show a + n - far = a - far + n by omega, h n (by omega), List.getElem?_eq_getElem (show a + n < l.length by omega), Option.getD_some, show a + (n + 1) = (a + n) + 1 by omega, List.take_add_one, List.getElem?_eq_getElem (show a + n < l.length by omega)]
    rfl
theorem err_copy {d : Nat} {s : List UInt8} {p : Bool} {f n : Nat} (h1 : 3 ≤ n) (h2 : n ≤ 64) (h3 : 1 ≤ f) (h4 : f ≤ s.length) (h5 : s.length + n ≤ d + 512) : Tk.err d s p ⟨⟨#[]⟩, (f : Nat), (n : Nat)⟩ = 0 := by
  unfold Tk.err
  rw [if_neg (fun h => h rfl), if_neg (by simp only; omega), if_neg (by simp only; omega)]
theorem make_copy {s : List UInt8} {f n : Nat} : Tk.make s ⟨⟨#[]⟩, (f : Nat), (n : Nat)⟩ = Tk.copy f n s := by
  unfold Tk.make
  rw [if_neg (fun h => h rfl)]
  rfl
theorem err_lay {d : Nat} {s : List UInt8} {x : ByteArray} (h0 : x.size ≠ 0) (h5 : s.length + x.size ≤ d + 512) : Tk.err d s false ⟨x, 0, 0⟩ = 0 := by
  unfold Tk.err
  rw [if_pos h0, if_neg (by simp), if_neg (by simp only; omega)]
theorem make_lay {s : List UInt8} {x : ByteArray} (h0 : x.size ≠ 0) : Tk.make s ⟨x, 0, 0⟩ = s ++ x.data.toList := by
  unfold Tk.make
  rw [if_pos h0]
theorem run_lay (s : ByteArray) (d f a : Nat) (m : List Tk.T) (h1 : f ≤ a) (h2 : a ≤ s.size) (h3 : s.size ≤ d + 512) : ∃ p, Tk.run d (s.data.toList.take f) false (Tk.lay s f a ++ m) = Tk.run d (s.data.toList.take a) p m := by
  have hl : s.data.toList.length = s.size := by simp
  unfold Tk.lay
  by_cases h : f < a
  · rw [if_pos h]
    have hz : (s.extract f a).size = a - f := by simp; omega
    have hlen : (s.data.toList.take f).length = f := by rw [List.length_take]; omega
    refine ⟨decide ((s.extract f a).size ≠ 0), ?_⟩
    rw [List.cons_append, List.nil_append, Tk.run_good (err_lay (by omega) (by rw [hlen, hz]; omega)), make_lay (by omega), Tk.ext_data, ← List.take_add, show f + (a - f) = a by omega]
  · rw [if_neg h]
    refine ⟨false, ?_⟩
    rw [show f = a by omega]
    rfl
theorem P_run (s : ByteArray) (d : Nat) (h3 : s.size ≤ d + 512) : ∀ (n a f : Nat), s.size - a ≤ n → f ≤ a → a ≤ s.size → Tk.run d (s.data.toList.take f) false (Tk.P s a f) = (0, s.data.toList) := by
  have hl : s.data.toList.length = s.size := by simp
  intro n
  induction n with
  | zero =>
    intro a f h1 h2 h4
    rw [Tk.P_end (by omega)]
    obtain ⟨p, hp⟩ := run_lay s d f a [] h2 h4 h3
    rw [List.append_nil] at hp
    rw [hp, Tk.run, List.take_of_length_le (by omega)]
  | succ n ih =>
    intro a f h1 h2 h4
    by_cases ha : a < s.size
    · by_cases hb : (Tk.bst s.data.toList a).2 < 3
      · rw [Tk.P_lit ha hb]
        exact ih (a + 1) f (by omega) (by omega) (by omega)
      · rw [Tk.P_copy ha hb]
        obtain ⟨b1, b2⟩ := Tk.bst_ok s.data.toList a
        generalize Tk.bst s.data.toList a = b at *
        obtain ⟨far, len⟩ := b
        simp only at hb b1 b2 ⊢
        rcases b2 with b2 | ⟨b2, b3, b4, b5⟩
        · simp only [Prod.mk.injEq] at b2; omega
        · unfold Tk.most at b1
          have hlen : (s.data.toList.take a).length = a := by rw [List.length_take]; omega
          obtain ⟨p, hp⟩ := run_lay s d f a (⟨⟨#[]⟩, (far : Nat), (len : Nat)⟩ :: Tk.P s (a + len) (a + len)) h2 h4 h3
          rw [hp, Tk.run_good (err_copy (by omega) (by omega) b2 (by omega) (by omega)), make_copy, copy_take s.data.toList a far b2 b3 len (fun j hj => Tk.alk_same _ _ _ _ j (by rw [← b5]; exact hj)) (by omega)]
          exact ih (a + len) (a + len) (by omega) (Nat.le_refl _) (by omega)
    · exact ih a f (by omega) h2 h4
theorem parse_plays (dict text : ByteArray) (hd : dict.size ≤ 256) (ht : text.size ≤ 512) : checkOf dict (Tk.P (dict ++ text) dict.size dict.size) = 0 ∧ playOf dict (Tk.P (dict ++ text) dict.size dict.size) = text := by
  have h := P_run (dict ++ text) dict.size (by rw [Nm.apps]; omega) _ dict.size dict.size (Nat.le_refl _) (Nat.le_refl _) (by rw [Nm.apps]; omega)
  have hl : dict.data.toList.length = dict.size := by simp
  rw [Nm.appd, ← hl, List.take_left] at h
  rw [hl] at h
  have hc : checkOf dict (Tk.P (dict ++ text) dict.size dict.size) = 0 := by
    unfold checkOf
    rw [if_neg (by omega), h]
  refine ⟨hc, ?_⟩
  unfold playOf
  rw [if_neg (by rw [hc]; simp), h]
  simp only
  rw [← hl, List.drop_left, Nm.ba_list]
end Go.Proofs.YtbjbjbpgmojcbabGreat
namespace Go.Proofs.YtbjbjbpgmojcbabGreat
open Go.RowKit
namespace Bk
def ptK (s : ByteArray) (k : Nat) : Nat → Int := fun i => if i < 2 * k then (if i % 2 = 0 then (Cd.at8 s (i / 2) / 16 : Nat) else (Cd.at8 s (i / 2) % 16 : Nat)) else 0
def pt (s : ByteArray) : Nat → Int := ptK s 8
theorem ptK_next (s : ByteArray) (k : Nat) (i : Nat) : upd (upd (ptK s k) (2 * k) (Cd.at8 s k / 16 : Nat)) (2 * k + 1) (Cd.at8 s k % 16 : Nat) i = ptK s (k + 1) i := by
  unfold upd ptK
  by_cases h1 : i = 2 * k + 1
  · subst h1
    rw [if_pos rfl, if_pos (by omega), if_neg (by omega), show (2 * k + 1) / 2 = k by omega]
  · rw [if_neg h1]
    by_cases h2 : i = 2 * k
    · subst h2
      rw [if_pos rfl, if_pos (by omega), if_pos (by omega), show 2 * k / 2 = k by omega]
    · rw [if_neg h2]
      by_cases h3 : i < 2 * k
      · rw [if_pos h3, if_pos (show i < 2 * (k + 1) by omega)]
      · rw [if_neg h3, if_neg (show ¬ i < 2 * (k + 1) by omega)]
def whl (s : ByteArray) : ByteArray × Int := if 512 < s.size then (⟨#[]⟩, 1) else (s, 0)
def ply (dict s : ByteArray) : ByteArray × Int := match readOf dict s with | none => (⟨#[]⟩, 1) | some l => (playOf dict l, 0)
def enc (s : ByteArray) : ByteArray := (⟨(jn (Cd.bld (hv s)).1).toArray⟩ : ByteArray) ++ ⟨(Nm.nb s.size).toArray⟩ ++ (Cd.wrt (Cd.bld (hv s)).1 s).1
theorem bld_in {c : Nat → Int} (h : Cd.InR c 2048 16) : Cd.InR (Cd.bld c).1 15 16 := by
  by_cases h0 : (Cd.bld c).2 = 0
  · exact (Cd.chk_zero (Cd.bld_best c h0).1).1
  · have e : (Cd.bld c).1 = fun _ => 0 := by
      unfold Cd.bld at h0 ⊢
      rw [if_neg (fun h9 => h9 h)] at h0 ⊢
      by_cases h1 : (Cd.lt2 c 16).1 = -1
      · rw [if_pos h1]
      · rw [if_neg h1] at h0
        by_cases h2 : (Cd.lt2 c 16).2 = -1
        · rw [if_pos h2] at h0; exact absurd rfl h0
        · rw [if_neg h2] at h0; exact absurd rfl h0
    rw [e]
    intro i _
    exact ⟨Int.le_refl _, by show (0 : Int) ≤ 15; decide⟩
end Bk
set_option maxHeartbeats 400000 in
theorem whole_any (s : ByteArray) (w : World) (hs : s.size ≤ 140737488355328) :
    Calls Tryz.prog 168 #[.string s] w fun e w' => e = .returned (.tuple #[.string (Bk.whl s).1, .int .i64 (Bk.whl s).2]) ∧ Below w.heap.size w w' := by
  by_cases h : 512 < s.size
  · have e : Bk.whl s = (⟨#[]⟩, 1) := if_pos h
    rw [e]
    have d1 : decide (512 < (s.size : Int)) = true := by simp; omega
    have h' : 512 < (s.size : Int) := by omega
    clear e h
    go_enter Tryz.func168, Tryz.ntmps168
    go_wp2_with fail
    go_ret2
    exact ⟨rfl, Below.refl _ _⟩
  · have e : Bk.whl s = (s, 0) := if_neg h
    rw [e]
    have d1 : decide (512 < (s.size : Int)) = false := by simp; omega
    have hc := fun w => clone_any s w (by omega)
    clear e h
    go_enter Tryz.func168, Tryz.ntmps168
    go_wp2_with fail
    refine (hc _).mono ?_
    rintro e w1 ⟨rfl, G⟩
    go_wp2_with fail
    go_ret2
    exact ⟨rfl, G⟩
set_option maxHeartbeats 400000 in
theorem blockPlay_any (dict s : ByteArray) (w : World) (hd : dict.size ≤ 256) :
    Calls Tryz.prog 169 #[.string dict, .string s] w fun e w' => e = .returned (.tuple #[.string (Bk.ply dict s).1, .int .i64 (Bk.ply dict s).2]) ∧ Below w.heap.size w w' := by
  have c1 := fun w => read_any dict s w hd (fun h => read_long0 hd h)
  cases hq : readOf dict s with
  | none =>
    have e : Bk.ply dict s = (⟨#[]⟩, 1) := by rw [Bk.ply, hq]
    rw [e]
    have c2 : ∀ w, Calls Tryz.prog 187 #[.string dict, .string s] w fun e w' => Below w.heap.size w w' ∧ e = .returned (.tuple #[.slice none 0 0, .int .i64 1]) := fun w => (c1 w).mono fun e w' h => by
      rcases h with ⟨h1, ⟨_, h2⟩ | ⟨l, a, c, h2, _⟩⟩
      · exact ⟨h1, h2⟩
      · rw [hq] at h2; cases h2
    clear e hq c1
    go_enter Tryz.func169, Tryz.ntmps169
    go_wp2_with fail
    refine (c2 _).mono ?_
    rintro e w1 ⟨G, rfl⟩
    go_wp2_with fail
    go_ret2
    exact ⟨rfl, G⟩
  | some l =>
    have e : Bk.ply dict s = (playOf dict l, 0) := by rw [Bk.ply, hq]
    rw [e]
    have c2 : ∀ w, Calls Tryz.prog 187 #[.string dict, .string s] w fun e w' => Below w.heap.size w w' ∧ ∃ ad cap, e = .returned (.tuple #[.slice ad l.length cap, .int .i64 0]) ∧ SlAt w' ad l := fun w => (c1 w).mono fun e w' h => by
      rcases h with ⟨h1, ⟨h2, _⟩ | ⟨k, a, c, h2, h3, h4⟩⟩
      · rw [hq] at h2; cases h2
      · rw [hq] at h2; cases h2; exact ⟨h1, a, c, h3, h4⟩
    have r1 := read_tbs hd hq
    have c3 := fun ad cap w hl => play_any dict ad cap l w hl (small_sane (check_small r1.2))
    rw [r1.2] at c3
    generalize playOf dict l = X at *
    clear e hq c1 r1
    go_enter Tryz.func169, Tryz.ntmps169
    go_wp2_with fail
    refine (c2 _).mono ?_
    rintro e w1 ⟨G1, ad, cap, rfl, S1⟩
    go_wp2_with fail
    refine (c3 _ _ _ S1).mono ?_
    rintro e w2 ⟨rfl, G2⟩
    go_wp2_with fail
    go_ret2
    exact ⟨rfl, bch G1 G2 (Nat.le_refl _)⟩
set_option maxRecDepth 4000 in
set_option maxHeartbeats 1000000 in
theorem parted_any (s : ByteArray) (w : World) (hs : s.size = 8) :
    Calls Tryz.prog 190 #[.string s] w fun e w' => e = .returned (.agg (arr (Bk.pt s))) ∧ Below w.heap.size w w' := by
  obtain ⟨R2, R3⟩ := RowAt.two w (fun _ => 0) (fun _ => 0)
  have HB := below2 w (.cells (arr fun _ => 0) 127) (.cells (arr fun _ => 0) 127)
  rw [← arr_zero] at R2 R3 HB
  have Hs : Hid (s.size = 8) := hs
  obtain ⟨r, hr⟩ : ∃ r, Bk.pt s = r := ⟨_, rfl⟩
  rw [hr]
  have Hr : Hid (Bk.ptK s 8 = r) := hr
  clear hr hs
  go_enter Tryz.func190, Tryz.ntmps190
  go_wp2_with fail
  rw [arr_zero] at R2 R3 HB
  rw [arr_zero]
  generalize (w.alloc (.cells (arr fun _ => 0) 127)).alloc (.cells (arr fun _ => 0) 127) = w0 at *
  obtain ⟨g1, hg1⟩ : ∃ g1, g1 = w.heap.size := ⟨_, rfl⟩
  have hq : Hid (g1 < w.heap.size + 1 ∧ w.heap.size = g1) := by show _ ∧ _; omega
  generalize w.heap.size + 1 = g3 at *
  clear hg1
  have R3' := R3.congr (f' := Bk.ptK s 0) (fun i _ => by simp [Bk.ptK])
  go_loopw [5] (fun i wr => ∃ k : Nat, k ≤ 8 ∧ i = .int .i64 k ∧ RowAt wr w.heap.size (fun _ => 0) ∧ RowAt wr g3 (Bk.ptK s k) ∧ Below w.heap.size w wr) (fun i _ => 8 - (intOf i).toNat)
  case atStart => exact ⟨0, by omega, rfl, R2, R3', HB⟩
  case round =>
    clear R2 R3 R3' HB
    obtain ⟨k, hk, rfl, R2, R3, HB⟩ := hrel
    by_cases hlt : k < 8
    · have hk1 : decide ((k : Int) < 8) = true := by simp; omega
      have hk2 : decide (k < 8) = true := by simp; omega
      have hks : k < s.size := by have := Hs.out; omega
      have hk3 : (k : Int) < (s.size : Int) := by omega
      obtain ⟨x, hx⟩ : ∃ x : Int, (s[k].toNat : Int) = x := ⟨_, rfl⟩
      have hA : Cd.at8 s k = s[k].toNat := by unfold Cd.at8; rw [Nm.at_list s k hks]; rfl
      have hA2 := Cd.at8_lt s k
      have hx0 : 0 ≤ x := by omega
      have hx1 : x ≤ 255 := by omega
      obtain ⟨H, hH⟩ : ∃ H, Cd.at8 s k / 16 = H := ⟨_, rfl⟩
      obtain ⟨L, hL⟩ : ∃ L, Cd.at8 s k % 16 = L := ⟨_, rfl⟩
      have e1 : x / 16 = (H : Int) := by omega
      have e2 : x % 16 = (L : Int) := by omega
      have e3 : x.tdiv 16 = (H : Int) := by rw [Int.tdiv_eq_ediv_of_nonneg hx0]; exact e1
      have e4 : x.tmod 16 = (L : Int) := by rw [Int.tmod_eq_emod_of_nonneg hx0]; exact e2
      have hH2 : H < 16 := by omega
      have hL2 : L < 16 := by omega
      obtain ⟨K2, hK2e⟩ : ∃ K2, 2 * k = K2 := ⟨_, rfl⟩
      obtain ⟨K3, hK3e⟩ : ∃ K3, 2 * k + 1 = K3 := ⟨_, rfl⟩
      have hK2 : K2 < 16 := by omega
      have hK3 : K3 < 16 := by omega
      have m2 : 2 * (k : Int) = (K2 : Int) := by omega
      have m3 : (K2 : Int) + 1 = (K3 : Int) := by omega
      have hK2i : (K2 : Int) < 16 := by omega
      have hK3i : (K3 : Int) < 16 := by omega
      have c1 := R3.cell K2 hK2
      have f1 := R3.frozen K2
      have S3 := R3.set K2 (H : Int)
      have S2 := R2.setFar (q := g3) (by have := hq.out; omega) K2 (.int .i64 (H : Int))
      have SB := HB.setCell (p := ⟨g3, K2, none⟩) (by have := hq.out; show _ ≤ g3; omega) (.int .i64 (H : Int))
      have c2 := S3.cell K3 hK3
      have f2 := S3.frozen K3
      have T3 := (S3.set K3 (L : Int)).congr (f' := Bk.ptK s (k + 1)) (fun i _ => by rw [← hK2e, ← hK3e, ← hH, ← hL]; exact Bk.ptK_next s k i)
      have T2 := S2.setFar (q := g3) (by have := hq.out; omega) K3 (.int .i64 (L : Int))
      have TB := SB.setCell (p := ⟨g3, K3, none⟩) (by have := hq.out; show _ ≤ g3; omega) (.int .i64 (L : Int))
      clear hA hA2 hH hL e1 e2 hK2e hK3e R2 R3 HB S2 S3 SB
      go_wp2_with fail
      go_roundw
      case rel => exact ⟨k + 1, by omega, by go_num, T2, T3, TB⟩
      case measure => simp [intOf]; omega
    · obtain rfl : k = 8 := by omega
      rw [Hr.out] at R3
      have hi1 := arr_infoc r
      go_wp2_with (first | refine wpList_load_row rfl 127 _ rfl g3 rfl 127 (arr r) (0, 0) _ R3.2 Tryz.underlying127 rfl hi1 ?_ | refine wpList_store_row rfl 127 _ _ rfl w.heap.size (arr r) rfl rfl 127 _ R2.2 hi1 (by rw [arr_size, arr_size]) (arr_one _) ?_)
      have U2 := R2.setRow r
      exact bodyPost_ret (v := .agg (arr r)) (results_cell_row Tryz.results190 _ _ w.heap.size 127 _ (0, 0) _ rfl U2.2 Tryz.underlying127 rfl hi1) rfl ⟨rfl, below_setRow HB (Nat.le_refl _) _⟩
set_option maxRecDepth 4000 in
set_option maxHeartbeats 1000000 in
theorem encode_any (s : ByteArray) (w : World) (hs : s.size ≤ 1024) :
    Calls Tryz.prog 129 #[.string s] w fun e w' => e = .returned (.string (Bk.enc s)) ∧ Below w.heap.size w w' := by
  have c1 := fun w => halves_any s w hs
  have c2 := fun w => codeBuild_any (Bk.hv s) w
  have c3 := fun w => put_yes (s.size : Int) w (by omega) (by omega)
  rw [Int.toNat_natCast] at c3
  have c4 := fun w => codeWrite_any (Cd.bld (Bk.hv s)).1 s w (by omega)
  have c5 := fun w => joined_any (Cd.bld (Bk.hv s)).1 w (Bk.bld_in (Bk.hv_in s hs))
  have HE : Hid ((⟨(Bk.jn (Cd.bld (Bk.hv s)).1).toArray⟩ : ByteArray) ++ ⟨(Nm.nb s.size).toArray⟩ ++ (Cd.wrt (Cd.bld (Bk.hv s)).1 s).1 = Bk.enc s) := rfl
  have z1 : (⟨(Bk.jn (Cd.bld (Bk.hv s)).1).toArray⟩ : ByteArray).size ≤ 8 := by
    show (Bk.jn _).toArray.size ≤ _
    simp [Bk.jn, Bk.jnK_len]
  have z2 : (⟨(Nm.nb s.size).toArray⟩ : ByteArray).size ≤ 5 := by
    have := Nm.nb_len5 s.size (by omega)
    show (Nm.nb s.size).toArray.size ≤ _
    simpa using this
  have z3 := wrt_size (Cd.bld (Bk.hv s)).1 s
  have hiL := arr_infoc (Cd.bld (Bk.hv s)).1
  have hb0 : (s.size : Int) ≤ 1024 := by omega
  generalize Bk.enc s = R at *
  generalize (Cd.wrt (Cd.bld (Bk.hv s)).1 s).1 = W at *
  generalize (Cd.wrt (Cd.bld (Bk.hv s)).1 s).2 = We at *
  generalize (⟨(Bk.jn (Cd.bld (Bk.hv s)).1).toArray⟩ : ByteArray) = J at *
  generalize (⟨(Nm.nb s.size).toArray⟩ : ByteArray) = N at *
  generalize (Cd.bld (Bk.hv s)).1 = L at *
  generalize (Cd.bld (Bk.hv s)).2 = E at *
  generalize Bk.hv s = C at *
  go_enter Tryz.func129, Tryz.ntmps129
  go_wp2_with fail
  refine (c1 _).mono ?_
  rintro e w1 ⟨rfl, G1⟩
  go_wp2_with fail
  refine (c2 _).mono ?_
  rintro e w2 ⟨rfl, G2⟩
  have B2 := bch G1 G2 (Nat.le_refl _)
  have L3 := RowAt.new w2 L
  have B3 : Below w.heap.size w (w2.alloc (.cells (arr L) 127)) := B2.alloc B2.size _
  clear G1 G2 B2 c1 c2
  go_wp2_with (refine wpList_store_row rfl 127 _ _ rfl w2.heap.size (arr L) rfl rfl 127 _ (heap_alloc_last w2 _) hiL rfl (arr_one _) ?_; rw [World.setRow_alloc_new])
  generalize w2.alloc (.cells (arr L) 127) = wa at *
  generalize w2.heap.size = gl at *
  refine (c3 _).mono ?_
  rintro e w3 ⟨rfl, G3⟩
  have L4 := L3.below G3
  have B4 := bch B3 G3 (Nat.le_refl _)
  clear L3 B3 G3 c3
  go_wp2_with (refine wpList_load_row rfl 127 _ rfl gl rfl 127 (arr L) (0, 0) _ L4.2 Tryz.underlying127 rfl hiL ?_)
  refine (c4 _).mono ?_
  rintro e w4 ⟨rfl, G4⟩
  have L5 := L4.below G4
  have B5 := bch B4 G4 (Nat.le_refl _)
  clear L4 B4 G4 c4
  go_wp2_with (refine wpList_load_row rfl 127 _ rfl gl rfl 127 (arr L) (0, 0) _ L5.2 Tryz.underlying127 rfl hiL ?_)
  refine (c5 _).mono ?_
  rintro e w5 ⟨rfl, G5⟩
  have B6 := bch B5 G5 (Nat.le_refl _)
  clear L5 B5 G5 c5
  go_wp2_with fail
  go_ret
  exact ⟨congrArg (fun s => Ending.returned (Value.string s)) HE.out, B6⟩
namespace Bk
def dec (s : ByteArray) : ByteArray × Int :=
  if s.size < 8 then (⟨#[]⟩, 1) else match Nm.from_ (s.extract 8 s.size).data.toList with
    | none => (⟨#[]⟩, 1)
    | some (n, k) => if (Cd.rd (pt (s.extract 0 8)) ((s.extract 8 s.size).extract k (s.extract 8 s.size).size) (n : Nat)).2 = 0 then ((Cd.rd (pt (s.extract 0 8)) ((s.extract 8 s.size).extract k (s.extract 8 s.size).size) (n : Nat)).1, 0) else (⟨#[]⟩, 1)
theorem dec_none {s : ByteArray} (h : ¬ s.size < 8) (hq : Nm.from_ (s.extract 8 s.size).data.toList = none) : dec s = (⟨#[]⟩, 1) := by rw [dec, if_neg h, hq]
theorem dec_some {s : ByteArray} {n k : Nat} (h : ¬ s.size < 8) (hq : Nm.from_ (s.extract 8 s.size).data.toList = some (n, k)) : dec s = if (Cd.rd (pt (s.extract 0 8)) ((s.extract 8 s.size).extract k (s.extract 8 s.size).size) (n : Nat)).2 = 0 then ((Cd.rd (pt (s.extract 0 8)) ((s.extract 8 s.size).extract k (s.extract 8 s.size).size) (n : Nat)).1, 0) else (⟨#[]⟩, 1) := by rw [dec, if_neg h, hq]
end Bk
theorem ext_size (s : ByteArray) (a b : Nat) : (s.extract a b).size = min b s.size - a := by simp [ByteArray.size_extract]
set_option maxRecDepth 4000 in
set_option maxHeartbeats 1000000 in
theorem decode_any (s : ByteArray) (w : World) (hs : s.size ≤ 140737488355328) :
    Calls Tryz.prog 170 #[.string s] w fun e w' => e = .returned (.tuple #[.string (Bk.dec s).1, .int .i64 (Bk.dec s).2]) ∧ Below w.heap.size w w' := by
  by_cases h8 : s.size < 8
  · have e : Bk.dec s = (⟨#[]⟩, 1) := if_pos h8
    rw [e]
    have d1 : decide ((s.size : Int) < 8) = true := by simp; omega
    have h' : (s.size : Int) < 8 := by omega
    clear e h8
    go_enter Tryz.func170, Tryz.ntmps170
    go_wp2_with fail
    go_ret2
    exact ⟨rfl, Below.refl _ _⟩
  · have d1 : decide ((s.size : Int) < 8) = false := by simp; omega
    have h8' : (8 : Int) ≤ (s.size : Int) := by omega
    have h8n : 8 ≤ s.size := by omega
    have z8 := ext_size s 8 s.size
    have z0 := ext_size s 0 8
    cases hq : Nm.from_ (s.extract 8 s.size).data.toList with
    | none =>
      rw [Bk.dec_none h8 hq]
      have c1 := fun w => take_no (s.extract 8 s.size) w (by omega) hq
      clear hq h8 z8 z0
      have et : ∃ t, s.extract 8 s.size = t := ⟨_, rfl⟩
      obtain ⟨t, et⟩ := et
      rw [et] at c1
      go_enter Tryz.func170, Tryz.ntmps170
      go_wp2_with fail
      refine (c1 _).mono ?_
      rintro e w1 ⟨rfl, G⟩
      go_wp2_with fail
      go_ret2
      exact ⟨rfl, G⟩
    | some x =>
      obtain ⟨n, k⟩ := x
      have hD := Bk.dec_some h8 hq
      have c1 := fun w => take_yes (s.extract 8 s.size) w n k (by omega) hq
      have c2 := fun w => parted_any (s.extract 0 8) w (by omega)
      have zz := ext_size (s.extract 8 s.size) k (s.extract 8 s.size).size
      have c3 := fun w => codeRead_any (Bk.pt (s.extract 0 8)) ((s.extract 8 s.size).extract k (s.extract 8 s.size).size) (n : Nat) w (by omega)
      clear hq h8 z8 z0 zz
      generalize Bk.dec s = D at *
      have hip := arr_infoc (Bk.pt (s.extract 0 8))
      generalize (Cd.rd (Bk.pt (s.extract 0 8)) ((s.extract 8 s.size).extract k (s.extract 8 s.size).size) (n : Nat)).1 = X at *
      generalize (Cd.rd (Bk.pt (s.extract 0 8)) ((s.extract 8 s.size).extract k (s.extract 8 s.size).size) (n : Nat)).2 = E at *
      generalize Bk.pt (s.extract 0 8) = P at *
      obtain ⟨t0, e0⟩ : ∃ t, s.extract 0 8 = t := ⟨_, rfl⟩
      obtain ⟨t, et⟩ : ∃ t, s.extract 8 s.size = t := ⟨_, rfl⟩
      rw [et] at c1 c3
      rw [e0] at c2
      generalize t.extract k t.size = r at *
      by_cases hE : E = 0
      · rw [if_pos hE] at hD
        subst hD
        subst hE
        go_enter Tryz.func170, Tryz.ntmps170
        go_wp2_with fail
        refine (c1 _).mono ?_
        rintro e w1 ⟨rfl, G1⟩
        go_wp2_with fail
        refine (c2 _).mono ?_
        rintro e w2 ⟨rfl, G2⟩
        go_wp2_with fail
        refine (c3 _).mono ?_
        rintro e w3 ⟨rfl, G3⟩
        go_wp2_with fail
        go_ret2
        exact ⟨rfl, bch (bch G1 G2 (Nat.le_refl _)) G3 (Nat.le_refl _)⟩
      · rw [if_neg hE] at hD
        subst hD
        have dE : (E != 0) = true := by simpa using hE
        clear hE
        go_enter Tryz.func170, Tryz.ntmps170
        go_wp2_with fail
        refine (c1 _).mono ?_
        rintro e w1 ⟨rfl, G1⟩
        go_wp2_with fail
        refine (c2 _).mono ?_
        rintro e w2 ⟨rfl, G2⟩
        go_wp2_with fail
        refine (c3 _).mono ?_
        rintro e w3 ⟨rfl, G3⟩
        go_wp2_with fail
        go_ret2
        exact ⟨rfl, bch (bch G1 G2 (Nat.le_refl _)) G3 (Nat.le_refl _)⟩
end Go.Proofs.YtbjbjbpgmojcbabGreat
namespace Go.Proofs.YtbjbjbpgmojcbabGreat
open Go.RowKit
namespace Bk
def unp (dict b : ByteArray) : ByteArray × Int :=
  if 256 < dict.size then (⟨#[]⟩, 2) else if b.size = 0 then (⟨#[]⟩, 1) else
  if Cd.at8 b 0 = 0 then whl (b.extract 1 b.size) else if Cd.at8 b 0 = 1 then ply dict (b.extract 1 b.size)
  else if Cd.at8 b 0 = 2 then (if (dec (b.extract 1 b.size)).2 = 0 then ply dict (dec (b.extract 1 b.size)).1 else (⟨#[]⟩, (dec (b.extract 1 b.size)).2)) else (⟨#[]⟩, 1)
theorem first_is {b : ByteArray} (h : b.size ≠ 0) (x : UInt8) : b.extract 0 1 = ⟨#[x]⟩ ↔ Cd.at8 b 0 = x.toNat := by
  have hl : 0 < b.data.size := by have : b.size = b.data.size := rfl; omega
  have e : (b.extract 0 1).data.toList = [b.data[0]] := by
    simp only [ByteArray.data_extract, Array.toList_extract]
    cases b with
    | mk d =>
      obtain ⟨l⟩ := d
      cases l with
      | nil => simp at hl
      | cons a l => simp
  have e2 : Cd.at8 b 0 = b.data[0].toNat := by
    unfold Cd.at8
    rw [Array.getElem?_toList, Array.getElem?_eq_getElem hl]
    rfl
  rw [e2]
  constructor
  · intro h9
    rw [h9] at e
    simp at e
    rw [e]
  · intro h9
    apply ByteArray.ext
    apply Array.toList_inj.1
    rw [e]
    have : b.data[0] = x := UInt8.toNat_inj.1 h9
    rw [this]
theorem first_beq {b : ByteArray} (h : b.size ≠ 0) (x : UInt8) : ((b.extract 0 1).toList == [x]) = decide (Cd.at8 b 0 = x.toNat) := by
  have ex : [x] = (⟨#[x]⟩ : ByteArray).toList := by rw [ByteArray.toList_eq]
  rw [ex, ba_beq]
  by_cases h1 : Cd.at8 b 0 = x.toNat
  · rw [decide_eq_true h1, decide_eq_true ((first_is h x).2 h1)]
  · rw [decide_eq_false h1, decide_eq_false (fun h9 => h1 ((first_is h x).1 h9))]
end Bk
set_option maxRecDepth 4000 in
set_option maxHeartbeats 1000000 in
theorem unpack_any (dict b : ByteArray) (w : World) (hd0 : dict.size ≤ 140737488355328) (hb : b.size ≤ 140737488355328) :
    Calls Tryz.prog 138 #[.string dict, .string b] w fun e w' => e = .returned (.tuple #[.string (Bk.unp dict b).1, .int .i64 (Bk.unp dict b).2]) ∧ Below w.heap.size w w' := by
  by_cases hd : 256 < dict.size
  · have e : Bk.unp dict b = (⟨#[]⟩, 2) := if_pos hd
    rw [e]
    have d1 : decide (256 < (dict.size : Int)) = true := by simp; omega
    have h' : 256 < (dict.size : Int) := by omega
    clear e hd
    go_enter Tryz.func138, Tryz.ntmps138
    go_wp2_with fail
    go_ret2
    exact ⟨rfl, Below.refl _ _⟩
  · have d1 : decide (256 < (dict.size : Int)) = false := by simp; omega
    have hd' : (dict.size : Int) ≤ 256 := by omega
    by_cases h0 : b.size = 0
    · have e : Bk.unp dict b = (⟨#[]⟩, 1) := by rw [Bk.unp, if_neg hd, if_pos h0]
      rw [e]
      obtain rfl : b = ⟨#[]⟩ := by
        apply ByteArray.ext
        exact Array.eq_empty_of_size_eq_zero h0
      clear e hd h0
      go_enter Tryz.func138, Tryz.ntmps138
      go_wp2_with fail
      go_ret2
      exact ⟨rfl, Below.refl _ _⟩
    · have hne : b.toList.isEmpty = false := by
        rw [ByteArray.toList_eq, Bool.eq_false_iff]
        intro e
        rw [List.isEmpty_iff] at e
        apply h0
        have := congrArg List.length e
        rw [Cd.size_list] at this
        simpa using this
      have hU : Bk.unp dict b = if Cd.at8 b 0 = 0 then Bk.whl (b.extract 1 b.size) else if Cd.at8 b 0 = 1 then Bk.ply dict (b.extract 1 b.size) else if Cd.at8 b 0 = 2 then (if (Bk.dec (b.extract 1 b.size)).2 = 0 then Bk.ply dict (Bk.dec (b.extract 1 b.size)).1 else (⟨#[]⟩, (Bk.dec (b.extract 1 b.size)).2)) else (⟨#[]⟩, 1) := by rw [Bk.unp, if_neg hd, if_neg h0]
      have k0 := Bk.first_beq h0 0
      have k1 := Bk.first_beq h0 1
      have k2 := Bk.first_beq h0 2
      have hs1 := ext_size b 1 b.size
      have hb1 : (1 : Int) ≤ (b.size : Int) := by omega
      have hb1n : 1 ≤ b.size := by omega
      have hbs : (b.extract 1 b.size).size ≤ 140737488355328 := by omega
      rw [hU]
      clear hU hs1 h0
      by_cases e0 : Cd.at8 b 0 = 0
      · rw [if_pos e0]
        have c1 := fun w => whole_any (b.extract 1 b.size) w hbs
        rw [decide_eq_true (by exact e0)] at k0
        generalize (Bk.whl (b.extract 1 b.size)).1 = X at *
        generalize (Bk.whl (b.extract 1 b.size)).2 = E at *
        clear k1 k2 e0 hd
        go_enter Tryz.func138, Tryz.ntmps138
        go_wp2_with fail
        refine (c1 _).mono ?_
        rintro e w1 ⟨rfl, G⟩
        go_wp2_with fail
        go_ret2
        exact ⟨rfl, G⟩
      · rw [if_neg e0]
        rw [decide_eq_false (by exact e0)] at k0
        by_cases e1 : Cd.at8 b 0 = 1
        · rw [if_pos e1]
          have c1 := fun w => blockPlay_any dict (b.extract 1 b.size) w (by omega)
          rw [decide_eq_true (by exact e1)] at k1
          generalize (Bk.ply dict (b.extract 1 b.size)).1 = X at *
          generalize (Bk.ply dict (b.extract 1 b.size)).2 = E at *
          clear k2 e0 e1 hd
          go_enter Tryz.func138, Tryz.ntmps138
          go_wp2_with fail
          refine (c1 _).mono ?_
          rintro e w1 ⟨rfl, G⟩
          go_wp2_with fail
          go_ret2
          exact ⟨rfl, G⟩
        · rw [if_neg e1]
          rw [decide_eq_false (by exact e1)] at k1
          by_cases e2 : Cd.at8 b 0 = 2
          · rw [if_pos e2]
            rw [decide_eq_true (by exact e2)] at k2
            have c1 := fun w => decode_any (b.extract 1 b.size) w hbs
            have c2 := fun w => blockPlay_any dict (Bk.dec (b.extract 1 b.size)).1 w (by omega)
            by_cases hE : (Bk.dec (b.extract 1 b.size)).2 = 0
            · rw [if_pos hE]
              rw [hE] at c1
              generalize (Bk.ply dict (Bk.dec (b.extract 1 b.size)).1).1 = X at *
              generalize (Bk.ply dict (Bk.dec (b.extract 1 b.size)).1).2 = E at *
              generalize (Bk.dec (b.extract 1 b.size)).1 = Y at *
              clear e0 e1 e2 hd hE
              go_enter Tryz.func138, Tryz.ntmps138
              go_wp2_with fail
              refine (c1 _).mono ?_
              rintro e w1 ⟨rfl, G1⟩
              go_wp2_with fail
              refine (c2 _).mono ?_
              rintro e w2 ⟨rfl, G2⟩
              go_wp2_with fail
              go_ret2
              exact ⟨rfl, bch G1 G2 (Nat.le_refl _)⟩
            · rw [if_neg hE]
              generalize (Bk.dec (b.extract 1 b.size)).1 = Y at *
              generalize (Bk.dec (b.extract 1 b.size)).2 = E at *
              have dE : (E != 0) = true := by simpa using hE
              clear e0 e1 e2 hd hE c2
              go_enter Tryz.func138, Tryz.ntmps138
              go_wp2_with fail
              refine (c1 _).mono ?_
              rintro e w1 ⟨rfl, G1⟩
              go_wp2_with fail
              go_ret2
              exact ⟨rfl, G1⟩
          · rw [if_neg e2]
            rw [decide_eq_false (by exact e2)] at k2
            clear e0 e1 e2 hd
            go_enter Tryz.func138, Tryz.ntmps138
            go_wp2_with fail
            go_ret2
            exact ⟨rfl, Below.refl _ _⟩
end Go.Proofs.YtbjbjbpgmojcbabGreat
namespace Go.Proofs.YtbjbjbpgmojcbabGreat
open Go.RowKit
namespace Bk
def xa (xs : List ByteArray) (i : Nat) : ByteArray := xs.getD i ⟨#[]⟩
def mnK (xs : List ByteArray) : Nat → ByteArray
  | 0 => xa xs 0
  | i + 1 => if (xa xs i).size < (mnK xs i).size then xa xs i else mnK xs i
theorem mnK_one (xs : List ByteArray) : mnK xs 1 = xa xs 0 := by rw [mnK, mnK, if_neg (by omega)]
def TxAt (w : World) (g : Nat) (xs : List ByteArray) : Prop := g < w.heap.size ∧ ∀ i, i < xs.length → w.cell? ⟨g, i, none⟩ = some (.string (xa xs i))
theorem TxAt.below {w w' : World} {g : Nat} {xs : List ByteArray} (h : TxAt w g xs) (hb : Below w.heap.size w w') : TxAt w' g xs := ⟨Nat.lt_of_lt_of_le h.1 hb.size, fun i hi => by rw [← h.2 i hi]; exact hb.cell (p := ⟨g, i, none⟩) h.1⟩
theorem mnK_size {xs : List ByteArray} {B : Nat} (h : ∀ i, (xa xs i).size ≤ B) : ∀ i, (mnK xs i).size ≤ B := by
  intro i
  induction i with
  | zero => exact h 0
  | succ i ih =>
    rw [mnK]
    split
    · exact h i
    · exact ih
end Bk
set_option maxHeartbeats 400000 in
theorem packLess_any (a b : ByteArray) (w : World) (ha : a.size ≤ 140737488355328) (hb : b.size ≤ 140737488355328) :
    Calls Tryz.prog 131 #[.string a, .string b] w fun e w' => e = .returned (.int .i64 ((a.size : Int) - (b.size : Int))) ∧ Below w.heap.size w w' := by
  have ha' : (a.size : Int) ≤ 140737488355328 := by omega
  have hb' : (b.size : Int) ≤ 140737488355328 := by omega
  go_enter Tryz.func131, Tryz.ntmps131
  go_wp2_with fail
  go_ret
  exact ⟨rfl, Below.refl _ _⟩
set_option maxRecDepth 4000 in
set_option maxHeartbeats 1000000 in
theorem minFunc_any (xs : List ByteArray) (g cap : Nat) (w : World) (hx : Bk.TxAt w g xs) (hn : 1 ≤ xs.length) (hn2 : xs.length ≤ 1000) (hB : ∀ i, (Bk.xa xs i).size ≤ 1000000) :
    Calls Tryz.prog 130 #[.slice (some ⟨g, 0, none⟩) xs.length cap, .func (.func 131) #[] #[]] w fun e w' => e = .returned (.string (Bk.mnK xs xs.length)) ∧ Below w.heap.size w w' := by
  have HX : Hid (∀ w', Bk.TxAt w' g xs → ∀ i, i < xs.length → w'.cell? ⟨g, i, none⟩ = some (.string (Bk.xa xs i))) := fun w' h => h.2
  have c0 := HX.out w hx 0 (by omega)
  have HB : Hid (∀ i, (Bk.xa xs i).size ≤ 1000000) := hB
  obtain ⟨r, hr⟩ : ∃ r, Bk.mnK xs xs.length = r := ⟨_, rfl⟩
  rw [hr]
  have Hr : Hid (Bk.mnK xs xs.length = r) := hr
  have HM1 : Hid (Bk.mnK xs 1 = Bk.xa xs 0) := Bk.mnK_one xs
  have dn : decide ((xs.length : Int) < 1) = false := decide_eq_false (by omega)
  have dn' : decide (xs.length < 1) = false := decide_eq_false (by omega)
  have hn' : (1 : Int) ≤ (xs.length : Int) := by omega
  have hn3 : (0 : Int) < (xs.length : Int) := by omega
  clear hr hB
  go_enter Tryz.func130, Tryz.ntmps130
  go_wp2_with fail
  go_loopw [5, 6] (fun m i wr => ∃ k : Nat, 1 ≤ k ∧ k ≤ xs.length ∧ i = .int .i64 k ∧ m = .string (Bk.mnK xs k) ∧ Bk.TxAt wr g xs ∧ Below w.heap.size w wr) (fun _ i _ => xs.length - (intOf i).toNat)
  case atStart => exact ⟨1, by omega, hn, rfl, by rw [HM1.out], hx, Below.refl _ _⟩
  case round =>
    clear c0 hx
    obtain ⟨k, hk1, hk2, rfl, rfl, hx, B1⟩ := hrel
    by_cases hlt : k < xs.length
    · have d1 : decide ((k : Int) < (xs.length : Int)) = true := by simp; omega
      have d1' : decide (k < xs.length) = true := by simp; omega
      have hki : (k : Int) < (xs.length : Int) := by omega
      have c1 := HX.out wr hx k hlt
      have z1 := HB.out k
      have z2 := Bk.mnK_size HB.out k
      have c2 := fun w => packLess_any (Bk.xa xs k) (Bk.mnK xs k) w (by omega) (by omega)
      have HN : Hid (Bk.mnK xs (k + 1) = if (Bk.xa xs k).size < (Bk.mnK xs k).size then Bk.xa xs k else Bk.mnK xs k) := rfl
      obtain ⟨X, hXe⟩ : ∃ X, Bk.xa xs k = X := ⟨_, rfl⟩
      rw [hXe] at c1 z1 c2 HN
      have HXk : Hid (Bk.xa xs k = X) := hXe
      clear hXe
      generalize Bk.mnK xs k = M at *
      by_cases hs : X.size < M.size
      · have d2 : decide ((X.size : Int) - (M.size : Int) < 0) = true := decide_eq_true (by omega)
        have HN2 : Hid (Bk.mnK xs (k + 1) = X) := HN.out.trans (if_pos hs)
        clear HN
        go_wp2_with fail
        refine (c2 _).mono ?_
        rintro e w2 ⟨rfl, G⟩
        have x2 := hx.below G
        have B2 := bch B1 G (Nat.le_refl _)
        have c3 := HX.out w2 x2 k hlt
        rw [show Bk.xa xs k = X from HXk.out] at c3
        clear hx B1 G c2 c1
        go_wp2_with fail
        go_roundw
        case rel => exact ⟨k + 1, by omega, by omega, by go_num, by rw [HN2.out], x2, B2⟩
        case measure => simp [intOf]; omega
      · have d2 : decide ((X.size : Int) - (M.size : Int) < 0) = false := decide_eq_false (by omega)
        have HN2 : Hid (Bk.mnK xs (k + 1) = M) := HN.out.trans (if_neg hs)
        clear HN
        go_wp2_with fail
        refine (c2 _).mono ?_
        rintro e w2 ⟨rfl, G⟩
        have x2 := hx.below G
        have B2 := bch B1 G (Nat.le_refl _)
        clear hx B1 G c2 c1
        go_wp2_with fail
        go_roundw
        case rel => exact ⟨k + 1, by omega, by omega, by go_num, by rw [HN2.out], x2, B2⟩
        case measure => simp [intOf]; omega
    · obtain rfl : k = xs.length := by omega
      have d1 : decide ((xs.length : Int) < (xs.length : Int)) = false := by simp
      have d1' : decide (xs.length < xs.length) = false := by simp
      rw [Hr.out]
      go_wp2_with fail
      go_ret
      exact ⟨rfl, B1⟩
end Go.Proofs.YtbjbjbpgmojcbabGreat
namespace Go.Proofs.YtbjbjbpgmojcbabGreat
open Go.RowKit Go.Maps Go.ChangeShapes
set_option maxRecDepth 4000 in
set_option maxHeartbeats 2000000 in
theorem lay1_no {w : World} {B bm gp ga gf gl base : Nat} {s : ByteArray} {r a f : Nat} {v : Value} {l : List Tk.T} (h : PS w bm gp ga gf gl base s r a f v l) (hf : ¬ f < a) :
    Calls Tryz.prog 155 #[.pointer (some ⟨gf, 0, none⟩), .pointer (some ⟨ga, 0, none⟩), .pointer (some ⟨gl, 0, none⟩), .pointer (some ⟨gp, 0, none⟩)] w fun e w' => e = .returned (.tuple #[]) ∧ Below B w w' ∧ ∃ v', PS w' bm gp ga gf gl base s r a f v' (l ++ Tk.lay s f a) := by
  have hca := h.ca
  have hcf := h.cf
  have d1 : decide ((f : Int) < (a : Int)) = false := by simp; omega
  have d1' : decide (f < a) = false := by simp; omega
  have H : Hid (PS w bm gp ga gf gl base s r a f v l) := h
  clear h
  go_enter Tryz.func155, Tryz.ntmps155
  go_wp2_with fail
  go_end0
  refine ⟨rfl, Below.refl _ _, v, ?_⟩
  unfold Tk.lay
  rw [if_neg hf, List.append_nil]
  exact H.out
set_option maxRecDepth 4000 in
set_option maxHeartbeats 4000000 in
theorem lay1_yes {w : World} {B bm gp ga gf gl base : Nat} {s : ByteArray} {r a f : Nat} {v : Value} {l : List Tk.T} (O : Ord B bm gp ga gf gl base) (h : PS w bm gp ga gf gl base s r a f v l) (hf : f < a) (ha : a ≤ s.size) (hs : s.size ≤ 2000) (hl : l.length ≤ 2000) :
    Calls Tryz.prog 155 #[.pointer (some ⟨gf, 0, none⟩), .pointer (some ⟨ga, 0, none⟩), .pointer (some ⟨gl, 0, none⟩), .pointer (some ⟨gp, 0, none⟩)] w fun e w' => e = .returned (.tuple #[]) ∧ Below B w w' ∧ ∃ v', PS w' bm gp ga gf gl base s r a f v' (l ++ Tk.lay s f a) := by
  obtain ⟨i0, hi, hz0, hz1, hz2⟩ := info_parts info_tok
  have hca := h.ca
  have hcf := h.cf
  have hcl := h.cl
  have hcp := h.past.c0
  have d1 : decide ((f : Int) < (a : Int)) = true := by simp; omega
  have d1' : decide (f < a) = true := by simp; omega
  have hsl := slice_at s (f : Int) (a : Int) f a rfl rfl (by omega) ha
  have hbs := h.bs
  obtain ⟨o1, o2, o3, o4, o5, o6⟩ := O
  have O : Hid (Ord B bm gp ga gf gl base) := ⟨o1, o2, o3, o4, o5, o6⟩
  have H : Hid (PS w bm gp ga gf gl base s r a f v l) := h
  have hlay : Tk.lay s f a = [⟨s.extract f a, 0, 0⟩] := by unfold Tk.lay; rw [if_pos hf]
  have HB : Hid (Tk.lay s f a = [⟨s.extract f a, 0, 0⟩]) := hlay
  clear h hlay
  have nfl : gf ≠ gl := by omega
  have nal : ga ≠ gl := by omega
  have npl : gp ≠ gl := by omega
  have nlf : gl ≠ gf := by omega
  have nla : gl ≠ ga := by omega
  have nlp : gl ≠ gp := by omega
  have xs : (s.extract f a).size ≤ 281474976710656 := Nm.ext_le (by omega)
  go_enter Tryz.func155, Tryz.ntmps155
  go_wp2_with fail
  have HL : Hid (∀ (w1 : World) (g cp : Nat) (w2 : World) (T : TypeId), Below w.heap.size w w1 → PS w1 bm gp ga gf gl base s r a f v l → (w1.alloc (.cells #[.string (s.extract f a), .int .i64 0, .int .i64 0] T)).grownBy w2 v.ownBlock →
      w2.ownsRow base 165 3 (.slice (some ⟨g, 0, none⟩) (l.length + 1) cp) (l.length + 1) (tcs l ++ [.string (s.extract f a), .int .i64 0, .int .i64 0]) → (v.ownBlock = some g ∨ g = (w1.alloc (.cells #[.string (s.extract f a), .int .i64 0, .int .i64 0] T)).heap.size) →
      Hid (Below B w (w2.setCell ⟨gl, 0, none⟩ (.slice (some ⟨g, 0, none⟩) (l.length + 1) cp)) ∧ PS (w2.setCell ⟨gl, 0, none⟩ (.slice (some ⟨g, 0, none⟩) (l.length + 1) cp)) bm gp ga gf gl base s r a f (.slice (some ⟨g, 0, none⟩) (l.length + 1) cp) (l ++ [⟨s.extract f a, 0, 0⟩])) ∧ w2.cell? ⟨gl, 0, none⟩ = some v ∧ w2.frozen? ⟨gl, 0, none⟩ = false) := by
    intro w1 g cp w2 T hb hp hg hown hat
    have hg1 := (World.grownBy_alloc w1 _ _).trans hg
    obtain ⟨q1, q2, q3⟩ := hp.laid (t := ⟨s.extract f a, 0, 0⟩) O.out hown hg1 (hat.imp id (fun e => by rw [e]; simp))
    refine ⟨⟨?_, q1⟩, q2, q3⟩
    have h1 : Below B w w1 := hb.mono (by omega)
    have h2 := h1.grown hg1 (by have := hp.bs; omega) (fun k hk => by have := (hp.own.lt k hk).1; omega)
    exact h2.setCell (by show B ≤ gl; omega) _
  go_region_law (first | (refine step_append_lies _ rfl _ _ 131 rfl base 165 i0 (.agg #[.string ⟨#[]⟩, .int .i64 0, .int .i64 0]) 3 32 Tryz.underlying131 hi hz0 hz1 hz2 rfl (by decide) v _ _ rfl (H1.out.own.alloc _) ⟨w1.heap.size, 0, none⟩ 1 1 [.string (s.extract f a), .int .i64 0, .int .i64 0] rfl rfl (news3 _ _ _ _ _) (one3 _ _ _ rfl rfl rfl) (by decide) (ml_le (by omega)) (by omega) (by simp; omega) _ rfl ?_; intro g cp w2 hown2 hgrow2 hat2 hlt2; obtain ⟨HP, k1, k2⟩ := HL.out w1 g cp w2 _ hb H1.out hgrow2 hown2 hat2; clear hgrow2 hown2 hat2 hlt2) | (go_simp; go_at_call 69; refine (clone_any _ _ xs).mono ?_; rintro e w1 ⟨rfl, hb⟩; replace hb : Below w.heap.size w w1 := (by exact Below.trans (Below.refl _ _).drew hb); have H1 : Hid (PS w1 bm gp ga gf gl base s r a f v l) := H.out.below O.out hb; have hcl1 := H1.out.cl; have hcl2 : ∀ o, (w1.alloc o).cell? ⟨gl, 0, none⟩ = some v := fun o => (World.cell?_alloc_lt _ _ _ (World.block_lt_of_cell? w1 _ hcl1)).trans hcl1; have hbs1 := H1.out.bs))
  all_goals
    go_wp2_with fail
    go_end0
    exact ⟨rfl, HP.out.1, _, by rw [HB.out]; exact HP.out.2⟩
end Go.Proofs.YtbjbjbpgmojcbabGreat
namespace Go.Proofs.YtbjbjbpgmojcbabGreat
open Go.RowKit Go.Maps Go.ChangeShapes
theorem lay1_any {w : World} {B bm gp ga gf gl base : Nat} {s : ByteArray} {r a f : Nat} {v : Value} {l : List Tk.T} (O : Ord B bm gp ga gf gl base) (h : PS w bm gp ga gf gl base s r a f v l) (ha : a ≤ s.size) (hs : s.size ≤ 2000) (hl : l.length ≤ 2000) :
    Calls Tryz.prog 155 #[.pointer (some ⟨gf, 0, none⟩), .pointer (some ⟨ga, 0, none⟩), .pointer (some ⟨gl, 0, none⟩), .pointer (some ⟨gp, 0, none⟩)] w fun e w' => e = .returned (.tuple #[]) ∧ Below B w w' ∧ ∃ v', PS w' bm gp ga gf gl base s r a f v' (l ++ Tk.lay s f a) := by
  by_cases hf : f < a
  · exact lay1_yes O h hf ha hs hl
  · exact lay1_no h hf
set_option maxRecDepth 4000 in
set_option maxHeartbeats 1000000 in
theorem parse_many (dict text : ByteArray) (w : World) (hd : 256 < dict.size ∨ 512 < text.size) :
    Calls Tryz.prog 127 #[.string dict, .string text] w fun e w' => e = .returned (.tuple #[.slice none 0 0, .int .i64 2]) ∧ Below w.heap.size w w' := by
  by_cases h1 : 256 < dict.size
  · have d1 : decide ((256 : Int) < (dict.size : Int)) = true := by simp; omega
    have d1' : (256 : Int) < (dict.size : Int) := by omega
    go_enter Tryz.func127, Tryz.ntmps127
    go_wp2_with fail
    go_ret2
    exact ⟨rfl, Below.refl _ _⟩
  · have d1 : decide ((256 : Int) < (dict.size : Int)) = false := by simp; omega
    have d1' : (dict.size : Int) ≤ 256 := by omega
    have d2 : decide ((512 : Int) < (text.size : Int)) = true := by simp; omega
    have d2' : (512 : Int) < (text.size : Int) := by omega
    go_enter Tryz.func127, Tryz.ntmps127
    go_wp2_with fail
    go_ret2
    exact ⟨rfl, Below.refl _ _⟩
theorem past_made (w : World) (base : Nat) (hb : w.heap.size < base) (No : Nat → Prop) (s : ByteArray) : ∃ D : DataW Value, IsMap D ∧ (w.alloc (.map #[] 0)).ownsGroups Tryz.prog 9 base 3 .i64 w.heap.size 0 D ∧ (w.alloc (.map #[] 0)).Shuns w.heap.size No ∧ Reads D s 0 := by
  refine ⟨.map [], isMap_empty, ⟨#[], 0, (MapKept.heap_alloc w _).1, ⟨by simp, MapKept.stamped_empty 0, by simp⟩, Nat.le_refl _, rfl, hb, by simp, by simp⟩, World.Shuns_made w No, ?_⟩
  intro k
  rfl
theorem ps_start (w : World) (s : ByteArray) (d : Nat) (T1 T2 T3 T4 : TypeId) :
    PS (((((w.alloc (.map #[] 0)).alloc (.cells #[.string s, .map (some w.heap.size), .int .i64 0] T1)).alloc (.cells #[.int .i64 (d : Nat)] T2)).alloc (.cells #[.int .i64 (d : Nat)] T3)).alloc (.cells #[.slice none 0 0] T4)) w.heap.size (w.heap.size + 1) (w.heap.size + 1 + 1) (w.heap.size + 1 + 1 + 1) (w.heap.size + 1 + 1 + 1 + 1) (w.heap.size + 1 + 1 + 1 + 1 + 1) s 0 d d (.slice none 0 0) [] := by
  have hs : ∀ (u : World) (o : Obj), (u.alloc o).heap.size = u.heap.size + 1 := fun u o => by simp
  obtain ⟨W1, hW1⟩ : ∃ W1, W1 = w.alloc (.map #[] 0) := ⟨_, rfl⟩
  have s1 : W1.heap.size = w.heap.size + 1 := by rw [hW1, hs]
  have hmap := past_made w (w.heap.size + 1 + 1 + 1 + 1 + 1) (by omega) (fun g => (Value.slice none 0 0).ownBlock = some g) s
  rw [← hW1] at hmap ⊢
  clear hW1
  obtain ⟨W2, hW2⟩ : ∃ W2, W2 = W1.alloc (.cells #[.string s, .map (some w.heap.size), .int .i64 0] T1) := ⟨_, rfl⟩
  have s2 : W2.heap.size = w.heap.size + 1 + 1 := by rw [hW2, hs, s1]
  have b2 : Below W1.heap.size W1 W2 := by rw [hW2]; exact (Below.refl _ _).alloc (Nat.le_refl _) _
  have c20 : W2.cell? ⟨w.heap.size + 1, 0, none⟩ = some (.string s) := by rw [hW2, ← s1, World.cell?_alloc_mark]; rfl
  have c21 : W2.cell? ⟨w.heap.size + 1, 1, none⟩ = some (.map (some w.heap.size)) := by rw [hW2, ← s1, World.cell?_alloc_mark]; rfl
  have c22 : W2.cell? ⟨w.heap.size + 1, 2, none⟩ = some (.int .i64 ((0 : Nat) : Int)) := by rw [hW2, ← s1, World.cell?_alloc_mark]; rfl
  have f22 : W2.frozen? ⟨w.heap.size + 1, 2, none⟩ = false := by rw [hW2, ← s1, World.frozen?_alloc_mark]; simp
  rw [← hW2]
  clear hW2
  obtain ⟨W3, hW3⟩ : ∃ W3, W3 = W2.alloc (.cells #[.int .i64 (d : Nat)] T2) := ⟨_, rfl⟩
  have s3 : W3.heap.size = w.heap.size + 1 + 1 + 1 := by rw [hW3, hs, s2]
  have b3 : Below W2.heap.size W2 W3 := by rw [hW3]; exact (Below.refl _ _).alloc (Nat.le_refl _) _
  have c3 : W3.cell? ⟨w.heap.size + 1 + 1, 0, none⟩ = some (.int .i64 (d : Nat)) := by rw [hW3, ← s2, World.cell?_alloc_mark]; rfl
  have f3 : W3.frozen? ⟨w.heap.size + 1 + 1, 0, none⟩ = false := by rw [hW3, ← s2, World.frozen?_alloc_mark]; simp
  rw [← hW3]
  clear hW3
  obtain ⟨W4, hW4⟩ : ∃ W4, W4 = W3.alloc (.cells #[.int .i64 (d : Nat)] T3) := ⟨_, rfl⟩
  have s4 : W4.heap.size = w.heap.size + 1 + 1 + 1 + 1 := by rw [hW4, hs, s3]
  have b4 : Below W3.heap.size W3 W4 := by rw [hW4]; exact (Below.refl _ _).alloc (Nat.le_refl _) _
  have c4 : W4.cell? ⟨w.heap.size + 1 + 1 + 1, 0, none⟩ = some (.int .i64 (d : Nat)) := by rw [hW4, ← s3, World.cell?_alloc_mark]; rfl
  have f4 : W4.frozen? ⟨w.heap.size + 1 + 1 + 1, 0, none⟩ = false := by rw [hW4, ← s3, World.frozen?_alloc_mark]; simp
  rw [← hW4]
  clear hW4
  obtain ⟨W5, hW5⟩ : ∃ W5, W5 = W4.alloc (.cells #[.slice none 0 0] T4) := ⟨_, rfl⟩
  have s5 : W5.heap.size = w.heap.size + 1 + 1 + 1 + 1 + 1 := by rw [hW5, hs, s4]
  have b5 : Below W4.heap.size W4 W5 := by rw [hW5]; exact (Below.refl _ _).alloc (Nat.le_refl _) _
  have c5 : W5.cell? ⟨w.heap.size + 1 + 1 + 1 + 1, 0, none⟩ = some (.slice none 0 0) := by rw [hW5, ← s4, World.cell?_alloc_mark]; rfl
  have f5 : W5.frozen? ⟨w.heap.size + 1 + 1 + 1 + 1, 0, none⟩ = false := by rw [hW5, ← s4, World.frozen?_alloc_mark]; simp
  rw [← hW5]
  clear hW5
  have b45 := b4.trans (b5.mono (by omega))
  have b35 := b3.trans (b45.mono (by omega))
  have b25 := b2.trans (b35.mono (by omega))
  obtain ⟨D, hm, ho, hsh, hr⟩ := hmap
  have hg : W1.grownBy W5 none := ⟨b25.os, b25.tape, b25.output, b25.size, fun k hk _ => b25.block k hk⟩
  refine ⟨⟨?_, ?_, ?_, ?_, by omega, by omega, by omega, D, hm, ho.kept hg (by simp) (fun es clock _ x _ => by cases x.val.ownBlock <;> simp), hsh.kept hg (by omega) (by simp), hr⟩, ?_, ?_, ?_, ?_, c5, f5, World.ownsRow_nil _ _ _ _⟩
  · exact (b35.cell (by show w.heap.size + 1 < _; omega)).trans c20
  · exact (b35.cell (by show w.heap.size + 1 < _; omega)).trans c21
  · exact (b35.cell (by show w.heap.size + 1 < _; omega)).trans c22
  · exact (b35.frozen (by show w.heap.size + 1 < _; omega)).trans f22
  · exact (b45.cell (by show w.heap.size + 1 + 1 < _; omega)).trans c3
  · exact (b45.frozen (by show w.heap.size + 1 + 1 < _; omega)).trans f3
  · exact (b5.cell (by show w.heap.size + 1 + 1 + 1 < _; omega)).trans c4
  · exact (b5.frozen (by show w.heap.size + 1 + 1 + 1 < _; omega)).trans f4
theorem five {w : World} {bm gp ga gf gl base : Nat} {s : ByteArray} {r a f n : Nat} {v : Value} {l : List Tk.T} (h : PS (w.setCell ⟨ga, 0, none⟩ (.int .i64 ((a + n : Nat) : Int))) bm gp ga gf gl base s r (a + n) f v l) :
    (w.setCell ⟨ga, 0, none⟩ (.int .i64 ((a : Int) + (n : Int)))).cell? ⟨ga, 0, none⟩ = some (.int .i64 ((a : Int) + (n : Int))) ∧ (w.setCell ⟨ga, 0, none⟩ (.int .i64 ((a : Int) + (n : Int)))).cell? ⟨gf, 0, none⟩ = some (.int .i64 (f : Nat)) ∧ (w.setCell ⟨ga, 0, none⟩ (.int .i64 ((a : Int) + (n : Int)))).frozen? ⟨gf, 0, none⟩ = false :=
  ⟨h.ca, h.cf, h.ff⟩
theorem below5 (w : World) (o1 o2 o3 o4 o5 : Obj) : Below w.heap.size w (((((w.alloc o1).alloc o2).alloc o3).alloc o4).alloc o5) :=
  (((((Below.refl w.heap.size w).alloc (Nat.le_refl _) o1).alloc (by simp) o2).alloc (by simp; omega) o3).alloc (by simp; omega) o4).alloc (by simp; omega) o5
set_option maxRecDepth 4000 in
set_option maxHeartbeats 2000000 in
theorem parse_ok (dict text : ByteArray) (w : World) (hd : dict.size ≤ 256) (ht : text.size ≤ 512) :
    Calls Tryz.prog 127 #[.string dict, .string text] w fun e w' => Below w.heap.size w w' ∧ ∃ ad cap, e = .returned (.tuple #[.slice ad (Tk.P (dict ++ text) dict.size dict.size).length cap, .int .i64 0]) ∧ SlAt w' ad (Tk.P (dict ++ text) dict.size dict.size) := by
  have d1 : decide ((256 : Int) < (dict.size : Int)) = false := by simp; omega
  have d1' : (dict.size : Int) ≤ 256 := by omega
  have d2 : decide ((512 : Int) < (text.size : Int)) = false := by simp; omega
  have d2' : (text.size : Int) ≤ 512 := by omega
  have hmm := @run_makeMap Tryz.prog
  obtain ⟨i0, hi, hz0, hz1, hz2⟩ := info_parts info_tok
  go_enter Tryz.func127, Tryz.ntmps127
  go_wp2_with fail
  have hst := ps_start w (dict ++ text) dict.size 175 3 3 131
  have hB5 := below5 w (.map #[] 0) (.cells #[.string (dict ++ text), .map (some w.heap.size), .int .i64 0] 175) (.cells #[.int .i64 (dict.size : Nat)] 3) (.cells #[.int .i64 (dict.size : Nat)] 3) (.cells #[.slice none 0 0] 131)
  have O : Hid (Ord w.heap.size w.heap.size (w.heap.size + 1) (w.heap.size + 1 + 1) (w.heap.size + 1 + 1 + 1) (w.heap.size + 1 + 1 + 1 + 1) (w.heap.size + 1 + 1 + 1 + 1 + 1)) := ⟨by omega, by omega, by omega, by omega, by omega, by omega⟩
  have hsz : (dict ++ text).size = dict.size + text.size := Nm.apps _ _
  generalize hs0 : dict ++ text = s at *
  have hs1 : s.size ≤ 2000 := by omega
  have hds : dict.size ≤ s.size := by omega
  have HS0 : Hid (dict ++ text = s) := hs0
  clear hsz hs0 hmm d1 d1' d2 d2'
  generalize hd0 : dict.size = d at *
  have HD0 : Hid (dict.size = d) := hd0
  clear hd0
  generalize w.heap.size + 1 + 1 + 1 + 1 + 1 = base at *
  generalize w.heap.size + 1 + 1 + 1 + 1 = gl at *
  generalize w.heap.size + 1 + 1 + 1 = gf at *
  generalize w.heap.size + 1 + 1 = ga at *
  generalize w.heap.size + 1 = gp at *
  go_loopw [11, 12] (fun _ _ wr => ∃ (r a f : Nat) (v : Value) (l : List Tk.T), PS wr w.heap.size gp ga gf gl base s r a f v l ∧ r ≤ a ∧ f ≤ a ∧ a ≤ s.size ∧ l.length ≤ f ∧ Hid (l ++ Tk.P s a f = Tk.P s d d) ∧ Below w.heap.size w wr) (fun _ _ wr => s.size - cellInt wr ⟨ga, 0, none⟩)
  case atStart => exact ⟨0, d, d, .slice none 0 0, [], hst, by omega, by omega, hds, by simp, rfl, hB5⟩
  case round =>
    clear hst hB5
    obtain ⟨r, a, f, v, l, h, hra, hfa, has, hlf, hP, G⟩ := hrel
    have H : Hid (PS wr w.heap.size gp ga gf gl base s r a f v l) := h
    have hca := h.ca
    have hc0 := h.past.c0
    have hnoH : Hid (∀ g, v.ownBlock = some g → g < wr.heap.size) := fun g hg => (h.own.lt g hg).2
    have hws := G.size
    clear h
    by_cases hend : a < s.size
    · have d3 : decide ((a : Int) < (s.size : Int)) = true := by simp; omega
      have d3' : decide (a < s.size) = true := by simp; omega
      rcases Tk.lng_bst s.data.toList a with ⟨hb1, hb2⟩ | ⟨hb1, hb2⟩
      · have HN : Hid (l ++ Tk.P s (a + 1) f = Tk.P s d d) := by
          show _ = _
          rw [← hP.out, Tk.P_lit hend hb1]
        have HZ : Hid (Tk.lng s.data.toList a = (0, 0)) := hb2
        clear hb1 hb2 hP
        go_wp2_with (first | (go_at_call 156; go_must (refine (reach_any a H.out.past hnoH.out hra has hs1).mono ?_; rintro e w1 ⟨rfl, hk1, r1, hr1, hr2, hr3, hp1⟩; have H1 : Hid (PS w1 w.heap.size gp ga gf gl base s r1 a f v l) := H.out.reach O.out hk1 hp1; have hca1 := H1.out.ca; have HK1 : Hid (Below w.heap.size wr w1) := hk1.below (by have := O.out.p; omega) (Nat.le_refl _) (by have := O.out.p; have := O.out.a; have := O.out.f; have := O.out.l; have := O.out.s; omega) hws; have HR3 : Hid (a + 3 ≤ s.size → r1 = a) := hr3; clear hk1 hp1 hr3)) | (go_at_call 157; go_must (refine (longest_any a H1.out.past HR3.out has hs1).mono ?_; rintro e w2 ⟨rfl, k2, hw2⟩; rw [HZ.out]; have HB2 : Hid (Below w1.heap.size w1 w2) := (by show Below _ _ _; rw [hw2]; exact below_drewN (Below.refl _ _) _); have H2 : Hid (PS w2 w.heap.size gp ga gf gl base s r1 a f v l) := H1.out.below O.out HB2.out; have hca2 := H2.out.ca; have hfa2 := H2.out.fa; clear hw2)))
        have HBW : Below w.heap.size w w2 := (G.trans HK1.out).trans (HB2.out.mono (Nat.le_trans hws HK1.out.size))
        have hga : w.heap.size ≤ ga := by have := O.out.p; have := O.out.a; omega
        go_roundw
        case rel => exact ⟨r1, a + 1, f, v, l, H2.out.setAt O.out (a + 1), by omega, by omega, by omega, hlf, HN, HBW.setCell hga _⟩
        case measure =>
          have hx : (w2.setCell ⟨ga, 0, none⟩ (.int .i64 ((a : Int) + 1))).cell? ⟨ga, 0, none⟩ = some (.int .i64 ((a + 1 : Nat) : Int)) := (H2.out.setAt O.out (a + 1)).ca
          unfold cellInt
          rw [hx, hca]
          simp [intOf]
          omega
      · obtain ⟨far, n, hfn⟩ : ∃ far n, Tk.bst s.data.toList a = (far, n) := ⟨_, _, rfl⟩
        have hbo := Tk.bst_ok s.data.toList a
        rw [hfn] at hbo hb1 hb2
        simp only at hbo hb1
        have hl : s.data.toList.length = s.size := by simp
        have hmost : Tk.most s.data.toList a ≤ s.size - a ∧ Tk.most s.data.toList a ≤ 64 := by unfold Tk.most; omega
        have hn64 : n ≤ 64 := by omega
        have han : a + n ≤ s.size := by omega
        have hfar : far ≤ a := by
          rcases hbo.2 with e | e
          · have := congrArg Prod.fst e; simp at this; omega
          · omega
        have HN : Hid ((l ++ Tk.lay s f a) ++ [⟨⟨#[]⟩, (far : Nat), (n : Nat)⟩] ++ Tk.P s (a + n) (a + n) = Tk.P s d d) := by
          show _ = _
          rw [← hP.out, Tk.P_copy hend (by rw [hfn]; simp; omega), hfn]
          simp
        have hlay : (l ++ Tk.lay s f a).length ≤ a := by
          rw [List.length_append]
          unfold Tk.lay
          split <;> simp <;> omega
        have HZ : Hid (Tk.lng s.data.toList a = (far, n)) := hb2
        have d4 : decide ((n : Int) < 3) = false := by simp; omega
        have d4' : decide (n < 3) = false := by simp; omega
        have hwr : IntKind.i64.wrap ((a : Int) + (n : Int)) = (a : Int) + (n : Int) := IntWalk.i64_in _ ⟨by omega, by omega⟩
        clear hb2 hP hfn hbo hmost hl
        obtain ⟨l3, hl3⟩ : ∃ l3, l ++ Tk.lay s f a = l3 := ⟨_, rfl⟩
        rw [hl3] at HN hlay
        have HL3 : Hid (l ++ Tk.lay s f a = l3) := hl3
        clear hl3
        go_wp2_with (first | (go_at_call 156; go_must (refine (reach_any a H.out.past hnoH.out hra has hs1).mono ?_; rintro e w1 ⟨rfl, hk1, r1, hr1, hr2, hr3, hp1⟩; have H1 : Hid (PS w1 w.heap.size gp ga gf gl base s r1 a f v l) := H.out.reach O.out hk1 hp1; have hca1 := H1.out.ca; have HK1 : Hid (Below w.heap.size wr w1) := hk1.below (by have := O.out.p; omega) (Nat.le_refl _) (by have := O.out.p; have := O.out.a; have := O.out.f; have := O.out.l; have := O.out.s; omega) hws; have HR3 : Hid (a + 3 ≤ s.size → r1 = a) := hr3; clear hk1 hp1 hr3)) | (go_at_call 157; go_must (refine (longest_any a H1.out.past HR3.out has hs1).mono ?_; rintro e w2 ⟨rfl, k2, hw2⟩; rw [HZ.out]; have HB2 : Hid (Below w1.heap.size w1 w2) := (by show Below _ _ _; rw [hw2]; exact below_drewN (Below.refl _ _) _); have H2 : Hid (PS w2 w.heap.size gp ga gf gl base s r1 a f v l) := H1.out.below O.out HB2.out; have hca2 := H2.out.ca; have hfa2 := H2.out.fa; clear hw2)) | (go_at_call 155; go_must (refine (lay1_any O.out H2.out has hs1 (by omega)).mono ?_; rintro e w3 ⟨rfl, hb3, v3, h3⟩; rw [HL3.out] at h3; have H3 : Hid (PS w3 w.heap.size gp ga gf gl base s r1 a f v3 l3) := h3; have hcl3 := h3.cl; have HB3 : Hid (Below w.heap.size w2 w3) := hb3; have hbs3 := h3.bs; have hl3 : ∀ o, (w3.alloc o).cell? ⟨gl, 0, none⟩ = some v3 := fun o => (World.cell?_alloc_lt _ _ _ (World.block_lt_of_cell? w3 _ hcl3)).trans hcl3; clear h3 hb3)) | (at_builtin; go_must (refine wpList_append_lies _ rfl _ _ 131 rfl base 165 i0 (.agg #[.string ⟨#[]⟩, .int .i64 0, .int .i64 0]) 3 32 Tryz.underlying131 hi hz0 hz1 hz2 rfl (by decide) v3 _ _ rfl (H3.out.own.alloc _) ⟨w3.heap.size, 0, none⟩ 1 1 [.string ⟨#[]⟩, .int .i64 (far : Nat), .int .i64 (n : Nat)] rfl rfl (news3 _ _ _ _ _) (one3 _ _ _ rfl rfl rfl) (by decide) (ml_le (by omega)) (by omega) (by simp; omega) _ rfl ?_; intro g cp w4 hown4 hgrow4 hat4 hlt4; obtain ⟨p4, c4, f4⟩ := H3.out.laid (t := ⟨⟨#[]⟩, (far : Nat), (n : Nat)⟩) O.out hown4 ((World.grownBy_alloc w3 _ _).trans hgrow4) (hat4.imp id (fun e => by rw [e]; simp)); have H4 : Hid _ := p4; have hca4 := p4.ca; have hfa4 := p4.fa; have p5 := p4.setAt O.out (a + n); have H5 : Hid _ := p5; obtain ⟨hca5, hcf5, hff5⟩ := five p5; clear p4 p5)))
        have HBW : Below w.heap.size w w2 := (G.trans HK1.out).trans (HB2.out.mono (Nat.le_trans hws HK1.out.size))
        have HB4 : Below w.heap.size w w4 := ((HBW.trans HB3.out).grown ((World.grownBy_alloc w3 _ _).trans hgrow4) (Nat.le_trans HBW.size HB3.out.size) (fun k hk => by have := (H3.out.own.lt k hk).1; have := O.out.p; have := O.out.a; have := O.out.f; have := O.out.l; have := O.out.s; omega))
        have hga : w.heap.size ≤ ga := by have := O.out.p; have := O.out.a; omega
        have hgf : w.heap.size ≤ gf := by have := O.out.f; omega
        have hgl : w.heap.size ≤ gl := by have := O.out.l; omega
        have H6 := H5.out.setFrom O.out (a + n)
        rw [Int.natCast_add] at H6
        go_roundw
        case rel => exact ⟨r1, a + n, a + n, _, l3 ++ [⟨⟨#[]⟩, (far : Nat), (n : Nat)⟩], H6, by omega, by omega, by omega, by simp; omega, HN, ((HB4.setCell hgl _).setCell hga _).setCell hgf _⟩
        case measure =>
          have hx := H6.ca
          rw [Int.natCast_add] at hx
          unfold cellInt
          rw [hx, hca]
          simp [intOf]
          omega
    · have d3 : decide ((a : Int) < (s.size : Int)) = false := by simp; omega
      have d3' : decide (a < s.size) = false := by simp; omega
      have HE : Hid (l ++ Tk.lay s f a = Tk.P s d d) := by
        show _ = _
        rw [← hP.out, Tk.P_end (by omega)]
      clear hP
      go_wp2_with (first | (go_at_call 155; go_must (refine (lay1_any O.out H.out has hs1 (by omega)).mono ?_; rintro e w3 ⟨rfl, hb3, v3, h3⟩; have H3 : Hid (PS w3 w.heap.size gp ga gf gl base s r a f v3 (l ++ Tk.lay s f a)) := h3; have hcl3 := h3.cl; have HB3 : Hid (Below w.heap.size wr w3) := hb3; clear h3 hb3)))
      go_ret2
      obtain ⟨ad, cap, hv, hsl⟩ := sl_of_row H3.out.own
      refine ⟨G.trans HB3.out, ad, cap, ?_, ?_⟩
      · rw [HS0.out, HD0.out, ← HE.out, ← hv]
        rfl
      · rw [HS0.out, HD0.out, ← HE.out]
        exact hsl
end Go.Proofs.YtbjbjbpgmojcbabGreat
