/- What toks.Write answers: chapter 2's B3. -/
import Derived.Test.YtbjbjbpgmojcbaaToksPlay
namespace Go.Proofs.Ytbjbjbpgmojcbaa
open Go.RowKit

theorem size_mk8 (l : List UInt8) : (⟨l.toArray⟩ : ByteArray).size = l.length := by simp [ByteArray.size]
theorem Own8.form8 {w : World} {B : Nat} {v : Value} {l : List UInt8} (h : Own8 w B v l) (hl : l ≠ []) : ∃ g cap, v = .slice (some ⟨g, 0, none⟩) l.length cap ∧ B ≤ g := by
  rcases h with ⟨_, h⟩ | ⟨g, cap, h0, h1, _⟩
  · exact absurd h hl
  · exact ⟨g, cap, h0, h1⟩

/-- A variable of bytes, in block gb: it holds l. -/
def BufAt (w : World) (B gb : Nat) (l : List UInt8) : Prop :=
  B ≤ gb ∧ gb < w.heap.size ∧ w.frozen? ⟨gb, 0, none⟩ = false ∧
  ((w.cell? ⟨gb, 0, none⟩ = some (.slice none 0 0) ∧ l = []) ∨ ∃ g cp, w.cell? ⟨gb, 0, none⟩ = some (.slice (some ⟨g, 0, none⟩) l.length cp) ∧ Own8 w B (.slice (some ⟨g, 0, none⟩) l.length cp) l ∧ g ≠ gb)

theorem BufAt.below {w w' : World} {B gb : Nat} {l : List UInt8} (h : BufAt w B gb l) (hb : Below w.heap.size w w') : BufAt w' B gb l := by
  obtain ⟨a, b, c, d⟩ := h
  refine ⟨a, Nat.lt_of_lt_of_le b hb.size, (hb.frozen (by exact b)).trans c, ?_⟩
  rcases d with ⟨d, e⟩ | ⟨g, cp, d, e, f⟩
  · exact .inl ⟨(hb.cell (by exact b)).trans d, e⟩
  · exact .inr ⟨g, cp, (hb.cell (by exact b)).trans d, e.below hb, f⟩

/-- What an append onto it, stored back, leaves. -/
theorem BufAt.put {w w' : World} {B gb g cp : Nat} {v : Value} {l' : List UInt8} (hB : B ≤ gb) (hg : gb < w.heap.size) (hf : w.frozen? ⟨gb, 0, none⟩ = false) (hc : (w.cell? ⟨gb, 0, none⟩).isSome = true)
    (hne : v.ownBlock ≠ some gb) (hA : App w w' B v (.slice (some ⟨g, 0, none⟩) l'.length cp) l') :
    BufAt (w'.setCell ⟨gb, 0, none⟩ (.slice (some ⟨g, 0, none⟩) l'.length cp)) B gb l' ∧ Below B w (w'.setCell ⟨gb, 0, none⟩ (.slice (some ⟨g, 0, none⟩) l'.length cp)) := by
  have hgb : some gb ≠ v.ownBlock := fun e => hne e.symm
  have hsz := hA.below.size
  have hgne : g ≠ gb := by
    rcases hA.at_ g rfl with h | h
    · intro e; subst e; exact hne h
    · omega
  have hblk := hA.block gb hg hgb
  refine ⟨⟨hB, by simpa [World.setCell] using Nat.lt_of_lt_of_le hg hsz, ?_, .inr ⟨g, cp, ?_, ?_, hgne⟩⟩, hA.below.setCell (p := ⟨gb, 0, none⟩) hB _⟩
  · rw [World.frozen?_setCell, World.frozen?_of_block (w := w) (by exact hblk)]
    exact hf
  · obtain ⟨u, hu⟩ := Option.isSome_iff_exists.1 hc
    refine World.cell?_setCell_same _ _ _ (u := u) ?_
    rw [World.cell?_of_block (w := w) (by exact hblk)]
    exact hu
  · refine hA.own.kept (by simp [World.setCell]) (fun k hk => ?_)
    have : g = k := by simpa [Value.ownBlock] using hk
    subst this
    exact Below.heap_setCell _ _ _ _ (by simpa using hgne)

/-- The same, with what the store asks. -/
theorem BufAt.app {w w' : World} {B gb g cp : Nat} {v u : Value} {l' : List UInt8} (hB : B ≤ gb) (hg : gb < w.heap.size) (hf : w.frozen? ⟨gb, 0, none⟩ = false) (hc : w.cell? ⟨gb, 0, none⟩ = some u)
    (hne : v.ownBlock ≠ some gb) (hA : App w w' B v (.slice (some ⟨g, 0, none⟩) l'.length cp) l') :
    w'.cell? ⟨gb, 0, none⟩ = some u ∧ w'.frozen? ⟨gb, 0, none⟩ = false ∧ Hid (BufAt (w'.setCell ⟨gb, 0, none⟩ (.slice (some ⟨g, 0, none⟩) l'.length cp)) B gb l') ∧ Hid (Below B w (w'.setCell ⟨gb, 0, none⟩ (.slice (some ⟨g, 0, none⟩) l'.length cp))) := by
  have hgb : some gb ≠ v.ownBlock := fun e => hne e.symm
  have hblk := hA.block gb hg hgb
  have hP := BufAt.put hB hg hf (by rw [hc]; rfl) hne hA
  exact ⟨(World.cell?_of_block (w := w) (by exact hblk)).trans hc, (World.frozen?_of_block (w := w) (by exact hblk)).trans hf, hP.1, hP.2⟩

/-- The variable, and a block q that is none of its own. -/
def BufQ (w : World) (B gb : Nat) (l : List UInt8) (q : Nat) : Prop :=
  BufAt w B gb l ∧ q < w.heap.size ∧ q ≠ gb ∧ ∀ g n cp, w.cell? ⟨gb, 0, none⟩ = some (.slice (some ⟨g, 0, none⟩) n cp) → g ≠ q

theorem BufAt.box {w : World} {B gb : Nat} {l : List UInt8} (h : BufAt w B gb l) (o : Obj) : BufQ (w.alloc o) B gb l w.heap.size := by
  have hb := (Below.refl w.heap.size w).alloc (Nat.le_refl _) o
  refine ⟨h.below hb, by simp, by have := h.2.1; omega, fun g n cp hc => ?_⟩
  rw [hb.cell (by exact h.2.1)] at hc
  rcases h.2.2.2 with ⟨d, _⟩ | ⟨g', cp', d, e, _⟩
  · rw [d] at hc; simp at hc
  · rw [d] at hc
    simp at hc
    have := (e.lt g' rfl).2
    omega

theorem BufQ.below {w w' : World} {B gb q : Nat} {l : List UInt8} (h : BufQ w B gb l q) (hb : Below w.heap.size w w') : BufQ w' B gb l q :=
  ⟨h.1.below hb, Nat.lt_of_lt_of_le h.2.1 hb.size, h.2.2.1, fun g n cp hc => h.2.2.2 g n cp (by rw [← hb.cell (by exact h.1.2.1)]; exact hc)⟩

/-- What an append onto it, stored back, leaves, and what the store asks. -/
theorem BufQ.app {w w' : World} {B gb g cp q : Nat} {v : Value} {l l' : List UInt8} (h : BufQ w B gb l q) (hc : w.cell? ⟨gb, 0, none⟩ = some v) (hne : v.ownBlock ≠ some gb)
    (hv : v = .slice none 0 0 ∨ ∃ g n cp, v = .slice (some ⟨g, 0, none⟩) n cp) (hA : App w w' B v (.slice (some ⟨g, 0, none⟩) l'.length cp) l') :
    w'.cell? ⟨gb, 0, none⟩ = some v ∧ w'.frozen? ⟨gb, 0, none⟩ = false ∧ Hid (BufQ (w'.setCell ⟨gb, 0, none⟩ (.slice (some ⟨g, 0, none⟩) l'.length cp)) B gb l' q) ∧ Hid (Below B w (w'.setCell ⟨gb, 0, none⟩ (.slice (some ⟨g, 0, none⟩) l'.length cp))) ∧
      Hid ((w'.setCell ⟨gb, 0, none⟩ (.slice (some ⟨g, 0, none⟩) l'.length cp)).heap[q]? = w.heap[q]?) := by
  obtain ⟨h1, h2, h3, h4⟩ := h
  have hq : some q ≠ v.ownBlock := by
    rcases hv with rfl | ⟨g', n, cp', rfl⟩
    · simp [Value.ownBlock]
    · have := h4 g' n cp' hc
      simp [Value.ownBlock]
      omega
  obtain ⟨a1, a2, a3, a4⟩ := BufAt.app h1.1 h1.2.1 h1.2.2.1 hc hne hA
  have hsz := hA.below.size
  have hblk := hA.block q h2 hq
  have hgq : g ≠ q := by
    rcases hA.at_ g rfl with h | h
    · intro e
      subst e
      exact hq h.symm
    · omega
  have hset : (w'.setCell ⟨gb, 0, none⟩ (.slice (some ⟨g, 0, none⟩) l'.length cp)).cell? ⟨gb, 0, none⟩ = some (.slice (some ⟨g, 0, none⟩) l'.length cp) := World.cell?_setCell_same _ _ _ a1
  refine ⟨a1, a2, ⟨a3.out, by simpa [World.setCell] using Nat.lt_of_lt_of_le h2 hsz, h3, fun g' n' cp' hc' => ?_⟩, a4, ?_⟩
  · rw [hset] at hc'
    simp at hc'
    omega
  · show (w'.setCell _ _).heap[q]? = _
    rw [Below.heap_setCell _ _ _ _ (by simpa using h3)]
    exact hblk

/-- 'append(b, s...)' where something comes to be there. -/
theorem wp_append8t {ops : Array Oper} {rest : List Oper} {o : Oper} {a : Act} {Q : Exit → Act → World → Prop} (w : World) (hgd : o.guard = none) (sl x : Operand) (ho : o.op = .call { callee := .builtin .append, args := #[sl, x], argTypes := #[69, 9] })
    (B : Nat) (v : Value) (l : List UInt8) (hs : a.eval sl = v) (h : Own8 w B v l) (s : ByteArray) (hx : a.eval x = .string s)
    (hlen : l.length + s.size ≤ 140737488355328) (hB : B ≤ w.heap.size) (hne : l ++ s.data.toList ≠ [])
    (hK : ∀ g cp w', App w w' B v (.slice (some ⟨g, 0, none⟩) (l ++ s.data.toList).length cp) (l ++ s.data.toList) → wpList Try.prog ops Q rest (a.put o.dst (.slice (some ⟨g, 0, none⟩) (l ++ s.data.toList).length cp)) w') : wpList Try.prog ops Q (o :: rest) a w := by
  refine wp_append8s w hgd sl x ho B v l hs h s hx hlen hB (fun v' w' hA => ?_)
  obtain ⟨g, cp, rfl, _⟩ := hA.own.form8 hne
  exact hK g cp w' hA

set_option maxRecDepth 4000 in
set_option maxHeartbeats 1000000 in
theorem put1_any (B gb : Nat) (l : List UInt8) (n : Int) (w : World) (q : Nat) (hbuf : BufQ w B gb l q) (hBw : B ≤ w.heap.size) (h0 : 0 ≤ n) (h1 : n ≤ 2147483647) (hl : l.length ≤ 1000000) :
    Calls Try.prog 61 #[.int .i64 n, .pointer (some ⟨gb, 0, none⟩)] w fun e w' => e = .returned (.tuple #[]) ∧ Below B w w' ∧ BufQ w' B gb (l ++ Nm.nb n.toNat) q ∧ w'.heap[q]? = w.heap[q]? := by
  have hl5 := Nm.nb_len5 n.toNat (by omega)
  obtain ⟨s, hs⟩ : ∃ s : ByteArray, s = ⟨(Nm.nb n.toNat).toArray⟩ := ⟨_, rfl⟩
  have hsd : s.data.toList = Nm.nb n.toNat := by rw [hs]
  have hs5 : s.size ≤ 5 := by rw [hs, size_mk8]; exact hl5
  have Hne : Hid (∀ l : List UInt8, l ++ s.data.toList ≠ []) := fun l e => Nm.nb_ne n.toNat (by rw [← hsd]; exact (List.append_eq_nil_iff.1 e).2)
  have HL : Hid (s.data.toList = Nm.nb n.toNat) := hsd
  have hc := put_yes n w h0 h1
  rw [← hs] at hc
  clear hs hsd
  go_enter Try.func61, Try.ntmps61
  go_wp2_with fail
  refine hc.mono ?_
  rintro e w1 ⟨rfl, G⟩
  have hb1 := hbuf.below G
  have hBw1 : B ≤ w1.heap.size := Nat.le_trans hBw G.size
  have HG : Below B w w1 := G.mono hBw
  have HQ : Hid (w1.heap[q]? = w.heap[q]?) := G.block q hbuf.2.1
  have HB1 : Hid (BufQ w1 B gb l q) := hb1
  clear hbuf G hc
  obtain ⟨⟨a, b, c, d⟩, _, _, _⟩ := hb1
  have len8 : ∀ l : List UInt8, (l ++ s.data.toList).length = l.length + s.size := fun l => by simp
  have Hlen : Hid (∀ l : List UInt8, (l ++ s.data.toList).length = l.length + s.size) := len8
  clear len8
  rcases d with ⟨d, e⟩ | ⟨g, cp, d, e, f⟩
  · subst e
    go_wp2_with (at_builtin; go_must (refine wp_append8t _ rfl _ _ rfl B (.slice none 0 0) [] rfl (Own8.nil _ _) s rfl (by simp; omega) hBw1 (Hne.out _) ?_; intro g1 cp1 w3 hA; obtain ⟨k1, k2, k3, k4, k5⟩ := BufQ.app HB1.out d (by simp [Value.ownBlock]) (Or.inl rfl) hA))
    go_end0
    have h3 := k3.out
    have h4 := k4.out
    have h5 := k5.out
    rw [Hlen.out, HL.out] at h3
    rw [Hlen.out] at h4 h5
    simp only [List.length_nil, Nat.zero_add, List.nil_append] at h3 h4 h5
    exact ⟨rfl, HG.trans h4, h3, h5.trans HQ.out⟩
  · go_wp2_with (at_builtin; go_must (refine wp_append8t _ rfl _ _ rfl B (.slice (some ⟨g, 0, none⟩) l.length cp) l rfl e s rfl (by omega) hBw1 (Hne.out _) ?_; intro g1 cp1 w3 hA; obtain ⟨k1, k2, k3, k4, k5⟩ := BufQ.app HB1.out d (by simp [Value.ownBlock]; exact f) (Or.inr ⟨_, _, _, rfl⟩) hA))
    go_end0
    have h3 := k3.out
    have h4 := k4.out
    have h5 := k5.out
    rw [Hlen.out, HL.out] at h3
    rw [Hlen.out] at h4 h5
    exact ⟨rfl, HG.trans h4, h3, h5.trans HQ.out⟩

/-- The variable with something there, and a box of three cells beside it, all written out. -/
def Open (w : World) (B gb q : Nat) (l : List UInt8) (x y z : Value) (T : TypeId) (g cp : Nat) : Prop :=
  w.cell? ⟨q, 0, none⟩ = some x ∧ w.cell? ⟨q, 1, none⟩ = some y ∧ w.cell? ⟨q, 2, none⟩ = some z ∧ w.frozen? ⟨gb, 0, none⟩ = false ∧
    w.cell? ⟨gb, 0, none⟩ = some (.slice (some ⟨g, 0, none⟩) l.length cp) ∧ Hid (Own8 w B (.slice (some ⟨g, 0, none⟩) l.length cp) l) ∧ g ≠ gb ∧ Hid (BufQ w B gb l q) ∧ Hid (w.heap[q]? = some (.cells #[x, y, z] T))

theorem BufQ.open {w : World} {B gb q : Nat} {l : List UInt8} {x y z : Value} {T : TypeId} (h : BufQ w B gb l q) (hl : l ≠ []) (hq : w.heap[q]? = some (.cells #[x, y, z] T)) : ∃ g cp, Open w B gb q l x y z T g cp := by
  have H : Hid (BufQ w B gb l q) := h
  have e : ∀ j, w.cell? ⟨q, j, none⟩ = #[x, y, z][j]? := fun j => cell_of_row w q j _ _ _ hq
  obtain ⟨⟨_, _, c, d⟩, _⟩ := h
  rcases d with ⟨_, d⟩ | ⟨g, cp, d1, d2, d3⟩
  · exact absurd d hl
  · exact ⟨g, cp, by rw [e]; rfl, by rw [e]; rfl, by rw [e]; rfl, c, d1, d2, d3, H, hq⟩

theorem put1_open (B gb q : Nat) (l : List UInt8) (n : Int) (w : World) (x y z : Value) (T : TypeId) (hbuf : BufQ w B gb l q) (hq : w.heap[q]? = some (.cells #[x, y, z] T)) (hBw : B ≤ w.heap.size) (h0 : 0 ≤ n) (h1 : n ≤ 2147483647) (hl : l.length ≤ 1000000) :
    Calls Try.prog 61 #[.int .i64 n, .pointer (some ⟨gb, 0, none⟩)] w fun e w' => e = .returned (.tuple #[]) ∧ Below B w w' ∧ ∃ L2 g cp, Hid (L2 = l ++ Nm.nb n.toNat) ∧ L2.length ≤ l.length + 5 ∧ Open w' B gb q L2 x y z T g cp := by
  refine (put1_any B gb l n w q hbuf hBw h0 h1 hl).mono ?_
  rintro e w' ⟨rfl, hb, hbq, hh⟩
  obtain ⟨g, cp, ho⟩ := BufQ.open hbq (by simp [Nm.nb_ne]) (hh.trans hq)
  exact ⟨rfl, hb, _, g, cp, rfl, by have := Nm.nb_len5 n.toNat (by omega); simp; omega, ho⟩

/-- The bytes of a tok, and of toks. -/
def tb (t : Tk.T) : List UInt8 := if t.lit.size ≠ 0 then Nm.nb (2 * t.lit.size) ++ t.lit.data.toList else Nm.nb (2 * t.len + 1).toNat ++ Nm.nb t.far.toNat
def tbs : List Tk.T → List UInt8
  | [] => []
  | t :: l => tb t ++ tbs l
theorem tbs_snoc (l : List Tk.T) (t : Tk.T) : tbs (l ++ [t]) = tbs l ++ tb t := by
  induction l with
  | nil => simp [tbs]
  | cons a l ih => simp [tbs, ih]

theorem BufAt.alloc {w : World} {B gb : Nat} {l : List UInt8} (h : BufAt w B gb l) (o : Obj) : BufAt (w.alloc o) B gb l := h.below ((Below.refl _ _).alloc (Nat.le_refl _) o)

set_option maxHeartbeats 1000000 in
theorem write_bad (dict : ByteArray) (ad : Option Addr) (cap : Nat) (l : List Tk.T) (w : World) (hl : SlAt w ad l) (hs : Sane l) (e0 : Int) (he : checkOf dict l = e0) (hne : (e0 != 0) = true) :
    Calls Try.prog 33 #[.string dict, .slice ad l.length cap] w fun e w' => e = .returned (.tuple #[.string ⟨#[]⟩, .int .i64 e0]) ∧ Below w.heap.size w w' := by
  have hc := fun w hl => check_any dict ad cap l w hl hs
  rw [he] at hc
  clear he
  go_enter Try.func33, Try.ntmps33
  go_wp2_with fail
  refine (hc _ hl).mono ?_
  rintro e w1 ⟨rfl, G⟩
  clear hc
  go_wp2_with fail
  go_ret2
  exact ⟨rfl, G⟩

set_option maxRecDepth 4000 in
set_option maxHeartbeats 4000000 in
theorem write_ok (dict : ByteArray) (b off cap : Nat) (l : List Tk.T) (w : World) (hb : b < w.heap.size) (hl : TkAt w b off l) (hs : Sane l) (hd : dict.size ≤ 256) (s1 : List UInt8) (hr : Tk.run dict.size dict.data.toList false l = (0, s1)) :
    Calls Try.prog 33 #[.string dict, .slice (some ⟨b, off, none⟩) l.length cap] w fun e w' => e = .returned (.tuple #[.string ⟨(tbs l).toArray⟩, .int .i64 0]) ∧ Below w.heap.size w w' := by
  have hc := check_some dict b off cap l w hd hb hl hs
  rw [hr] at hc
  have hd' : (dict.size : Int) ≤ 256 := by omega
  have hn' : (l.length : Int) ≤ 140737488355328 := by have := hs.1; omega
  have hmf : ∀ (fn : Fn) (first cap : Array Value) (w : World), (Instr.makeFunc fn first cap).run Try.prog w = .ok (.func fn first cap) w := fun _ _ _ _ => rfl
  go_enter Try.func33, Try.ntmps33
  go_wp2_with fail
  refine hc.mono ?_
  rintro e w1 ⟨rfl, G⟩
  clear hc
  have Hr : Hid (Tk.run dict.size dict.data.toList false l = (0, s1)) := hr
  clear hr
  go_wp2_with fail
  go_loopw [20] (fun i wr => ∃ (k : Nat) (s : List UInt8) (p : Bool) (L : List UInt8), k ≤ l.length ∧ i = .int .i64 k ∧ BufAt wr w.heap.size w1.heap.size L ∧ Hid (L = tbs (l.take k)) ∧ L.length + 11 * dict.size ≤ 11 * s.length ∧
      Hid (Tk.run dict.size s p (l.drop k) = (0, s1)) ∧ dict.size ≤ s.length ∧ s.length ≤ dict.size + 512 ∧ Below w.heap.size w wr)
    (fun i _ => l.length - (intOf i).toNat)
  case atStart =>
    refine ⟨0, dict.data.toList, false, [], by omega, rfl, ?_, rfl, by simp, Hr, by simp, by simp, G.alloc G.size _⟩
    exact ⟨G.size, by simp, by rw [World.frozen?_alloc_mark]; simp, .inl ⟨by rw [World.cell?_alloc_mark]; rfl, rfl⟩⟩
  case round =>
    have hw1 := G.size
    clear G
    obtain ⟨k, s, p, L, hk, rfl, hbuf, hL, hLl, hrun, hs1, hs2, G⟩ := hrel
    by_cases hlt : k < l.length
    · have hdrop : l.drop k = l[k] :: l.drop (k + 1) := List.drop_eq_getElem_cons hlt
      obtain ⟨c0, c1, c2⟩ := hl k hlt
      rw [← G.cell (by exact hb)] at c0 c1 c2
      rw [hdrop] at hrun
      have HT : Hid (tbs (l.take (k + 1)) = L ++ tb l[k]) := by
        show _ = _
        rw [hL.out, ← tbs_snoc]
        congr 1
        simp
      clear hdrop hl hs
      generalize l[k] = t at *
      have he : Tk.err dict.size s p t = 0 := by
        by_cases h : Tk.err dict.size s p t = 0
        · exact h
        · have := hrun.out
          rw [Tk.run_bad h] at this
          simp only [Prod.mk.injEq] at this
          exact absurd this.1 h
      have HR : Hid (Tk.run dict.size (Tk.make s t) (decide (t.lit.size ≠ 0)) (l.drop (k + 1)) = (0, s1)) := by
        have := hrun.out
        rw [Tk.run_good he] at this
        exact this
      have hmk := Tk.make_ok he
      have hgs := G.size
      have HB : Hid (BufAt wr w.heap.size w1.heap.size L) := hbuf
      clear hbuf he hrun
      by_cases h0 : t.lit.size ≠ 0
      · have hE0 := empty_not h0
        have HMK : Hid ((Tk.make s t).length = s.length + t.lit.size) := by
          have := hmk.2.2.2.1 h0
          show _ = _
          rw [hmk.1, this.2]
          rfl
        have hl512 : (t.lit.size : Int) ≤ 512 := by have := hmk.2.2.2.2; omega
        have Hb512 : Hid ((s.length : Int) - dict.size + t.lit.size ≤ 512) := by have := hmk.2.2.2.2; show _ ≤ _; omega
        clear hmk
        have Hne : Hid (∀ l : List UInt8, l ++ t.lit.data.toList ≠ []) := fun l e => h0 (by simpa using congrArg List.length (List.append_eq_nil_iff.1 e).2)
        have hsd : t.lit.size ≤ 512 := by omega
        go_wp2_with (first | (go_at_call 61; go_must (refine (put1_open w.heap.size w1.heap.size wr.heap.size L _ _ _ _ _ _ (HB.out.box _) (heap_alloc_new _ _) (sz_alloc _ hgs) (by omega) (by omega) (by omega)).mono ?_; rintro e w3 ⟨rfl, hb3, L2, g3, cp3, HL2, hl2, x1, x2, x3, x4, x5, x6, x7, x8, x9⟩; have hgs3 := hb3.size; have hsz3 := sz_alloc (.cells #[.string t.lit, .int .i64 t.far, .int .i64 t.len] 73) hgs)) | (at_builtin; go_must (refine wp_append8t _ rfl _ _ rfl w.heap.size (.slice (some ⟨g3, 0, none⟩) L2.length cp3) L2 rfl x6.out t.lit rfl (by omega) (by omega) (Hne.out _) ?_; intro g4 cp4 w4 hA; obtain ⟨k1, k2, k3, k4, k5⟩ := BufQ.app x8.out x5 (by simp [Value.ownBlock]; exact x7) (Or.inr ⟨_, _, _, rfl⟩) hA)))
        go_roundw
        case rel =>
          have e1 : (L2 ++ t.lit.data.toList).length = L2.length + t.lit.size := by simp
          have h3 := k3.out
          have h4 := k4.out
          have e2 := HMK.out
          have e3 := Hb512.out
          rw [e1] at h3 h4
          refine ⟨k + 1, Tk.make s t, _, L2 ++ t.lit.data.toList, by omega, by go_num, h3.1, ?_, by rw [e1]; omega, HR, by omega, by omega, ((G.alloc hgs _).trans hb3).trans h4⟩
          show _ = _
          rw [HT.out, HL2.out, tb, if_pos h0, List.append_assoc]
          congr 2
        case measure => simp [intOf]; omega
      · have h00 : t.lit.size = 0 := by omega
        have hE0 := empty_of h00
        obtain ⟨f1, f2, f3, f4⟩ := hmk.2.2.1 h00
        have HMK : Hid ((Tk.make s t).length = s.length + t.len.toNat) := by
          show _ = _
          rw [hmk.1, h00]
          rfl
        have Hb512 : Hid ((s.length : Int) - dict.size + t.len ≤ 512) := by have := hmk.2.2.2.2; show _ ≤ _; omega
        have tok : True := trivial
        clear hmk
        go_wp2_with (first | (go_at_call 61; have _t := tok; clear tok; go_must (refine (put1_open w.heap.size w1.heap.size wr.heap.size L _ _ _ _ _ _ (HB.out.box _) (heap_alloc_new _ _) (sz_alloc _ hgs) (by omega) (by omega) (by omega)).mono ?_; rintro e w3 ⟨rfl, hb3, L2, g3, cp3, HL2, hl2, x1, x2, x3, x4, x5, x6, x7, x8, x9⟩; have hgs3 := hb3.size; have hsz3 := sz_alloc (.cells #[.string t.lit, .int .i64 t.far, .int .i64 t.len] 73) hgs)) | (go_at_call 61; go_must (refine (put1_open w.heap.size w1.heap.size wr.heap.size L2 _ _ _ _ _ _ x8.out x9.out (by omega) (by omega) (by omega) (by omega)).mono ?_; rintro e w4 ⟨rfl, hb4, L3, g4, cp4, HL3, hl3, y1, y2, y3, y4, y5, y6, y7, y8, y9⟩)))
        go_roundw
        case rel =>
          have e2 := HMK.out
          have e3 := Hb512.out
          refine ⟨k + 1, Tk.make s t, _, L3, by omega, by go_num, y8.out.1, ?_, by omega, HR, by omega, by omega, ((G.alloc hgs _).trans hb3).trans hb4⟩
          show _ = _
          rw [HL3.out, HL2.out, HT.out, tb, if_neg h0, List.append_assoc]
        case measure => simp [intOf]; omega
    · have hd1 : decide ((k : Int) < (l.length : Int)) = false := by simp; omega
      have hd2 : decide (k < l.length) = false := by simp; omega
      have HE : Hid (tbs l = L) := by
        show _ = _
        rw [hL.out, List.take_of_length_le (by omega)]
      obtain ⟨_, _, _, d⟩ := hbuf
      rcases d with ⟨d, e⟩ | ⟨g, cp, d, e, f⟩
      · have hcv := Lib.run_convert_nil_bytes wr 69 9 5 0 Try.underlying69 Try.underlying5 Try.underlying9
        subst e
        clear hl hs
        go_wp2_with fail
        go_ret2
        exact ⟨by rw [HE.out]; rfl, G⟩
      · obtain ⟨_, _, hq, _, _, _, _, q5⟩ := e.form (by simp)
        simp only [Value.slice.injEq, Option.some.injEq, Addr.mk.injEq, and_true, true_and] at hq
        obtain ⟨rfl, rfl⟩ := hq
        have hcv := Own8.conv q5 0 cp
        simp only [Nat.sub_zero, List.drop_zero] at hcv
        clear hl hs q5 e
        go_wp2_with fail
        go_ret2
        exact ⟨by rw [HE.out]; rfl, G⟩
end Go.Proofs.Ytbjbjbpgmojcbaa
