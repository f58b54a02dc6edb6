/- A part of the proof: what it leans on. -/
import Derived.BigQuiet
import Derived.OrdersHeld
import Derived.Deep.CutRange
import Derived.Deep.RegionHeld3
import Derived.Test.YtbjbjbpgmojcbabGreatLrBook01
import Derived.Test.YtbjbjbpgmojcbabGreatLrBook02
import Derived.Test.YtbjbjbpgmojcbabGreatLrBook05
import Derived.Test.YtbjbjbpgmojcbabGreatLrBook07
import Derived.Test.YtbjbjbpgmojcbabGreatLrBook08
import Derived.Test.YtbjbjbpgmojcbabGreatLrBook09
import Derived.Test.YtbjbjbpgmojcbabGreatLrBook12
import Derived.Test.YtbjbjbpgmojcbabGreatLrBook13
namespace Go.Proofs.YtbjbjbpgmojcbabGreat
open Go.RowKit
structure Wtr (B p : Nat) (w : World) (v : Value) (l : List UInt8) (er : Int) : Prop where
  hp : B ≤ p
  lt : p < w.heap.size
  c0 : w.cell? ⟨p, 0, none⟩ = some v
  c1 : w.cell? ⟨p, 1, none⟩ = some (.int .i64 er)
  f0 : w.frozen? ⟨p, 0, none⟩ = false
  f1 : w.frozen? ⟨p, 1, none⟩ = false
  own : Own8 w B v l
  ne : v.ownBlock ≠ some p
theorem Wtr.below {B p : Nat} {w w' : World} {v : Value} {l : List UInt8} {er : Int} (h : Wtr B p w v l er) (G : Below w.heap.size w w') : Wtr B p w' v l er :=
  ⟨h.hp, Nat.lt_of_lt_of_le h.lt G.size, (G.cell (p := ⟨p, 0, none⟩) h.lt).trans h.c0, (G.cell (p := ⟨p, 1, none⟩) h.lt).trans h.c1, (G.frozen (p := ⟨p, 0, none⟩) h.lt).trans h.f0, (G.frozen (p := ⟨p, 1, none⟩) h.lt).trans h.f1, h.own.below G, h.ne⟩
theorem Wtr.app {B p : Nat} {w w1 : World} {v v' : Value} {l l' : List UInt8} {er : Int} (h : Wtr B p w v l er) (A : App w w1 B v v' l') : Wtr B p (w1.setCell ⟨p, 0, none⟩ v') v' l' er ∧ Below B w (w1.setCell ⟨p, 0, none⟩ v') := by
  have hb := A.block p h.lt (fun e => h.ne e.symm)
  have k0 : w1.cell? ⟨p, 0, none⟩ = some v := (World.cell?_of_block (w := w) hb).trans h.c0
  have k1 : w1.cell? ⟨p, 1, none⟩ = some (.int .i64 er) := (World.cell?_of_block (w := w) hb).trans h.c1
  have hne : v'.ownBlock ≠ some p := fun e => by
    rcases A.at_ p e with h9 | h9
    · exact h.ne h9
    · have := h.lt; omega
  refine ⟨⟨h.hp, ?_, World.cell?_setCell_same _ _ _ k0, (World.cell?_setCell_other _ _ _ _ (by intro e; have := congrArg Addr.off e; simp at this)).trans k1, ?_, ?_, ?_, hne⟩, A.below.setCell h.hp _⟩
  · have := A.own
    have h2 := World.block_lt_of_cell? w1 _ k0
    simpa [World.setCell] using h2
  · rw [World.frozen?_setCell]; exact (World.frozen?_of_block (w := w) hb).trans h.f0
  · rw [World.frozen?_setCell]; exact (World.frozen?_of_block (w := w) hb).trans h.f1
  · exact A.own.kept (by simp [World.setCell]) (fun g hg => Below.heap_setCell _ _ _ _ (fun e => hne (by rw [hg]; exact congrArg some e)))
theorem Wtr.err {B p : Nat} {w : World} {v : Value} {l : List UInt8} {er : Int} (h : Wtr B p w v l er) (e : Int) : Wtr B p (w.setCell ⟨p, 1, none⟩ (.int .i64 e)) v l e ∧ Below B w (w.setCell ⟨p, 1, none⟩ (.int .i64 e)) := by
  refine ⟨⟨h.hp, ?_, (World.cell?_setCell_other _ _ _ _ (by intro e; have := congrArg Addr.off e; simp at this)).trans h.c0, World.cell?_setCell_same _ _ _ h.c1, ?_, ?_, ?_, h.ne⟩, (Below.refl _ _).setCell h.hp _⟩
  · have := h.lt
    simpa [World.setCell] using this
  · rw [World.frozen?_setCell]; exact h.f0
  · rw [World.frozen?_setCell]; exact h.f1
  · exact h.own.kept (by simp [World.setCell]) (fun g hg => Below.heap_setCell _ _ _ _ (fun e => h.ne (by rw [hg]; exact congrArg some e)))
theorem Own8.slice {w : World} {B : Nat} {v : Value} {l : List UInt8} (h : Own8 w B v l) : ∃ x n c, v = .slice x n c := by
  rcases h with ⟨rfl, _⟩ | ⟨g, cap, rfl, _⟩
  · exact ⟨_, _, _, rfl⟩
  · exact ⟨_, _, _, rfl⟩
theorem Own8.str {w : World} {B : Nat} {v : Value} {l : List UInt8} (h : Own8 w B v l) : (convert 93 9 v).run Tryz.prog w = .ok (.string ⟨l.toArray⟩) w := by
  rcases h with ⟨rfl, rfl⟩ | ⟨g, cap, rfl, _, _, _, _, h5, _⟩
  · exact Lib.run_convert_nil_bytes w 93 9 5 0 Tryz.underlying93 Tryz.underlying5 Tryz.underlying9
  · have := Own8.conv h5 0 cap
    simpa using this
structure WF (p : Nat) (w w' : World) (v v' : Value) : Prop where
  blk : ∀ k, k < w.heap.size → k ≠ p → v.ownBlock ≠ some k → w'.heap[k]? = w.heap[k]?
  at_ : ∀ g, v'.ownBlock = some g → v.ownBlock = some g ∨ w.heap.size ≤ g
  sz : w.heap.size ≤ w'.heap.size
theorem WF.trans {p : Nat} {a b c : World} {v1 v2 v3 : Value} (h : WF p a b v1 v2) (g : WF p b c v2 v3) : WF p a c v1 v3 := by
  refine ⟨fun k hk hp hv => (g.blk k (Nat.lt_of_lt_of_le hk h.sz) hp (fun e => ?_)).trans (h.blk k hk hp hv), fun x hx => ?_, Nat.le_trans h.sz g.sz⟩
  · rcases h.at_ k e with h9 | h9
    · exact hv h9
    · omega
  · rcases g.at_ x hx with h9 | h9
    · exact h.at_ x h9
    · exact .inr (Nat.le_trans h.sz h9)
theorem WF.of {p : Nat} {w w' : World} {v : Value} (G : Below w.heap.size w w') : WF p w w' v v := ⟨fun k hk _ _ => G.block k hk, fun _ h => .inl h, G.size⟩
theorem WF.app {B p : Nat} {w w1 : World} {v v' : Value} {l' : List UInt8} (A : App w w1 B v v' l') (hz : w.heap.size ≤ w1.heap.size) : WF p w (w1.setCell ⟨p, 0, none⟩ v') v v' :=
  ⟨fun k hk hp hv => (Below.heap_setCell _ _ _ _ hp).trans (A.block k hk (fun e => hv e.symm)), A.at_, by simpa [World.setCell] using hz⟩
theorem WF.err {p : Nat} {w : World} {v : Value} (u : Value) : WF p w (w.setCell ⟨p, 1, none⟩ u) v v := ⟨fun k _ hp _ => Below.heap_setCell _ _ _ _ hp, fun _ h => .inl h, by simp [World.setCell]⟩
def WrSaid (B p : Nat) (w : World) (v : Value) (l : List UInt8) (er : Int) (e : Ending) (w' : World) : Prop := e = .returned (.tuple #[]) ∧ Below B w w' ∧ ∃ v', Wtr B p w' v' l er ∧ WF p w w' v v'
set_option maxRecDepth 4000 in
set_option maxHeartbeats 1000000 in
theorem sheetAdd_any (B p : Nat) (w : World) (v : Value) (l : List UInt8) (er : Int) (s : ByteArray) (h : Wtr B p w v l er) (hl : l.length + s.size ≤ 140737488355328) :
    Calls Tryz.prog 111 #[.pointer (some ⟨p, 0, none⟩), .string s] w fun e w' => WrSaid B p w v (l ++ s.data.toList) er e w' := by
  have c0 := h.c0
  have hO := h.own
  have hB : B ≤ w.heap.size := Nat.le_of_lt (Nat.lt_of_le_of_lt h.hp h.lt)
  have hA : Hid (∀ v' w1, App w w1 B v v' (l ++ s.data.toList) → Wtr B p (w1.setCell ⟨p, 0, none⟩ v') v' (l ++ s.data.toList) er ∧ Below B w (w1.setCell ⟨p, 0, none⟩ v')) := fun v' w1 A => h.app A
  have hC : Hid (∀ v' w1, App w w1 B v v' (l ++ s.data.toList) → w1.cell? ⟨p, 0, none⟩ = some v ∧ w1.frozen? ⟨p, 0, none⟩ = false) := fun v' w1 A => ⟨(World.cell?_of_block (w := w) (A.block p h.lt (fun e => h.ne e.symm))).trans h.c0, (World.frozen?_of_block (w := w) (A.block p h.lt (fun e => h.ne e.symm))).trans h.f0⟩
  clear h
  go_enter Tryz.func111, Tryz.ntmps111
  go_wp2_with (at_builtin; refine wp_append8s _ rfl _ _ rfl B v l rfl hO s rfl hl hB ?_; intro v' w1 A; obtain ⟨k0, kf⟩ := hC.out _ _ A; have A2 := hA.out _ _ A; obtain ⟨x, n, c, hv⟩ := A.own.slice; subst hv)
  go_end0
  exact ⟨rfl, A2.2, _, A2.1, WF.app A A.below.size⟩
set_option maxRecDepth 4000 in
set_option maxHeartbeats 1000000 in
theorem sheetWhole_any (B p : Nat) (w : World) (v : Value) (l : List UInt8) (er : Int) (h : Wtr B p w v l er) :
    Calls Tryz.prog 112 #[.pointer (some ⟨p, 0, none⟩)] w fun e w' => e = .returned (.string ⟨l.toArray⟩) ∧ Below w.heap.size w w' := by
  have c0 := h.c0
  have hO := h.own.str
  clear h
  go_enter Tryz.func112, Tryz.ntmps112
  go_wp2_with fail
  go_ret
  exact ⟨rfl, Below.refl _ _⟩
set_option maxRecDepth 4000 in
set_option maxHeartbeats 1000000 in
theorem wKeep_any (B p : Nat) (w : World) (v : Value) (l : List UInt8) (er : Int) (s : ByteArray) (E : Int) (h : Wtr B p w v l er) (hl : l.length + s.size ≤ 140737488355328) :
    Calls Tryz.prog 120 #[.pointer (some ⟨p, 0, none⟩), .string s, .int .i64 E] w fun e w' => WrSaid B p w v (l ++ s.data.toList) (if er = 0 then E else er) e w' := by
  have c1 := h.c1
  have f1 := h.f1
  have hB : B ≤ w.heap.size := Nat.le_of_lt (Nat.lt_of_le_of_lt h.hp h.lt)
  by_cases he : er = 0
  · subst he
    rw [if_pos rfl]
    obtain ⟨h2, G⟩ := h.err E
    have C := sheetAdd_any B p _ v l E s h2 hl
    have hQ : Hid (∀ w', Below B (w.setCell ⟨p, 1, none⟩ (.int .i64 E)) w' → Below B w w') := fun w' h9 => G.trans h9
    clear h h2 G
    go_enter Tryz.func120, Tryz.ntmps120
    go_wp2_with fail
    refine C.mono ?_
    rintro e w1 ⟨rfl, G, v', h', F'⟩
    go_wp2_with fail
    go_end0
    exact ⟨rfl, hQ.out _ G, _, h', (WF.err _).trans F'⟩
  · rw [if_neg he]
    have C := sheetAdd_any B p _ v l er s h hl
    have d1 : (er == 0) = false := by simpa using he
    clear h
    go_enter Tryz.func120, Tryz.ntmps120
    go_wp2_with fail
    refine C.mono ?_
    rintro e w1 ⟨rfl, G, v', h', F'⟩
    go_wp2_with fail
    go_end0
    exact ⟨rfl, G, _, h', F'⟩
namespace Im
def nW (n : Int) : List UInt8 := if 0 ≤ n ∧ n ≤ 2147483647 then Nm.nb n.toNat else []
def nE (n : Int) : Int := if 0 ≤ n ∧ n ≤ 2147483647 then 0 else 3
def tW (s : ByteArray) : List UInt8 := if s.size ≤ 512 then tb s else []
def tE (s : ByteArray) : Int := if s.size ≤ 512 then 0 else 2
def er1 (er E : Int) : Int := if er = 0 then E else er
end Im
set_option maxRecDepth 4000 in
set_option maxHeartbeats 1000000 in
theorem wNumber_any (B p : Nat) (w : World) (v : Value) (l : List UInt8) (er n : Int) (h : Wtr B p w v l er) (hl : l.length + 5 ≤ 140737488355328) :
    Calls Tryz.prog 79 #[.pointer (some ⟨p, 0, none⟩), .int .i64 n] w fun e w' => WrSaid B p w v (l ++ Im.nW n) (Im.er1 er (Im.nE n)) e w' := by
  have hB : B ≤ w.heap.size := Nat.le_of_lt (Nat.lt_of_le_of_lt h.hp h.lt)
  have C1 : Calls Tryz.prog 121 #[.int .i64 n] w fun e w' => e = .returned (.tuple #[.string ⟨(Im.nW n).toArray⟩, .int .i64 (Im.nE n)]) ∧ Below w.heap.size w w' := by
    unfold Im.nW Im.nE
    by_cases hn : 0 ≤ n ∧ n ≤ 2147483647
    · rw [if_pos hn, if_pos hn]; exact put_yes n w hn.1 hn.2
    · rw [if_neg hn, if_neg hn]; exact put_no n w (by omega)
  have hz : (Im.nW n).length ≤ 5 := by
    unfold Im.nW
    by_cases hn : 0 ≤ n ∧ n ≤ 2147483647
    · rw [if_pos hn]; exact Nm.nb_len5 _ (by omega)
    · rw [if_neg hn]; simp
  have C2 : Hid (∀ w', Below w.heap.size w w' → Calls Tryz.prog 120 #[.pointer (some ⟨p, 0, none⟩), .string ⟨(Im.nW n).toArray⟩, .int .i64 (Im.nE n)] w' fun e w2 => WrSaid B p w' v (l ++ Im.nW n) (Im.er1 er (Im.nE n)) e w2) := fun w' h9 => by
    have := wKeep_any B p w' v l er ⟨(Im.nW n).toArray⟩ (Im.nE n) (h.below h9) (by show l.length + (Im.nW n).toArray.size ≤ _; simp; omega)
    simpa [Im.er1] using this
  generalize Im.nW n = L at *
  generalize Im.er1 er (Im.nE n) = R at *
  generalize Im.nE n = E at *
  clear h
  go_enter Tryz.func79, Tryz.ntmps79
  go_wp2_with fail
  refine C1.mono ?_
  rintro e w1 ⟨rfl, G⟩
  go_wp2_with fail
  refine (C2.out _ G).mono ?_
  rintro e w2 ⟨rfl, G2, v', h', F'⟩
  have G3 : Below B w w2 := (G.mono hB).trans G2
  have F3 := (WF.of (p := p) (v := v) G).trans F'
  go_wp2_with fail
  go_end0
  exact ⟨rfl, G3, _, h', F3⟩
set_option maxRecDepth 4000 in
set_option maxHeartbeats 1000000 in
theorem wText_any (B p : Nat) (w : World) (v : Value) (l : List UInt8) (er : Int) (s : ByteArray) (h : Wtr B p w v l er) (hl : l.length + 520 ≤ 140737488355328) (hs : s.size ≤ 281474976710656) :
    Calls Tryz.prog 80 #[.pointer (some ⟨p, 0, none⟩), .string s] w fun e w' => WrSaid B p w v (l ++ Im.tW s) (Im.er1 er (Im.tE s)) e w' := by
  have hB : B ≤ w.heap.size := Nat.le_of_lt (Nat.lt_of_le_of_lt h.hp h.lt)
  have C1 : Calls Tryz.prog 122 #[.string s] w fun e w' => e = .returned (.tuple #[.string ⟨(Im.tW s).toArray⟩, .int .i64 (Im.tE s)]) ∧ Below w.heap.size w w' := by
    unfold Im.tW Im.tE
    by_cases hn : s.size ≤ 512
    · rw [if_pos hn, if_pos hn]
      have e1 : (⟨(Im.tb s).toArray⟩ : ByteArray) = ⟨(Nm.nb s.size).toArray⟩ ++ s := by
        apply Nm.ba_ext
        simp [Im.tb]
      rw [e1]
      exact text_yes s w hn
    · rw [if_neg hn, if_neg hn]; exact text_no s w hs (by omega)
  have hz : (Im.tW s).length ≤ 520 := by
    unfold Im.tW
    by_cases hn : s.size ≤ 512
    · rw [if_pos hn]
      have := Nm.nb_len5 s.size (by omega)
      have h2 := Im.size_len s
      unfold Im.tb
      rw [List.length_append]
      omega
    · rw [if_neg hn]; simp
  have C2 : Hid (∀ w', Below w.heap.size w w' → Calls Tryz.prog 120 #[.pointer (some ⟨p, 0, none⟩), .string ⟨(Im.tW s).toArray⟩, .int .i64 (Im.tE s)] w' fun e w2 => WrSaid B p w' v (l ++ Im.tW s) (Im.er1 er (Im.tE s)) e w2) := fun w' h9 => by
    have := wKeep_any B p w' v l er ⟨(Im.tW s).toArray⟩ (Im.tE s) (h.below h9) (by show l.length + (Im.tW s).toArray.size ≤ _; simp; omega)
    simpa [Im.er1] using this
  generalize Im.tW s = L at *
  generalize Im.er1 er (Im.tE s) = R at *
  generalize Im.tE s = E at *
  clear h
  go_enter Tryz.func80, Tryz.ntmps80
  go_wp2_with fail
  refine C1.mono ?_
  rintro e w1 ⟨rfl, G⟩
  go_wp2_with fail
  refine (C2.out _ G).mono ?_
  rintro e w2 ⟨rfl, G2, v', h', F'⟩
  have G3 : Below B w w2 := (G.mono hB).trans G2
  have F3 := (WF.of (p := p) (v := v) G).trans F'
  go_wp2_with fail
  go_end0
  exact ⟨rfl, G3, _, h', F3⟩
set_option maxRecDepth 4000 in
set_option maxHeartbeats 1000000 in
theorem wCounted_any (B p : Nat) (w : World) (v : Value) (l : List UInt8) (er : Int) (s : ByteArray) (h : Wtr B p w v l er) (hl : l.length + 5 + s.size ≤ 140737488355328) :
    Calls Tryz.prog 81 #[.pointer (some ⟨p, 0, none⟩), .string s] w fun e w' => WrSaid B p w v (l ++ Im.nW (s.size : Int) ++ s.data.toList) (Im.er1 er (Im.nE (s.size : Int))) e w' := by
  have hz : (Im.nW (s.size : Int)).length ≤ 5 := by
    unfold Im.nW
    by_cases hn : 0 ≤ (s.size : Int) ∧ (s.size : Int) ≤ 2147483647
    · rw [if_pos hn]; exact Nm.nb_len5 _ (by omega)
    · rw [if_neg hn]; simp
  have C1 := wNumber_any B p w v l er (s.size : Int) h (by omega)
  have C2 : Hid (∀ w' v', Wtr B p w' v' (l ++ Im.nW (s.size : Int)) (Im.er1 er (Im.nE (s.size : Int))) → Calls Tryz.prog 111 #[.pointer (some ⟨p, 0, none⟩), .string s] w' fun e w2 => WrSaid B p w' v' (l ++ Im.nW (s.size : Int) ++ s.data.toList) (Im.er1 er (Im.nE (s.size : Int))) e w2) := fun w' v' h9 => sheetAdd_any B p w' v' _ _ s h9 (by rw [List.length_append]; omega)
  generalize Im.er1 er (Im.nE (s.size : Int)) = R at *
  generalize l ++ Im.nW (s.size : Int) ++ s.data.toList = L2 at *
  generalize l ++ Im.nW (s.size : Int) = L1 at *
  clear h hz
  go_enter Tryz.func81, Tryz.ntmps81
  go_wp2_with fail
  refine C1.mono ?_
  rintro e w1 ⟨rfl, G, v1, h1, F1⟩
  go_wp2_with fail
  refine (C2.out _ _ h1).mono ?_
  rintro e w2 ⟨rfl, G2, v', h', F'⟩
  have G3 := G.trans G2
  have F3 := F1.trans F'
  go_wp2_with fail
  go_end0
  exact ⟨rfl, G3, _, h', F3⟩
theorem below_dn (w : World) : ∀ k, Below w.heap.size w (w.drewN k)
  | 0 => Below.refl _ _
  | k + 1 => by rw [show w.drewN (k + 1) = (w.drewN k).drew from rfl]; exact (below_dn w k).drew
set_option maxRecDepth 4000 in
set_option maxHeartbeats 1000000 in
theorem wResult_any (B p : Nat) (w : World) (v : Value) (l : List UInt8) (er : Int) (h : Wtr B p w v l er) :
    Calls Tryz.prog 72 #[.pointer (some ⟨p, 0, none⟩)] w fun e w' => e = .returned (.tuple #[.string (if er = 0 then ⟨l.toArray⟩ else ⟨#[]⟩), .int .i64 er]) ∧ Below w.heap.size w w' := by
  have c1 := h.c1
  by_cases he : er = 0
  · subst he
    rw [if_pos rfl]
    have C := sheetWhole_any B p w v l 0 h
    clear h
    go_enter Tryz.func72, Tryz.ntmps72
    go_wp2_with fail
    refine C.mono ?_
    rintro e w1 ⟨rfl, G⟩
    go_wp2_with fail
    go_ret2
    exact ⟨rfl, G⟩
  · rw [if_neg he]
    have d1 : (er == 0) = false := by simpa using he
    clear h
    go_enter Tryz.func72, Tryz.ntmps72
    go_wp2_with fail
    go_quiet (fail)
    go_wp2_with fail
    go_ret2
    exact ⟨rfl, below_dn _ _⟩
end Go.Proofs.YtbjbjbpgmojcbabGreat
namespace Go.Proofs.YtbjbjbpgmojcbabGreat
open Go.RowKit
theorem wtr_new (w : World) (T : TypeId) : Wtr w.heap.size w.heap.size (w.alloc (.cells #[.slice none 0 0, .int .i64 0] T (0, 0))) (.slice none 0 0) [] 0 :=
  ⟨Nat.le_refl _, by simp, World.cell?_alloc_new _ _ _ 0, World.cell?_alloc_new _ _ _ 1, World.frozen?_alloc_at _ _ _ _ rfl, World.frozen?_alloc_at _ _ _ _ rfl, Own8.nil _ _, by simp [Value.ownBlock]⟩
namespace Im
def wL (x : Act) : List UInt8 := (([] ++ nW x.kind) ++ nW x.n) ++ tW x.name ++ tW x.text
def wE (x : Act) : Int := er1 (er1 (er1 (er1 0 (nE x.kind)) (nE x.n)) (tE x.name)) (tE x.text)
theorem wE_is (x : Act) : wE x = actE x := by
  unfold wE actE er1 nE tE In
  by_cases h1 : 0 ≤ x.kind ∧ x.kind ≤ 2147483647
  · by_cases h2 : 0 ≤ x.n ∧ x.n ≤ 2147483647
    · by_cases h3 : x.name.size ≤ 512
      · by_cases h4 : x.text.size ≤ 512
        · simp [h1, h2, h3, h4]
        · simp [h1, h2, h3, h4]
      · simp [h1, h2, h3]
    · simp [h1, h2]
  · simp [h1]
theorem wL_is {x : Act} (h : okX x) : wL x = actIn x := by
  obtain ⟨h1, h2, h3, h4⟩ := h
  unfold wL actIn nW tW
  unfold In at h1 h2
  rw [if_pos h1, if_pos h2, if_pos h3, if_pos h4]
  simp
theorem nW_len (n : Int) : (nW n).length ≤ 5 := by
  unfold nW
  split
  · exact Nm.nb_len5 _ (by omega)
  · simp
theorem tW_len (s : ByteArray) : (tW s).length ≤ 520 := by
  unfold tW
  split
  · unfold tb
    have := Nm.nb_len5 s.size (by omega)
    rw [List.length_append, ← size_len]
    omega
  · simp
end Im
set_option maxRecDepth 8000 in
set_option maxHeartbeats 2000000 in
theorem logWrite_any (k n : Int) (nm tx : ByteArray) (w : World) (hn : nm.size ≤ 281474976710656) (ht : tx.size ≤ 281474976710656) :
    Calls Tryz.prog 39 #[.agg #[.int .i64 k, .int .i64 n, .string nm, .string tx]] w fun e w' => e = .returned (.tuple #[.string (Im.wrtT ⟨k, n, nm, tx⟩), .int .i64 (Im.actE ⟨k, n, nm, tx⟩)]) ∧ Below w.heap.size w w' := by
  have B1 := alloc_below w (.cells #[.int .i64 k, .int .i64 n, .string nm, .string tx] 54 (0, 0))
  have X1 := XB.new w 54 k n nm tx
  have G2 := alloc_below (w.alloc (.cells #[.int .i64 k, .int .i64 n, .string nm, .string tx] 54 (0, 0))) (.cells #[.slice none 0 0, .int .i64 0] 97 (0, 0))
  have T := wtr_new (w.alloc (.cells #[.int .i64 k, .int .i64 n, .string nm, .string tx] 54 (0, 0))) 97
  have X := X1.next G2
  have B := bch B1 G2 (Nat.le_refl _)
  rw [show (w.alloc (.cells #[.int .i64 k, .int .i64 n, .string nm, .string tx] 54 (0, 0))).heap.size = w.heap.size + 1 by simp] at T
  have l1 := Im.nW_len k
  have l2 := Im.nW_len n
  have l3 := Im.tW_len nm
  have l4 := Im.tW_len tx
  have C1 : Hid (∀ w' v, Wtr (w.heap.size + 1) (w.heap.size + 1) w' v [] 0 → _) := fun w' v h => wNumber_any (w.heap.size + 1) (w.heap.size + 1) w' v [] 0 k h (by simp)
  have C2 : Hid (∀ w' v, Wtr (w.heap.size + 1) (w.heap.size + 1) w' v ([] ++ Im.nW k) (Im.er1 0 (Im.nE k)) → _) := fun w' v h => wNumber_any (w.heap.size + 1) (w.heap.size + 1) w' v ([] ++ Im.nW k) (Im.er1 0 (Im.nE k)) n h (by simp; omega)
  have C3 : Hid (∀ w' v, Wtr (w.heap.size + 1) (w.heap.size + 1) w' v (([] ++ Im.nW k) ++ Im.nW n) (Im.er1 (Im.er1 0 (Im.nE k)) (Im.nE n)) → _) := fun w' v h => wText_any (w.heap.size + 1) (w.heap.size + 1) w' v _ _ nm h (by simp; omega) hn
  have C4 : Hid (∀ w' v, Wtr (w.heap.size + 1) (w.heap.size + 1) w' v ((([] ++ Im.nW k) ++ Im.nW n) ++ Im.tW nm) (Im.er1 (Im.er1 (Im.er1 0 (Im.nE k)) (Im.nE n)) (Im.tE nm)) → _) := fun w' v h => wText_any (w.heap.size + 1) (w.heap.size + 1) w' v _ _ tx h (by simp; omega) ht
  have C5 : Hid (∀ w' v, Wtr (w.heap.size + 1) (w.heap.size + 1) w' v (Im.wL ⟨k, n, nm, tx⟩) (Im.wE ⟨k, n, nm, tx⟩) → _) := fun w' v h => wResult_any (w.heap.size + 1) (w.heap.size + 1) w' v _ _ h
  have HL : Hid (Im.wL ⟨k, n, nm, tx⟩ = ((([] ++ Im.nW k) ++ Im.nW n) ++ Im.tW nm) ++ Im.tW tx) := rfl
  have HE : Hid (Im.wE ⟨k, n, nm, tx⟩ = Im.er1 (Im.er1 (Im.er1 (Im.er1 0 (Im.nE k)) (Im.nE n)) (Im.tE nm)) (Im.tE tx)) := rfl
  have HW := Im.wE_is ⟨k, n, nm, tx⟩
  have HOK : Hid (Im.actE ⟨k, n, nm, tx⟩ = 0 → Im.wL ⟨k, n, nm, tx⟩ = Im.actIn ⟨k, n, nm, tx⟩ ∧ (Im.actIn ⟨k, n, nm, tx⟩).length ≤ 1044 ∧ Im.wrtT ⟨k, n, nm, tx⟩ = ⟨(Im.actB ⟨k, n, nm, tx⟩).toArray⟩) := fun h0 => ⟨Im.wL_is (Im.actE_ok.1 h0), Im.actIn_len (Im.actE_ok.1 h0), by unfold Im.wrtT; rw [if_pos h0]⟩
  have HNO : Hid (Im.actE ⟨k, n, nm, tx⟩ ≠ 0 → Im.wrtT ⟨k, n, nm, tx⟩ = ⟨#[]⟩) := fun h0 => by unfold Im.wrtT; rw [if_neg h0]
  rw [HW] at C5 HE
  have HB : Hid (Im.actB ⟨k, n, nm, tx⟩ = Nm.nb (Im.actIn ⟨k, n, nm, tx⟩).length ++ Im.actIn ⟨k, n, nm, tx⟩) := rfl
  clear HW B1 X1 G2 l1 l2 l3 l4 hn ht
  generalize Im.wL ⟨k, n, nm, tx⟩ = L at *
  generalize Im.actE ⟨k, n, nm, tx⟩ = E at *
  generalize Im.actIn ⟨k, n, nm, tx⟩ = I at *
  generalize Im.actB ⟨k, n, nm, tx⟩ = AB at *
  generalize Im.wrtT ⟨k, n, nm, tx⟩ = R at *
  generalize ([] ++ Im.nW k) = L1 at *
  generalize Im.er1 0 (Im.nE k) = E1 at *
  generalize (L1 ++ Im.nW n) = L2 at *
  generalize Im.er1 E1 (Im.nE n) = E2 at *
  generalize (L2 ++ Im.tW nm) = L3 at *
  generalize Im.er1 E2 (Im.tE nm) = E3 at *
  obtain ⟨x0, x1, x2, x3, _⟩ := id X
  go_enter Tryz.func39, Tryz.ntmps39
  go_wp2_with fail
  clear x0 x1 x2 x3
  generalize ((w.alloc (.cells #[.int .i64 k, .int .i64 n, .string nm, .string tx] 54 (0, 0))).alloc (.cells #[.slice none 0 0, .int .i64 0] 97 (0, 0))) = w0 at *
  refine (C1.out _ _ T).mono ?_
  rintro e w1 ⟨rfl, G, v1, T', _⟩
  have T := T'
  have X := X.block (G.block w.heap.size (by omega))
  have B := B.trans (G.mono (by omega))
  clear T' G C1
  obtain ⟨x0, x1, x2, x3, _⟩ := id X
  go_wp2_with fail
  clear x0 x1 x2 x3
  refine (C2.out _ _ T).mono ?_
  rintro e w2 ⟨rfl, G, v2, T', _⟩
  have T := T'
  have X := X.block (G.block w.heap.size (by omega))
  have B := B.trans (G.mono (by omega))
  clear T' G C2
  obtain ⟨x0, x1, x2, x3, _⟩ := id X
  go_wp2_with fail
  clear x0 x1 x2 x3
  refine (C3.out _ _ T).mono ?_
  rintro e w3 ⟨rfl, G, v3, T', _⟩
  have T := T'
  have X := X.block (G.block w.heap.size (by omega))
  have B := B.trans (G.mono (by omega))
  clear T' G C3
  obtain ⟨x0, x1, x2, x3, _⟩ := id X
  go_wp2_with fail
  clear x0 x1 x2 x3
  refine (C4.out _ _ T).mono ?_
  rintro e w4 ⟨rfl, G, v4, T', _⟩
  have T := T'
  rw [← HL.out, ← HE.out] at T
  have X := X.block (G.block w.heap.size (by omega))
  have B := B.trans (G.mono (by omega))
  clear T' G C4
  obtain ⟨x0, x1, x2, x3, _⟩ := id X
  go_wp2_with fail
  clear x0 x1 x2 x3
  refine (C5.out _ _ T).mono ?_
  rintro e w5 ⟨rfl, G⟩
  have B := bch B G (Nat.le_refl _)
  clear G C5 T X HL HE
  by_cases h0 : E = 0
  · obtain ⟨e1, e2, e3⟩ := HOK.out h0
    subst h0
    rw [if_pos rfl, e1]
    have HR := (show Hid _ from e3)
    clear HOK HNO e1 e3
    have T := wtr_new w5 97
    have GA := alloc_below w5 (.cells #[.slice none 0 0, .int .i64 0] 97 (0, 0))
    have C6 := wCounted_any w5.heap.size w5.heap.size _ _ [] 0 ⟨I.toArray⟩ T (by rw [Im.size_len]; simp; omega)
    have hI : ((⟨I.toArray⟩ : ByteArray).size : Int) = (I.length : Int) := by rw [Im.size_len]
    have hin : 0 ≤ (I.length : Int) ∧ (I.length : Int) ≤ 2147483647 := ⟨by omega, by omega⟩
    rw [hI, show Im.nW (I.length : Int) = Nm.nb I.length by unfold Im.nW; rw [if_pos hin, Int.toNat_natCast], show Im.er1 0 (Im.nE (I.length : Int)) = 0 by unfold Im.er1 Im.nE; rw [if_pos rfl, if_pos hin], show ([] ++ Nm.nb I.length ++ (⟨I.toArray⟩ : ByteArray).data.toList) = AB by rw [HB.out]; simp] at C6
    clear hI hin HB e2
    generalize (⟨I.toArray⟩ : ByteArray) = S at *
    go_wp2_with fail
    generalize (w5.alloc (.cells #[.slice none 0 0, .int .i64 0] 97 (0, 0))) = w6 at *
    refine C6.mono ?_
    rintro e w7 ⟨rfl, G, v7, T7, _⟩
    go_wp2_with fail
    have C7 := wResult_any _ _ w7 v7 AB 0 T7
    rw [if_pos rfl] at C7
    refine C7.mono ?_
    rintro e w8 ⟨rfl, G8⟩
    go_wp2_with fail
    go_ret2
    exact ⟨by rw [HR.out]; rfl, bch (bch B (GA.trans G) (Nat.le_refl _)) G8 (Nat.le_refl _)⟩
  · rw [if_neg h0]
    have HR := (show Hid _ from HNO.out h0)
    have dE : (E == 0) = false := by simpa using h0
    go_wp2_with fail
    go_ret2
    exact ⟨by rw [HR.out]; rfl, B⟩
end Go.Proofs.YtbjbjbpgmojcbabGreat
namespace Go.Proofs.YtbjbjbpgmojcbabGreat
open Go.RowKit
set_option maxRecDepth 8000 in
set_option maxHeartbeats 4000000 in
theorem store_any (s : ByteArray) (k n : Int) (nm tx : ByteArray) (w : World) (hn : nm.size ≤ 140737488355328) (ht : tx.size ≤ 140737488355328) (hM : Mx w) :
    Calls Tryz.prog 46 #[.string s, .agg #[.int .i64 k, .int .i64 n, .string nm, .string tx]] w fun e w' => e = .returned (.tuple #[.string (Im.stoT s ⟨k, n, nm, tx⟩), .int .i64 (Im.stoE s ⟨k, n, nm, tx⟩)]) ∧ Below w.heap.size w w' := by
  have B1 := alloc_below w (.cells #[.int .i64 k, .int .i64 n, .string nm, .string tx] 54 (0, 0))
  have X1 := XB.new w 54 k n nm tx
  obtain ⟨_, hl, hN⟩ := Im.rpl_ok s
  have hX := sane_rpl s
  have hWT := Im.wrt_le ⟨k, n, nm, tx⟩
  have C1 := replay_any s (w.alloc (.cells #[.int .i64 k, .int .i64 n, .string nm, .string tx] 54 (0, 0)))
  have C2 : Hid (∀ w', Calls Tryz.prog 39 #[.agg #[.int .i64 k, .int .i64 n, .string nm, .string tx]] w' fun e w2 => e = .returned (.tuple #[.string (Im.wrtT ⟨k, n, nm, tx⟩), .int .i64 (Im.actE ⟨k, n, nm, tx⟩)]) ∧ Below w'.heap.size w' w2) := fun w' => logWrite_any k n nm tx w' (by omega) (by omega)
  have CD0 : Hid (∀ w' ad cap, Below w.heap.size w w' → XSl w' ad (Im.rplL s) → Calls Tryz.prog 87 #[.slice ad (Im.rplL s).length cap] w' fun e w2 => OwSaid (Im.done (Im.rplL s)) w' e w2) := fun w' ad cap h1 h2 => done_any ad cap _ w' h2 hX (by omega) (hM.below h1)
  have CO0 : Hid (∀ w' p cp q cq, Below w.heap.size w w' → ArV w' p q (Im.done (Im.rplL s)) → Calls Tryz.prog 36 #[.agg #[.slice p (Im.done (Im.rplL s)).dicts.length cp, .slice q (Im.done (Im.rplL s)).files.length cq], .agg #[.int .i64 k, .int .i64 n, .string nm, .string tx]] w' fun e w2 => ArSaid w' (Im.doA (Im.done (Im.rplL s)) ⟨k, n, nm, tx⟩) (Im.doE (Im.done (Im.rplL s)) ⟨k, n, nm, tx⟩) e w2) := fun w' p cp q cq h1 h2 => logDo_any p q cp cq _ ⟨k, n, nm, tx⟩ w' h2 (SaneA.done hX) hn ht (hM.below h1)
  have HE : Hid (Im.stoE s ⟨k, n, nm, tx⟩ = if Im.rplE s ≠ 0 then Im.rplE s else if Im.actE ⟨k, n, nm, tx⟩ ≠ 0 then Im.actE ⟨k, n, nm, tx⟩ else if (Im.rplL s).length = 100 ∨ 16384 < Im.rplN s + (Im.wrtT ⟨k, n, nm, tx⟩).size then 2 else Im.doE (Im.done (Im.rplL s)) ⟨k, n, nm, tx⟩) := rfl
  have HT : Hid (Im.stoT s ⟨k, n, nm, tx⟩ = if Im.stoE s ⟨k, n, nm, tx⟩ = 0 then s.extract 0 (Im.rplN s) ++ Im.wrtT ⟨k, n, nm, tx⟩ else ⟨#[]⟩) := rfl
  have hz0 : Im.rplE s = 0 → s.size ≤ 16384 := fun h0 => by
    by_cases hb : 16384 < s.size
    · unfold Im.rplE at h0; rw [if_pos hb] at h0; cases h0
    · omega
  clear hX hM
  generalize Im.stoT s ⟨k, n, nm, tx⟩ = ST at *
  generalize Im.stoE s ⟨k, n, nm, tx⟩ = SE at *
  generalize Im.actE ⟨k, n, nm, tx⟩ = AE at *
  generalize Im.wrtT ⟨k, n, nm, tx⟩ = WT at *
  generalize Im.doE (Im.done (Im.rplL s)) ⟨k, n, nm, tx⟩ = E3 at *
  generalize Im.doA (Im.done (Im.rplL s)) ⟨k, n, nm, tx⟩ = A2 at *
  generalize Im.done (Im.rplL s) = AD at *
  generalize Im.rplE s = RE at *
  generalize Im.rplN s = RN at *
  have HL : Hid (∀ (w : World) (e : Ending) (w' : World), RpSaid (Im.rplL s) RN RE w e w' → ∃ ad cap, e = .returned (.tuple #[.slice ad (Im.rplL s).length cap, .int .i64 (RN : Nat), .int .i64 RE]) ∧ XSl w' ad (Im.rplL s) ∧ Below w.heap.size w w') := fun _ _ _ h => h.open
  generalize Im.rplL s = l at *
  generalize l.length = N at *
  go_enter Tryz.func46, Tryz.ntmps46
  go_wp2_with fail
  generalize (w.alloc (.cells #[.int .i64 k, .int .i64 n, .string nm, .string tx] 54 (0, 0))) = w0 at *
  refine C1.mono ?_
  intro e w1 h1
  obtain ⟨ad, cap, rfl, hx, G⟩ := HL.out _ _ _ h1
  have X := X1.next G
  have B := bch B1 G (Nat.le_refl _)
  clear C1 h1 G X1 B1 HL
  by_cases hRE : RE = 0
  · have hs := hz0 hRE
    have hRN : RN ≤ 16384 := by omega
    have hw : wrap64 ((RN : Int) + (WT.size : Int)) = (RN : Int) + (WT.size : Int) := by unfold wrap64; omega
    clear hz0
    subst hRE
    obtain ⟨x0, x1, x2, x3, _⟩ := id X
    go_wp2_with fail
    clear x0 x1 x2 x3
    refine (C2.out _).mono ?_
    rintro e w2 ⟨rfl, G⟩
    have X := X.next G
    have hx := hx.below G
    have B := bch B G (Nat.le_refl _)
    clear C2 G
    by_cases hAE : AE = 0
    · subst hAE
      by_cases h100 : N = 100
      · have d1 : ((N : Int) == 100) = true := by simp; omega
        have d1' : (N == 100) = true := by simpa using h100
        have eE := HE.out
        rw [if_neg (by simp), if_neg (by simp), if_pos (.inl h100)] at eE
        have eT := HT.out
        rw [eE, if_neg (by decide)] at eT
        have HR := (show Hid (SE = 2 ∧ ST = ⟨#[]⟩) from ⟨eE, eT⟩)
        clear eE eT HE HT
        go_wp2_with fail
        go_ret2
        exact ⟨by rw [HR.out.1, HR.out.2]; rfl, B⟩
      · have d1 : ((N : Int) == 100) = false := by simp; omega
        have d1' : (N == 100) = false := by simpa using h100
        by_cases hbg : 16384 < RN + WT.size
        · have d2 : decide ((16384 : Int) < (RN : Int) + (WT.size : Int)) = true := decide_eq_true (by omega)
          have eE := HE.out
          rw [if_neg (by simp), if_neg (by simp), if_pos (.inr hbg)] at eE
          have eT := HT.out
          rw [eE, if_neg (by decide)] at eT
          have HR := (show Hid (SE = 2 ∧ ST = ⟨#[]⟩) from ⟨eE, eT⟩)
          clear eE eT HE HT
          go_wp2_with fail
          go_ret2
          exact ⟨by rw [HR.out.1, HR.out.2]; rfl, B⟩
        · have d2 : decide ((16384 : Int) < (RN : Int) + (WT.size : Int)) = false := decide_eq_false (by omega)
          have eE := HE.out
          rw [if_neg (by simp), if_neg (by simp), if_neg (fun h => by omega)] at eE
          have eT := HT.out
          rw [eE] at eT
          have HR := (show Hid (SE = E3 ∧ ST = if E3 = 0 then s.extract 0 RN ++ WT else ⟨#[]⟩) from ⟨eE, eT⟩)
          clear eE eT HE HT
          have CD := CD0.out
          go_upto_region 9 with fail
          obtain ⟨u, hu⟩ : ∃ u, u = w2 := ⟨_, rfl⟩
          rw [← hu] at X hx B ⊢
          clear hu
          have HSS : Hid (∀ w', Below u.heap.size u w' → (fun w' : World => w'.cell? ⟨w.heap.size, 0, none⟩ = some (.int .i64 k) ∧ w'.cell? ⟨w.heap.size, 1, none⟩ = some (.int .i64 n) ∧ w'.cell? ⟨w.heap.size, 2, none⟩ = some (.string nm) ∧ w'.cell? ⟨w.heap.size, 3, none⟩ = some (.string tx)) w') := fun w' h9 => ⟨(X.next h9).c0, (X.next h9).c1, (X.next h9).c2, (X.next h9).c3⟩
          have CD : Hid (∀ w', Below u.heap.size u w' → Calls Tryz.prog 87 #[.slice ad N cap] w' fun e w2 => OwSaid AD w' e w2) := fun w' h9 => CD0.out w' ad cap (bch B h9 (Nat.le_refl _)) (hx.below h9)
          have CO : Hid (∀ w' p cp q cq, Below u.heap.size u w' → ArV w' p q AD → Calls Tryz.prog 36 #[.agg #[.slice p AD.dicts.length cp, .slice q AD.files.length cq], .agg #[.int .i64 k, .int .i64 n, .string nm, .string tx]] w' fun e w2 => ArSaid w' A2 E3 e w2) := fun w' p cp q cq h9 hv => CO0.out w' p cp q cq (bch B h9 (Nat.le_refl _)) hv
          clear CD0 CO0 hx
          go_cut [10, 11] from 39 to 45 (fun _ x wx => x = .int .i64 E3 ∧ Below u.heap.size u wx)
          case first =>
            clear HR
            have G0 := (Below.refl u.heap.size u).drew
            refine wp_region_held_drew (S := fun w' => w'.cell? ⟨w.heap.size, 0, none⟩ = some (.int .i64 k) ∧ w'.cell? ⟨w.heap.size, 1, none⟩ = some (.int .i64 n) ∧ w'.cell? ⟨w.heap.size, 2, none⟩ = some (.string nm) ∧ w'.cell? ⟨w.heap.size, 3, none⟩ = some (.string tx)) (by kernel_rfl) (HSS.out _ G0) (fun hS => ?_)
            refine wpAnyH_take (i := 0) (fuel := 9) (v := .slice ad N cap) rfl (by kernel_rfl) (by kernel_rfl) (by kernel_rfl) (fun _ _ _ h => h) (Or.inl ⟨by rfl, fun w' h9 => by obtain ⟨k1, k2, k3, k4⟩ := h9; go_simp⟩) hS ?_
            refine wpAnyH_take (i := 2) (fuel := 8) (v := .agg #[.int .i64 k, .int .i64 n, .string nm, .string tx]) rfl (by kernel_rfl) (by kernel_rfl) (by kernel_rfl) (fun _ _ _ h => h) (Or.inl ⟨by rfl, fun w' h9 => by obtain ⟨k1, k2, k3, k4⟩ := h9; go_simp⟩) hS ?_
            refine wpAnyH_ready (rs := [1, 7]) (fuel := 7) (by kernel_rfl) (by simp) ?_
            refine AllReadyH.cons rfl (fun K hK => ?_) (AllReadyH.cons rfl (fun K hK => ?_) AllReadyH.nil)
            · go_simp
              go_at_call 87
              refine (CD.out _ G0).mono ?_
              rintro e wd ⟨v1, v2, rfl, OD, GD⟩
              obtain ⟨p, cp, q, cq, rfl, rfl, VD⟩ := OD.slices
              have G1 := bch G0 GD (Nat.le_refl _)
              refine hK.out _ _ (HSS.out _ G1) (fun hS1 => ?_)
              clear hK
              generalize AD.dicts.length = D at *
              generalize AD.files.length = F at *
              refine wpAnyH_ready (rs := [3, 7]) (fuel := 6) (by kernel_rfl) (by simp) ?_
              refine AllReadyH.cons rfl (fun K hK => ?_) (AllReadyH.cons rfl (fun K hK => ?_) AllReadyH.nil)
              · go_simp
                go_at_call 36
                refine (CO.out _ _ _ _ _ G1 VD).mono ?_
                intro e wo h1
                obtain ⟨p2, q2, p3, q3, rfl, _, GO⟩ := h1.own
                have G2 := bch G1 GO (Nat.le_refl _)
                refine hK.out _ _ (HSS.out _ G2) (fun hS2 => ?_)
                clear hK h1
                generalize A2.dicts.length = D2 at *
                generalize A2.files.length = F2 at *
                refine wpAnyH_take (i := 4) (fuel := 5) (v := .tuple #[.agg #[.slice p2 D2 q2, .slice p3 F2 q3], .int .i64 E3]) rfl (by kernel_rfl) (by kernel_rfl) (by kernel_rfl) (fun _ _ _ h => h) (Or.inl ⟨by rfl, fun w' h9 => by obtain ⟨k1, k2, k3, k4⟩ := h9; go_simp⟩) hS2 ?_
                refine wpAnyH_take (i := 5) (fuel := 4) (v := .agg #[.slice p2 D2 q2, .slice p3 F2 q3]) rfl (by kernel_rfl) (by kernel_rfl) (by kernel_rfl) (fun _ _ _ h => h) (Or.inl ⟨by rfl, fun w' h9 => by obtain ⟨k1, k2, k3, k4⟩ := h9; go_simp⟩) hS2 ?_
                refine wpAnyH_take (i := 6) (fuel := 3) (v := .int .i64 E3) rfl (by kernel_rfl) (by kernel_rfl) (by kernel_rfl) (fun _ _ _ h => h) (Or.inl ⟨by rfl, fun w' h9 => by obtain ⟨k1, k2, k3, k4⟩ := h9; go_simp⟩) hS2 ?_
                refine wpAnyH_ready (rs := [7]) (fuel := 2) (by kernel_rfl) (by simp) ?_
                refine AllReadyH.cons rfl (fun K hK => ?_) AllReadyH.nil
                go_simp
                have G3 : Below u.heap.size u (wo.alloc (.cells #[.slice none 0 0, .slice none 0 0] 25 (0, 0))) := bch G2 (alloc_below wo (.cells #[.slice none 0 0, .slice none 0 0] 25 (0, 0))) (Nat.le_refl _)
                have XN := Bx.new wo (.slice none 0 0) (.slice none 0 0)
                have hbN0 : u.heap.size ≤ wo.heap.size := G2.size
                refine hK.out _ _ (HSS.out _ G3) (fun hS3 => ?_)
                clear hK
                generalize (wo.alloc (.cells #[.slice none 0 0, .slice none 0 0] 25 (0, 0))) = wa at *
                obtain ⟨bN, hbn⟩ : ∃ bN, bN = wo.heap.size := ⟨_, rfl⟩
                rw [← hbn] at XN ⊢
                have hbN : u.heap.size ≤ bN := by rw [hbn]; exact hbN0
                clear hbn hbN0
                refine wpAnyH_ready (rs := [8]) (fuel := 1) (by kernel_rfl) (by simp) ?_
                refine AllReadyH.cons rfl (fun K hK => ?_) AllReadyH.nil
                have x0 := XN.c0
                have x1 := XN.c1
                have f0 := XN.f0
                have f1 := XN.f1
                have x1' := (World.cell?_setCell_other wa ⟨bN, 0, none⟩ ⟨bN, 1, none⟩ (.slice p2 D2 q2) (by simp)).trans x1
                have G9 := below_set2 G3 (b := bN) hbN (.slice p2 D2 q2) (.slice p3 F2 q3)
                go_simp
                refine hK.out _ _ (HSS.out _ G9) (fun hS9 => ?_)
                clear hK x0 x1 f0 f1 x1'
                refine wpAnyH_ready (rs := [9]) (fuel := 0) (by kernel_rfl) (by simp) ?_
                refine AllReadyH.cons rfl (fun K hK => ?_) AllReadyH.nil
                go_simp
                refine hK.out _ _ hS9 (fun _ => ?_)
                clear hK
                refine ⟨by kernel_rfl, ?_⟩
                go_wp2_with fail
                go_meet
                exact ⟨rfl, G9⟩
              · go_simp
                have G2 : Below u.heap.size u (wd.alloc (.cells #[.slice none 0 0, .slice none 0 0] 25 (0, 0))) := bch G1 (alloc_below wd (.cells #[.slice none 0 0, .slice none 0 0] 25 (0, 0))) (Nat.le_refl _)
                have XN := Bx.new wd (.slice none 0 0) (.slice none 0 0)
                have hbN0 : u.heap.size ≤ wd.heap.size := G1.size
                refine hK.out _ _ (HSS.out _ G2) (fun hS3 => ?_)
                clear hK
                have AB := alloc_below wd (.cells #[.slice none 0 0, .slice none 0 0] 25 (0, 0))
                generalize (wd.alloc (.cells #[.slice none 0 0, .slice none 0 0] 25 (0, 0))) = wa at *
                obtain ⟨bN, hbn⟩ : ∃ bN, bN = wd.heap.size := ⟨_, rfl⟩
                rw [← hbn] at XN ⊢
                have hbN : u.heap.size ≤ bN := by rw [hbn]; exact hbN0
                clear hbn hbN0
                have VA := VD.below (show Below wd.heap.size wd wa from AB)
                refine wpAnyH_ready (rs := [3]) (fuel := 5) (by kernel_rfl) (by simp) ?_
                refine AllReadyH.cons rfl (fun K hK => ?_) AllReadyH.nil
                go_simp
                go_at_call 36
                refine (CO.out _ _ _ _ _ G2 VA).mono ?_
                intro e wo h1
                obtain ⟨p2, q2, p3, q3, rfl, _, GO⟩ := h1.own
                have G3 := bch G2 GO (Nat.le_refl _)
                refine hK.out _ _ (HSS.out _ G3) (fun hS2 => ?_)
                clear hK h1
                generalize A2.dicts.length = D2 at *
                generalize A2.files.length = F2 at *
                have XN := XN.next GO
                refine wpAnyH_take (i := 4) (fuel := 4) (v := .tuple #[.agg #[.slice p2 D2 q2, .slice p3 F2 q3], .int .i64 E3]) rfl (by kernel_rfl) (by kernel_rfl) (by kernel_rfl) (fun _ _ _ h => h) (Or.inl ⟨by rfl, fun w' h9 => by obtain ⟨k1, k2, k3, k4⟩ := h9; go_simp⟩) hS2 ?_
                refine wpAnyH_take (i := 5) (fuel := 3) (v := .agg #[.slice p2 D2 q2, .slice p3 F2 q3]) rfl (by kernel_rfl) (by kernel_rfl) (by kernel_rfl) (fun _ _ _ h => h) (Or.inl ⟨by rfl, fun w' h9 => by obtain ⟨k1, k2, k3, k4⟩ := h9; go_simp⟩) hS2 ?_
                refine wpAnyH_take (i := 6) (fuel := 2) (v := .int .i64 E3) rfl (by kernel_rfl) (by kernel_rfl) (by kernel_rfl) (fun _ _ _ h => h) (Or.inl ⟨by rfl, fun w' h9 => by obtain ⟨k1, k2, k3, k4⟩ := h9; go_simp⟩) hS2 ?_
                refine wpAnyH_ready (rs := [8]) (fuel := 1) (by kernel_rfl) (by simp) ?_
                refine AllReadyH.cons rfl (fun K hK => ?_) AllReadyH.nil
                have x0 := XN.c0
                have x1 := XN.c1
                have f0 := XN.f0
                have f1 := XN.f1
                have x1' := (World.cell?_setCell_other wo ⟨bN, 0, none⟩ ⟨bN, 1, none⟩ (.slice p2 D2 q2) (by simp)).trans x1
                have G9 := below_set2 G3 (b := bN) hbN (.slice p2 D2 q2) (.slice p3 F2 q3)
                go_simp
                refine hK.out _ _ (HSS.out _ G9) (fun hS9 => ?_)
                clear hK x0 x1 f0 f1 x1'
                refine wpAnyH_ready (rs := [9]) (fuel := 0) (by kernel_rfl) (by simp) ?_
                refine AllReadyH.cons rfl (fun K hK => ?_) AllReadyH.nil
                go_simp
                refine hK.out _ _ hS9 (fun _ => ?_)
                clear hK
                refine ⟨by kernel_rfl, ?_⟩
                go_wp2_with fail
                go_meet
                exact ⟨rfl, G9⟩
            · go_simp
              have G1 : Below u.heap.size u (u.alloc (.cells #[.slice none 0 0, .slice none 0 0] 25 (0, 0))).drew := (alloc_below u (.cells #[.slice none 0 0, .slice none 0 0] 25 (0, 0))).drew
              have XN := (Bx.new u (.slice none 0 0) (.slice none 0 0)).next ((Below.refl _ _).drew)
              have hbN0 : u.heap.size ≤ u.heap.size := Nat.le_refl _
              refine hK.out _ _ (HSS.out _ G1) (fun hS3 => ?_)
              clear hK
              generalize (u.alloc (.cells #[.slice none 0 0, .slice none 0 0] 25 (0, 0))).drew = wa at *
              obtain ⟨bN, hbn⟩ : ∃ bN, bN = u.heap.size := ⟨_, rfl⟩
              rw [← hbn] at XN ⊢
              have hbN : u.heap.size ≤ bN := by rw [hbn]; exact hbN0
              clear hbn hbN0
              refine wpAnyH_ready (rs := [1]) (fuel := 6) (by kernel_rfl) (by simp) ?_
              refine AllReadyH.cons rfl (fun K hK => ?_) AllReadyH.nil
              go_simp
              go_at_call 87
              refine (CD.out _ G1).mono ?_
              rintro e wd ⟨v1, v2, rfl, OD, GD⟩
              obtain ⟨p, cp, q, cq, rfl, rfl, VD⟩ := OD.slices
              have G2 := bch G1 GD (Nat.le_refl _)
              refine hK.out _ _ (HSS.out _ G2) (fun hS1 => ?_)
              clear hK
              generalize AD.dicts.length = D at *
              generalize AD.files.length = F at *
              have XN := XN.next GD
              refine wpAnyH_ready (rs := [3]) (fuel := 5) (by kernel_rfl) (by simp) ?_
              refine AllReadyH.cons rfl (fun K hK => ?_) AllReadyH.nil
              go_simp
              go_at_call 36
              refine (CO.out _ _ _ _ _ G2 VD).mono ?_
              intro e wo h1
              obtain ⟨p2, q2, p3, q3, rfl, _, GO⟩ := h1.own
              have G3 := bch G2 GO (Nat.le_refl _)
              refine hK.out _ _ (HSS.out _ G3) (fun hS2 => ?_)
              clear hK h1
              generalize A2.dicts.length = D2 at *
              generalize A2.files.length = F2 at *
              have XN := XN.next GO
              refine wpAnyH_take (i := 4) (fuel := 4) (v := .tuple #[.agg #[.slice p2 D2 q2, .slice p3 F2 q3], .int .i64 E3]) rfl (by kernel_rfl) (by kernel_rfl) (by kernel_rfl) (fun _ _ _ h => h) (Or.inl ⟨by rfl, fun w' h9 => by obtain ⟨k1, k2, k3, k4⟩ := h9; go_simp⟩) hS2 ?_
              refine wpAnyH_take (i := 5) (fuel := 3) (v := .agg #[.slice p2 D2 q2, .slice p3 F2 q3]) rfl (by kernel_rfl) (by kernel_rfl) (by kernel_rfl) (fun _ _ _ h => h) (Or.inl ⟨by rfl, fun w' h9 => by obtain ⟨k1, k2, k3, k4⟩ := h9; go_simp⟩) hS2 ?_
              refine wpAnyH_take (i := 6) (fuel := 2) (v := .int .i64 E3) rfl (by kernel_rfl) (by kernel_rfl) (by kernel_rfl) (fun _ _ _ h => h) (Or.inl ⟨by rfl, fun w' h9 => by obtain ⟨k1, k2, k3, k4⟩ := h9; go_simp⟩) hS2 ?_
              refine wpAnyH_ready (rs := [8]) (fuel := 1) (by kernel_rfl) (by simp) ?_
              refine AllReadyH.cons rfl (fun K hK => ?_) AllReadyH.nil
              have x0 := XN.c0
              have x1 := XN.c1
              have f0 := XN.f0
              have f1 := XN.f1
              have x1' := (World.cell?_setCell_other wo ⟨bN, 0, none⟩ ⟨bN, 1, none⟩ (.slice p2 D2 q2) (by simp)).trans x1
              have G9 := below_set2 G3 (b := bN) hbN (.slice p2 D2 q2) (.slice p3 F2 q3)
              go_simp
              refine hK.out _ _ (HSS.out _ G9) (fun hS9 => ?_)
              clear hK x0 x1 f0 f1 x1'
              refine wpAnyH_ready (rs := [9]) (fuel := 0) (by kernel_rfl) (by simp) ?_
              refine AllReadyH.cons rfl (fun K hK => ?_) AllReadyH.nil
              go_simp
              refine hK.out _ _ hS9 (fun _ => ?_)
              clear hK
              refine ⟨by kernel_rfl, ?_⟩
              go_wp2_with fail
              go_meet
              exact ⟨rfl, G9⟩
          case rest =>
            obtain ⟨rfl, G⟩ := hcut
            have X := X.next G
            have B := bch B G (Nat.le_refl _)
            clear G HSS CD CO
            by_cases hE3 : E3 = 0
            · subst hE3
              have hri : (RN : Int) ≤ (s.size : Int) := by omega
              have hb9 : ¬ 9223372036854775807 < RN + WT.size := by omega
              go_wp2_with fail
              go_ret2
              exact ⟨by rw [HR.out.1, HR.out.2, if_pos trivial]; rfl, B⟩
            · have dE : (E3 == 0) = false := by simpa using hE3
              go_wp2_with fail
              go_ret2
              exact ⟨by rw [HR.out.1, HR.out.2, if_neg hE3]; rfl, B⟩
    · have dA : (AE == 0) = false := by simpa using hAE
      have eE := HE.out
      rw [if_neg (by simp), if_pos hAE] at eE
      have eT := HT.out
      rw [eE, if_neg hAE] at eT
      have HR := (show Hid (SE = AE ∧ ST = ⟨#[]⟩) from ⟨eE, eT⟩)
      clear eE eT HE HT
      go_wp2_with fail
      go_ret2
      exact ⟨by rw [HR.out.1, HR.out.2]; rfl, B⟩
  · have dR : (RE == 0) = false := by simpa using hRE
    have eE := HE.out
    rw [if_pos hRE] at eE
    have eT := HT.out
    rw [eE, if_neg hRE] at eT
    have HR := (show Hid (SE = RE ∧ ST = ⟨#[]⟩) from ⟨eE, eT⟩)
    clear eE eT HE HT
    go_wp2_with fail
    go_ret2
    exact ⟨by rw [HR.out.1, HR.out.2]; rfl, B⟩
end Go.Proofs.YtbjbjbpgmojcbabGreat
namespace Go.Proofs.YtbjbjbpgmojcbabGreat
open Go.RowKit
set_option maxRecDepth 8000 in
set_option maxHeartbeats 4000000 in
theorem logBegun_from (s1 s2 b t3 : ByteArray) (A : Ar.A) (l : List Im.Act) (w : World) (z1 : s1.size ≤ 100) (z2 : b.size ≤ 100) (hA : A.dicts.length = 1) (hF : A.files.length = 1) (hl : l.length = 1) (hb : (b.toList == [5, 1, 2, 1, 97, 0]) = true)
    (C1 : Hid (∀ w', Below w.heap.size w w' → Calls Tryz.prog 46 #[.string ⟨#[]⟩, .agg #[.int .i64 1, .int .i64 0, .string ⟨#[97]⟩, .string ⟨#[120, 121, 122]⟩]] w' fun e w2 => e = .returned (.tuple #[.string s1, .int .i64 0]) ∧ Below w'.heap.size w' w2))
    (C2 : Hid (∀ w', Below w.heap.size w w' → Calls Tryz.prog 46 #[.string (s1 ++ ⟨#[7]⟩), .agg #[.int .i64 3, .int .i64 8, .string ⟨#[]⟩, .string ⟨#[]⟩]] w' fun e w2 => e = .returned (.tuple #[.string s2, .int .i64 0]) ∧ Below w'.heap.size w' w2))
    (C3 : Hid (∀ w', Below w.heap.size w w' → Calls Tryz.prog 45 #[.string s2] w' fun e w2 => RcSaid A 2 0 w' e w2))
    (C4 : Hid (∀ w', Below w.heap.size w w' → Calls Tryz.prog 46 #[.string s2, .agg #[.int .i64 2, .int .i64 0, .string ⟨#[98]⟩, .string ⟨#[]⟩]] w' fun e w2 => e = .returned (.tuple #[.string t3, .int .i64 5]) ∧ Below w'.heap.size w' w2))
    (C5 : Hid (∀ w', Calls Tryz.prog 39 #[.agg #[.int .i64 1, .int .i64 2, .string ⟨#[97]⟩, .string ⟨#[]⟩]] w' fun e w2 => e = .returned (.tuple #[.string b, .int .i64 0]) ∧ Below w'.heap.size w' w2))
    (C6 : Hid (∀ w', Calls Tryz.prog 42 #[.string (b ++ ⟨#[120]⟩)] w' fun e w2 => RpSaid l 6 0 w' e w2)) :
    Calls Tryz.prog 38 #[] w fun e w' => e = .returned (.bool true) ∧ Below w.heap.size w w' := by
  have O3 : Hid (∀ (w : World) (e : Ending) (w' : World), RcSaid A 2 0 w e w' → ∃ x p y q, e = .returned (.tuple #[.agg #[.slice x 1 p, .slice y 1 q], .int .i64 2, .int .i64 0]) ∧ Below w.heap.size w w') := fun w e w' h => by
    obtain ⟨v1, v2, rfl, O, G⟩ := h
    obtain ⟨x, p, y, q, rfl, rfl, _⟩ := O.slices
    exact ⟨x, p, y, q, by rw [hA, hF]; rfl, G⟩
  have O6 : Hid (∀ (w : World) (e : Ending) (w' : World), RpSaid l 6 0 w e w' → ∃ x p, e = .returned (.tuple #[.slice x 1 p, .int .i64 6, .int .i64 0]) ∧ Below w.heap.size w w') := fun w e w' h => by
    obtain ⟨x, p, rfl, _, G⟩ := h.open
    exact ⟨x, p, by rw [hl]; rfl, G⟩
  clear hA hF hl
  go_enter Tryz.func38, Tryz.ntmps38
  go_wp2_with fail
  refine (C1.out _ (Below.refl _ _)).mono ?_
  rintro e w1 ⟨rfl, B⟩
  clear C1
  go_wp2_with fail
  refine (C2.out _ B).mono ?_
  rintro e w2 ⟨rfl, G⟩
  have B := bch B G (Nat.le_refl _)
  clear C2 G
  go_wp2_with fail
  refine (C3.out _ B).mono ?_
  intro e w3 h1
  obtain ⟨x, p, y, q, rfl, G⟩ := O3.out _ _ _ h1
  have GA := alloc_below w3 (.cells #[.slice x 1 p, .slice y 1 q] 25 (0, 0))
  have X := Bx.new w3 (.slice x 1 p) (.slice y 1 q)
  have B := bch (bch B G (Nat.le_refl _)) GA (Nat.le_refl _)
  clear C3 G GA h1 O3
  go_wp2_with fail
  generalize (w3.alloc (.cells #[.slice x 1 p, .slice y 1 q] 25 (0, 0))) = u3 at *
  generalize w3.heap.size = bA at *
  refine (C4.out _ B).mono ?_
  rintro e w4 ⟨rfl, G⟩
  have B := bch B G (Nat.le_refl _)
  have X := X.next G
  clear C4 G
  go_wp2_with fail
  refine (C5.out _).mono ?_
  rintro e w5 ⟨rfl, G⟩
  have B := bch B G (Nat.le_refl _)
  have X := X.next G
  clear C5 G
  go_wp2_with fail
  refine (C6.out _).mono ?_
  intro e w6 h1
  obtain ⟨x6, p6, rfl, G⟩ := O6.out _ _ _ h1
  have B := bch B G (Nat.le_refl _)
  have X := X.next G
  clear C6 G h1 O6
  have x0 := X.c0
  have x1 := X.c1
  clear X
  go_wp2_with fail
  go_ret
  exact ⟨rfl, B⟩
namespace Im
def l1 : ByteArray := ⟨#[8, 1, 0, 1, 97, 3, 120, 121, 122]⟩
def l2 : ByteArray := ⟨#[8, 1, 0, 1, 97, 3, 120, 121, 122, 4, 3, 8, 0, 0]⟩
def l4 : ByteArray := ⟨#[5, 1, 2, 1, 97, 0]⟩
theorem b1e : stoE ⟨#[]⟩ ⟨1, 0, ⟨#[97]⟩, ⟨#[120, 121, 122]⟩⟩ = 0 := by kernel_rfl
theorem b1t : stoT ⟨#[]⟩ ⟨1, 0, ⟨#[97]⟩, ⟨#[120, 121, 122]⟩⟩ = l1 := by kernel_rfl
theorem b2e : stoE (l1 ++ ⟨#[7]⟩) ⟨3, 8, ⟨#[]⟩, ⟨#[]⟩⟩ = 0 := by kernel_rfl
theorem b2t : stoT (l1 ++ ⟨#[7]⟩) ⟨3, 8, ⟨#[]⟩, ⟨#[]⟩⟩ = l2 := by kernel_rfl
theorem b3n : (rplL l2).length = 2 := by kernel_rfl
theorem b3d : (done (rplL l2)).dicts.length = 1 := by kernel_rfl
theorem b3f : (done (rplL l2)).files.length = 1 := by kernel_rfl
theorem b3e : rplE l2 = 0 := by kernel_rfl
theorem b4e : stoE l2 ⟨2, 0, ⟨#[98]⟩, ⟨#[]⟩⟩ = 5 := by kernel_rfl
theorem b5t : wrtT ⟨1, 2, ⟨#[97]⟩, ⟨#[]⟩⟩ = l4 := by kernel_rfl
theorem b5e : actE ⟨1, 2, ⟨#[97]⟩, ⟨#[]⟩⟩ = 0 := by kernel_rfl
theorem b6l : (rplL (l4 ++ ⟨#[120]⟩)).length = 1 := by kernel_rfl
theorem b6n : rplN (l4 ++ ⟨#[120]⟩) = 6 := by kernel_rfl
theorem b6e : rplE (l4 ++ ⟨#[120]⟩) = 0 := by kernel_rfl
theorem b7 : Nat.ble l1.size 100 = true := by kernel_rfl
theorem b9 : Nat.ble l4.size 100 = true := by kernel_rfl
theorem b8 : (l4.toList == [5, 1, 2, 1, 97, 0]) = true := by kernel_rfl
end Im
theorem small3 (a b c : UInt8) : (⟨#[]⟩ : ByteArray).size ≤ 140737488355328 ∧ (⟨#[a]⟩ : ByteArray).size ≤ 140737488355328 ∧ (⟨#[a, b, c]⟩ : ByteArray).size ≤ 140737488355328 := by
  refine ⟨?_, ?_, ?_⟩
  · show 0 ≤ _; omega
  · show 1 ≤ _; omega
  · show 3 ≤ _; omega
theorem begS1 (w : World) (hM : Mx w) : Calls Tryz.prog 46 #[.string ⟨#[]⟩, .agg #[.int .i64 1, .int .i64 0, .string ⟨#[97]⟩, .string ⟨#[120, 121, 122]⟩]] w fun e w2 => e = .returned (.tuple #[.string Im.l1, .int .i64 0]) ∧ Below w.heap.size w w2 := by
  have h := store_any ⟨#[]⟩ 1 0 ⟨#[97]⟩ ⟨#[120, 121, 122]⟩ w (small3 97 0 0).2.1 (small3 120 121 122).2.2 hM
  rw [Im.b1t, Im.b1e] at h
  exact h
theorem begS2 (w : World) (hM : Mx w) : Calls Tryz.prog 46 #[.string (Im.l1 ++ ⟨#[7]⟩), .agg #[.int .i64 3, .int .i64 8, .string ⟨#[]⟩, .string ⟨#[]⟩]] w fun e w2 => e = .returned (.tuple #[.string Im.l2, .int .i64 0]) ∧ Below w.heap.size w w2 := by
  have h := store_any (Im.l1 ++ ⟨#[7]⟩) 3 8 ⟨#[]⟩ ⟨#[]⟩ w (small3 0 0 0).1 (small3 0 0 0).1 hM
  rw [Im.b2t, Im.b2e] at h
  exact h
theorem begS4 (w : World) (hM : Mx w) : Calls Tryz.prog 46 #[.string Im.l2, .agg #[.int .i64 2, .int .i64 0, .string ⟨#[98]⟩, .string ⟨#[]⟩]] w fun e w2 => e = .returned (.tuple #[.string (Im.stoT Im.l2 ⟨2, 0, ⟨#[98]⟩, ⟨#[]⟩⟩), .int .i64 5]) ∧ Below w.heap.size w w2 := by
  have h := store_any Im.l2 2 0 ⟨#[98]⟩ ⟨#[]⟩ w (small3 98 0 0).2.1 (small3 0 0 0).1 hM
  rw [Im.b4e] at h
  exact h
theorem begS3 (w : World) (hM : Mx w) : Calls Tryz.prog 45 #[.string Im.l2] w fun e w2 => RcSaid (Im.done (Im.rplL Im.l2)) 2 0 w e w2 := by
  have h := recover_any Im.l2 w hM
  rw [Im.b3n, Im.b3e] at h
  exact h
theorem begS5 (w : World) : Calls Tryz.prog 39 #[.agg #[.int .i64 1, .int .i64 2, .string ⟨#[97]⟩, .string ⟨#[]⟩]] w fun e w2 => e = .returned (.tuple #[.string Im.l4, .int .i64 0]) ∧ Below w.heap.size w w2 := by
  have h := logWrite_any 1 2 ⟨#[97]⟩ ⟨#[]⟩ w (Nat.le_trans (small3 97 0 0).2.1 (by omega)) (Nat.le_trans (small3 0 0 0).1 (by omega))
  rw [Im.b5t, Im.b5e] at h
  exact h
theorem begS6 (w : World) : Calls Tryz.prog 42 #[.string (Im.l4 ++ ⟨#[120]⟩)] w fun e w2 => RpSaid (Im.rplL (Im.l4 ++ ⟨#[120]⟩)) 6 0 w e w2 := by
  have h := replay_any (Im.l4 ++ ⟨#[120]⟩) w
  rw [Im.b6n, Im.b6e] at h
  exact h
theorem logBegun_any (w : World) (hM : Mx w) : Calls Tryz.prog 38 #[] w fun e w' => e = .returned (.bool true) ∧ Below w.heap.size w w' :=
  logBegun_from Im.l1 Im.l2 Im.l4 _ _ _ w (Nat.le_of_ble_eq_true Im.b7) (Nat.le_of_ble_eq_true Im.b9) Im.b3d Im.b3f Im.b6l Im.b8 (fun w' h9 => begS1 w' (hM.below h9)) (fun w' h9 => begS2 w' (hM.below h9)) (fun w' h9 => begS3 w' (hM.below h9)) (fun w' h9 => begS4 w' (hM.below h9)) (fun w' => begS5 w') (fun w' => begS6 w')
end Go.Proofs.YtbjbjbpgmojcbabGreat
namespace Go.Proofs.YtbjbjbpgmojcbabGreat
open Go.RowKit
namespace Im
end Im
structure Kp (wr : World) (p : Nat) (v : Value) (c : Nat) : Prop where
  lt : c < wr.heap.size
  np : c ≠ p
  nv : v.ownBlock ≠ some c
theorem Kp.next {wr w' : World} {p c : Nat} {v v' : Value} (h : Kp wr p v c) (F : WF p wr w' v v') : Kp w' p v' c ∧ w'.heap[c]? = wr.heap[c]? :=
  ⟨⟨Nat.lt_of_lt_of_le h.lt F.sz, h.np, fun e => by
    rcases F.at_ c e with h9 | h9
    · exact h.nv h9
    · have := h.lt; omega⟩, F.blk c h.lt h.np h.nv⟩
theorem Bx.blk {w w' : World} {b : Nat} {x y : Value} (h : Bx w b x y) (hb : w'.heap[b]? = w.heap[b]?) (hz : w.heap.size ≤ w'.heap.size) : Bx w' b x y :=
  ⟨(World.cell?_of_block (w := w) (a := ⟨b, 0, none⟩) hb).trans h.c0, (World.cell?_of_block (w := w) (a := ⟨b, 1, none⟩) hb).trans h.c1, (World.frozen?_of_block (w := w) (a := ⟨b, 0, none⟩) hb).trans h.f0, (World.frozen?_of_block (w := w) (a := ⟨b, 1, none⟩) hb).trans h.f1, Nat.lt_of_lt_of_le h.lt hz⟩
theorem FB.blk {w w' : World} {b : Nat} {f : Nat → Value} (h : FB w b f) (hb : w'.heap[b]? = w.heap[b]?) : FB w' b f :=
  ⟨fun i hi => (World.cell?_of_block (w := w) (a := ⟨b, i, none⟩) hb).trans (h.c i hi), fun i hi => (World.frozen?_of_block (w := w) (a := ⟨b, i, none⟩) hb).trans (h.z i hi)⟩
structure WS (w wr : World) (B p c : Nat) (v0 v : Value) (l : List UInt8) (x y : Value) : Prop where
  f : WF p w wr v0 v
  t : Wtr B p wr v l 0
  b : Below B w wr
  x : Bx wr c x y
  k : Kp wr p v c
theorem WS.call {w wr w' : World} {B p c : Nat} {v0 v : Value} {l l' : List UInt8} {x y : Value} {e : Ending} (h : WS w wr B p c v0 v l x y) (s : WrSaid B p wr v l' 0 e w') : e = .returned (.tuple #[]) ∧ ∃ v', WS w w' B p c v0 v' l' x y ∧ WF p wr w' v v' := by
  obtain ⟨he, G, v', T, F⟩ := s
  obtain ⟨K, hb⟩ := h.k.next F
  exact ⟨he, v', ⟨h.f.trans F, T, h.b.trans G, h.x.blk hb F.sz, K⟩, F⟩
theorem WS.below {w wr w' : World} {B p c : Nat} {v0 v : Value} {l : List UInt8} {x y : Value} (h : WS w wr B p c v0 v l x y) (G : Below wr.heap.size wr w') : WS w w' B p c v0 v l x y :=
  ⟨h.f.trans (WF.of G), h.t.below G, h.b.trans (G.mono (Nat.le_of_lt (Nat.lt_of_le_of_lt h.t.hp h.t.lt))), h.x.next G, ⟨Nat.lt_of_lt_of_le h.k.lt G.size, h.k.np, h.k.nv⟩⟩
end Go.Proofs.YtbjbjbpgmojcbabGreat
namespace Go.Proofs.YtbjbjbpgmojcbabGreat
namespace Cd
theorem wrt_small {f : Nat → Int} {s : ByteArray} (h : (wrt f s).2 = 0) : (wrt f s).1.size ≤ 5000 := by
  unfold wrt at h ⊢
  by_cases hc : chk f ≠ 0
  · rw [if_pos hc] at h; exact absurd h hc
  · rw [if_neg hc] at h ⊢
    by_cases hs : 1024 < s.size
    · rw [if_pos hs] at h; simp at h
    · rw [if_neg hs] at h ⊢
      cases hw : wrK f s s.size with
      | none => rw [hw] at h; simp at h
      | some bs =>
        simp only
        have := wrK_len (chk_zero (by simpa using hc)).1 _ _ hw
        rw [size_pk]
        omega
theorem rd_small {f : Nat → Int} {b : ByteArray} {n : Int} (h : (rd f b n).2 = 0) : b.size ≤ 5000 := by
  have h1 := (wrt_rd h).1
  have h2 := wrt_small (f := f) (s := (rd f b n).1) (by rw [h1])
  rw [h1] at h2
  exact h2
end Cd
namespace Bk
theorem dec_small {s : ByteArray} (h : (dec s).2 = 0) : s.size ≤ 6000 := by
  unfold dec at h
  by_cases h8 : s.size < 8
  · omega
  · rw [if_neg h8] at h
    cases hq : Nm.from_ (s.extract 8 s.size).data.toList with
    | none => rw [hq] at h; simp at h
    | some x =>
      obtain ⟨n, k⟩ := x
      rw [hq] at h
      simp only at h
      by_cases h0 : (Cd.rd (pt (s.extract 0 8)) ((s.extract 8 s.size).extract k (s.extract 8 s.size).size) (n : Nat)).2 = 0
      · have := Cd.rd_small h0
        have hk := Nm.nb_from hq
        simp only [ext_size] at this
        omega
      · rw [if_neg h0] at h; simp at h
theorem unp_small {dict b : ByteArray} (h : (unp dict b).2 = 0) : b.size ≤ 7000 := by
  have hx : (b.extract 1 b.size).size = b.size - 1 := by rw [ext_size]; omega
  unfold unp at h
  by_cases hd : 256 < dict.size
  · rw [if_pos hd] at h; simp at h
  · rw [if_neg hd] at h
    by_cases hb : b.size = 0
    · omega
    · rw [if_neg hb] at h
      by_cases h0 : Cd.at8 b 0 = 0
      · rw [if_pos h0] at h
        unfold whl at h
        by_cases h5 : 512 < (b.extract 1 b.size).size
        · rw [if_pos h5] at h; simp at h
        · omega
      · rw [if_neg h0] at h
        by_cases h1 : Cd.at8 b 0 = 1
        · rw [if_pos h1] at h
          unfold ply at h
          by_cases h5 : 1024 < (b.extract 1 b.size).size
          · rw [read_long0 (by omega) h5] at h; simp at h
          · omega
        · rw [if_neg h1] at h
          by_cases h2 : Cd.at8 b 0 = 2
          · rw [if_pos h2] at h
            by_cases h3 : (dec (b.extract 1 b.size)).2 = 0
            · have := dec_small h3
              omega
            · rw [if_neg h3] at h; exact absurd h h3
          · rw [if_neg h2] at h; simp at h
end Bk
end Go.Proofs.YtbjbjbpgmojcbabGreat
namespace Go.Proofs.YtbjbjbpgmojcbabGreat
namespace Im
theorem flat_le {α : Type} (enc : α → B) (M : Nat) : ∀ l : List α, (∀ x ∈ l, (enc x).length ≤ M) → (flat enc l).length ≤ l.length * M
  | [], _ => by simp [flat]
  | x :: l, h => by
    have h1 := flat_le enc M l (fun y hy => h y (List.mem_cons_of_mem _ hy))
    have h2 := h x (List.mem_cons_self ..)
    simp only [flat, List.flatMap_cons, List.length_append, List.length_cons] at h1 ⊢
    rw [Nat.succ_mul]
    omega
theorem tb_len {t : ByteArray} {m : Nat} (h : t.size ≤ m) (hm : m ≤ 100000) : (tb t).length ≤ 5 + m := by
  unfold tb
  have := Nm.nb_len5 t.size (by omega)
  rw [List.length_append, ← size_len]
  omega
theorem chk_file {a : Ar.A} (h : Ar.chk a = 0) {i : Nat} (hi : i < a.files.length) : okF (Ar.fa a.files i) ∧ (Ar.fa a.files i).name.size ≤ 12 ∧ (Ar.fa a.files i).blk.size ≤ 7000 := by
  obtain ⟨hm, hg⟩ := Ar.chk_zero.1 h
  obtain ⟨m1, m2, m3⟩ := Ar.many_iff.1 hm
  obtain ⟨k1, _, k3⟩ := Ar.okAt_parts (Ar.gdK_at hg hi)
  have hn := Ar.isNm_le k1
  simp only [Ar.okf, Ar.has, Bool.and_eq_true, decide_eq_true_iff] at k3
  obtain ⟨⟨d0, d1⟩, u0, u1, u2⟩ := k3
  have hb := Bk.unp_small u0
  have hz := Bk.unp_size u0
  have hs := sumTo_lt (Ar.up a.dicts (Ar.fa a.files i)).1 (Ar.up a.dicts (Ar.fa a.files i)).1.size
  have hz' : (Ar.up a.dicts (Ar.fa a.files i)).1.size ≤ 512 := hz
  unfold Ar.sm at u2
  refine ⟨⟨by omega, ⟨d0, by omega⟩, ⟨by omega, by omega⟩, ⟨by omega, by omega⟩, by omega⟩, hn, hb⟩
theorem chk_ok {a : Ar.A} (h : Ar.chk a = 0) : OkA a ∧ (imgB a).length ≤ 200000 := by
  obtain ⟨hm, hg⟩ := Ar.chk_zero.1 h
  obtain ⟨m1, m2, m3⟩ := Ar.many_iff.1 hm
  have hd := m3
  have hf : ∀ f ∈ a.files, okF f ∧ f.name.size ≤ 12 ∧ f.blk.size ≤ 7000 := fun f hf => by
    obtain ⟨i, hi, rfl⟩ := List.getElem_of_mem hf
    have := chk_file h hi
    rwa [show Ar.fa a.files i = a.files[i] by simp [Ar.fa, hi]] at this
  refine ⟨⟨m1, fun d h9 => by have := hd d h9; omega, m2, fun f h9 => (hf f h9).1⟩, ?_⟩
  have l1 := flat_le tb 300 a.dicts (fun d h9 => by have := tb_len (hd d h9) (by omega); omega)
  have l2 := flat_le fileB 7100 a.files (fun f h9 => by
    obtain ⟨⟨_, ⟨_, q1⟩, ⟨_, q2⟩, ⟨_, q3⟩, _⟩, h2, h3⟩ := hf f h9
    have t1 := tb_len h2 (by omega)
    have t2 := tb_len h3 (by omega)
    have n1 := Nm.nb_len5 f.dict.toNat (by omega)
    have n2 := Nm.nb_len5 f.size.toNat (by omega)
    have n3 := Nm.nb_len5 f.sum.toNat (by omega)
    unfold fileB
    simp only [List.length_append]
    omega)
  have n1 := Nm.nb_len5 a.dicts.length (by omega)
  have n2 := Nm.nb_len5 a.files.length (by omega)
  have h4 : a.dicts.length * 300 ≤ 4 * 300 := Nat.mul_le_mul_right _ m1
  have h5 : a.files.length * 7100 ≤ 12 * 7100 := Nat.mul_le_mul_right _ m2
  have h6 : mrk.length = 5 := rfl
  unfold imgB
  simp only [List.length_append]
  omega
end Im
end Go.Proofs.YtbjbjbpgmojcbabGreat
namespace Go.Proofs.YtbjbjbpgmojcbabGreat
open Go.RowKit
set_option maxRecDepth 4000 in
set_option maxHeartbeats 1000000 in
theorem textBytes_wide (s : ByteArray) (w : World) (h : s.size ≤ 2147483647) :
    Calls Tryz.prog 84 #[.string s] w fun e w' => e = .returned (.string ⟨(Im.tb s).toArray⟩) ∧ Below w.heap.size w w' := by
  have h2 : (s.size : Int) ≤ 2147483647 := by omega
  have hc := numBytes_any s.size s.size w (by omega) (by omega) (by omega)
  rw [Int.toNat_natCast] at hc
  have hl := Nm.nb_len5 s.size (by omega)
  have HT : Hid ((⟨(Im.tb s).toArray⟩ : ByteArray) = ⟨(Nm.nb s.size).toArray⟩ ++ s) := by
    show _ = _
    apply Nm.ba_ext
    simp [Im.tb]
  rw [HT.out]
  clear HT
  go_enter Tryz.func84, Tryz.ntmps84
  go_wp2_with fail
  refine hc.mono ?_
  rintro e w' ⟨rfl, G⟩
  clear hc
  generalize hL : Nm.nb s.size = L at *
  have HL : Hid (Nm.nb s.size = L) := hL
  clear hL
  go_wp2_with fail
  go_ret
  exact ⟨by rw [HL.out]; rfl, G⟩
end Go.Proofs.YtbjbjbpgmojcbabGreat
namespace Go.Proofs.YtbjbjbpgmojcbabGreat
open Go.RowKit
set_option maxRecDepth 4000 in
set_option maxHeartbeats 2000000 in
theorem actError_any (k n : Int) (nm tx : ByteArray) (w : World) :
    Calls Tryz.prog 40 #[.agg #[.int .i64 k, .int .i64 n, .string nm, .string tx]] w fun e w' => e = .returned (.int .i64 (Im.actE ⟨k, n, nm, tx⟩)) ∧ Below w.heap.size w w' := by
  have B1 := alloc_below w (.cells #[.int .i64 k, .int .i64 n, .string nm, .string tx] 54 (0, 0))
  have X1 := XB.new w 54 k n nm tx
  have CK := fun w' => within_any k 0 2147483647 w'
  have CN := fun w' => within_any n 0 2147483647 w'
  obtain ⟨x0, x1, x2, x3, _⟩ := id X1
  by_cases h1 : 0 ≤ k ∧ k ≤ 2147483647
  · simp only [decide_eq_true h1] at CK
    by_cases h2 : 0 ≤ n ∧ n ≤ 2147483647
    · simp only [decide_eq_true h2] at CN
      by_cases h3 : nm.size ≤ 512
      · have d3 : decide ((nm.size : Int) > 512) = false := decide_eq_false (by omega)
        have d3' : decide ((512 : Int) < (nm.size : Int)) = false := decide_eq_false (by omega)
        by_cases h4 : tx.size ≤ 512
        · have d4 : decide ((tx.size : Int) > 512) = false := decide_eq_false (by omega)
          have d4' : decide ((512 : Int) < (tx.size : Int)) = false := decide_eq_false (by omega)
          have e : Im.actE ⟨k, n, nm, tx⟩ = 0 := Im.actE_ok.2 ⟨h1, h2, h3, h4⟩
          rw [e]
          clear e
          go_enter Tryz.func40, Tryz.ntmps40
          go_wp2_with fail
          refine (CK _).mono ?_
          rintro e w1 ⟨rfl, rfl⟩
          go_wp2_with fail
          refine (CN _).mono ?_
          rintro e w2 ⟨rfl, rfl⟩
          go_wp2_with fail
          go_ret
          exact ⟨rfl, B1⟩
        · have d4 : decide ((tx.size : Int) > 512) = true := decide_eq_true (by omega)
          have d4' : decide ((512 : Int) < (tx.size : Int)) = true := decide_eq_true (by omega)
          have e : Im.actE ⟨k, n, nm, tx⟩ = 2 := by unfold Im.actE; rw [if_pos ⟨h1, h2⟩, if_neg (fun h => h4 h.2)]
          rw [e]
          clear e
          go_enter Tryz.func40, Tryz.ntmps40
          go_wp2_with fail
          refine (CK _).mono ?_
          rintro e w1 ⟨rfl, rfl⟩
          go_wp2_with fail
          refine (CN _).mono ?_
          rintro e w2 ⟨rfl, rfl⟩
          go_wp2_with fail
          go_ret
          exact ⟨rfl, B1⟩
      · have d3 : decide ((nm.size : Int) > 512) = true := decide_eq_true (by omega)
        have d3' : decide ((512 : Int) < (nm.size : Int)) = true := decide_eq_true (by omega)
        have e : Im.actE ⟨k, n, nm, tx⟩ = 2 := by unfold Im.actE; rw [if_pos ⟨h1, h2⟩, if_neg (fun h => h3 h.1)]
        rw [e]
        clear e
        go_enter Tryz.func40, Tryz.ntmps40
        go_wp2_with fail
        refine (CK _).mono ?_
        rintro e w1 ⟨rfl, rfl⟩
        go_wp2_with fail
        refine (CN _).mono ?_
        rintro e w2 ⟨rfl, rfl⟩
        go_wp2_with fail
        go_ret
        exact ⟨rfl, B1⟩
    · simp only [decide_eq_false h2] at CN
      have e : Im.actE ⟨k, n, nm, tx⟩ = 3 := by unfold Im.actE; rw [if_neg (fun h => h2 h.2)]
      rw [e]
      clear e
      go_enter Tryz.func40, Tryz.ntmps40
      go_wp2_with fail
      refine (CK _).mono ?_
      rintro e w1 ⟨rfl, rfl⟩
      go_wp2_with fail
      refine (CN _).mono ?_
      rintro e w2 ⟨rfl, rfl⟩
      go_wp2_with fail
      go_ret
      exact ⟨rfl, B1⟩
  · simp only [decide_eq_false h1] at CK
    have e : Im.actE ⟨k, n, nm, tx⟩ = 3 := by unfold Im.actE; rw [if_neg (fun h => h1 h.1)]
    rw [e]
    clear e
    go_enter Tryz.func40, Tryz.ntmps40
    go_wp2_with fail
    refine (CK _).mono ?_
    rintro e w1 ⟨rfl, rfl⟩
    go_wp2_with fail
    go_ret
    exact ⟨rfl, B1⟩
set_option maxRecDepth 4000 in
set_option maxHeartbeats 1000000 in
theorem textOf_any (s : ByteArray) (w : World) (h : s.size ≤ 2147483647) :
    Calls Tryz.prog 82 #[.string s] w fun e w' => e = .returned (.string ⟨(Im.tb s).toArray⟩) ∧ Below w.heap.size w w' := by
  have h2 : (s.size : Int) ≤ 2147483647 := by omega
  have hc := numBytes_any s.size s.size w (by omega) (by omega) (by omega)
  rw [Int.toNat_natCast] at hc
  have hl := Nm.nb_len5 s.size (by omega)
  have HT : Hid ((⟨(Im.tb s).toArray⟩ : ByteArray) = ⟨(Nm.nb s.size).toArray⟩ ++ s) := by
    show _ = _
    apply Nm.ba_ext
    simp [Im.tb]
  rw [HT.out]
  clear HT
  go_enter Tryz.func82, Tryz.ntmps82
  go_wp2_with fail
  refine hc.mono ?_
  rintro e w' ⟨rfl, G⟩
  clear hc
  generalize hL : Nm.nb s.size = L at *
  have HL : Hid (Nm.nb s.size = L) := hL
  clear hL
  go_wp2_with fail
  go_ret
  exact ⟨by rw [HL.out]; rfl, G⟩
end Go.Proofs.YtbjbjbpgmojcbabGreat
namespace Go.Proofs.YtbjbjbpgmojcbabGreat
open Go.RowKit
theorem ba_app (a b : List UInt8) : (⟨a.toArray⟩ : ByteArray) ++ ⟨b.toArray⟩ = ⟨(a ++ b).toArray⟩ := by
  apply Nm.ba_ext
  simp
theorem ba_size (a : List UInt8) : (⟨a.toArray⟩ : ByteArray).size = a.length := by rw [Im.size_len]
end Go.Proofs.YtbjbjbpgmojcbabGreat
namespace Go.Proofs.YtbjbjbpgmojcbabGreat
open Go.RowKit
set_option maxRecDepth 8000 in
set_option maxHeartbeats 4000000 in
theorem actBytes_any (k n : Int) (nm tx : ByteArray) (w : World) (h : Im.actE ⟨k, n, nm, tx⟩ = 0) :
    Calls Tryz.prog 41 #[.agg #[.int .i64 k, .int .i64 n, .string nm, .string tx]] w fun e w' => e = .returned (.string ⟨(Im.actB ⟨k, n, nm, tx⟩).toArray⟩) ∧ Below w.heap.size w w' := by
  obtain ⟨⟨k0, k1⟩, ⟨n0, n1⟩, h3, h4⟩ := Im.actE_ok.1 h
  have hI := Im.actIn_len (Im.actE_ok.1 h)
  simp only at k0 k1 n0 n1 h3 h4
  have C1 := fun w => numBytes_any k.toNat k w k0 (by omega) k1
  have C2 := fun w => numBytes_any n.toNat n w n0 (by omega) n1
  have C3 := fun w => textBytes_wide nm w (by omega)
  have C4 := fun w => textBytes_wide tx w (by omega)
  have HI : Hid ((⟨(Nm.nb k.toNat).toArray⟩ : ByteArray) ++ ⟨(Nm.nb n.toNat).toArray⟩ ++ ⟨(Im.tb nm).toArray⟩ ++ ⟨(Im.tb tx).toArray⟩ = ⟨(Im.actIn ⟨k, n, nm, tx⟩).toArray⟩) := by
    show _ = _
    rw [ba_app, ba_app, ba_app]
    unfold Im.actIn
    simp only [List.append_assoc]
  have C5 : Hid (∀ w, Calls Tryz.prog 82 #[.string ⟨(Im.actIn ⟨k, n, nm, tx⟩).toArray⟩] w fun e w' => e = .returned (.string ⟨(Im.actB ⟨k, n, nm, tx⟩).toArray⟩) ∧ Below w.heap.size w w') := fun w => by
    have h9 := textOf_any ⟨(Im.actIn ⟨k, n, nm, tx⟩).toArray⟩ w (by rw [ba_size]; omega)
    rw [show Im.tb ⟨(Im.actIn ⟨k, n, nm, tx⟩).toArray⟩ = Im.actB ⟨k, n, nm, tx⟩ by unfold Im.tb Im.actB; rw [ba_size]] at h9
    exact h9
  rw [← HI.out] at C5
  have s1 : (⟨(Nm.nb k.toNat).toArray⟩ : ByteArray).size ≤ 5 := by rw [ba_size]; exact Nm.nb_len5 _ (by omega)
  have s2 : (⟨(Nm.nb n.toNat).toArray⟩ : ByteArray).size ≤ 5 := by rw [ba_size]; exact Nm.nb_len5 _ (by omega)
  have s3 : (⟨(Im.tb nm).toArray⟩ : ByteArray).size ≤ 600 := by rw [ba_size]; have := Im.tb_len h3 (by omega); omega
  have s4 : (⟨(Im.tb tx).toArray⟩ : ByteArray).size ≤ 600 := by rw [ba_size]; have := Im.tb_len h4 (by omega); omega
  generalize (⟨(Im.actB ⟨k, n, nm, tx⟩).toArray⟩ : ByteArray) = R at *
  generalize (⟨(Nm.nb k.toNat).toArray⟩ : ByteArray) = t1 at *
  generalize (⟨(Nm.nb n.toNat).toArray⟩ : ByteArray) = t2 at *
  generalize (⟨(Im.tb nm).toArray⟩ : ByteArray) = t3 at *
  generalize (⟨(Im.tb tx).toArray⟩ : ByteArray) = t4 at *
  clear h hI HI
  have B1 := alloc_below w (.cells #[.int .i64 k, .int .i64 n, .string nm, .string tx] 54 (0, 0))
  have X1 := XB.new w 54 k n nm tx
  have hbF := X1.lt
  have b1 : ¬ 9223372036854775807 < t1.size + t2.size := by omega
  have b2 : ¬ 9223372036854775807 < t1.size + t2.size + t3.size := by omega
  have b3 : ¬ 9223372036854775807 < t1.size + t2.size + t3.size + t4.size := by omega
  go_enter Tryz.func41, Tryz.ntmps41
  go_wp2_with fail
  generalize (w.alloc (.cells #[.int .i64 k, .int .i64 n, .string nm, .string tx] 54 (0, 0))) = z0 at *
  have HSS : Hid (∀ w', Below z0.heap.size z0 w' → (fun w' : World => w'.cell? ⟨w.heap.size, 0, none⟩ = some (.int .i64 k) ∧ w'.cell? ⟨w.heap.size, 1, none⟩ = some (.int .i64 n) ∧ w'.cell? ⟨w.heap.size, 2, none⟩ = some (.string nm) ∧ w'.cell? ⟨w.heap.size, 3, none⟩ = some (.string tx)) w') := fun w' h9 => ⟨(X1.next h9).c0, (X1.next h9).c1, (X1.next h9).c2, (X1.next h9).c3⟩
  clear X1
  have G0 := (Below.refl z0.heap.size z0).drew
  refine wp_region_held_drew (S := fun w' => w'.cell? ⟨w.heap.size, 0, none⟩ = some (.int .i64 k) ∧ w'.cell? ⟨w.heap.size, 1, none⟩ = some (.int .i64 n) ∧ w'.cell? ⟨w.heap.size, 2, none⟩ = some (.string nm) ∧ w'.cell? ⟨w.heap.size, 3, none⟩ = some (.string tx)) (by kernel_rfl) (HSS.out _ G0) (fun hS => ?_)
  refine wpAnyH_take (i := 0) (fuel := 16) (v := .pointer (some ⟨w.heap.size, 0, none⟩)) rfl (by kernel_rfl) (by kernel_rfl) (by kernel_rfl) (fun _ _ _ h => h) (Or.inl ⟨by rfl, fun w' h9 => by obtain ⟨k1, k2, k3, k4⟩ := h9; go_simp⟩) hS ?_
  refine wpAnyH_take (i := 1) (fuel := 15) (v := .int .i64 k) rfl (by kernel_rfl) (by kernel_rfl) (by kernel_rfl) (fun _ _ _ h => h) (Or.inl ⟨by rfl, fun w' h9 => by obtain ⟨k1, k2, k3, k4⟩ := h9; go_simp⟩) hS ?_
  refine wpAnyH_take (i := 3) (fuel := 14) (v := .pointer (some ⟨w.heap.size, 1, none⟩)) rfl (by kernel_rfl) (by kernel_rfl) (by kernel_rfl) (fun _ _ _ h => h) (Or.inl ⟨by rfl, fun w' h9 => by obtain ⟨k1, k2, k3, k4⟩ := h9; go_simp⟩) hS ?_
  refine wpAnyH_take (i := 4) (fuel := 13) (v := .int .i64 n) rfl (by kernel_rfl) (by kernel_rfl) (by kernel_rfl) (fun _ _ _ h => h) (Or.inl ⟨by rfl, fun w' h9 => by obtain ⟨k1, k2, k3, k4⟩ := h9; go_simp⟩) hS ?_
  refine wpAnyH_take (i := 7) (fuel := 12) (v := .pointer (some ⟨w.heap.size, 2, none⟩)) rfl (by kernel_rfl) (by kernel_rfl) (by kernel_rfl) (fun _ _ _ h => h) (Or.inl ⟨by rfl, fun w' h9 => by obtain ⟨k1, k2, k3, k4⟩ := h9; go_simp⟩) hS ?_
  refine wpAnyH_take (i := 8) (fuel := 11) (v := .string nm) rfl (by kernel_rfl) (by kernel_rfl) (by kernel_rfl) (fun _ _ _ h => h) (Or.inl ⟨by rfl, fun w' h9 => by obtain ⟨k1, k2, k3, k4⟩ := h9; go_simp⟩) hS ?_
  refine wpAnyH_take (i := 11) (fuel := 10) (v := .pointer (some ⟨w.heap.size, 3, none⟩)) rfl (by kernel_rfl) (by kernel_rfl) (by kernel_rfl) (fun _ _ _ h => h) (Or.inl ⟨by rfl, fun w' h9 => by obtain ⟨k1, k2, k3, k4⟩ := h9; go_simp⟩) hS ?_
  refine wpAnyH_take (i := 12) (fuel := 9) (v := .string tx) rfl (by kernel_rfl) (by kernel_rfl) (by kernel_rfl) (fun _ _ _ h => h) (Or.inl ⟨by rfl, fun w' h9 => by obtain ⟨k1, k2, k3, k4⟩ := h9; go_simp⟩) hS ?_
  refine wpAnyH_ready (rs := [2]) (fuel := 8) (by kernel_rfl) (by simp) ?_
  refine AllReadyH.cons rfl (fun K hK => ?_) AllReadyH.nil
  go_simp
  go_at_call 83
  refine (C1 _).mono ?_
  rintro e w1 ⟨rfl, H1⟩
  have G1 := bch G0 H1 (Nat.le_refl _)
  refine hK.out _ _ (HSS.out _ G1) (fun hS1 => ?_)
  clear hK H1
  refine wpAnyH_ready (rs := [5]) (fuel := 7) (by kernel_rfl) (by simp) ?_
  refine AllReadyH.cons rfl (fun K hK => ?_) AllReadyH.nil
  go_simp
  go_at_call 83
  refine (C2 _).mono ?_
  rintro e w2 ⟨rfl, H2⟩
  have G2 := bch G1 H2 (Nat.le_refl _)
  refine hK.out _ _ (HSS.out _ G2) (fun hS2 => ?_)
  clear hK H2
  refine wpAnyH_take (i := 6) (fuel := 6) (v := .string (t1 ++ t2)) rfl (by kernel_rfl) (by kernel_rfl) (by kernel_rfl) (fun _ _ _ h => h) (Or.inl ⟨by rfl, fun w' h9 => by obtain ⟨k1, k2, k3, k4⟩ := h9; go_simp⟩) hS2 ?_
  refine wpAnyH_ready (rs := [9]) (fuel := 5) (by kernel_rfl) (by simp) ?_
  refine AllReadyH.cons rfl (fun K hK => ?_) AllReadyH.nil
  go_simp
  go_at_call 84
  refine (C3 _).mono ?_
  rintro e w3 ⟨rfl, H3⟩
  have G3 := bch G2 H3 (Nat.le_refl _)
  refine hK.out _ _ (HSS.out _ G3) (fun hS3 => ?_)
  clear hK H3
  refine wpAnyH_take (i := 10) (fuel := 4) (v := .string (t1 ++ t2 ++ t3)) rfl (by kernel_rfl) (by kernel_rfl) (by kernel_rfl) (fun _ _ _ h => h) (Or.inl ⟨by rfl, fun w' h9 => by obtain ⟨k1, k2, k3, k4⟩ := h9; go_simp⟩) hS3 ?_
  refine wpAnyH_ready (rs := [13]) (fuel := 3) (by kernel_rfl) (by simp) ?_
  refine AllReadyH.cons rfl (fun K hK => ?_) AllReadyH.nil
  go_simp
  go_at_call 84
  refine (C4 _).mono ?_
  rintro e w4 ⟨rfl, H4⟩
  have G4 := bch G3 H4 (Nat.le_refl _)
  refine hK.out _ _ (HSS.out _ G4) (fun hS4 => ?_)
  clear hK H4
  refine wpAnyH_take (i := 14) (fuel := 2) (v := .string (t1 ++ t2 ++ t3 ++ t4)) rfl (by kernel_rfl) (by kernel_rfl) (by kernel_rfl) (fun _ _ _ h => h) (Or.inl ⟨by rfl, fun w' h9 => by obtain ⟨k1, k2, k3, k4⟩ := h9; go_simp⟩) hS4 ?_
  refine wpAnyH_ready (rs := [15]) (fuel := 1) (by kernel_rfl) (by simp) ?_
  refine AllReadyH.cons rfl (fun K hK => ?_) AllReadyH.nil
  go_simp
  go_at_call 82
  refine (C5.out _).mono ?_
  rintro e w5 ⟨rfl, H5⟩
  have G5 := bch G4 H5 (Nat.le_refl _)
  refine hK.out _ _ (HSS.out _ G5) (fun hS5 => ?_)
  clear hK H5
  refine wpAnyH_ready (rs := [16]) (fuel := 0) (by kernel_rfl) (by simp) ?_
  refine AllReadyH.cons rfl (fun K hK => ?_) AllReadyH.nil
  go_simp
  refine hK.out _ _ hS5 (fun _ => ?_)
  clear hK
  refine ⟨by kernel_rfl, ?_⟩
  have B9 := bch B1 G5 (Nat.le_refl _)
  clear G0 G1 G2 G3 G4 G5 HSS hS hS1 hS2 hS3 hS4 hS5
  go_wp2_with fail
  go_ret
  exact ⟨rfl, B9⟩
end Go.Proofs.YtbjbjbpgmojcbabGreat
namespace Go.Proofs.YtbjbjbpgmojcbabGreat
open Go.RowKit
structure Ey (w : World) (p : Nat) (s : ByteArray) (b : Bool) : Prop where
  c0 : w.cell? ⟨p, 0, none⟩ = some (.string s)
  c1 : w.cell? ⟨p, 1, none⟩ = some (.bool b)
  f0 : w.frozen? ⟨p, 0, none⟩ = false
  f1 : w.frozen? ⟨p, 1, none⟩ = false
theorem Ey.lt {w : World} {p : Nat} {s : ByteArray} {b : Bool} (h : Ey w p s b) : p < w.heap.size := World.block_lt_of_cell? w _ h.c0
theorem Ey.lo {w w' : World} {p lo : Nat} {s : ByteArray} {b : Bool} (h : Ey w p s b) (G : Below lo w w') (hp : p < lo) : Ey w' p s b := ⟨(G.cell (p := ⟨p, 0, none⟩) hp).trans h.c0, (G.cell (p := ⟨p, 1, none⟩) hp).trans h.c1, (G.frozen (p := ⟨p, 0, none⟩) hp).trans h.f0, (G.frozen (p := ⟨p, 1, none⟩) hp).trans h.f1⟩
theorem Ey.below {w w' : World} {p : Nat} {s : ByteArray} {b : Bool} (h : Ey w p s b) (G : Below w.heap.size w w') : Ey w' p s b := h.lo G h.lt
theorem Ey.set0 {w : World} {p : Nat} {s : ByteArray} {b : Bool} (h : Ey w p s b) (t : ByteArray) : Ey (w.setCell ⟨p, 0, none⟩ (.string t)) p t b :=
  ⟨World.cell?_setCell_same _ _ _ h.c0, (World.cell?_setCell_other _ _ _ _ (by intro e; have := congrArg Addr.off e; simp at this)).trans h.c1, by rw [World.frozen?_setCell]; exact h.f0, by rw [World.frozen?_setCell]; exact h.f1⟩
theorem Ey.set1 {w : World} {p : Nat} {s : ByteArray} {b : Bool} (h : Ey w p s b) (c : Bool) : Ey (w.setCell ⟨p, 1, none⟩ (.bool c)) p s c :=
  ⟨(World.cell?_setCell_other _ _ _ _ (by intro e; have := congrArg Addr.off e; simp at this)).trans h.c0, World.cell?_setCell_same _ _ _ h.c1, by rw [World.frozen?_setCell]; exact h.f0, by rw [World.frozen?_setCell]; exact h.f1⟩
theorem Ey.low {w : World} {p q : Nat} {s : ByteArray} {b : Bool} (h : Ey w p s b) (hne : p ≠ q) (o : Nat) (v : Value) : Ey (w.setCell ⟨q, o, none⟩ v) p s b :=
  ⟨(World.cell?_setCell_other _ _ _ _ (by intro e; have := congrArg Addr.block e; simp at this; omega)).trans h.c0, (World.cell?_setCell_other _ _ _ _ (by intro e; have := congrArg Addr.block e; simp at this; omega)).trans h.c1, by rw [World.frozen?_setCell]; exact h.f0, by rw [World.frozen?_setCell]; exact h.f1⟩
theorem Ey.on {w w' : World} {p q : Nat} {s : ByteArray} {b : Bool} (h : Ey w p s b) (g : On q w w') (hne : p ≠ q) : Ey w' p s b := by
  have hb := g.block p h.lt (by simp; omega)
  exact ⟨(World.cell?_of_block (w := w) (a := ⟨p, 0, none⟩) hb).trans h.c0, (World.cell?_of_block (w := w) (a := ⟨p, 1, none⟩) hb).trans h.c1, (World.frozen?_of_block (w := w) (a := ⟨p, 0, none⟩) hb).trans h.f0, (World.frozen?_of_block (w := w) (a := ⟨p, 1, none⟩) hb).trans h.f1⟩
theorem Ey.new (w : World) (T : TypeId) (s : ByteArray) (b : Bool) : Ey (w.alloc (.cells #[.string s, .bool b] T (0, 0))) w.heap.size s b :=
  ⟨World.cell?_alloc_new _ _ _ 0, World.cell?_alloc_new _ _ _ 1, World.frozen?_alloc_at _ _ _ _ rfl, World.frozen?_alloc_at _ _ _ _ rfl⟩
theorem On.put {p : Nat} {w w' : World} (h : On p w w') (o : Nat) (v : Value) : On p w (w'.setCell ⟨p, o, none⟩ v) := h.trans (setCell_grown w' ⟨p, o, none⟩ v)
set_option maxRecDepth 4000 in
set_option maxHeartbeats 1000000 in
theorem eyeNum_any (s : ByteArray) (b : Bool) (p : Nat) (w : World) (h : Ey w p s b) (hs : s.size ≤ 281474976710656) :
    Calls Tryz.prog 77 #[.pointer (some ⟨p, 0, none⟩)] w fun e w' => e = .returned (.int .i64 ((Im.eNum (s, b)).1 : Nat)) ∧ On p w w' ∧ Ey w' p (Im.eNum (s, b)).2.1 (Im.eNum (s, b)).2.2 := by
  have C1 := numFrom_any s w hs
  have c0 := h.c0
  have HB : Hid (∀ w', Below w.heap.size w w' → Ey w' p s b) := fun w' h9 => h.below h9
  unfold Im.eNum
  dsimp only
  generalize Nm.num s = n at *
  generalize Nm.rest s = r at *
  generalize Nm.is s = i at *
  clear h hs
  cases b <;> cases i
  all_goals
    simp only [Bool.not_true, Bool.not_false, Bool.or_true, Bool.or_false]
    go_enter Tryz.func77, Tryz.ntmps77
    go_wp2_with fail
    refine C1.mono ?_
    rintro e w1 ⟨rfl, G⟩
    have E1 := HB.out _ G
    have c1 := E1.c1
    have f1 := E1.f1
  · have E2 := E1.set1 true
    have k0 := E2.c0
    have z0 := E2.f0
    go_wp2_with fail
    go_ret
    exact ⟨rfl, ((On.of G).put _ _).put _ _, E2.set0 _⟩
  · have E2 := E1.set1 false
    have k0 := E2.c0
    have z0 := E2.f0
    go_wp2_with fail
    go_ret
    exact ⟨rfl, ((On.of G).put _ _).put _ _, E2.set0 _⟩
  · have E2 := E1.set1 true
    have k0 := E2.c0
    have z0 := E2.f0
    go_wp2_with fail
    go_ret
    exact ⟨rfl, ((On.of G).put _ _).put _ _, E2.set0 _⟩
  · have E2 := E1.set1 true
    have k0 := E2.c0
    have z0 := E2.f0
    go_wp2_with fail
    go_ret
    exact ⟨rfl, ((On.of G).put _ _).put _ _, E2.set0 _⟩
namespace Im
theorem eNum_le (s : ByteArray) (b : Bool) : (eNum (s, b)).1 ≤ 2147483647 ∧ (eNum (s, b)).2.1.size ≤ s.size := by
  cases h : rNum s with
  | none => rw [eNum_none h]; exact ⟨by omega, by show 0 ≤ _; omega⟩
  | some x =>
    obtain ⟨n, r⟩ := x
    rw [eNum_some h]
    exact ⟨((rNum_is s n r).1 h).1, rd_le rNum_is h⟩
theorem eTxt_le (s : ByteArray) (b : Bool) : (eTxt (s, b)).1.size ≤ s.size ∧ (eTxt (s, b)).2.1.size ≤ s.size := by
  have h := (eNum_le s b).2
  unfold eTxt
  split
  · exact ⟨by show 0 ≤ _; omega, h⟩
  · exact ⟨by simp; omega, by simp; omega⟩
end Im
set_option maxRecDepth 4000 in
set_option maxHeartbeats 1000000 in
theorem eyeText_any (s : ByteArray) (b : Bool) (p : Nat) (w : World) (h : Ey w p s b) (hs : s.size ≤ 281474976710656) :
    Calls Tryz.prog 78 #[.pointer (some ⟨p, 0, none⟩)] w fun e w' => e = .returned (.string (Im.eTxt (s, b)).1) ∧ On p w w' ∧ Ey w' p (Im.eTxt (s, b)).2.1 (Im.eTxt (s, b)).2.2 := by
  have C1 := eyeNum_any s b p w h hs
  obtain ⟨l1, l2⟩ := Im.eNum_le s b
  clear h
  by_cases hlt : (Im.eNum (s, b)).2.1.size < (Im.eNum (s, b)).1
  · have e1 : Im.eTxt (s, b) = (⟨#[]⟩, (Im.eNum (s, b)).2.1, true) := by unfold Im.eTxt; rw [if_pos hlt]
    rw [e1]
    clear e1
    dsimp only
    generalize (Im.eNum (s, b)).1 = n at *
    generalize (Im.eNum (s, b)).2.1 = r at *
    generalize (Im.eNum (s, b)).2.2 = c at *
    have d1 : decide ((n : Int) > (r.size : Int)) = true := decide_eq_true (by omega)
    have d1' : decide (r.size < n) = true := decide_eq_true hlt
    have d1'' : decide ((r.size : Int) < (n : Int)) = true := decide_eq_true (by omega)
    go_enter Tryz.func78, Tryz.ntmps78
    go_wp2_with fail
    refine C1.mono ?_
    rintro e w1 ⟨rfl, G, E1⟩
    have k0 := E1.c0
    have k1 := E1.c1
    have f1 := E1.f1
    go_wp2_with fail
    go_ret
    exact ⟨rfl, G.put _ _, E1.set1 _⟩
  · have e1 : Im.eTxt (s, b) = ((Im.eNum (s, b)).2.1.extract 0 (Im.eNum (s, b)).1, (Im.eNum (s, b)).2.1.extract (Im.eNum (s, b)).1 (Im.eNum (s, b)).2.1.size, (Im.eNum (s, b)).2.2) := by unfold Im.eTxt; rw [if_neg hlt]
    rw [e1]
    clear e1
    dsimp only
    generalize (Im.eNum (s, b)).1 = n at *
    generalize (Im.eNum (s, b)).2.1 = r at *
    generalize (Im.eNum (s, b)).2.2 = c at *
    have d1 : decide ((n : Int) > (r.size : Int)) = false := decide_eq_false (by omega)
    have d1' : decide (r.size < n) = false := decide_eq_false hlt
    have d1'' : decide ((r.size : Int) < (n : Int)) = false := decide_eq_false (by omega)
    have hle : n ≤ r.size := by omega
    have hli : (n : Int) ≤ (r.size : Int) := by omega
    go_enter Tryz.func78, Tryz.ntmps78
    go_wp2_with fail
    refine C1.mono ?_
    rintro e w1 ⟨rfl, G, E1⟩
    have k0 := E1.c0
    have f0 := E1.f0
    go_wp2_with fail
    go_ret
    exact ⟨rfl, G.put _ _, E1.set0 _⟩
end Go.Proofs.YtbjbjbpgmojcbabGreat
namespace Go.Proofs.YtbjbjbpgmojcbabGreat
open Go.RowKit
namespace Im
end Im
theorem On.low {p : Nat} {w w1 w2 : World} (h : On p w w1) {lo : Nat} (hl : w.heap.size ≤ lo) (g : Below lo w1 w2) : On p w w2 :=
  ⟨g.os.trans h.os, g.tape.trans h.tape, g.output.trans h.output, Nat.le_trans h.size g.size, fun k hk hne => (g.block k (by omega)).trans (h.block k hk hne)⟩
theorem Rdr.lo {w1 w2 : World} {p lo : Nat} {s : ByteArray} (h : Rdr w1 p s) (g : Below lo w1 w2) (hp : p < lo) : Rdr w2 p s :=
  ⟨(g.cell (p := ⟨p, 0, none⟩) hp).trans h.c, (g.frozen (p := ⟨p, 0, none⟩) hp).trans h.f⟩
theorem CpS.on {w0 wr w' : World} {p C lo : Nat} {v1 v2 : Value} {n1 n2 : Nat} {xs1 xs2 : List Value} (h : CpS w0 wr C lo v1 v2 n1 n2 xs1 xs2) (g : On p wr w') (hp : p < lo) : CpS w' w' C lo v1 v2 n1 n2 xs1 xs2 := by
  have hC := h.hC
  have hb := g.block C h.hb (by simp; omega)
  have e1 : v1.ownBlock ≠ some p := fun e => by have := (h.o1.lt p e).1; omega
  have e2 : v2.ownBlock ≠ some p := fun e => by have := (h.o2.lt p e).1; omega
  refine ⟨(World.cell?_of_block (w := wr) (a := ⟨C, 0, none⟩) hb).trans h.c0, (World.cell?_of_block (w := wr) (a := ⟨C, 1, none⟩) hb).trans h.c1, (World.frozen?_of_block (w := wr) (a := ⟨C, 0, none⟩) hb).trans h.f0, (World.frozen?_of_block (w := wr) (a := ⟨C, 1, none⟩) hb).trans h.f1, h.o1.kept g (.inr e1), h.o2.kept g (.inr e2), h.ne, h.a1, h.a2, h.hC, Nat.lt_of_lt_of_le h.hb g.size, Below.refl _ _⟩
structure RS (w wr : World) (p : Nat) (v1 v2 : Value) (n1 n2 : Nat) (xs1 xs2 : List Value) (r : ByteArray) : Prop where
  s : CpS wr wr (w.heap.size + 1) (w.heap.size + 1) v1 v2 n1 n2 xs1 xs2
  g : On p w wr
  r : Rdr wr p r
  x : Bx wr w.heap.size (.slice none 0 0) (.slice none 0 0)
  hp : p < w.heap.size
theorem RS.on {w wr w' : World} {p : Nat} {v1 v2 : Value} {n1 n2 : Nat} {xs1 xs2 : List Value} {r r' : ByteArray} (h : RS w wr p v1 v2 n1 n2 xs1 xs2 r) (g : On p wr w') (hr : Rdr w' p r') : RS w w' p v1 v2 n1 n2 xs1 xs2 r' := by
  have hp := h.hp
  have hb := g.block w.heap.size h.x.lt (by simp; omega)
  exact ⟨h.s.on g (by omega), h.g.past g, hr, ⟨(World.cell?_of_block (w := wr) (a := ⟨w.heap.size, 0, none⟩) hb).trans h.x.c0, (World.cell?_of_block (w := wr) (a := ⟨w.heap.size, 1, none⟩) hb).trans h.x.c1, (World.frozen?_of_block (w := wr) (a := ⟨w.heap.size, 0, none⟩) hb).trans h.x.f0, (World.frozen?_of_block (w := wr) (a := ⟨w.heap.size, 1, none⟩) hb).trans h.x.f1, Nat.lt_of_lt_of_le h.x.lt g.size⟩, hp⟩
theorem RS.next {w wr wq : World} {p : Nat} {v1 v2 u1 u2 : Value} {n1 n2 m1 m2 : Nat} {xs1 xs2 ys1 ys2 : List Value} {r : ByteArray} (h : RS w wr p v1 v2 n1 n2 xs1 xs2 r) (c : CpS wr wq (w.heap.size + 1) (w.heap.size + 1) u1 u2 m1 m2 ys1 ys2) : RS w wq p u1 u2 m1 m2 ys1 ys2 r := by
  have hp := h.hp
  have G := c.bel
  exact ⟨⟨c.c0, c.c1, c.f0, c.f1, c.o1, c.o2, c.ne, c.a1, c.a2, c.hC, c.hb, Below.refl _ _⟩, h.g.low (by omega) G, h.r.lo G (by omega), ⟨(G.cell (p := ⟨w.heap.size, 0, none⟩) (by simp)).trans h.x.c0, (G.cell (p := ⟨w.heap.size, 1, none⟩) (by simp)).trans h.x.c1, (G.frozen (p := ⟨w.heap.size, 0, none⟩) (by simp)).trans h.x.f0, (G.frozen (p := ⟨w.heap.size, 1, none⟩) (by simp)).trans h.x.f1, Nat.lt_of_lt_of_le h.x.lt G.size⟩, hp⟩
theorem RS.drew {w wr : World} {p : Nat} {v1 v2 : Value} {n1 n2 : Nat} {xs1 xs2 : List Value} {r : ByteArray} (h : RS w wr p v1 v2 n1 n2 xs1 xs2 r) : RS w wr.drew p v1 v2 n1 n2 xs1 xs2 r := h.next (h.s.below ((Below.refl _ _).drew))
end Go.Proofs.YtbjbjbpgmojcbabGreat
