/- A part of the proof: what it leans on. -/
import Derived.Deep.CutRange
import Derived.Deep.Slices
import Derived.SizedLaws
import Derived.Carry
import Derived.ChangeSame
import Derived.Test.YtbjbjbpgmojcbabGreatLrBook08
import Derived.Test.YtbjbjbpgmojcbabGreatLrBook12
import Derived.Test.YtbjbjbpgmojcbabGreatLrBook13
import Derived.Test.YtbjbjbpgmojcbabGreatLrBook14
namespace Go.Proofs.YtbjbjbpgmojcbabGreat
open Go.RowKit
theorem Ey.grown {w w' : World} {p : Nat} {x : Option Nat} {s : ByteArray} {b : Bool} (h : Ey w p s b) (g : w.grownBy w' x) (hne : some p ≠ x) : Ey w' p s b := by
  have hb := g.block p h.lt hne
  exact ⟨(World.cell?_of_block (w := w) (a := ⟨p, 0, none⟩) hb).trans h.c0, (World.cell?_of_block (w := w) (a := ⟨p, 1, none⟩) hb).trans h.c1, (World.frozen?_of_block (w := w) (a := ⟨p, 0, none⟩) hb).trans h.f0, (World.frozen?_of_block (w := w) (a := ⟨p, 1, none⟩) hb).trans h.f1⟩
theorem Bx.grown {w w' : World} {b : Nat} {x : Option Nat} {u v : Value} (h : Bx w b u v) (g : w.grownBy w' x) (hne : some b ≠ x) : Bx w' b u v := by
  have hb := g.block b h.lt hne
  exact ⟨(World.cell?_of_block (w := w) (a := ⟨b, 0, none⟩) hb).trans h.c0, (World.cell?_of_block (w := w) (a := ⟨b, 1, none⟩) hb).trans h.c1, (World.frozen?_of_block (w := w) (a := ⟨b, 0, none⟩) hb).trans h.f0, (World.frozen?_of_block (w := w) (a := ⟨b, 1, none⟩) hb).trans h.f1, Nat.lt_of_lt_of_le h.lt g.size⟩
theorem CpS.grown {w0 wr w' : World} {C lo : Nat} {x : Option Nat} {v1 v2 : Value} {n1 n2 : Nat} {xs1 xs2 : List Value} (h : CpS w0 wr C lo v1 v2 n1 n2 xs1 xs2) (g : wr.grownBy w' x) (hC : some C ≠ x) (e1 : v1.ownBlock ≠ x ∨ v1.ownBlock = none) (e2 : v2.ownBlock ≠ x ∨ v2.ownBlock = none) : CpS w' w' C lo v1 v2 n1 n2 xs1 xs2 := by
  have hb := g.block C h.hb hC
  exact ⟨(World.cell?_of_block (w := wr) (a := ⟨C, 0, none⟩) hb).trans h.c0, (World.cell?_of_block (w := wr) (a := ⟨C, 1, none⟩) hb).trans h.c1, (World.frozen?_of_block (w := wr) (a := ⟨C, 0, none⟩) hb).trans h.f0, (World.frozen?_of_block (w := wr) (a := ⟨C, 1, none⟩) hb).trans h.f1, h.o1.kept g e1.symm, h.o2.kept g e2.symm, h.ne, h.a1, h.a2, h.hC, Nat.lt_of_lt_of_le h.hb g.size, Below.refl _ _⟩
theorem below_row {B : Nat} {w wr w' : World} {q : Nat} (h : Below B w wr) (g : wr.grownBy w' (some q)) (hB : B ≤ w.heap.size) (hq : B ≤ q) : Below B w w' :=
  ⟨g.os.trans h.os, g.tape.trans h.tape, g.output.trans h.output, Nat.le_trans h.size g.size, fun k hk => (g.block k (by have := h.size; omega) (by simp; omega)).trans (h.block k hk)⟩
structure ES (w wr : World) (v1 v2 : Value) (n1 n2 : Nat) (xs1 xs2 : List Value) (s : ByteArray) (b : Bool) : Prop where
  cp : CpS wr wr (w.heap.size + 1) (w.heap.size + 1) v1 v2 n1 n2 xs1 xs2
  g : Below w.heap.size w wr
  e : Ey wr (w.heap.size + 2) s b
  x : Bx wr w.heap.size (.slice none 0 0) (.slice none 0 0)
  m1 : v1.ownBlock ≠ some (w.heap.size + 2)
  m2 : v2.ownBlock ≠ some (w.heap.size + 2)
theorem ES.on {w wr w' : World} {v1 v2 : Value} {n1 n2 : Nat} {xs1 xs2 : List Value} {s s' : ByteArray} {b b' : Bool} (h : ES w wr v1 v2 n1 n2 xs1 xs2 s b) (g : On (w.heap.size + 2) wr w') (he : Ey w' (w.heap.size + 2) s' b') : ES w w' v1 v2 n1 n2 xs1 xs2 s' b' :=
  ⟨h.cp.grown g (by simp) (.inl h.m1) (.inl h.m2), below_row h.g g (Nat.le_refl _) (by omega), he, h.x.grown g (by simp), h.m1, h.m2⟩
theorem ES.below {w wr w' : World} {v1 v2 : Value} {n1 n2 : Nat} {xs1 xs2 : List Value} {s : ByteArray} {b : Bool} (h : ES w wr v1 v2 n1 n2 xs1 xs2 s b) (G : Below wr.heap.size wr w') : ES w w' v1 v2 n1 n2 xs1 xs2 s b := by
  have c := h.cp.below G
  exact ⟨⟨c.c0, c.c1, c.f0, c.f1, c.o1, c.o2, c.ne, c.a1, c.a2, c.hC, c.hb, Below.refl _ _⟩, bch h.g G (Nat.le_refl _), h.e.below G, h.x.next G, h.m1, h.m2⟩
theorem ES.far {w wr : World} {v1 v2 : Value} {n1 n2 : Nat} {xs1 xs2 : List Value} {s : ByteArray} {b : Bool} (h : ES w wr v1 v2 n1 n2 xs1 xs2 s b) {q : Nat} (hq : w.heap.size + 2 < q) (e1 : v1.ownBlock ≠ some q) (e2 : v2.ownBlock ≠ some q) (o : Nat) (v : Value) : ES w (wr.setCell ⟨q, o, none⟩ v) v1 v2 n1 n2 xs1 xs2 s b := by
  have g : wr.grownBy (wr.setCell ⟨q, o, none⟩ v) (some q) := setCell_grown wr ⟨q, o, none⟩ v
  exact ⟨h.cp.grown g (by simp; omega) (.inl e1) (.inl e2), below_row h.g g (Nat.le_refl _) (by omega), h.e.grown g (by simp; omega), h.x.grown g (by simp; omega), h.m1, h.m2⟩
theorem Bx.lo {w w' : World} {b lo : Nat} {x y : Value} (h : Bx w b x y) (G : Below lo w w') (hb : b < lo) : Bx w' b x y :=
  ⟨(G.cell (p := ⟨b, 0, none⟩) hb).trans h.c0, (G.cell (p := ⟨b, 1, none⟩) hb).trans h.c1, (G.frozen (p := ⟨b, 0, none⟩) hb).trans h.f0, (G.frozen (p := ⟨b, 1, none⟩) hb).trans h.f1, Nat.lt_of_lt_of_le h.lt G.size⟩
theorem ES.put1 {w wr w2 : World} {g cap n1 m n2 : Nat} {v1 v2 : Value} {xs1 ys xs2 : List Value} {o : Obj} {s : ByteArray} {b : Bool} (h : ES w wr v1 v2 n1 n2 xs1 xs2 s b) (hg : (wr.alloc o).grownBy w2 v1.ownBlock)
    (ho : w2.ownsRow (w.heap.size + 1) 9 1 (.slice (some ⟨g, 0, none⟩) m cap) m ys) (hl : v1.ownBlock = some g ∨ g = (wr.alloc o).heap.size) :
    (w2.cell? ⟨w.heap.size + 1, 0, none⟩ = some v1 ∧ w2.frozen? ⟨w.heap.size + 1, 0, none⟩ = false) ∧ ES w (w2.setCell ⟨w.heap.size + 1, 0, none⟩ (.slice (some ⟨g, 0, none⟩) m cap)) (.slice (some ⟨g, 0, none⟩) m cap) v2 m n2 ys xs2 s b := by
  obtain ⟨q, S⟩ := (h.cp.put1 hg ho hl).1
  have hlt := h.e.lt
  have hne : g ≠ w.heap.size + 2 := by
    rcases hl with hl | hl
    · rintro rfl; exact h.m1 hl
    · simp at hl; omega
  have E2 : Ey w2 (w.heap.size + 2) s b := (h.e.below (alloc_below wr o)).grown hg (fun e => h.m1 e.symm)
  exact ⟨q, ⟨S.c0, S.c1, S.f0, S.f1, S.o1, S.o2, S.ne, S.a1, S.a2, S.hC, S.hb, Below.refl _ _⟩, h.g.trans (S.bel.mono (by omega)), E2.low (by omega) _ _, h.x.lo S.bel (by omega), fun e => hne (by simpa [Value.ownBlock] using e), h.m2⟩
theorem ES.put2 {w wr w2 : World} {g cap n1 m n2 : Nat} {v1 v2 : Value} {xs1 ys xs2 : List Value} {o : Obj} {s : ByteArray} {b : Bool} (h : ES w wr v1 v2 n1 n2 xs1 xs2 s b) (hg : (wr.alloc o).grownBy w2 v2.ownBlock)
    (ho : w2.ownsRow (w.heap.size + 1) 46 5 (.slice (some ⟨g, 0, none⟩) m cap) m ys) (hl : v2.ownBlock = some g ∨ g = (wr.alloc o).heap.size) :
    (w2.cell? ⟨w.heap.size + 1, 1, none⟩ = some v2 ∧ w2.frozen? ⟨w.heap.size + 1, 1, none⟩ = false) ∧ ES w (w2.setCell ⟨w.heap.size + 1, 1, none⟩ (.slice (some ⟨g, 0, none⟩) m cap)) v1 (.slice (some ⟨g, 0, none⟩) m cap) n1 m xs1 ys s b := by
  obtain ⟨q, S⟩ := h.cp.put2 hg ho hl
  have hlt := h.e.lt
  have hne : g ≠ w.heap.size + 2 := by
    rcases hl with hl | hl
    · rintro rfl; exact h.m2 hl
    · simp at hl; omega
  have E2 : Ey w2 (w.heap.size + 2) s b := (h.e.below (alloc_below wr o)).grown hg (fun e => h.m2 e.symm)
  exact ⟨q, ⟨S.c0, S.c1, S.f0, S.f1, S.o1, S.o2, S.ne, S.a1, S.a2, S.hC, S.hb, Below.refl _ _⟩, h.g.trans (S.bel.mono (by omega)), E2.low (by omega) _ _, h.x.lo S.bel (by omega), h.m1, fun e => hne (by simpa [Value.ownBlock] using e)⟩
end Go.Proofs.YtbjbjbpgmojcbabGreat
namespace Go.Proofs.YtbjbjbpgmojcbabGreat
open Go.RowKit
def fromV (r : Option (Im.Act × ByteArray)) : Value := match r with
  | none => .tuple #[.agg #[.int .i64 0, .int .i64 0, .string ⟨#[]⟩, .string ⟨#[]⟩], .string ⟨#[]⟩, .bool false]
  | some (x, q) => .tuple #[.agg #[.int .i64 x.kind, .int .i64 x.n, .string x.name, .string x.text], .string q, .bool true]
namespace Im
theorem eIn_at {t q1 q2 q3 q4 a b : ByteArray} {c1 c2 c3 c4 : Bool} {k n : Nat} (h1 : eNum (t, false) = (k, (q1, c1))) (h2 : eNum (q1, c1) = (n, (q2, c2))) (h3 : eTxt (q2, c2) = (a, (q3, c3))) (h4 : eTxt (q3, c3) = (b, (q4, c4))) : eIn t = (⟨(k : Nat), (n : Nat), a, b⟩, (q4, c4)) := by
  unfold eIn
  simp only [h1, h2, h3, h4]
theorem eAct_at {s t q r : ByteArray} {c d : Bool} {x : Act} (h0 : eTxt (s, false) = (t, (q, c))) (h1 : eIn t = (x, (r, d))) : eAct s = if c = false ∧ d = false ∧ r.size = 0 ∧ actE x = 0 then some (x, q) else none := by
  unfold eAct
  rw [h0]
  simp only
  rw [h1]
end Im
set_option maxRecDepth 8000 in
set_option maxHeartbeats 4000000 in
theorem actFrom_any (s : ByteArray) (w : World) (hs : s.size ≤ 16384) :
    Calls Tryz.prog 86 #[.string s] w fun e w' => e = .returned (fromV (Im.eAct s)) ∧ Below w.heap.size w w' := by
  obtain ⟨t, q, c, h0⟩ : ∃ t' q' c', Im.eTxt (s, false) = (t', (q', c')) := ⟨_, _, _, rfl⟩
  obtain ⟨k, q1, c1, h1⟩ : ∃ t' q' c', Im.eNum (t, false) = (t', (q', c')) := ⟨_, _, _, rfl⟩
  obtain ⟨n, q2, c2, h2⟩ : ∃ t' q' c', Im.eNum (q1, c1) = (t', (q', c')) := ⟨_, _, _, rfl⟩
  obtain ⟨nm, q3, c3, h3⟩ : ∃ t' q' c', Im.eTxt (q2, c2) = (t', (q', c')) := ⟨_, _, _, rfl⟩
  obtain ⟨tx, q4, c4, h4⟩ : ∃ t' q' c', Im.eTxt (q3, c3) = (t', (q', c')) := ⟨_, _, _, rfl⟩
  have g0 := Im.eTxt_le s false
  have g1 := Im.eNum_le t false
  have g2 := Im.eNum_le q1 c1
  have g3 := Im.eTxt_le q2 c2
  rw [h0] at g0
  rw [h1] at g1
  rw [h2] at g2
  rw [h3] at g3
  simp only at g0 g1 g2 g3
  have K0 := fun w' h => eyeText_any s false (w.heap.size + 1) w' h (by omega)
  have K1 := fun w' p h => eyeNum_any t false p w' h (by omega)
  have K2 := fun w' p h => eyeNum_any q1 c1 p w' h (by omega)
  have K3 := fun w' p h => eyeText_any q2 c2 p w' h (by omega)
  have K4 := fun w' p h => eyeText_any q3 c3 p w' h (by omega)
  simp only [h0, h1, h2, h3, h4] at K0 K1 K2 K3 K4
  have hA := Im.eAct_at h0 (Im.eIn_at h1 h2 h3 h4)
  have CE := fun w' => actError_any (k : Nat) (n : Nat) nm tx w'
  have HN : Hid (¬ (c = false ∧ c4 = false ∧ q4.size = 0 ∧ Im.actE ⟨(k : Nat), (n : Nat), nm, tx⟩ = 0) → fromV (Im.eAct s) = .tuple #[.agg #[.int .i64 0, .int .i64 0, .string ⟨#[]⟩, .string ⟨#[]⟩], .string ⟨#[]⟩, .bool false]) := fun h9 => by rw [hA, if_neg h9]; rfl
  have HY : Hid ((c = false ∧ c4 = false ∧ q4.size = 0 ∧ Im.actE ⟨(k : Nat), (n : Nat), nm, tx⟩ = 0) → fromV (Im.eAct s) = .tuple #[.agg #[.int .i64 (k : Nat), .int .i64 (n : Nat), .string nm, .string tx], .string q, .bool true]) := fun h9 => by rw [hA, if_pos h9]; rfl
  clear h0 h1 h2 h3 h4 hA g0 g1 g2 g3
  generalize fromV (Im.eAct s) = RV at *
  generalize Im.actE ⟨(k : Nat), (n : Nat), nm, tx⟩ = AE at *
  generalize (k : Int) = ki at *
  generalize (n : Int) = ni at *
  have B1 := alloc_below w (.cells #[.int .i64 0, .int .i64 0, .string ⟨#[]⟩, .string ⟨#[]⟩] 54 (0, 0))
  have Y1 := XB.new w 54 0 0 ⟨#[]⟩ ⟨#[]⟩
  have G2 := alloc_below (w.alloc (.cells #[.int .i64 0, .int .i64 0, .string ⟨#[]⟩, .string ⟨#[]⟩] 54 (0, 0))) (.cells #[.string s, .bool false] 108 (0, 0))
  have E := Ey.new (w.alloc (.cells #[.int .i64 0, .int .i64 0, .string ⟨#[]⟩, .string ⟨#[]⟩] 54 (0, 0))) 108 s false
  rw [show (w.alloc (.cells #[.int .i64 0, .int .i64 0, .string ⟨#[]⟩, .string ⟨#[]⟩] 54 (0, 0))).heap.size = w.heap.size + 1 by simp] at E
  have Y := Y1.next G2
  have B := bch B1 G2 (Nat.le_refl _)
  clear B1 Y1 G2
  go_enter Tryz.func86, Tryz.ntmps86
  go_wp2_with fail
  generalize ((w.alloc (.cells #[.int .i64 0, .int .i64 0, .string ⟨#[]⟩, .string ⟨#[]⟩] 54 (0, 0))).alloc (.cells #[.string s, .bool false] 108 (0, 0))) = w0 at *
  have hw0 := E.lt
  refine (K0 _ E).mono ?_
  rintro e w1 ⟨rfl, G, E'⟩
  have Y' := Y.on G (by omega)
  have B' := B.trans (G.under (lo := w.heap.size) (by omega) (by omega))
  have GA := alloc_below w1 (.cells #[.string t, .bool false] 108 (0, 0))
  have F := Ey.new w1 108 t false
  have hp2 := E'.lt
  have E := E'.below GA
  have Y := Y'.next GA
  have B := bch B' GA (Nat.le_refl _)
  clear K0 G E' Y' B' GA
  go_wp2_with fail
  generalize (w1.alloc (.cells #[.string t, .bool false] 108 (0, 0))) = w2 at *
  generalize w1.heap.size = p2 at *
  refine (K1 _ _ F).mono ?_
  rintro e w3 ⟨rfl, G, F'⟩
  have E' := E.on G (by omega)
  have Y' := Y.on G (by omega)
  have B' := B.trans (G.under (lo := w.heap.size) (by omega) (by have := B.size; omega))
  have GA := alloc_below w3 (.cells #[.int .i64 ki, .int .i64 0, .string ⟨#[]⟩, .string ⟨#[]⟩] 54 (0, 0))
  have X := XB.new w3 54 ki 0 ⟨#[]⟩ ⟨#[]⟩
  have hbx := F'.lt
  have F := F'.below GA
  have E := E'.below GA
  have Y := Y'.next GA
  have B := bch B' GA (Nat.le_refl _)
  clear K1 G E' Y' B' F' GA
  go_wp2_with fail
  generalize (w3.alloc (.cells #[.int .i64 ki, .int .i64 0, .string ⟨#[]⟩, .string ⟨#[]⟩] 54 (0, 0))) = v0 at *
  generalize w3.heap.size = bx at *
  refine (K2 _ _ F).mono ?_
  rintro e y0 ⟨rfl, G, F'⟩
  have X' := X.on G (by omega)
  have c9 := X'.c1
  have f9 := X'.f 1
  have X := X'.s1 ni
  have F := F'.low (q := bx) (by omega) 1 (.int .i64 ni)
  have E := (E.on G (by omega)).low (q := bx) (by omega) 1 (.int .i64 ni)
  have Y := (Y.on G (by omega)).far (p := bx) (o := 1) (by omega) (.int .i64 ni)
  have B := (B.trans (G.under (lo := w.heap.size) (by omega) (by have := B.size; omega))).setCell (p := ⟨bx, 1, none⟩) (by simp; omega) (.int .i64 ni)
  clear K2 G F' X'
  go_wp2_with fail
  clear c9 f9
  generalize (y0.setCell ⟨bx, 1, none⟩ (.int .i64 ni)) = v1 at *
  refine (K3 _ _ F).mono ?_
  rintro e y1 ⟨rfl, G, F'⟩
  have X' := X.on G (by omega)
  have c9 := X'.c2
  have f9 := X'.f 2
  have X := X'.s2 nm
  have F := F'.low (q := bx) (by omega) 2 (.string nm)
  have E := (E.on G (by omega)).low (q := bx) (by omega) 2 (.string nm)
  have Y := (Y.on G (by omega)).far (p := bx) (o := 2) (by omega) (.string nm)
  have B := (B.trans (G.under (lo := w.heap.size) (by omega) (by have := B.size; omega))).setCell (p := ⟨bx, 2, none⟩) (by simp; omega) (.string nm)
  clear K3 G F' X'
  go_wp2_with fail
  clear c9 f9
  generalize (y1.setCell ⟨bx, 2, none⟩ (.string nm)) = v2 at *
  refine (K4 _ _ F).mono ?_
  rintro e y2 ⟨rfl, G, F'⟩
  have X' := X.on G (by omega)
  have c9 := X'.c3
  have f9 := X'.f 3
  have X := X'.s3 tx
  have F := F'.low (q := bx) (by omega) 3 (.string tx)
  have E := (E.on G (by omega)).low (q := bx) (by omega) 3 (.string tx)
  have Y := (Y.on G (by omega)).far (p := bx) (o := 3) (by omega) (.string tx)
  have B := (B.trans (G.under (lo := w.heap.size) (by omega) (by have := B.size; omega))).setCell (p := ⟨bx, 3, none⟩) (by simp; omega) (.string tx)
  clear K4 G F' X'
  go_upto_region 7 with fail
  clear c9 f9
  generalize (y2.setCell ⟨bx, 3, none⟩ (.string tx)) = v3 at *
  have e1 := E.c1
  have f1 := F.c1
  have f0 := F.c0
  cases c with
  | true =>
    have HR := hid_of (HN.out (fun h => by cases h.1))
    have Y2 := Y.set 0 0 ⟨#[]⟩ ⟨#[]⟩
    have B2 := below_set4 B (b := w.heap.size) (Nat.le_refl _) (.int .i64 0) (.int .i64 0) (.string ⟨#[]⟩) (.string ⟨#[]⟩)
    obtain ⟨y0, y1, y2, y3, yf⟩ := Y
    have z0 := yf 0
    have z1 := yf 1
    have z2 := yf 2
    have z3 := yf 3
    clear yf B HN HY
    go_wp2_with fail
    clear y0 y1 y2 y3 z0 z1 z2 z3
    obtain ⟨y0, y1, y2, y3, _⟩ := Y2
    generalize ((((v3.setCell ⟨w.heap.size, 0, none⟩ (.int .i64 0)).setCell ⟨w.heap.size, 1, none⟩ (.int .i64 0)).setCell ⟨w.heap.size, 2, none⟩ (.string ⟨#[]⟩)).setCell ⟨w.heap.size, 3, none⟩ (.string ⟨#[]⟩)) = wz at *
    exact bodyPost_ret (v := .tuple #[.agg #[.int .i64 0, .int .i64 0, .string ⟨#[]⟩, .string ⟨#[]⟩], .string ⟨#[]⟩, .bool false]) (by simp [results, Tryz.results86, go_sem, y0, y1, y2, y3]) rfl ⟨by rw [HR.out], B2⟩
  | false =>
    cases c4 with
    | true =>
      have HR := hid_of (HN.out (fun h => by cases h.2.1))
      have Y2 := Y.set 0 0 ⟨#[]⟩ ⟨#[]⟩
      have B2 := below_set4 B (b := w.heap.size) (Nat.le_refl _) (.int .i64 0) (.int .i64 0) (.string ⟨#[]⟩) (.string ⟨#[]⟩)
      obtain ⟨y0, y1, y2, y3, yf⟩ := Y
      have z0 := yf 0
      have z1 := yf 1
      have z2 := yf 2
      have z3 := yf 3
      clear yf B HN HY
      go_wp2_with fail
      clear y0 y1 y2 y3 z0 z1 z2 z3
      obtain ⟨y0, y1, y2, y3, _⟩ := Y2
      generalize ((((v3.setCell ⟨w.heap.size, 0, none⟩ (.int .i64 0)).setCell ⟨w.heap.size, 1, none⟩ (.int .i64 0)).setCell ⟨w.heap.size, 2, none⟩ (.string ⟨#[]⟩)).setCell ⟨w.heap.size, 3, none⟩ (.string ⟨#[]⟩)) = wz at *
      exact bodyPost_ret (v := .tuple #[.agg #[.int .i64 0, .int .i64 0, .string ⟨#[]⟩, .string ⟨#[]⟩], .string ⟨#[]⟩, .bool false]) (by simp [results, Tryz.results86, go_sem, y0, y1, y2, y3]) rfl ⟨by rw [HR.out], B2⟩
    | false =>
      by_cases hz : q4.size = 0
      · obtain rfl : q4 = ⟨#[]⟩ := by
          apply Nm.ba_ext
          rw [Im.size_len] at hz
          exact List.length_eq_zero_iff.1 hz
        obtain ⟨x0, x1, x2, x3, _⟩ := id X
        go_wp2_with fail
        clear x0 x1 x2 x3
        refine (CE _).mono ?_
        rintro e w9 ⟨rfl, G⟩
        have X := X.next G
        have E := E.below G
        have Y := Y.next G
        have B := bch B G (Nat.le_refl _)
        clear G CE f0 f1 e1 F
        by_cases hE : AE = 0
        · have dE : (AE == 0) = true := by simpa using hE
          have HR := hid_of (HY.out ⟨trivial, trivial, rfl, hE⟩)
          subst hE
          go_wp2_with fail
          have HS0 : Hid (∀ w', Below w9.heap.size w9 w' → (fun w' : World => w'.cell? ⟨bx, 0, none⟩ = some (.int .i64 ki) ∧ w'.cell? ⟨bx, 1, none⟩ = some (.int .i64 ni) ∧ w'.cell? ⟨bx, 2, none⟩ = some (.string nm) ∧ w'.cell? ⟨bx, 3, none⟩ = some (.string tx) ∧ w'.cell? ⟨w.heap.size + 1, 0, none⟩ = some (.string q)) w') := fun w' h9 => ⟨(X.next h9).c0, (X.next h9).c1, (X.next h9).c2, (X.next h9).c3, (E.below h9).c0⟩
          have Y2 := Y.set ki ni nm tx
          have B2 := below_set4 B (b := w.heap.size) (Nat.le_refl _) (.int .i64 ki) (.int .i64 ni) (.string nm) (.string tx)
          have X2 := (((X.far (p := w.heap.size) (o := 0) (by omega) (.int .i64 ki)).far (p := w.heap.size) (o := 1) (by omega) (.int .i64 ni)).far (p := w.heap.size) (o := 2) (by omega) (.string nm)).far (p := w.heap.size) (o := 3) (by omega) (.string tx)
          have E2 := (((E.low (q := w.heap.size) (by omega) 0 (.int .i64 ki)).low (q := w.heap.size) (by omega) 1 (.int .i64 ni)).low (q := w.heap.size) (by omega) 2 (.string nm)).low (q := w.heap.size) (by omega) 3 (.string tx)
          obtain ⟨y0, y1, y2, y3, yf⟩ := Y
          have z0 := yf 0
          have z1 := yf 1
          have z2 := yf 2
          have z3 := yf 3
          clear yf B HN HY
          have hS9 := HS0.out _ ((Below.refl w9.heap.size w9).drew)
          refine wp_region_held_drew (S := fun w' => w'.cell? ⟨bx, 0, none⟩ = some (.int .i64 ki) ∧ w'.cell? ⟨bx, 1, none⟩ = some (.int .i64 ni) ∧ w'.cell? ⟨bx, 2, none⟩ = some (.string nm) ∧ w'.cell? ⟨bx, 3, none⟩ = some (.string tx) ∧ w'.cell? ⟨w.heap.size + 1, 0, none⟩ = some (.string q)) (by kernel_rfl) hS9 (fun hS => ?_)
          refine wpAnyH_take (i := 0) (fuel := 7) (v := .agg #[.int .i64 ki, .int .i64 ni, .string nm, .string tx]) rfl (by kernel_rfl) (by kernel_rfl) (by kernel_rfl) (fun _ _ _ h => h) (Or.inl ⟨by rfl, fun w' h9 => by obtain ⟨k1, k2, k3, k4, k5⟩ := h9; go_simp⟩) hS ?_
          refine wpAnyH_take (i := 1) (fuel := 6) (v := .pointer (some ⟨w.heap.size + 1, 0, none⟩)) rfl (by kernel_rfl) (by kernel_rfl) (by kernel_rfl) (fun _ _ _ h => h) (Or.inl ⟨by rfl, fun w' h9 => by obtain ⟨k1, k2, k3, k4, k5⟩ := h9; go_simp⟩) hS ?_
          refine wpAnyH_take (i := 2) (fuel := 5) (v := .pointer (some ⟨w.heap.size + 1, 0, none⟩)) rfl (by kernel_rfl) (by kernel_rfl) (by kernel_rfl) (fun _ _ _ h => h) (Or.inl ⟨by rfl, fun w' h9 => by obtain ⟨k1, k2, k3, k4, k5⟩ := h9; go_simp⟩) hS ?_
          refine wpAnyH_take (i := 3) (fuel := 4) (v := .pointer (some ⟨w.heap.size + 1, 0, none⟩)) rfl (by kernel_rfl) (by kernel_rfl) (by kernel_rfl) (fun _ _ _ h => h) (Or.inl ⟨by rfl, fun w' h9 => by obtain ⟨k1, k2, k3, k4, k5⟩ := h9; go_simp⟩) hS ?_
          refine wpAnyH_take (i := 4) (fuel := 3) (v := .string q) rfl (by kernel_rfl) (by kernel_rfl) (by kernel_rfl) (fun _ _ _ h => h) (Or.inl ⟨by rfl, fun w' h9 => by obtain ⟨k1, k2, k3, k4, k5⟩ := h9; go_simp⟩) hS ?_
          refine wpAnyH_ready (rs := [5]) (fuel := 2) (by kernel_rfl) (by simp) ?_
          refine AllReadyH.cons rfl (fun K hK => ?_) AllReadyH.nil
          go_simp
          refine hK.out _ _ ⟨X2.c0, X2.c1, X2.c2, X2.c3, E2.c0⟩ (fun hS2 => ?_)
          clear hK
          refine wpAnyH_ready (rs := [6]) (fuel := 1) (by kernel_rfl) (by simp) ?_
          refine AllReadyH.cons rfl (fun K hK => ?_) AllReadyH.nil
          go_simp
          refine hK.out _ _ hS2 (fun _ => ?_)
          clear hK
          refine wpAnyH_ready (rs := [7]) (fuel := 0) (by kernel_rfl) (by simp) ?_
          refine AllReadyH.cons rfl (fun K hK => ?_) AllReadyH.nil
          go_simp
          refine hK.out _ _ hS2 (fun _ => ?_)
          clear hK
          refine ⟨by kernel_rfl, ?_⟩
          clear hS hS2 hS9 X2 E2 y0 y1 y2 y3 z0 z1 z2 z3
          go_wp2_with fail
          obtain ⟨y0, y1, y2, y3, _⟩ := Y2
          exact bodyPost_ret (v := .tuple #[.agg #[.int .i64 ki, .int .i64 ni, .string nm, .string tx], .string q, .bool true]) (by simp [results, Tryz.results86, go_sem, y0, y1, y2, y3]) rfl ⟨by rw [HR.out], B2.drew⟩
        · have dE : (AE == 0) = false := by simpa using hE
          have HR := hid_of (HN.out (fun h => hE h.2.2.2))
          have Y2 := Y.set 0 0 ⟨#[]⟩ ⟨#[]⟩
          have B2 := below_set4 B (b := w.heap.size) (Nat.le_refl _) (.int .i64 0) (.int .i64 0) (.string ⟨#[]⟩) (.string ⟨#[]⟩)
          obtain ⟨y0, y1, y2, y3, yf⟩ := Y
          have z0 := yf 0
          have z1 := yf 1
          have z2 := yf 2
          have z3 := yf 3
          clear yf B HN HY
          go_wp2_with fail
          clear y0 y1 y2 y3 z0 z1 z2 z3
          obtain ⟨y0, y1, y2, y3, _⟩ := Y2
          generalize ((((w9.setCell ⟨w.heap.size, 0, none⟩ (.int .i64 0)).setCell ⟨w.heap.size, 1, none⟩ (.int .i64 0)).setCell ⟨w.heap.size, 2, none⟩ (.string ⟨#[]⟩)).setCell ⟨w.heap.size, 3, none⟩ (.string ⟨#[]⟩)) = wz at *
          exact bodyPost_ret (v := .tuple #[.agg #[.int .i64 0, .int .i64 0, .string ⟨#[]⟩, .string ⟨#[]⟩], .string ⟨#[]⟩, .bool false]) (by simp [results, Tryz.results86, go_sem, y0, y1, y2, y3]) rfl ⟨by rw [HR.out], B2⟩
      · have d1 : q4.toList.isEmpty = false := by
          cases hl : q4.toList with
          | nil => exact absurd (by rw [Im.size_len, ← ByteArray.toList_eq, hl]; rfl) hz
          | cons => rfl
        have HR := hid_of (HN.out (fun h => hz h.2.2.1))
        have Y2 := Y.set 0 0 ⟨#[]⟩ ⟨#[]⟩
        have B2 := below_set4 B (b := w.heap.size) (Nat.le_refl _) (.int .i64 0) (.int .i64 0) (.string ⟨#[]⟩) (.string ⟨#[]⟩)
        obtain ⟨y0, y1, y2, y3, yf⟩ := Y
        have z0 := yf 0
        have z1 := yf 1
        have z2 := yf 2
        have z3 := yf 3
        clear yf B HN HY
        go_wp2_with fail
        clear y0 y1 y2 y3 z0 z1 z2 z3
        obtain ⟨y0, y1, y2, y3, _⟩ := Y2
        generalize ((((v3.setCell ⟨w.heap.size, 0, none⟩ (.int .i64 0)).setCell ⟨w.heap.size, 1, none⟩ (.int .i64 0)).setCell ⟨w.heap.size, 2, none⟩ (.string ⟨#[]⟩)).setCell ⟨w.heap.size, 3, none⟩ (.string ⟨#[]⟩)) = wz at *
        exact bodyPost_ret (v := .tuple #[.agg #[.int .i64 0, .int .i64 0, .string ⟨#[]⟩, .string ⟨#[]⟩], .string ⟨#[]⟩, .bool false]) (by simp [results, Tryz.results86, go_sem, y0, y1, y2, y3]) rfl ⟨by rw [HR.out], B2⟩
end Go.Proofs.YtbjbjbpgmojcbabGreat
namespace Go.Proofs.YtbjbjbpgmojcbabGreat
open Go.RowKit
def szOf : Value → Nat
  | .string b => b.size
  | _ => 0
namespace Im
theorem act_le {r q : ByteArray} {x : Act} (h : rAct r = some (x, q)) : q.size < r.size := by
  obtain ⟨_, h2⟩ := (rAct_is r x q).1 h
  have hl := congrArg List.length h2
  rw [List.length_append, ← size_len, ← size_len] at hl
  have hp : 0 < (actB x).length := List.length_pos_iff.2 (actB_pos x)
  omega
end Im
set_option maxRecDepth 8000 in
set_option maxHeartbeats 2000000 in
theorem replayOf_any (s : ByteArray) (w : World) (hz : s.size ≤ 281474976710656) :
    Calls Tryz.prog 43 #[.string s] w fun e w' => RpSaid (Im.rplL s) (Im.rplN s) (Im.rplE s) w e w' := by
  by_cases hbig : 16384 < s.size
  · have e1 : Im.rplL s = [] := if_pos hbig
    have e2 : Im.rplN s = 0 := if_pos hbig
    have e3 : Im.rplE s = 2 := if_pos hbig
    rw [e1, e2, e3]
    have d1 : decide ((16384 : Int) < (s.size : Int)) = true := decide_eq_true (by omega)
    have hq : RpSaid [] 0 2 w (.returned (.tuple #[.slice none 0 0, .int .i64 0, .int .i64 2])) w := ⟨_, rfl, World.ownsRow_nil _ _ _ _, Below.refl _ _⟩
    generalize RpSaid [] 0 2 w = Q at *
    clear e1 e2 e3
    go_enter Tryz.func43, Tryz.ntmps43
    go_wp2_with fail
    go_ret3
    exact hq
  · obtain ⟨j0, gi, gz0, gz1, gz2⟩ := info_parts (P := Tryz.prog) (e := 54) (z := .agg #[.int .i64 0, .int .i64 0, .string ⟨#[]⟩, .string ⟨#[]⟩]) (size := 4) (bytes := 48) (by kernel_rfl)
    have e1 : Im.rplL s = (Im.rep 100 s).1 := if_neg hbig
    have e2 : Im.rplN s = s.size - (Im.rep 100 s).2.size := if_neg hbig
    have e3 : Im.rplE s = 0 := if_neg hbig
    rw [e1, e2, e3]
    have d1 : decide ((16384 : Int) < (s.size : Int)) = false := decide_eq_false (by omega)
    have hs : s.size ≤ 16384 := by omega
    have HQ : Hid (∀ (l : List Im.Act) (r : ByteArray), r.size ≤ s.size → Im.rep 100 s = (l, r) → ∀ v w', w'.ownsRow w.heap.size 54 4 v l.length (xcs l) → Below w.heap.size w w' → RpSaid (Im.rep 100 s).1 (s.size - (Im.rep 100 s).2.size) 0 w (.returned (.tuple #[v, .int .i64 ((s.size : Int) - (r.size : Int)), .int .i64 0])) w') := fun l r h1 h3 v w' h4 h5 => by
      rw [h3]
      exact ⟨v, by simp only; rw [show (s.size : Int) - (r.size : Int) = ((s.size - r.size : Nat) : Int) by omega], h4, h5⟩
    generalize RpSaid (Im.rep 100 s).1 (s.size - (Im.rep 100 s).2.size) 0 w = Q at *
    clear e1 e2 e3 hbig hz
    go_enter Tryz.func43, Tryz.ntmps43
    go_wp2_with fail
    go_loopw [5, 6] (fun v x wr => ∃ (l : List Im.Act) (r : ByteArray), x = .string r ∧ r.size ≤ s.size ∧ l.length ≤ 100 ∧ Hid (Im.rep 100 s = (l ++ (Im.rep (100 - l.length) r).1, (Im.rep (100 - l.length) r).2)) ∧ wr.ownsRow w.heap.size 54 4 v l.length (xcs l) ∧ Below w.heap.size w wr) (fun _ x _ => szOf x)
    case atStart => exact ⟨[], s, rfl, Nat.le_refl _, by simp, rfl, World.ownsRow_nil _ _ _ _, Below.refl _ _⟩
    case round =>
      obtain ⟨l, r, rfl, hk, hl, HP, O, B⟩ := hrel
      obtain ⟨x, c, rfl, _⟩ := own_slice O
      have hw : wrap64 ((s.size : Int) - (r.size : Int)) = (s.size : Int) - (r.size : Int) := by unfold wrap64; omega
      by_cases hlt : l.length < 100
      · have d2 : decide ((l.length : Int) < 100) = true := decide_eq_true (by omega)
        have d2' : decide (l.length < 100) = true := decide_eq_true hlt
        have C := fun w => actFrom_any r w (by omega)
        rw [Im.eAct_is] at C
        cases ha : Im.rAct r with
        | none =>
          simp only [ha, fromV] at C
          have HF := hid_of (Im.rep_stop HP.out ha)
          clear ha HP
          go_wp2_with fail
          refine (C _).mono ?_
          rintro e w1 ⟨rfl, G⟩
          have GA := alloc_below w1 (.cells #[.int .i64 0, .int .i64 0, .string ⟨#[]⟩, .string ⟨#[]⟩] 54 (0, 0))
          have hq := HQ.out l r hk HF.out _ _ (own_below (own_below O G) GA) (bch (bch B G (Nat.le_refl _)) GA (Nat.le_refl _))
          clear C O B G HQ HF
          go_wp2_with fail
          go_ret3
          exact hq
        | some y =>
          obtain ⟨⟨ak, an, nm, tx⟩, q⟩ := y
          have hqr := Im.act_le ha
          simp only [ha, fromV] at C
          have HF := hid_of (Im.rep_step HP.out hlt ha)
          clear ha HP hw
          go_wp2_with fail
          refine (C _).mono ?_
          rintro e w1 ⟨rfl, G⟩
          have GA := alloc_below w1 (.cells #[.int .i64 ak, .int .i64 an, .string nm, .string tx] 54 (0, 0))
          have O2 := own_below (own_below O G) GA
          have B2 := bch (bch B G (Nat.le_refl _)) GA (Nat.le_refl _)
          have X2 := XB.new w1 54 ak an nm tx
          clear C O B G GA
          obtain ⟨x0, x1, x2, x3, _⟩ := id X2
          have hb2 := B2.size
          have hsz : (w1.alloc (.cells #[.int .i64 ak, .int .i64 an, .string nm, .string tx] 54 (0, 0))).heap.size = w1.heap.size + 1 := by simp
          have hnw := news4 (w1.alloc (.cells #[.int .i64 ak, .int .i64 an, .string nm, .string tx] 54 (0, 0))) (.int .i64 ak) (.int .i64 an) (.string nm) (.string tx) 54
          rw [hsz] at hnw hb2
          clear hsz
          have HS : Hid (xcs (l ++ [⟨ak, an, nm, tx⟩]) = xcs l ++ [.int .i64 ak, .int .i64 an, .string nm, .string tx]) := by show _ = _; rw [xcs_append]; rfl
          go_wp2_with (first
            | (at_builtin; go_must (refine wpList_append_lies _ rfl _ _ 60 rfl w.heap.size 54 j0 (.agg #[.int .i64 0, .int .i64 0, .string ⟨#[]⟩, .string ⟨#[]⟩]) 4 48 Tryz.underlying60 gi gz0 gz1 gz2 rfl (by decide) _ _ _ rfl (O2.alloc _) ⟨w1.heap.size + 1, 0, none⟩ 1 1 [.int .i64 ak, .int .i64 an, .string nm, .string tx] rfl rfl hnw (one4 _ _ _ _) (by decide) (by unfold maxLen; omega) (by omega) (by simp; omega) _ rfl ?_; intro g cp w7 hown hgrow hat hlt7))
            | fail)
          have B3 : Below w.heap.size w w7 := (B2.alloc (by simp; omega) _).grown hgrow (by simp; omega) (fun j hj => (O2.lt j hj).1)
          go_roundw
          case rel => exact ⟨l ++ [⟨ak, an, nm, tx⟩], q, rfl, by omega, by simp; omega, HF, by rw [HS.out]; simpa using hown, B3⟩
          case measure => exact hqr
      · have d2 : decide ((l.length : Int) < 100) = false := decide_eq_false (by omega)
        have d2' : decide (l.length < 100) = false := decide_eq_false hlt
        have hq := HQ.out l r hk (Im.rep_full HP.out (by omega)) _ _ O B
        clear HQ HP O
        go_wp2_with fail
        go_ret3
        exact hq
end Go.Proofs.YtbjbjbpgmojcbabGreat
namespace Go.Proofs.YtbjbjbpgmojcbabGreat
open Go.RowKit
set_option maxRecDepth 4000 in
set_option maxHeartbeats 2000000 in
theorem sameActs_any (ad ad' : Option Addr) (c c' : Nat) (l : List Im.Act) (w : World) (h : XSl w ad l) (h' : XSl w ad' l) (hN : l.length ≤ 1000) :
    Calls Tryz.prog 44 #[.slice ad l.length c, .slice ad' l.length c'] w fun e w' => e = .returned (.bool true) ∧ Below w.heap.size w w' := by
  have HX : Hid (∀ w', Below w.heap.size w w' → ∀ k, k < l.length → ∃ b off, ad = some ⟨b, off, none⟩ ∧ b < w'.heap.size ∧ XC w' b (off + k * 4) (Im.xa l k)) := fun w' hb k hk => (h.below hb).at hk
  have HX' : Hid (∀ w', Below w.heap.size w w' → ∀ k, k < l.length → ∃ b off, ad' = some ⟨b, off, none⟩ ∧ b < w'.heap.size ∧ XC w' b (off + k * 4) (Im.xa l k)) := fun w' hb k hk => (h'.below hb).at hk
  clear h h'
  generalize l.length = N at *
  generalize Im.xa l = xa at *
  go_enter Tryz.func44, Tryz.ntmps44
  go_wp2_with fail
  go_loopw [5] (fun i wr => ∃ k : Nat, k ≤ N ∧ i = .int .i64 k ∧ Below w.heap.size w wr) (fun i _ => N - (intOf i).toNat)
  case atStart => exact ⟨0, by omega, rfl, Below.refl _ _⟩
  case round =>
    obtain ⟨k, hk2, rfl, B⟩ := hrel
    by_cases hlt : k < N
    · have d1 : decide ((k : Int) < (N : Int)) = true := decide_eq_true (by omega)
      have d1' : decide (k < N) = true := decide_eq_true hlt
      have hki : (k : Int) < (N : Int) := by omega
      obtain ⟨b, off, rfl, hbl, c0, c1, c2, c3⟩ := HX.out wr B k hlt
      obtain ⟨b', off', rfl, hbl', e0, e1, e2, e3⟩ := HX'.out wr B k hlt
      generalize (xa k).kind = f0 at *
      generalize (xa k).n = f1 at *
      generalize (xa k).name = f2 at *
      generalize (xa k).text = f3 at *
      go_wp2_with fail
      go_region
      all_goals
        go_wp2_with fail
        go_roundw
        case rel => exact ⟨k + 1, by omega, by go_num, B.drew⟩
        case measure => simp [intOf]; omega
    · obtain rfl : k = N := by omega
      have d1 : decide ((k : Int) < (k : Int)) = false := by simp
      have d1' : decide (k < k) = false := by simp
      go_wp2_with fail
      go_ret
      exact ⟨rfl, B⟩
end Go.Proofs.YtbjbjbpgmojcbabGreat
namespace Go.Proofs.YtbjbjbpgmojcbabGreat
open Go.ChangeShapes Go.WideShapes Go.RowKit Go.Deep
theorem tx_laid : laidOutB Tryz.prog = true := by kernel_rfl
end Go.Proofs.YtbjbjbpgmojcbabGreat
namespace Go.Proofs.YtbjbjbpgmojcbabGreat
open Go.ChangeShapes Go.WideShapes Go.RowKit Go.Deep
theorem fl_str : Tryz.prog.cellsOf 9 = 1 := by kernel_rfl
theorem fl_int : Tryz.prog.cellsOf 3 = 1 := by kernel_rfl
def fieldsIn : Option TypeDesc → List (TypeId × Nat)
  | some (.struct fs) => fs.toList.map (fun f => (f.type, f.offset))
  | _ => []
end Go.Proofs.YtbjbjbpgmojcbabGreat
namespace Go.Proofs.YtbjbjbpgmojcbabGreat
open Go.ChangeShapes Go.WideShapes Go.RowKit Go.Deep
theorem xc_cells : Tryz.prog.cellsOf 54 = 4 := by kernel_rfl
theorem fields4 {u : Option TypeDesc} {a0 a1 a2 a3 : TypeId × Nat} (h : fieldsIn u = [a0, a1, a2, a3]) : ∃ f0 f1 f2 f3 : Field, u = some (.struct #[f0, f1, f2, f3]) ∧ (f0.type = a0.1 ∧ f0.offset = a0.2) ∧ (f1.type = a1.1 ∧ f1.offset = a1.2) ∧ (f2.type = a2.1 ∧ f2.offset = a2.2) ∧ (f3.type = a3.1 ∧ f3.offset = a3.2) := by
  unfold fieldsIn at h
  split at h
  · rename_i fs0
    obtain ⟨fs⟩ := fs0
    match fs, h with
    | [f0, f1, f2, f3], h =>
      simp at h
      obtain ⟨rfl, rfl, rfl, rfl⟩ := h
      exact ⟨f0, f1, f2, f3, rfl, ⟨rfl, rfl⟩, ⟨rfl, rfl⟩, ⟨rfl, rfl⟩, ⟨rfl, rfl⟩⟩
    | [], h => simp at h
    | [_], h => simp at h
    | [_, _], h => simp at h
    | [_, _, _], h => simp at h
    | _ :: _ :: _ :: _ :: _ :: _, h => simp at h
  · simp at h
theorem xc_fields : fieldsIn (Tryz.prog.underlying 54) = [(3, 0), (3, 1), (9, 2), (9, 3)] := by kernel_rfl
theorem len4 {α : Type} {l : List α} (h : l.length = 4) : ∃ a b c d, l = [a, b, c, d] := by
  match l, h with
  | [a, b, c, d], _ => exact ⟨a, b, c, d, rfl⟩
theorem open_cells {H : Type} {enc : TypeId × Value → H} {W : World} {fuel : Nat} {cs : List Value} {x : DataW H × List MemPlace} (h : DataW.trod enc Tryz.prog W 0 (fun _ => true) true fuel 54 cs = some x) :
    ∃ q : Im.Act, cs = [.int .i64 q.kind, .int .i64 q.n, .string q.name, .string q.text] ∧ x.1 = .agg [.lit (.int .i64 q.kind), .lit (.int .i64 q.n), .lit (.string q.name.data.toList), .lit (.string q.text.data.toList)] ∧ ∀ m, m = q.name.size ∨ m = q.text.size → m ∈ x.1.weights Tryz.prog 54 := by
  obtain ⟨f0, f1, f2, f3, hs, ⟨t0, o0⟩, ⟨t1, o1⟩, ⟨t2, o2⟩, ⟨t3, o3⟩⟩ := fields4 xc_fields
  obtain ⟨xs, k, hk, hxy, hlen, hxl, hfs⟩ := DataW.trod_struct hs h
  rw [xc_cells] at hlen
  obtain ⟨y0, y1, y2, y3, rfl⟩ := len4 (show xs.length = 4 from hxl)
  obtain ⟨v0, v1, v2, v3, rfl⟩ := len4 hlen
  have g0 := hfs 0 f0 rfl
  have g1 := hfs 1 f1 rfl
  have g2 := hfs 2 f2 rfl
  have g3 := hfs 3 f3 rfl
  simp [t0, o0, t1, o1, t2, o2, t3, o3, fl_str, fl_int] at g0 g1 g2 g3
  obtain ⟨p, hp0, hy0, _⟩ := DataW.trod_int Tryz.underlying3 g0
  obtain ⟨r, hr0, hy1, _⟩ := DataW.trod_int Tryz.underlying3 g1
  obtain ⟨s, hs0, hy2, _⟩ := DataW.trod_string Tryz.underlying9 g2
  obtain ⟨z, hz0, hy3, _⟩ := DataW.trod_string Tryz.underlying9 g3
  simp only [List.cons.injEq, and_true] at hs0 hp0 hr0 hz0
  subst hs0 hp0 hr0 hz0 hy0 hy1 hy2 hy3
  have hd := congrArg Prod.fst hxy
  simp only [List.map_cons, List.map_nil] at hd
  refine ⟨⟨p, r, s, z⟩, rfl, hd, fun m hm => ?_⟩
  rw [hd, DataW.weights, hs]
  simp only [List.map_cons, List.map_nil]
  rw [DataW.weightsEach, List.mem_append, DataW.weightsEach, List.mem_append, DataW.weightsEach, List.mem_append, DataW.weightsEach, List.mem_append]
  rcases hm with rfl | rfl
  · refine .inr (.inr (.inl ?_))
    rw [DataW.weights]
    exact List.mem_singleton.2 (by simp)
  · refine .inr (.inr (.inr (.inl ?_)))
    rw [DataW.weights]
    exact List.mem_singleton.2 (by simp)
theorem reach_le {n : Nat} (h : n ≤ reachBytes) : n ≤ 140737488355328 := by simp [reachBytes] at h; omega
set_option maxRecDepth 100000 in
theorem open_act {H : Type} {enc : TypeId × Value → H} {W : World} {v : Value} {d : DataW H} {ps : List MemPlace} {r : Reach} {b0 : Nat}
    (hv : Value.okWide Tryz.prog W r b0 54 v)
    (h : DataW.Trod enc Tryz.prog W 0 (fun _ => true) true 54 v d ps)
    (hsz : ∀ n ∈ d.weights Tryz.prog 54, n ≤ reachBytes) :
    ∃ k n nm tx, v = .agg #[.int .i64 k, .int .i64 n, .string nm, .string tx] ∧ nm.size ≤ 140737488355328 ∧ tx.size ≤ 140737488355328 := by
  obtain ⟨f0, f1, f2, f3, hs, _⟩ := fields4 xc_fields
  obtain ⟨xs0, rfl, _⟩ := okWide_struct hs hv
  obtain ⟨xs⟩ := xs0
  obtain ⟨fuel, hf⟩ := h
  obtain ⟨q, e1, _, e3⟩ := open_cells hf
  simp only [Value.cells] at e1
  exact ⟨q.kind, q.n, q.name, q.text, by rw [e1], reach_le (hsz _ (e3 _ (.inl rfl))), reach_le (hsz _ (e3 _ (.inr rfl)))⟩
end Go.Proofs.YtbjbjbpgmojcbabGreat
