/- A part of the proof: what it leans on. -/
import Derived.WalkLawsBesides
import Derived.BigQuiet
import Derived.Test.YtbjbjbpgmojcbabGreatImBook01
import Derived.Test.YtbjbjbpgmojcbabGreatImBook05
import Derived.Test.YtbjbjbpgmojcbabGreatImBook08
import Derived.Test.YtbjbjbpgmojcbabGreatImBook09
import Derived.Test.YtbjbjbpgmojcbabGreatImBook11
namespace Go.Proofs.YtbjbjbpgmojcbabGreat
open Go.RowKit
structure Bx (w : World) (b : Nat) (x y : Value) : Prop where
  c0 : w.cell? ⟨b, 0, none⟩ = some x
  c1 : w.cell? ⟨b, 1, none⟩ = some y
  f0 : w.frozen? ⟨b, 0, none⟩ = false
  f1 : w.frozen? ⟨b, 1, none⟩ = false
  lt : b < w.heap.size
theorem Bx.next {w w' : World} {b : Nat} {x y : Value} (h : Bx w b x y) (G : Below w.heap.size w w') : Bx w' b x y :=
  ⟨(G.cell (p := ⟨b, 0, none⟩) h.lt).trans h.c0, (G.cell (p := ⟨b, 1, none⟩) h.lt).trans h.c1, (G.frozen (p := ⟨b, 0, none⟩) h.lt).trans h.f0, (G.frozen (p := ⟨b, 1, none⟩) h.lt).trans h.f1, Nat.lt_of_lt_of_le h.lt G.size⟩
theorem Bx.new (w : World) (x y : Value) : Bx (w.alloc (.cells #[x, y] 25 (0, 0))) w.heap.size x y :=
  ⟨World.cell?_alloc_new _ _ _ 0, World.cell?_alloc_new _ _ _ 1, World.frozen?_alloc_at _ _ _ _ rfl, World.frozen?_alloc_at _ _ _ _ rfl, by simp⟩
theorem Bx.set {w : World} {b : Nat} {x y u v : Value} (h : Bx w b x y) : Bx ((w.setCell ⟨b, 0, none⟩ u).setCell ⟨b, 1, none⟩ v) b u v := by
  refine ⟨?_, ?_, ?_, ?_, ?_⟩
  · exact (World.cell?_setCell_other _ _ _ _ (by intro e; have := congrArg Addr.off e; simp at this)).trans (World.cell?_setCell_same _ _ _ h.c0)
  · exact World.cell?_setCell_same _ _ _ ((World.cell?_setCell_other _ _ _ _ (by intro e; have := congrArg Addr.off e; simp at this)).trans h.c1)
  · rw [World.frozen?_setCell, World.frozen?_setCell]; exact h.f0
  · rw [World.frozen?_setCell, World.frozen?_setCell]; exact h.f1
  · have := h.lt; simp [World.setCell]; omega
theorem Bx.far {w : World} {b c : Nat} {x y : Value} (h : Bx w b x y) (hne : b ≠ c) (u v : Value) : Bx ((w.setCell ⟨c, 0, none⟩ u).setCell ⟨c, 1, none⟩ v) b x y := by
  refine ⟨?_, ?_, ?_, ?_, ?_⟩
  · exact (World.cell?_setCell_other _ _ _ _ (by intro e; have := congrArg Addr.block e; simp at this; omega)).trans ((World.cell?_setCell_other _ _ _ _ (by intro e; have := congrArg Addr.block e; simp at this; omega)).trans h.c0)
  · exact (World.cell?_setCell_other _ _ _ _ (by intro e; have := congrArg Addr.block e; simp at this; omega)).trans ((World.cell?_setCell_other _ _ _ _ (by intro e; have := congrArg Addr.block e; simp at this; omega)).trans h.c1)
  · rw [World.frozen?_setCell, World.frozen?_setCell]; exact h.f0
  · rw [World.frozen?_setCell, World.frozen?_setCell]; exact h.f1
  · have := h.lt; simp [World.setCell]; omega
theorem below_set2 {B : Nat} {w w' : World} (h : Below B w w') {b : Nat} (hb : B ≤ b) (u v : Value) : Below B w ((w'.setCell ⟨b, 0, none⟩ u).setCell ⟨b, 1, none⟩ v) := (h.setCell hb _).setCell hb _
theorem alloc_below (w : World) (o : Obj) : Below w.heap.size w (w.alloc o) := (Below.refl _ _).alloc (Nat.le_refl _) o
theorem ArOwn.set2 {lo : Nat} {w : World} {v1 v2 : Value} {a : Ar.A} (h : ArOwn lo w v1 v2 a) {b : Nat} (hb : b < lo) (u v : Value) : ArOwn lo ((w.setCell ⟨b, 0, none⟩ u).setCell ⟨b, 1, none⟩ v) v1 v2 a := by
  have g1 := setCell_grown w ⟨b, 0, none⟩ u
  have g2 := setCell_grown (w.setCell ⟨b, 0, none⟩ u) ⟨b, 1, none⟩ v
  exact ⟨(h.o1.kept g1 (.inr (own_ne h.o1 hb).symm)).kept g2 (.inr (own_ne h.o1 hb).symm), (h.o2.kept g1 (.inr (own_ne h.o2 hb).symm)).kept g2 (.inr (own_ne h.o2 hb).symm), h.ne⟩
theorem ArOwn.next {lo : Nat} {w w' : World} {v1 v2 : Value} {a : Ar.A} (h : ArOwn lo w v1 v2 a) (G : Below w.heap.size w w') : ArOwn lo w' v1 v2 a := ⟨own_below h.o1 G, own_below h.o2 G, h.ne⟩
theorem row_low {w : World} {base base' : Nat} {e : TypeId} {size : Nat} {v : Value} {n : Nat} {xs : List Value} (h : w.ownsRow base e size v n xs) (hb : base' ≤ base) : w.ownsRow base' e size v n xs :=
  ⟨h.1, h.2.imp id (fun ⟨g, cap, cur, h1, h2, h3⟩ => ⟨g, cap, cur, h1, Nat.le_trans hb h2, h3⟩)⟩
theorem ArOwn.low {lo lo' : Nat} {w : World} {v1 v2 : Value} {a : Ar.A} (h : ArOwn lo w v1 v2 a) (hl : lo' ≤ lo) : ArOwn lo' w v1 v2 a := ⟨row_low h.o1 hl, row_low h.o2 hl, h.ne⟩
theorem ArOwn.slices {lo : Nat} {w : World} {v1 v2 : Value} {a : Ar.A} (h : ArOwn lo w v1 v2 a) : ∃ ad cd af cf, v1 = .slice ad a.dicts.length cd ∧ v2 = .slice af a.files.length cf ∧ ArV w ad af a := by
  obtain ⟨ad, cd, af, cf, he, hv⟩ := h.hand
  unfold av at he
  simp only [Value.agg.injEq, Array.mk.injEq, List.cons.injEq, and_true] at he
  exact ⟨ad, cd, af, cf, he.1, he.2, hv⟩
theorem ArSaid.open {w : World} {a : Ar.A} {E : Int} {e : Ending} {w' : World} (h : ArSaid w a E e w') : ∃ ad cd af cf, e = .returned (.tuple #[.agg #[.slice ad a.dicts.length cd, .slice af a.files.length cf], .int .i64 E]) ∧ ArV w' ad af a ∧ Below w.heap.size w w' := by
  obtain ⟨v1, v2, rfl, ho, hb⟩ := h
  obtain ⟨ad, cd, af, cf, rfl, rfl, hv⟩ := ho.slices
  exact ⟨ad, cd, af, cf, rfl, hv, hb⟩
theorem ArSaid.own {w : World} {a : Ar.A} {E : Int} {e : Ending} {w' : World} (h : ArSaid w a E e w') : ∃ ad cd af cf, e = .returned (.tuple #[.agg #[.slice ad a.dicts.length cd, .slice af a.files.length cf], .int .i64 E]) ∧ ArOwn w.heap.size w' (.slice ad a.dicts.length cd) (.slice af a.files.length cf) a ∧ Below w.heap.size w w' := by
  obtain ⟨v1, v2, rfl, ho, hb⟩ := h
  obtain ⟨ad, cd, af, cf, rfl, rfl, hv⟩ := ho.slices
  exact ⟨ad, cd, af, cf, rfl, ho, hb⟩
theorem ArOwn.arv {lo : Nat} {w : World} {ad af : Option Addr} {n m cd cf : Nat} {a : Ar.A} (h : ArOwn lo w (.slice ad n cd) (.slice af m cf) a) : ArV w ad af a := by
  obtain ⟨ad', cd', af', cf', h1, h2, hv⟩ := h.slices
  simp only [Value.slice.injEq] at h1 h2
  rw [h1.1, h2.1]; exact hv
def TwoSaid (a : Ar.A) (w : World) (e : Ending) (w' : World) : Prop := ∃ ad cd af cf, e = .returned (.agg #[.slice ad a.dicts.length cd, .slice af a.files.length cf]) ∧ ArV w' ad af a ∧ Below w.heap.size w w'
end Go.Proofs.YtbjbjbpgmojcbabGreat
namespace Go.Proofs.YtbjbjbpgmojcbabGreat
open Go.RowKit
set_option maxRecDepth 4000 in
set_option maxHeartbeats 1000000 in
theorem two_from (A1 A2 A3 : Ar.A) (w : World)
    (C1 : Hid (∀ w', Calls Tryz.prog 13 #[.agg #[.slice none 0 0, .slice none 0 0], .string ⟨#[97]⟩, .string ⟨#[116, 104, 101, 32, 115, 97, 109, 101, 32, 119, 111, 114, 100, 115, 44, 32, 116, 104, 101, 32, 115, 97, 109, 101, 32, 119, 111, 114, 100, 115]⟩, .int .i64 0] w' fun e w2 => ArSaid w' A1 0 e w2))
    (C2 : Hid (∀ w' ad cd af cf, ArV w' ad af A1 → Calls Tryz.prog 13 #[av ad cd af cf A1, .string ⟨#[98]⟩, .string ⟨#[116, 104, 101, 32, 115, 97, 109, 101, 32, 119, 111, 114, 100, 115, 44, 32, 111, 114, 32, 111, 116, 104, 101, 114, 115]⟩, .int .i64 0] w' fun e w2 => ArSaid w' A2 0 e w2))
    (C3 : Hid (∀ w' ad cd af cf, Below w.heap.size w w' → ArV w' ad af A2 → Calls Tryz.prog 25 #[av ad cd af cf A2, .int .i64 32] w' fun e w2 => ArSaid w' A3 0 e w2)) :
    Calls Tryz.prog 60 #[] w fun e w' => TwoSaid A3 w e w' := by
  have HQ : Hid (∀ ad cd af cf w', ArV w' ad af A3 → Below w.heap.size w w' → TwoSaid A3 w (.returned (.agg #[.slice ad A3.dicts.length cd, .slice af A3.files.length cf])) w') := fun ad cd af cf w' h1 h2 => ⟨ad, cd, af, cf, rfl, h1, h2⟩
  have O1 : Hid (∀ (w : World) (e : Ending) (w' : World), ArSaid w A1 0 e w' → ∃ ad cd af cf, e = .returned (.tuple #[.agg #[.slice ad A1.dicts.length cd, .slice af A1.files.length cf], .int .i64 0]) ∧ ArV w' ad af A1 ∧ Below w.heap.size w w') := fun _ _ _ h => h.open
  have O2 : Hid (∀ (w : World) (e : Ending) (w' : World), ArSaid w A2 0 e w' → ∃ ad cd af cf, e = .returned (.tuple #[.agg #[.slice ad A2.dicts.length cd, .slice af A2.files.length cf], .int .i64 0]) ∧ ArOwn w.heap.size w' (.slice ad A2.dicts.length cd) (.slice af A2.files.length cf) A2 ∧ Below w.heap.size w w') := fun _ _ _ h => h.own
  have O3 : Hid (∀ (w : World) (e : Ending) (w' : World), ArSaid w A3 0 e w' → ∃ ad cd af cf, e = .returned (.tuple #[.agg #[.slice ad A3.dicts.length cd, .slice af A3.files.length cf], .int .i64 0]) ∧ ArOwn w.heap.size w' (.slice ad A3.dicts.length cd) (.slice af A3.files.length cf) A3 ∧ Below w.heap.size w w') := fun _ _ _ h => h.own
  generalize TwoSaid A3 w = Q at *
  unfold av at C2 C3
  generalize A1.dicts.length = D1 at *
  generalize A1.files.length = N1 at *
  generalize A2.dicts.length = D2 at *
  generalize A2.files.length = N2 at *
  generalize A3.dicts.length = D3 at *
  generalize A3.files.length = N3 at *
  go_enter Tryz.func60, Tryz.ntmps60
  go_wp2_with fail
  have R0 := Bx.new w (.slice none 0 0) (.slice none 0 0)
  have B0 := alloc_below w (.cells #[.slice none 0 0, .slice none 0 0] 25 (0, 0))
  generalize (w.alloc (.cells #[.slice none 0 0, .slice none 0 0] 25 (0, 0))) = w0 at *
  refine (C1.out _).mono ?_
  intro e w1 h1
  obtain ⟨ad1, cd1, af1, cf1, rfl, V1, G1⟩ := O1.out _ _ _ h1
  clear h1
  have R1 := R0.next G1
  have B1 := bch B0 G1 (Nat.le_refl _)
  clear R0 B0 G1
  go_wp2_with fail
  have T1 := Bx.new w1 (.slice ad1 D1 cd1) (.slice af1 N1 cf1)
  have GA := alloc_below w1 (.cells #[.slice ad1 D1 cd1, .slice af1 N1 cf1] 25 (0, 0))
  have R2 := R1.next GA
  have V2 := V1.below GA
  have B2 := bch B1 GA (Nat.le_refl _)
  have hT := R1.lt
  have hTw := B1.size
  clear GA R1 V1 B1
  generalize (w1.alloc (.cells #[.slice ad1 D1 cd1, .slice af1 N1 cf1] 25 (0, 0))) = wa at *
  generalize w1.heap.size = T at *
  refine (C2.out _ _ _ _ _ V2).mono ?_
  intro e w2 h1
  obtain ⟨ad2, cd2, af2, cf2, rfl, W2, G⟩ := O2.out _ _ _ h1
  have T2 := T1.next G
  have R3 := R2.next G
  have B3 := bch B2 G (Nat.le_refl _)
  have hTa := T1.lt
  clear h1 V2 B2 R2 G T1
  obtain ⟨t0, t1, t2, t3, _⟩ := id T2
  go_wp2_with fail
  have T4 := T2.set (u := .slice ad2 D2 cd2) (v := .slice af2 N2 cf2)
  have R4 := R3.far (c := T) (by omega) (.slice ad2 D2 cd2) (.slice af2 N2 cf2)
  have W3 := (W2.set2 hTa (.slice ad2 D2 cd2) (.slice af2 N2 cf2)).arv
  have B4 := below_set2 B3 (b := T) hTw (.slice ad2 D2 cd2) (.slice af2 N2 cf2)
  clear T2 R3 W2 B3 t0 t1 t2 t3
  generalize ((w2.setCell ⟨T, 0, none⟩ (.slice ad2 D2 cd2)).setCell ⟨T, 1, none⟩ (.slice af2 N2 cf2)) = wb at *
  refine (C3.out _ _ _ _ _ B4 W3).mono ?_
  intro e w3 h1
  obtain ⟨ad3, cd3, af3, cf3, rfl, W3, G⟩ := O3.out _ _ _ h1
  have T5 := T4.next G
  have R5 := R4.next G
  have B5 := bch B4 G (Nat.le_refl _)
  have hTb := T4.lt
  have hRb := R4.lt
  clear h1 T4 R4 B4 G
  obtain ⟨t0, t1, t2, t3, _⟩ := id T5
  obtain ⟨r0, r1, r2, r3, _⟩ := id (R5.far (c := T) (by omega) (.slice ad3 D3 cd3) (.slice af3 N3 cf3))
  obtain ⟨s0, s1, s2, s3, _⟩ := id (T5.set (u := .slice ad3 D3 cd3) (v := .slice af3 N3 cf3))
  have R6 := (R5.far (c := T) (by omega) (.slice ad3 D3 cd3) (.slice af3 N3 cf3)).set (u := .slice ad3 D3 cd3) (v := .slice af3 N3 cf3)
  have W4 := ((W3.set2 hTb (.slice ad3 D3 cd3) (.slice af3 N3 cf3)).set2 hRb (.slice ad3 D3 cd3) (.slice af3 N3 cf3)).arv
  have B6 := below_set2 (below_set2 B5 (b := T) hTw (.slice ad3 D3 cd3) (.slice af3 N3 cf3)) (b := w.heap.size) (Nat.le_refl _) (.slice ad3 D3 cd3) (.slice af3 N3 cf3)
  have hR := HQ.out ad3 cd3 af3 cf3 _ W4 B6
  clear T5 R5 W3 B5 HQ C1 C2 C3 O1 O2 O3 W4 B6
  go_wp2_with fail
  exact bodyPost_ret (v := .agg #[.slice ad3 D3 cd3, .slice af3 N3 cf3]) (by simp [results, Tryz.results60, go_sem, R6.c0, R6.c1]) rfl hR
theorem two_any (w : World) (hM : Mx w) : Calls Tryz.prog 60 #[] w fun e w' => TwoSaid Ar.A3 w e w' := by
  have s1 : SaneA Ar.A1 := sane_az.put (by decide)
  have s2 : SaneA Ar.A2 := s1.put (by decide)
  refine two_from Ar.A1 Ar.A2 Ar.A3 w (fun w' => ?_) (fun w' ad cd af cf hv => ?_) (fun w' ad cd af cf hb hv => ?_)
  · have := archPut_any none none 0 0 Ar.az ⟨#[97]⟩ Ar.tA 0 w' ⟨.inl rfl, .inl rfl⟩ sane_az (by decide) (by decide)
    rw [Ar.e1] at this
    exact this
  · have := archPut_any ad af cd cf Ar.A1 ⟨#[98]⟩ Ar.tB 0 w' hv s1 (by decide) (by decide)
    rw [Ar.e2] at this
    exact this
  · have := archRetrain_any ad af cd cf Ar.A2 32 w' hv s2 (hM.below hb)
    rw [Ar.e3] at this
    exact this
end Go.Proofs.YtbjbjbpgmojcbabGreat
namespace Go.Proofs.YtbjbjbpgmojcbabGreat
namespace Im
abbrev B := List UInt8
def Rd {α : Type} (p : ByteArray → Option (α × ByteArray)) (enc : α → B) (ok : α → Prop) : Prop := ∀ s x r, p s = some (x, r) ↔ (ok x ∧ s.data.toList = enc x ++ r.data.toList)
theorem ext_drop (s : ByteArray) (k : Nat) : (s.extract k s.size).data.toList = s.data.toList.drop k := by
  simp only [ByteArray.data_extract, Array.toList_extract]
  have : s.size = s.data.toList.length := by simp
  rw [this]
  simp [List.extract, List.take_of_length_le]
theorem ext_take (s : ByteArray) (k : Nat) : (s.extract 0 k).data.toList = s.data.toList.take k := by
  simp [ByteArray.data_extract, Array.toList_extract, List.extract]
theorem size_len (s : ByteArray) : s.size = s.data.toList.length := by simp
def rNum (s : ByteArray) : Option (Nat × ByteArray) := match Nm.from_ s.data.toList with
  | none => none
  | some (n, k) => some (n, s.extract k s.size)
theorem rNum_is : Rd rNum Nm.nb (fun n => n ≤ 2147483647) := by
  intro s n r
  unfold rNum
  constructor
  · intro h
    cases hf : Nm.from_ s.data.toList with
    | none => rw [hf] at h; cases h
    | some x =>
      obtain ⟨m, k⟩ := x
      rw [hf] at h
      simp only [Option.some.injEq, Prod.mk.injEq] at h
      obtain ⟨rfl, rfl⟩ := h
      obtain ⟨h1, h2, h3, _⟩ := Nm.nb_from hf
      refine ⟨h1, ?_⟩
      rw [ext_drop, h2, List.take_append_drop]
  · rintro ⟨h1, h2⟩
    have hf := Nm.from_nb n r.data.toList h1
    rw [← h2] at hf
    rw [hf]
    simp only [Option.some.injEq, Prod.mk.injEq, true_and]
    apply Nm.ba_ext
    rw [ext_drop, h2]
    simp
def rUp (m : Nat) (s : ByteArray) : Option (Nat × ByteArray) := match rNum s with
  | none => none
  | some (n, r) => if n ≤ m then some (n, r) else none
theorem rUp_is (m : Nat) : Rd (rUp m) Nm.nb (fun n => n ≤ 2147483647 ∧ n ≤ m) := by
  intro s n r
  have h := rNum_is s n r
  unfold rUp
  constructor
  · intro h1
    cases hf : rNum s with
    | none => rw [hf] at h1; cases h1
    | some x =>
      obtain ⟨k, q⟩ := x
      rw [hf] at h1
      by_cases hm : k ≤ m
      · simp only [if_pos hm, Option.some.injEq, Prod.mk.injEq] at h1
        obtain ⟨rfl, rfl⟩ := h1
        exact ⟨⟨(h.1 hf).1, hm⟩, (h.1 hf).2⟩
      · simp only [if_neg hm] at h1; cases h1
  · rintro ⟨⟨h1, h2⟩, h3⟩
    rw [h.2 ⟨h1, h3⟩]
    simp only [if_pos h2]
def tb (t : ByteArray) : B := Nm.nb t.size ++ t.data.toList
def rCnt (m : Nat) (s : ByteArray) : Option (ByteArray × ByteArray) := match rNum s with
  | none => none
  | some (n, r) => if n ≤ m ∧ n ≤ r.size then some (r.extract 0 n, r.extract n r.size) else none
theorem rCnt_is (m : Nat) : Rd (rCnt m) tb (fun t => t.size ≤ 2147483647 ∧ t.size ≤ m) := by
  intro s t r
  unfold rCnt
  constructor
  · intro h1
    cases hf : rNum s with
    | none => rw [hf] at h1; cases h1
    | some x =>
      obtain ⟨k, q⟩ := x
      rw [hf] at h1
      have h := (rNum_is s k q).1 hf
      by_cases hm : k ≤ m ∧ k ≤ q.size
      · simp only [if_pos hm, Option.some.injEq, Prod.mk.injEq] at h1
        obtain ⟨rfl, rfl⟩ := h1
        have e : (q.extract 0 k).size = k := by rw [size_len, ext_take, List.length_take, ← size_len]; omega
        refine ⟨⟨by rw [e]; exact h.1, by rw [e]; exact hm.1⟩, ?_⟩
        unfold tb
        rw [e, ext_take, ext_drop, h.2, List.append_assoc, List.take_append_drop]
      · simp only [if_neg hm] at h1; cases h1
  · rintro ⟨⟨h1, h2⟩, h3⟩
    unfold tb at h3
    have hq : ∃ q : ByteArray, q.data.toList = t.data.toList ++ r.data.toList := ⟨⟨(t.data.toList ++ r.data.toList).toArray⟩, by simp⟩
    obtain ⟨q, hq⟩ := hq
    rw [List.append_assoc, ← hq] at h3
    rw [(rNum_is s t.size q).2 ⟨h1, h3⟩]
    have hz : t.size ≤ q.size := by rw [size_len q, hq, List.length_append, ← size_len]; omega
    simp only [if_pos (And.intro h2 hz), Option.some.injEq, Prod.mk.injEq]
    have el : t.size = t.data.toList.length := size_len t
    constructor
    · apply Nm.ba_ext
      rw [ext_take, hq, el]; simp
    · apply Nm.ba_ext
      rw [ext_drop, hq, el]; simp
def flat {α : Type} (enc : α → B) (l : List α) : B := l.flatMap enc
theorem flat_snoc {α : Type} (enc : α → B) (l : List α) (x : α) : flat enc (l ++ [x]) = flat enc l ++ enc x := by simp [flat]
def rMany {α : Type} (p : ByteArray → Option (α × ByteArray)) : Nat → ByteArray → Option (List α × ByteArray)
  | 0, s => some ([], s)
  | k + 1, s => match rMany p k s with
    | none => none
    | some (l, r) => match p r with
      | none => none
      | some (x, q) => some (l ++ [x], q)
theorem rMany_is {α : Type} {p : ByteArray → Option (α × ByteArray)} {enc : α → B} {ok : α → Prop} (hp : Rd p enc ok) : ∀ k, Rd (rMany p k) (flat enc) (fun l => l.length = k ∧ ∀ x ∈ l, ok x)
  | 0 => by
    intro s l r
    rw [rMany]
    simp only [Option.some.injEq, Prod.mk.injEq]
    constructor
    · rintro ⟨rfl, rfl⟩
      exact ⟨⟨rfl, by simp⟩, by simp [flat]⟩
    · rintro ⟨⟨h1, _⟩, h2⟩
      obtain rfl := List.length_eq_zero_iff.1 h1
      exact ⟨rfl, Nm.ba_ext (by simpa [flat] using h2)⟩
  | k + 1 => by
    intro s l r
    have ih := rMany_is hp k
    rw [rMany]
    constructor
    · intro h
      cases h1 : rMany p k s with
      | none => rw [h1] at h; cases h
      | some y =>
        obtain ⟨l0, r0⟩ := y
        rw [h1] at h
        simp only at h
        cases h2 : p r0 with
        | none => rw [h2] at h; cases h
        | some z =>
          obtain ⟨x, q⟩ := z
          rw [h2] at h
          simp only [Option.some.injEq, Prod.mk.injEq] at h
          obtain ⟨rfl, rfl⟩ := h
          obtain ⟨⟨a1, a2⟩, a3⟩ := (ih s l0 r0).1 h1
          obtain ⟨b1, b2⟩ := (hp r0 x q).1 h2
          refine ⟨⟨by simp [a1], ?_⟩, ?_⟩
          · intro y hy
            rcases List.mem_append.1 hy with hy | hy
            · exact a2 y hy
            · rw [List.mem_singleton.1 hy]; exact b1
          · rw [flat_snoc, a3, b2, List.append_assoc]
    · rintro ⟨⟨h1, h2⟩, h3⟩
      have hne : l ≠ [] := by intro e; rw [e] at h1; simp at h1
      obtain ⟨l0, x, rfl⟩ : ∃ l0 x, l = l0 ++ [x] := ⟨l.dropLast, l.getLast hne, (List.dropLast_concat_getLast hne).symm⟩
      rw [flat_snoc, List.append_assoc] at h3
      obtain ⟨r0, hr0⟩ : ∃ q : ByteArray, q.data.toList = enc x ++ r.data.toList := ⟨⟨(enc x ++ r.data.toList).toArray⟩, by simp⟩
      rw [← hr0] at h3
      rw [(ih s l0 r0).2 ⟨⟨by simpa using h1, fun y hy => h2 y (List.mem_append_left _ hy)⟩, h3⟩]
      simp only
      rw [(hp r0 x r).2 ⟨h2 x (by simp), hr0⟩]
theorem rd_seq {α β γ : Type} {p : ByteArray → Option (α × ByteArray)} {q : ByteArray → Option (β × ByteArray)} {e1 : α → B} {e2 : β → B} {o1 : α → Prop} {o2 : β → Prop} (hp : Rd p e1 o1) (hq : Rd q e2 o2)
    (f : γ → α) (g : γ → β) (mk : α → β → γ) (h1 : ∀ a b, f (mk a b) = a) (h2 : ∀ a b, g (mk a b) = b) (h3 : ∀ c, mk (f c) (g c) = c) :
    Rd (fun s => match p s with | none => none | some (a, r) => match q r with | none => none | some (b, r2) => some (mk a b, r2)) (fun c => e1 (f c) ++ e2 (g c)) (fun c => o1 (f c) ∧ o2 (g c)) := by
  intro s c r
  constructor
  · intro h
    simp only at h
    cases ha : p s with
    | none => rw [ha] at h; cases h
    | some y =>
      obtain ⟨a, r0⟩ := y
      rw [ha] at h
      simp only at h
      cases hb : q r0 with
      | none => rw [hb] at h; cases h
      | some z =>
        obtain ⟨b, r1⟩ := z
        rw [hb] at h
        simp only [Option.some.injEq, Prod.mk.injEq] at h
        obtain ⟨rfl, rfl⟩ := h
        obtain ⟨a1, a2⟩ := (hp s a r0).1 ha
        obtain ⟨b1, b2⟩ := (hq r0 b r1).1 hb
        simp only [h1, h2]
        exact ⟨⟨a1, b1⟩, by rw [a2, b2, List.append_assoc]⟩
  · rintro ⟨⟨a1, b1⟩, h⟩
    obtain ⟨r0, hr0⟩ : ∃ q : ByteArray, q.data.toList = e2 (g c) ++ r.data.toList := ⟨⟨(e2 (g c) ++ r.data.toList).toArray⟩, by simp⟩
    rw [List.append_assoc, ← hr0] at h
    simp only
    rw [(hp s (f c) r0).2 ⟨a1, h⟩]
    simp only
    rw [(hq r0 (g c) r).2 ⟨b1, hr0⟩]
    simp only [h3]
end Im
end Go.Proofs.YtbjbjbpgmojcbabGreat
namespace Go.Proofs.YtbjbjbpgmojcbabGreat
namespace Im
theorem rd_map {α β : Type} {p : ByteArray → Option (α × ByteArray)} {enc : α → B} {ok : α → Prop} (hp : Rd p enc ok) (f : α → β) (g : β → α) (okb : β → Prop) (h1 : ∀ a, ok a → okb (f a) ∧ g (f a) = a) (h2 : ∀ b, okb b → ok (g b) ∧ f (g b) = b) :
    Rd (fun s => match p s with | none => none | some (a, r) => some (f a, r)) (fun b => enc (g b)) okb := by
  intro s b r
  constructor
  · intro h
    simp only at h
    cases ha : p s with
    | none => rw [ha] at h; cases h
    | some y =>
      obtain ⟨a, r0⟩ := y
      rw [ha] at h
      simp only [Option.some.injEq, Prod.mk.injEq] at h
      obtain ⟨rfl, rfl⟩ := h
      obtain ⟨a1, a2⟩ := (hp s a r0).1 ha
      simp only [(h1 a a1).2]
      exact ⟨(h1 a a1).1, a2⟩
  · rintro ⟨hb, h⟩
    simp only
    rw [(hp s (g b) r).2 ⟨(h2 b hb).1, h⟩]
    simp only [(h2 b hb).2]
def fileB (f : Ar.F) : B := tb f.name ++ (Nm.nb f.dict.toNat ++ (Nm.nb f.size.toNat ++ (Nm.nb f.sum.toNat ++ tb f.blk)))
def In (n : Int) : Prop := 0 ≤ n ∧ n ≤ 2147483647
def okF (f : Ar.F) : Prop := f.name.size ≤ 512 ∧ In f.dict ∧ In f.size ∧ In f.sum ∧ f.blk.size ≤ 2147483647
def rFile (s : ByteArray) : Option (Ar.F × ByteArray) :=
  match rCnt 512 s with
  | none => none
  | some (nm, r1) => match rNum r1 with
    | none => none
    | some (d, r2) => match rNum r2 with
      | none => none
      | some (z, r3) => match rNum r3 with
        | none => none
        | some (u, r4) => match rCnt 2147483647 r4 with
          | none => none
          | some (b, r5) => some (⟨nm, (d : Nat), (z : Nat), (u : Nat), b⟩, r5)
theorem rFile_is : Rd rFile fileB okF := by
  have h := rd_map (rd_seq (rCnt_is 512) (rd_seq rNum_is (rd_seq rNum_is (rd_seq rNum_is (rCnt_is 2147483647) Prod.fst Prod.snd Prod.mk (fun _ _ => rfl) (fun _ _ => rfl) (fun _ => rfl)) Prod.fst Prod.snd Prod.mk (fun _ _ => rfl) (fun _ _ => rfl) (fun _ => rfl)) Prod.fst Prod.snd Prod.mk (fun _ _ => rfl) (fun _ _ => rfl) (fun _ => rfl)) Prod.fst Prod.snd Prod.mk (fun _ _ => rfl) (fun _ _ => rfl) (fun _ => rfl))
    (fun x : ByteArray × Nat × Nat × Nat × ByteArray => (⟨x.1, (x.2.1 : Nat), (x.2.2.1 : Nat), (x.2.2.2.1 : Nat), x.2.2.2.2⟩ : Ar.F)) (fun f => (f.name, f.dict.toNat, f.size.toNat, f.sum.toNat, f.blk)) okF
    (fun a ha => by
      obtain ⟨⟨h1, h2⟩, h3, h4, h5, h6, _⟩ := ha
      exact ⟨⟨h2, ⟨by simp, by simp only; omega⟩, ⟨by simp, by simp only; omega⟩, ⟨by simp, by simp only; omega⟩, h6⟩, by simp⟩)
    (fun f hf => by
      obtain ⟨h1, ⟨h2, h2'⟩, ⟨h3, h3'⟩, ⟨h4, h4'⟩, h5⟩ := hf
      refine ⟨⟨⟨by simp only; omega, h1⟩, by simp only; omega, by simp only; omega, by simp only; omega, h5, h5⟩, ?_⟩
      obtain ⟨n, d, z, u, b⟩ := f
      simp only at h2 h3 h4 ⊢
      rw [Int.toNat_of_nonneg h2, Int.toNat_of_nonneg h3, Int.toNat_of_nonneg h4])
  intro s f r
  refine Iff.trans ?_ (h s f r)
  unfold rFile
  cases h1 : rCnt 512 s with
  | none => simp only [h1]
  | some x1 =>
    simp only [h1]
    cases h2 : rNum x1.2 with
    | none => simp only
    | some x2 =>
      simp only
      cases h3 : rNum x2.2 with
      | none => simp only
      | some x3 =>
        simp only
        cases h4 : rNum x3.2 with
        | none => simp only
        | some x4 =>
          simp only
          cases h5 : rCnt 2147483647 x4.2 with
          | none => simp only
          | some x5 => simp only
def mrk : B := [112, 114, 101, 115, 115]
def imgB (a : Ar.A) : B := mrk ++ (Nm.nb a.dicts.length ++ (flat tb a.dicts ++ (Nm.nb a.files.length ++ flat fileB a.files)))
def img (a : Ar.A) : ByteArray := ⟨(imgB a).toArray⟩
theorem img_list (a : Ar.A) : (img a).data.toList = imgB a := by simp [img]
structure OkA (a : Ar.A) : Prop where
  nd : a.dicts.length ≤ 4
  ds : ∀ d ∈ a.dicts, d.size ≤ 512
  nf : a.files.length ≤ 12
  fs : ∀ f ∈ a.files, okF f
def rMark (s : ByteArray) : Option ByteArray := if s.data.toList.take 5 = mrk then some (s.extract 5 s.size) else none
theorem rMark_is (s r : ByteArray) : rMark s = some r ↔ s.data.toList = mrk ++ r.data.toList := by
  unfold rMark
  constructor
  · intro h
    by_cases hm : s.data.toList.take 5 = mrk
    · rw [if_pos hm] at h
      simp only [Option.some.injEq] at h
      subst h
      rw [ext_drop, ← hm, List.take_append_drop]
    · rw [if_neg hm] at h; cases h
  · intro h
    rw [if_pos (by rw [h]; rfl)]
    congr 1
    apply Nm.ba_ext
    rw [ext_drop, h]; rfl
def rArch (s : ByteArray) : Option Ar.A :=
  match rMark s with
  | none => none
  | some r0 => match rUp 4 r0 with
    | none => none
    | some (n, r1) => match rMany (rCnt 512) n r1 with
      | none => none
      | some (ds, r2) => match rUp 12 r2 with
        | none => none
        | some (m, r3) => match rMany rFile m r3 with
          | none => none
          | some (fs, r4) => if r4.size = 0 then some ⟨ds, fs⟩ else none
theorem bytes_of (l : B) : ∃ q : ByteArray, q.data.toList = l := ⟨⟨l.toArray⟩, by simp⟩
theorem rArch_is (s : ByteArray) (a : Ar.A) : rArch s = some a ↔ OkA a ∧ s.data.toList = imgB a := by
  constructor
  · intro h
    unfold rArch at h
    cases h0 : rMark s with
    | none => rw [h0] at h; cases h
    | some r0 =>
      rw [h0] at h; simp only at h
      cases h1 : rUp 4 r0 with
      | none => rw [h1] at h; cases h
      | some x1 =>
        obtain ⟨n, r1⟩ := x1
        rw [h1] at h; simp only at h
        cases h2 : rMany (rCnt 512) n r1 with
        | none => rw [h2] at h; cases h
        | some x2 =>
          obtain ⟨ds, r2⟩ := x2
          rw [h2] at h; simp only at h
          cases h3 : rUp 12 r2 with
          | none => rw [h3] at h; cases h
          | some x3 =>
            obtain ⟨m, r3⟩ := x3
            rw [h3] at h; simp only at h
            cases h4 : rMany rFile m r3 with
            | none => rw [h4] at h; cases h
            | some x4 =>
              obtain ⟨fs, r4⟩ := x4
              rw [h4] at h; simp only at h
              by_cases h5 : r4.size = 0
              · rw [if_pos h5] at h
                simp only [Option.some.injEq] at h
                subst h
                have g0 := (rMark_is s r0).1 h0
                obtain ⟨⟨_, g1⟩, g1'⟩ := (rUp_is 4 r0 n r1).1 h1
                obtain ⟨⟨g2, g2'⟩, g2''⟩ := (rMany_is (rCnt_is 512) n r1 ds r2).1 h2
                obtain ⟨⟨_, g3⟩, g3'⟩ := (rUp_is 12 r2 m r3).1 h3
                obtain ⟨⟨g4, g4'⟩, g4''⟩ := (rMany_is rFile_is m r3 fs r4).1 h4
                have g5 : r4.data.toList = [] := List.length_eq_zero_iff.1 (by rw [← size_len]; exact h5)
                subst g2 g4
                refine ⟨⟨g1, fun d hd => (g2' d hd).2, g3, g4'⟩, ?_⟩
                rw [g0, g1', g2'', g3', g4'', g5, List.append_nil]
                rfl
              · rw [if_neg h5] at h; cases h
  · rintro ⟨h1, h⟩
    unfold imgB at h
    obtain ⟨r3, e3⟩ := bytes_of (flat fileB a.files)
    obtain ⟨r2, e2⟩ := bytes_of (Nm.nb a.files.length ++ r3.data.toList)
    obtain ⟨r1, e1⟩ := bytes_of (flat tb a.dicts ++ r2.data.toList)
    obtain ⟨r0, e0⟩ := bytes_of (Nm.nb a.dicts.length ++ r1.data.toList)
    rw [← e3, ← e2, ← e1, ← e0] at h
    have n4 := h1.nd
    have n12 := h1.nf
    unfold rArch
    rw [(rMark_is s r0).2 h]
    simp only
    rw [(rUp_is 4 r0 _ r1).2 ⟨⟨by omega, n4⟩, e0⟩]
    simp only
    rw [(rMany_is (rCnt_is 512) _ r1 a.dicts r2).2 ⟨⟨rfl, fun d hd => ⟨by have := h1.ds d hd; omega, h1.ds d hd⟩⟩, e1⟩]
    simp only
    rw [(rUp_is 12 r2 _ r3).2 ⟨⟨by omega, n12⟩, e2⟩]
    simp only
    rw [(rMany_is rFile_is _ r3 a.files ⟨#[]⟩).2 ⟨⟨rfl, h1.fs⟩, by rw [e3]; simp⟩]
    exact if_pos rfl
end Im
end Go.Proofs.YtbjbjbpgmojcbabGreat
namespace Go.Proofs.YtbjbjbpgmojcbabGreat
open Go.RowKit
def PN : List PanicEntry := [{ v := .iface 26 (.int .i64 1), recovered := false }]
structure Rdr (w : World) (p : Nat) (s : ByteArray) : Prop where
  c : w.cell? ⟨p, 0, none⟩ = some (.string s)
  f : w.frozen? ⟨p, 0, none⟩ = false
theorem Rdr.lt {w : World} {p : Nat} {s : ByteArray} (h : Rdr w p s) : p < w.heap.size := World.block_lt_of_cell? w _ h.c
theorem Rdr.below {w w' : World} {p : Nat} {s : ByteArray} (h : Rdr w p s) (G : Below w.heap.size w w') : Rdr w' p s := ⟨(G.cell (p := ⟨p, 0, none⟩) h.lt).trans h.c, (G.frozen (p := ⟨p, 0, none⟩) h.lt).trans h.f⟩
theorem Rdr.set {w : World} {p : Nat} {s : ByteArray} (h : Rdr w p s) (r : ByteArray) : Rdr (w.setCell ⟨p, 0, none⟩ (.string r)) p r := ⟨World.cell?_setCell_same _ _ _ h.c, by rw [World.frozen?_setCell]; exact h.f⟩
def On (p : Nat) (w w' : World) : Prop := w.grownBy w' (some p)
theorem On.refl (p : Nat) (w : World) : On p w w := ⟨rfl, rfl, rfl, Nat.le_refl _, fun _ _ _ => rfl⟩
theorem On.of {p : Nat} {w w' : World} (G : Below w.heap.size w w') : On p w w' := ⟨G.os, G.tape, G.output, G.size, fun k hk _ => G.block k hk⟩
theorem On.trans {p : Nat} {a b c : World} (h : On p a b) (g : On p b c) : On p a c := ⟨g.os.trans h.os, g.tape.trans h.tape, g.output.trans h.output, Nat.le_trans h.size g.size, fun k hk hne => (g.block k (Nat.lt_of_lt_of_le hk h.size) hne).trans (h.block k hk hne)⟩
theorem On.set {p : Nat} {w w' : World} (h : On p w w') (v : Value) : On p w (w'.setCell ⟨p, 0, none⟩ v) := h.trans (setCell_grown w' ⟨p, 0, none⟩ v)
def RdSaid {α : Type} (r : Option (α × ByteArray)) (val : α → Value) (p : Nat) (w : World) (e : Ending) (w' : World) : Prop := On p w w' ∧ match r with
  | none => e = .panicked PN
  | some (x, q) => e = .returned (val x) ∧ Rdr w' p q
theorem rd_none {α : Type} {r : Option (α × ByteArray)} {val : α → Value} {p : Nat} {w w' : World} (hr : r = none) (h : On p w w') : RdSaid r val p w (.panicked PN) w' := by subst hr; exact ⟨h, rfl⟩
theorem rd_some {α : Type} {r : Option (α × ByteArray)} {val : α → Value} {p : Nat} {w w' : World} {x : α} {q : ByteArray} (hr : r = some (x, q)) (h : On p w w') (h2 : Rdr w' p q) : RdSaid r val p w (.returned (val x)) w' := by subst hr; exact ⟨h, rfl, h2⟩
set_option maxRecDepth 4000 in
set_option maxHeartbeats 400000 in
theorem need_yes (w : World) : Calls Tryz.prog 151 #[.bool true] w fun e w' => e = .returned (.tuple #[]) ∧ w' = w := by
  go_enter Tryz.func151, Tryz.ntmps151
  go_wp2_with fail
  go_end0
  exact ⟨rfl, rfl⟩
set_option maxRecDepth 4000 in
set_option maxHeartbeats 400000 in
theorem need_no (w : World) : Calls Tryz.prog 151 #[.bool false] w fun e w' => e = .panicked PN ∧ w' = w := by
  unfold PN
  go_enter Tryz.func151, Tryz.ntmps151
  go_wp2_with fail
  exact ⟨rfl, rfl, rfl⟩
namespace Im
theorem rNum_from {s : ByteArray} {n k : Nat} (h : Nm.from_ s.data.toList = some (n, k)) : rNum s = some (n, s.extract k s.size) := by unfold rNum; rw [h]
theorem rNum_bad {s : ByteArray} (h : Nm.from_ s.data.toList = none) : rNum s = none := by unfold rNum; rw [h]
end Im
set_option maxRecDepth 4000 in
set_option maxHeartbeats 1000000 in
theorem number_any (s : ByteArray) (p : Nat) (w : World) (h : Rdr w p s) (hs : s.size ≤ 281474976710656) :
    Calls Tryz.prog 152 #[.pointer (some ⟨p, 0, none⟩)] w fun e w' => RdSaid (Im.rNum s) (fun n => .int .i64 (n : Nat)) p w e w' := by
  have c := h.c
  cases hf : Nm.from_ s.data.toList with
  | none =>
    have hQ : Hid (∀ w', On p w w' → RdSaid (Im.rNum s) (fun n => .int .i64 (n : Nat)) p w (.panicked PN) w') := fun w' h9 => rd_none (Im.rNum_bad hf) h9
    generalize RdSaid (Im.rNum s) (fun n => .int .i64 (n : Nat)) p w = Q at *
    have C1 := take_no s w hs hf
    clear hf h
    go_enter Tryz.func152, Tryz.ntmps152
    go_wp2_with fail
    refine C1.mono ?_
    rintro e w1 ⟨rfl, G⟩
    go_wp2_with fail
    refine (need_no _).mono ?_
    rintro e w2 ⟨rfl, rfl⟩
    go_wp2_with fail
    exact ⟨rfl, hQ.out _ (On.of G)⟩
  | some x =>
    obtain ⟨n, k⟩ := x
    have hQ : Hid (∀ w', On p w w' → Rdr w' p (s.extract k s.size) → RdSaid (Im.rNum s) (fun n => .int .i64 (n : Nat)) p w (.returned (.int .i64 (n : Nat))) w') := fun w' h9 h8 => rd_some (Im.rNum_from hf) h9 h8
    generalize RdSaid (Im.rNum s) (fun n => .int .i64 (n : Nat)) p w = Q at *
    have C1 := take_yes s w n k hs hf
    have hR : Hid (∀ w', Below w.heap.size w w' → Rdr w' p s) := fun w' h9 => h.below h9
    clear hf h
    generalize s.extract k s.size = r at *
    go_enter Tryz.func152, Tryz.ntmps152
    go_wp2_with fail
    refine C1.mono ?_
    rintro e w1 ⟨rfl, G⟩
    go_wp2_with fail
    refine (need_yes _).mono ?_
    rintro e w2 ⟨rfl, rfl⟩
    have R1 := hR.out _ G
    have c1 := R1.c
    have f1 := R1.f
    go_wp2_with fail
    exact hQ.out _ ((On.of G).set _) (R1.set _)
set_option maxRecDepth 4000 in
set_option maxHeartbeats 1000000 in
theorem upTo_any (s : ByteArray) (p m : Nat) (w : World) (h : Rdr w p s) (hs : s.size ≤ 281474976710656) :
    Calls Tryz.prog 116 #[.pointer (some ⟨p, 0, none⟩), .int .i64 (m : Nat)] w fun e w' => RdSaid (Im.rUp m s) (fun n => .int .i64 (n : Nat)) p w e w' := by
  have C1 := number_any s p w h hs
  unfold RdSaid at C1
  cases hr : Im.rNum s with
  | none =>
    have hu : Im.rUp m s = none := by unfold Im.rUp; rw [hr]
    have hQ : Hid (∀ w', On p w w' → RdSaid (Im.rUp m s) (fun n => .int .i64 (n : Nat)) p w (.panicked PN) w') := fun w' h9 => rd_none hu h9
    generalize RdSaid (Im.rUp m s) (fun n => .int .i64 (n : Nat)) p w = Q at *
    rw [hr] at C1
    simp only at C1
    clear hr hu h
    go_enter Tryz.func116, Tryz.ntmps116
    go_wp2_with fail
    refine C1.mono ?_
    rintro e w1 ⟨G, rfl⟩
    go_wp2_with fail
    exact ⟨rfl, hQ.out _ G⟩
  | some x =>
    obtain ⟨n, q⟩ := x
    rw [hr] at C1
    simp only at C1
    have hn := ((Im.rNum_is s n q).1 hr).1
    by_cases hle : n ≤ m
    · have hu : Im.rUp m s = some (n, q) := by unfold Im.rUp; rw [hr]; exact if_pos hle
      have hQ : Hid (∀ w', On p w w' → Rdr w' p q → RdSaid (Im.rUp m s) (fun n => .int .i64 (n : Nat)) p w (.returned (.int .i64 (n : Nat))) w') := fun w' h9 h8 => rd_some hu h9 h8
      generalize RdSaid (Im.rUp m s) (fun n => .int .i64 (n : Nat)) p w = Q at *
      have d1 : decide ((n : Int) ≤ (m : Int)) = true := decide_eq_true (by omega)
      have d1' : decide (n ≤ m) = true := decide_eq_true hle
      clear hr hu h
      go_enter Tryz.func116, Tryz.ntmps116
      go_wp2_with fail
      refine C1.mono ?_
      rintro e w1 ⟨G, rfl, R1⟩
      go_wp2_with fail
      refine (need_yes _).mono ?_
      rintro e w2 ⟨rfl, rfl⟩
      go_wp2_with fail
      exact hQ.out _ G R1
    · have hu : Im.rUp m s = none := by unfold Im.rUp; rw [hr]; exact if_neg hle
      have hQ : Hid (∀ w', On p w w' → RdSaid (Im.rUp m s) (fun n => .int .i64 (n : Nat)) p w (.panicked PN) w') := fun w' h9 => rd_none hu h9
      generalize RdSaid (Im.rUp m s) (fun n => .int .i64 (n : Nat)) p w = Q at *
      have d1 : decide ((n : Int) ≤ (m : Int)) = false := decide_eq_false (by omega)
      have d1' : decide (n ≤ m) = false := decide_eq_false hle
      clear hr hu h
      go_enter Tryz.func116, Tryz.ntmps116
      go_wp2_with fail
      refine C1.mono ?_
      rintro e w1 ⟨G, rfl, R1⟩
      go_wp2_with fail
      refine (need_no _).mono ?_
      rintro e w2 ⟨rfl, rfl⟩
      go_wp2_with fail
      exact ⟨rfl, hQ.out _ G⟩
namespace Im
theorem rCnt_from {m : Nat} {s : ByteArray} {n k : Nat} (h : Nm.from_ s.data.toList = some (n, k)) (h1 : n ≤ m) (h2 : k + n ≤ s.size) : rCnt m s = some (s.extract k (k + n), s.extract (k + n) s.size) := by
  have hk := (Nm.nb_from h).2.2.1
  have hz : (s.extract k s.size).size = s.size - k := by simp
  unfold rCnt
  rw [rNum_from h]
  simp only
  rw [if_pos ⟨h1, by omega⟩]
  congr 2
  · apply Nm.ba_ext
    rw [ext_take, ext_drop]
    simp [ByteArray.data_extract, Array.toList_extract, List.extract]
  · apply Nm.ba_ext
    rw [ext_drop, ext_drop, ext_drop, List.drop_drop]
theorem rCnt_bad {m : Nat} {s : ByteArray} {n k : Nat} (h : Nm.from_ s.data.toList = some (n, k)) (h1 : m < n ∨ s.size < k + n) : rCnt m s = none := by
  have hk := (Nm.nb_from h).2.2.1
  rw [← size_len] at hk
  have hz : (s.extract k s.size).size = s.size - k := by simp
  unfold rCnt
  rw [rNum_from h]
  simp only
  rw [if_neg (by omega)]
theorem rCnt_none {m : Nat} {s : ByteArray} (h : Nm.from_ s.data.toList = none) : rCnt m s = none := by unfold rCnt; rw [rNum_bad h]
end Im
set_option maxRecDepth 4000 in
set_option maxHeartbeats 1000000 in
theorem rdText_any (s : ByteArray) (p : Nat) (w : World) (h : Rdr w p s) (hs : s.size ≤ 281474976710656) :
    Calls Tryz.prog 117 #[.pointer (some ⟨p, 0, none⟩)] w fun e w' => RdSaid (Im.rCnt 512 s) Value.string p w e w' := by
  have c := h.c
  have bad : Im.rCnt 512 s = none → (Calls Tryz.prog 153 #[.string s] w fun e w' => e = .returned (.tuple #[.string ⟨#[]⟩, .string ⟨#[]⟩, .int .i64 1]) ∧ Below w.heap.size w w') → Calls Tryz.prog 117 #[.pointer (some ⟨p, 0, none⟩)] w fun e w' => RdSaid (Im.rCnt 512 s) Value.string p w e w' := by
    intro hu C1
    have hQ : Hid (∀ w', On p w w' → RdSaid (Im.rCnt 512 s) Value.string p w (.panicked PN) w') := fun w' h9 => rd_none hu h9
    generalize RdSaid (Im.rCnt 512 s) Value.string p w = Q at *
    clear hu h
    go_enter Tryz.func117, Tryz.ntmps117
    go_wp2_with fail
    refine C1.mono ?_
    rintro e w1 ⟨rfl, G⟩
    go_wp2_with fail
    refine (need_no _).mono ?_
    rintro e w2 ⟨rfl, rfl⟩
    go_wp2_with fail
    exact ⟨rfl, hQ.out _ (On.of G)⟩
  cases hf : Nm.from_ s.data.toList with
  | none => exact bad (Im.rCnt_none hf) (takeText_none s w hs hf)
  | some x =>
    obtain ⟨n, k⟩ := x
    by_cases hb : 512 < n ∨ s.size < k + n
    · exact bad (Im.rCnt_bad hf hb) (takeText_no s w n k hs hf hb)
    · have hu := Im.rCnt_from (m := 512) hf (by omega) (by omega)
      have C1 := takeText_yes s w n k hs hf (by omega) (by omega)
      have hQ : Hid (∀ w', On p w w' → Rdr w' p (s.extract (k + n) s.size) → RdSaid (Im.rCnt 512 s) Value.string p w (.returned (.string (s.extract k (k + n)))) w') := fun w' h9 h8 => rd_some hu h9 h8
      generalize RdSaid (Im.rCnt 512 s) Value.string p w = Q at *
      have hR : Hid (∀ w', Below w.heap.size w w' → Rdr w' p s) := fun w' h9 => h.below h9
      clear hf h hu bad hb
      generalize s.extract (k + n) s.size = r at *
      generalize s.extract k (k + n) = u at *
      go_enter Tryz.func117, Tryz.ntmps117
      go_wp2_with fail
      refine C1.mono ?_
      rintro e w1 ⟨rfl, G⟩
      go_wp2_with fail
      refine (need_yes _).mono ?_
      rintro e w2 ⟨rfl, rfl⟩
      have R1 := hR.out _ G
      have c1 := R1.c
      have f1 := R1.f
      go_wp2_with fail
      exact hQ.out _ ((On.of G).set _) (R1.set _)
end Go.Proofs.YtbjbjbpgmojcbabGreat
namespace Go.Proofs.YtbjbjbpgmojcbabGreat
open Go.RowKit
set_option maxRecDepth 4000 in
set_option maxHeartbeats 1000000 in
theorem rdCounted_any (s : ByteArray) (p : Nat) (w : World) (h : Rdr w p s) (hs : s.size ≤ 281474976710656) :
    Calls Tryz.prog 125 #[.pointer (some ⟨p, 0, none⟩)] w fun e w' => RdSaid (Im.rCnt 2147483647 s) Value.string p w e w' := by
  have C1 := number_any s p w h hs
  unfold RdSaid at C1
  cases hr : Im.rNum s with
  | none =>
    have hu : Im.rCnt 2147483647 s = none := by unfold Im.rCnt; rw [hr]
    have hQ : Hid (∀ w', On p w w' → RdSaid (Im.rCnt 2147483647 s) Value.string p w (.panicked PN) w') := fun w' h9 => rd_none hu h9
    generalize RdSaid (Im.rCnt 2147483647 s) Value.string p w = Q at *
    rw [hr] at C1
    simp only at C1
    clear hr hu h
    go_enter Tryz.func125, Tryz.ntmps125
    go_wp2_with fail
    refine C1.mono ?_
    rintro e w1 ⟨G, rfl⟩
    go_wp2_with fail
    exact ⟨rfl, hQ.out _ G⟩
  | some x =>
    obtain ⟨n, q⟩ := x
    rw [hr] at C1
    simp only at C1
    have hn := ((Im.rNum_is s n q).1 hr).1
    have hqs : q.size ≤ s.size := by
      have := congrArg List.length ((Im.rNum_is s n q).1 hr).2
      rw [List.length_append, ← Im.size_len, ← Im.size_len] at this
      omega
    by_cases hle : n ≤ q.size
    · have hu : Im.rCnt 2147483647 s = some (q.extract 0 n, q.extract n q.size) := by unfold Im.rCnt; rw [hr]; exact if_pos ⟨hn, hle⟩
      have hQ : Hid (∀ w', On p w w' → Rdr w' p (q.extract n q.size) → RdSaid (Im.rCnt 2147483647 s) Value.string p w (.returned (.string (q.extract 0 n))) w') := fun w' h9 h8 => rd_some hu h9 h8
      generalize RdSaid (Im.rCnt 2147483647 s) Value.string p w = Q at *
      have d1 : decide ((n : Int) ≤ (q.size : Int)) = true := decide_eq_true (by omega)
      have d1' : decide (n ≤ q.size) = true := decide_eq_true hle
      have hni : (n : Int) ≤ (q.size : Int) := by omega
      clear hr hu h
      go_enter Tryz.func125, Tryz.ntmps125
      go_wp2_with fail
      refine C1.mono ?_
      rintro e w1 ⟨G, rfl, R1⟩
      have c1 := R1.c
      go_wp2_with fail
      refine (need_yes _).mono ?_
      rintro e w2 ⟨rfl, rfl⟩
      go_wp2_with fail
      refine (clone_any _ _ (by simp; omega)).mono ?_
      rintro e w3 ⟨rfl, G3⟩
      have R3 := R1.below G3
      have c3 := R3.c
      have f3 := R3.f
      go_wp2_with fail
      exact hQ.out _ ((G.trans (On.of G3)).set _) (R3.set _)
    · have hu : Im.rCnt 2147483647 s = none := by unfold Im.rCnt; rw [hr]; exact if_neg (fun h9 => hle h9.2)
      have hQ : Hid (∀ w', On p w w' → RdSaid (Im.rCnt 2147483647 s) Value.string p w (.panicked PN) w') := fun w' h9 => rd_none hu h9
      generalize RdSaid (Im.rCnt 2147483647 s) Value.string p w = Q at *
      have d1 : decide ((n : Int) ≤ (q.size : Int)) = false := decide_eq_false (by omega)
      have d1' : decide (n ≤ q.size) = false := decide_eq_false hle
      clear hr hu h
      go_enter Tryz.func125, Tryz.ntmps125
      go_wp2_with fail
      refine C1.mono ?_
      rintro e w1 ⟨G, rfl, R1⟩
      have c1 := R1.c
      go_wp2_with fail
      refine (need_no _).mono ?_
      rintro e w2 ⟨rfl, rfl⟩
      go_wp2_with fail
      exact ⟨rfl, hQ.out _ G⟩
def pfx (t s : ByteArray) : Bool := decide (t.size ≤ s.size) && ((s.extract 0 t.size).toList == t.toList)
set_option maxRecDepth 4000 in
set_option maxHeartbeats 1000000 in
theorem hasPrefix_any (s t : ByteArray) (w : World) :
    Calls Tryz.prog 205 #[.string s, .string t] w fun e w' => e = .returned (.bool (pfx t s)) ∧ w' = w := by
  by_cases hle : t.size ≤ s.size
  · have d1 : decide ((s.size : Int) ≥ (t.size : Int)) = true := decide_eq_true (by omega)
    have d1' : decide (t.size ≤ s.size) = true := decide_eq_true hle
    have hi : (t.size : Int) ≤ (s.size : Int) := by omega
    have hP : Hid (pfx t s = ((s.extract 0 t.size).toList == t.toList)) := by show _ = _; unfold pfx; rw [d1', Bool.true_and]
    go_enter Tryz.func205, Tryz.ntmps205
    go_wp2_with fail
    go_ret
    exact ⟨by rw [hP.out]; rfl, rfl⟩
  · have d1 : decide ((s.size : Int) ≥ (t.size : Int)) = false := decide_eq_false (by omega)
    have d1' : decide (t.size ≤ s.size) = false := decide_eq_false hle
    have hP : Hid (pfx t s = false) := by show _ = _; unfold pfx; rw [d1', Bool.false_and]
    go_enter Tryz.func205, Tryz.ntmps205
    go_wp2_with fail
    go_ret
    exact ⟨by rw [hP.out]; rfl, rfl⟩
set_option maxRecDepth 4000 in
set_option maxHeartbeats 1000000 in
theorem liteCut_any (s t : ByteArray) (w : World) :
    Calls Tryz.prog 174 #[.string s, .string t] w fun e w' => e = .returned (.tuple #[.string (if pfx t s = true then s.extract t.size s.size else s), .bool (pfx t s)]) ∧ w' = w := by
  have C1 := hasPrefix_any s t w
  cases hp : pfx t s with
  | true =>
    have hle : t.size ≤ s.size := by
      unfold pfx at hp
      simp at hp
      exact hp.1
    have hi : (t.size : Int) ≤ (s.size : Int) := by omega
    rw [if_pos rfl]
    rw [hp] at C1
    clear hp
    go_enter Tryz.func174, Tryz.ntmps174
    go_wp2_with fail
    refine C1.mono ?_
    rintro e w1 ⟨rfl, rfl⟩
    go_wp2_with fail
    go_ret2
    exact ⟨rfl, rfl⟩
  | false =>
    rw [if_neg (by simp)]
    rw [hp] at C1
    clear hp
    go_enter Tryz.func174, Tryz.ntmps174
    go_wp2_with fail
    refine C1.mono ?_
    rintro e w1 ⟨rfl, rfl⟩
    go_wp2_with fail
    go_ret2
    exact ⟨rfl, rfl⟩
set_option maxRecDepth 4000 in
set_option maxHeartbeats 1000000 in
theorem cutPrefix_any (s t : ByteArray) (w : World) :
    Calls Tryz.prog 150 #[.string s, .string t] w fun e w' => e = .returned (.tuple #[.string (if pfx t s = true then s.extract t.size s.size else s), .bool (pfx t s)]) ∧ w' = w := by
  have C1 := liteCut_any s t w
  generalize (if pfx t s = true then s.extract t.size s.size else s) = r at *
  generalize pfx t s = b at *
  go_enter Tryz.func150, Tryz.ntmps150
  go_wp2_with fail
  refine C1.mono ?_
  rintro e w1 ⟨rfl, rfl⟩
  go_wp2_with fail
  go_ret2
  exact ⟨rfl, rfl⟩
def rMk (t s : ByteArray) : Option (Unit × ByteArray) := if pfx t s = true then some ((), s.extract t.size s.size) else none
set_option maxRecDepth 4000 in
set_option maxHeartbeats 1000000 in
theorem mark_any (s t : ByteArray) (p : Nat) (w : World) (h : Rdr w p s) :
    Calls Tryz.prog 115 #[.pointer (some ⟨p, 0, none⟩), .string t] w fun e w' => RdSaid (rMk t s) (fun _ => .tuple #[]) p w e w' := by
  have c := h.c
  have C1 := cutPrefix_any s t w
  cases hp : pfx t s with
  | true =>
    have hQ : Hid (∀ w', On p w w' → Rdr w' p (s.extract t.size s.size) → RdSaid (rMk t s) (fun _ => .tuple #[]) p w (.returned (.tuple #[])) w') := fun w' h9 h8 => rd_some (x := ()) (if_pos hp) h9 h8
    generalize RdSaid (rMk t s) (fun _ => .tuple #[]) p w = Q at *
    rw [hp, if_pos rfl] at C1
    generalize s.extract t.size s.size = r at *
    have f := h.f
    go_enter Tryz.func115, Tryz.ntmps115
    go_wp2_with fail
    refine C1.mono ?_
    rintro e w1 ⟨rfl, rfl⟩
    go_wp2_with fail
    refine (need_yes _).mono ?_
    rintro e w2 ⟨rfl, rfl⟩
    go_wp2_with fail
    go_end0
    exact hQ.out _ ((On.refl _ _).set _) (h.set _)
  | false =>
    have hQ : Hid (∀ w', On p w w' → RdSaid (rMk t s) (fun _ => .tuple #[]) p w (.panicked PN) w') := fun w' h9 => rd_none (if_neg (by rw [hp]; simp)) h9
    generalize RdSaid (rMk t s) (fun _ => .tuple #[]) p w = Q at *
    rw [hp, if_neg (by simp)] at C1
    go_enter Tryz.func115, Tryz.ntmps115
    go_wp2_with fail
    refine C1.mono ?_
    rintro e w1 ⟨rfl, rfl⟩
    go_wp2_with fail
    refine (need_no _).mono ?_
    rintro e w2 ⟨rfl, rfl⟩
    go_wp2_with fail
    exact ⟨rfl, hQ.out _ (On.refl _ _)⟩
def rEnd (s : ByteArray) : Option (Unit × ByteArray) := if s.size = 0 then some ((), s) else none
set_option maxRecDepth 4000 in
set_option maxHeartbeats 1000000 in
theorem rdEnd_any (s : ByteArray) (p : Nat) (w : World) (h : Rdr w p s) :
    Calls Tryz.prog 119 #[.pointer (some ⟨p, 0, none⟩)] w fun e w' => RdSaid (rEnd s) (fun _ => .tuple #[]) p w e w' := by
  have c := h.c
  by_cases hz : s.size = 0
  · have hQ : Hid (∀ w', On p w w' → Rdr w' p s → RdSaid (rEnd s) (fun _ => .tuple #[]) p w (.returned (.tuple #[])) w') := fun w' h9 h8 => rd_some (x := ()) (if_pos hz) h9 h8
    generalize RdSaid (rEnd s) (fun _ => .tuple #[]) p w = Q at *
    obtain rfl : s = ⟨#[]⟩ := by
      apply Nm.ba_ext
      rw [Im.size_len] at hz
      exact List.length_eq_zero_iff.1 hz
    go_enter Tryz.func119, Tryz.ntmps119
    go_wp2_with fail
    refine (need_yes _).mono ?_
    rintro e w2 ⟨rfl, rfl⟩
    go_wp2_with fail
    go_end0
    exact hQ.out _ (On.refl _ _) h
  · have hQ : Hid (∀ w', On p w w' → RdSaid (rEnd s) (fun _ => .tuple #[]) p w (.panicked PN) w') := fun w' h9 => rd_none (if_neg hz) h9
    generalize RdSaid (rEnd s) (fun _ => .tuple #[]) p w = Q at *
    have d1 : s.toList.isEmpty = false := by
      cases hl : s.toList with
      | nil => exact absurd (by rw [Im.size_len, ← ByteArray.toList_eq, hl]; rfl) hz
      | cons => rfl
    go_enter Tryz.func119, Tryz.ntmps119
    go_wp2_with fail
    refine (need_no _).mono ?_
    rintro e w2 ⟨rfl, rfl⟩
    go_wp2_with fail
    exact ⟨rfl, hQ.out _ (On.refl _ _)⟩
set_option maxRecDepth 4000 in
set_option maxHeartbeats 1000000 in
theorem sheetOn_any (s : ByteArray) (w : World) :
    Calls Tryz.prog 114 #[.string s] w fun e w' => e = .returned (.pointer (some ⟨w.heap.size, 0, none⟩)) ∧ w' = w.alloc (.cells #[.string s] 143 (0, 0)) := by
  go_enter Tryz.func114, Tryz.ntmps114
  go_wp2_with fail
  go_ret
  exact ⟨rfl, rfl⟩
end Go.Proofs.YtbjbjbpgmojcbabGreat
namespace Go.Proofs.YtbjbjbpgmojcbabGreat
open Go.RowKit
structure Wtr (B p : Nat) (w : World) (v : Value) (l : List UInt8) (er : Int) : Prop where
  hp : B ≤ p
  lt : p < w.heap.size
  c0 : w.cell? ⟨p, 0, none⟩ = some v
  c1 : w.cell? ⟨p, 1, none⟩ = some (.int .i64 er)
  f0 : w.frozen? ⟨p, 0, none⟩ = false
  f1 : w.frozen? ⟨p, 1, none⟩ = false
  own : Own8 w B v l
  ne : v.ownBlock ≠ some p
theorem Wtr.below {B p : Nat} {w w' : World} {v : Value} {l : List UInt8} {er : Int} (h : Wtr B p w v l er) (G : Below w.heap.size w w') : Wtr B p w' v l er :=
  ⟨h.hp, Nat.lt_of_lt_of_le h.lt G.size, (G.cell (p := ⟨p, 0, none⟩) h.lt).trans h.c0, (G.cell (p := ⟨p, 1, none⟩) h.lt).trans h.c1, (G.frozen (p := ⟨p, 0, none⟩) h.lt).trans h.f0, (G.frozen (p := ⟨p, 1, none⟩) h.lt).trans h.f1, h.own.below G, h.ne⟩
theorem Wtr.app {B p : Nat} {w w1 : World} {v v' : Value} {l l' : List UInt8} {er : Int} (h : Wtr B p w v l er) (A : App w w1 B v v' l') : Wtr B p (w1.setCell ⟨p, 0, none⟩ v') v' l' er ∧ Below B w (w1.setCell ⟨p, 0, none⟩ v') := by
  have hb := A.block p h.lt (fun e => h.ne e.symm)
  have k0 : w1.cell? ⟨p, 0, none⟩ = some v := (World.cell?_of_block (w := w) hb).trans h.c0
  have k1 : w1.cell? ⟨p, 1, none⟩ = some (.int .i64 er) := (World.cell?_of_block (w := w) hb).trans h.c1
  have hne : v'.ownBlock ≠ some p := fun e => by
    rcases A.at_ p e with h9 | h9
    · exact h.ne h9
    · have := h.lt; omega
  refine ⟨⟨h.hp, ?_, World.cell?_setCell_same _ _ _ k0, (World.cell?_setCell_other _ _ _ _ (by intro e; have := congrArg Addr.off e; simp at this)).trans k1, ?_, ?_, ?_, hne⟩, A.below.setCell h.hp _⟩
  · have := A.own
    have h2 := World.block_lt_of_cell? w1 _ k0
    simpa [World.setCell] using h2
  · rw [World.frozen?_setCell]; exact (World.frozen?_of_block (w := w) hb).trans h.f0
  · rw [World.frozen?_setCell]; exact (World.frozen?_of_block (w := w) hb).trans h.f1
  · exact A.own.kept (by simp [World.setCell]) (fun g hg => Below.heap_setCell _ _ _ _ (fun e => hne (by rw [hg]; exact congrArg some e)))
theorem Wtr.err {B p : Nat} {w : World} {v : Value} {l : List UInt8} {er : Int} (h : Wtr B p w v l er) (e : Int) : Wtr B p (w.setCell ⟨p, 1, none⟩ (.int .i64 e)) v l e ∧ Below B w (w.setCell ⟨p, 1, none⟩ (.int .i64 e)) := by
  refine ⟨⟨h.hp, ?_, (World.cell?_setCell_other _ _ _ _ (by intro e; have := congrArg Addr.off e; simp at this)).trans h.c0, World.cell?_setCell_same _ _ _ h.c1, ?_, ?_, ?_, h.ne⟩, (Below.refl _ _).setCell h.hp _⟩
  · have := h.lt
    simpa [World.setCell] using this
  · rw [World.frozen?_setCell]; exact h.f0
  · rw [World.frozen?_setCell]; exact h.f1
  · exact h.own.kept (by simp [World.setCell]) (fun g hg => Below.heap_setCell _ _ _ _ (fun e => h.ne (by rw [hg]; exact congrArg some e)))
theorem Own8.slice {w : World} {B : Nat} {v : Value} {l : List UInt8} (h : Own8 w B v l) : ∃ x n c, v = .slice x n c := by
  rcases h with ⟨rfl, _⟩ | ⟨g, cap, rfl, _⟩
  · exact ⟨_, _, _, rfl⟩
  · exact ⟨_, _, _, rfl⟩
theorem Own8.str {w : World} {B : Nat} {v : Value} {l : List UInt8} (h : Own8 w B v l) : (convert 93 9 v).run Tryz.prog w = .ok (.string ⟨l.toArray⟩) w := by
  rcases h with ⟨rfl, rfl⟩ | ⟨g, cap, rfl, _, _, _, _, h5, _⟩
  · exact Lib.run_convert_nil_bytes w 93 9 5 0 Tryz.underlying93 Tryz.underlying5 Tryz.underlying9
  · have := Own8.conv h5 0 cap
    simpa using this
structure WF (p : Nat) (w w' : World) (v v' : Value) : Prop where
  blk : ∀ k, k < w.heap.size → k ≠ p → v.ownBlock ≠ some k → w'.heap[k]? = w.heap[k]?
  at_ : ∀ g, v'.ownBlock = some g → v.ownBlock = some g ∨ w.heap.size ≤ g
  sz : w.heap.size ≤ w'.heap.size
theorem WF.trans {p : Nat} {a b c : World} {v1 v2 v3 : Value} (h : WF p a b v1 v2) (g : WF p b c v2 v3) : WF p a c v1 v3 := by
  refine ⟨fun k hk hp hv => (g.blk k (Nat.lt_of_lt_of_le hk h.sz) hp (fun e => ?_)).trans (h.blk k hk hp hv), fun x hx => ?_, Nat.le_trans h.sz g.sz⟩
  · rcases h.at_ k e with h9 | h9
    · exact hv h9
    · omega
  · rcases g.at_ x hx with h9 | h9
    · exact h.at_ x h9
    · exact .inr (Nat.le_trans h.sz h9)
theorem WF.of {p : Nat} {w w' : World} {v : Value} (G : Below w.heap.size w w') : WF p w w' v v := ⟨fun k hk _ _ => G.block k hk, fun _ h => .inl h, G.size⟩
theorem WF.app {B p : Nat} {w w1 : World} {v v' : Value} {l' : List UInt8} (A : App w w1 B v v' l') (hz : w.heap.size ≤ w1.heap.size) : WF p w (w1.setCell ⟨p, 0, none⟩ v') v v' :=
  ⟨fun k hk hp hv => (Below.heap_setCell _ _ _ _ hp).trans (A.block k hk (fun e => hv e.symm)), A.at_, by simpa [World.setCell] using hz⟩
theorem WF.err {p : Nat} {w : World} {v : Value} (u : Value) : WF p w (w.setCell ⟨p, 1, none⟩ u) v v := ⟨fun k _ hp _ => Below.heap_setCell _ _ _ _ hp, fun _ h => .inl h, by simp [World.setCell]⟩
def WrSaid (B p : Nat) (w : World) (v : Value) (l : List UInt8) (er : Int) (e : Ending) (w' : World) : Prop := e = .returned (.tuple #[]) ∧ Below B w w' ∧ ∃ v', Wtr B p w' v' l er ∧ WF p w w' v v'
set_option maxRecDepth 4000 in
set_option maxHeartbeats 1000000 in
theorem sheetAdd_any (B p : Nat) (w : World) (v : Value) (l : List UInt8) (er : Int) (s : ByteArray) (h : Wtr B p w v l er) (hl : l.length + s.size ≤ 140737488355328) :
    Calls Tryz.prog 111 #[.pointer (some ⟨p, 0, none⟩), .string s] w fun e w' => WrSaid B p w v (l ++ s.data.toList) er e w' := by
  have c0 := h.c0
  have hO := h.own
  have hB : B ≤ w.heap.size := Nat.le_of_lt (Nat.lt_of_le_of_lt h.hp h.lt)
  have hA : Hid (∀ v' w1, App w w1 B v v' (l ++ s.data.toList) → Wtr B p (w1.setCell ⟨p, 0, none⟩ v') v' (l ++ s.data.toList) er ∧ Below B w (w1.setCell ⟨p, 0, none⟩ v')) := fun v' w1 A => h.app A
  have hC : Hid (∀ v' w1, App w w1 B v v' (l ++ s.data.toList) → w1.cell? ⟨p, 0, none⟩ = some v ∧ w1.frozen? ⟨p, 0, none⟩ = false) := fun v' w1 A => ⟨(World.cell?_of_block (w := w) (A.block p h.lt (fun e => h.ne e.symm))).trans h.c0, (World.frozen?_of_block (w := w) (A.block p h.lt (fun e => h.ne e.symm))).trans h.f0⟩
  clear h
  go_enter Tryz.func111, Tryz.ntmps111
  go_wp2_with (at_builtin; refine wp_append8s _ rfl _ _ rfl B v l rfl hO s rfl hl hB ?_; intro v' w1 A; obtain ⟨k0, kf⟩ := hC.out _ _ A; have A2 := hA.out _ _ A; obtain ⟨x, n, c, hv⟩ := A.own.slice; subst hv)
  go_end0
  exact ⟨rfl, A2.2, _, A2.1, WF.app A A.below.size⟩
set_option maxRecDepth 4000 in
set_option maxHeartbeats 1000000 in
theorem sheetWhole_any (B p : Nat) (w : World) (v : Value) (l : List UInt8) (er : Int) (h : Wtr B p w v l er) :
    Calls Tryz.prog 112 #[.pointer (some ⟨p, 0, none⟩)] w fun e w' => e = .returned (.string ⟨l.toArray⟩) ∧ Below w.heap.size w w' := by
  have c0 := h.c0
  have hO := h.own.str
  clear h
  go_enter Tryz.func112, Tryz.ntmps112
  go_wp2_with fail
  go_ret
  exact ⟨rfl, Below.refl _ _⟩
set_option maxRecDepth 4000 in
set_option maxHeartbeats 1000000 in
theorem wKeep_any (B p : Nat) (w : World) (v : Value) (l : List UInt8) (er : Int) (s : ByteArray) (E : Int) (h : Wtr B p w v l er) (hl : l.length + s.size ≤ 140737488355328) :
    Calls Tryz.prog 120 #[.pointer (some ⟨p, 0, none⟩), .string s, .int .i64 E] w fun e w' => WrSaid B p w v (l ++ s.data.toList) (if er = 0 then E else er) e w' := by
  have c1 := h.c1
  have f1 := h.f1
  have hB : B ≤ w.heap.size := Nat.le_of_lt (Nat.lt_of_le_of_lt h.hp h.lt)
  by_cases he : er = 0
  · subst he
    rw [if_pos rfl]
    obtain ⟨h2, G⟩ := h.err E
    have C := sheetAdd_any B p _ v l E s h2 hl
    have hQ : Hid (∀ w', Below B (w.setCell ⟨p, 1, none⟩ (.int .i64 E)) w' → Below B w w') := fun w' h9 => G.trans h9
    clear h h2 G
    go_enter Tryz.func120, Tryz.ntmps120
    go_wp2_with fail
    refine C.mono ?_
    rintro e w1 ⟨rfl, G, v', h', F'⟩
    go_wp2_with fail
    go_end0
    exact ⟨rfl, hQ.out _ G, _, h', (WF.err _).trans F'⟩
  · rw [if_neg he]
    have C := sheetAdd_any B p _ v l er s h hl
    have d1 : (er == 0) = false := by simpa using he
    clear h
    go_enter Tryz.func120, Tryz.ntmps120
    go_wp2_with fail
    refine C.mono ?_
    rintro e w1 ⟨rfl, G, v', h', F'⟩
    go_wp2_with fail
    go_end0
    exact ⟨rfl, G, _, h', F'⟩
namespace Im
def nW (n : Int) : List UInt8 := if 0 ≤ n ∧ n ≤ 2147483647 then Nm.nb n.toNat else []
def nE (n : Int) : Int := if 0 ≤ n ∧ n ≤ 2147483647 then 0 else 3
def tW (s : ByteArray) : List UInt8 := if s.size ≤ 512 then tb s else []
def tE (s : ByteArray) : Int := if s.size ≤ 512 then 0 else 2
def er1 (er E : Int) : Int := if er = 0 then E else er
end Im
set_option maxRecDepth 4000 in
set_option maxHeartbeats 1000000 in
theorem wNumber_any (B p : Nat) (w : World) (v : Value) (l : List UInt8) (er n : Int) (h : Wtr B p w v l er) (hl : l.length + 5 ≤ 140737488355328) :
    Calls Tryz.prog 79 #[.pointer (some ⟨p, 0, none⟩), .int .i64 n] w fun e w' => WrSaid B p w v (l ++ Im.nW n) (Im.er1 er (Im.nE n)) e w' := by
  have hB : B ≤ w.heap.size := Nat.le_of_lt (Nat.lt_of_le_of_lt h.hp h.lt)
  have C1 : Calls Tryz.prog 121 #[.int .i64 n] w fun e w' => e = .returned (.tuple #[.string ⟨(Im.nW n).toArray⟩, .int .i64 (Im.nE n)]) ∧ Below w.heap.size w w' := by
    unfold Im.nW Im.nE
    by_cases hn : 0 ≤ n ∧ n ≤ 2147483647
    · rw [if_pos hn, if_pos hn]; exact put_yes n w hn.1 hn.2
    · rw [if_neg hn, if_neg hn]; exact put_no n w (by omega)
  have hz : (Im.nW n).length ≤ 5 := by
    unfold Im.nW
    by_cases hn : 0 ≤ n ∧ n ≤ 2147483647
    · rw [if_pos hn]; exact Nm.nb_len5 _ (by omega)
    · rw [if_neg hn]; simp
  have C2 : Hid (∀ w', Below w.heap.size w w' → Calls Tryz.prog 120 #[.pointer (some ⟨p, 0, none⟩), .string ⟨(Im.nW n).toArray⟩, .int .i64 (Im.nE n)] w' fun e w2 => WrSaid B p w' v (l ++ Im.nW n) (Im.er1 er (Im.nE n)) e w2) := fun w' h9 => by
    have := wKeep_any B p w' v l er ⟨(Im.nW n).toArray⟩ (Im.nE n) (h.below h9) (by show l.length + (Im.nW n).toArray.size ≤ _; simp; omega)
    simpa [Im.er1] using this
  generalize Im.nW n = L at *
  generalize Im.er1 er (Im.nE n) = R at *
  generalize Im.nE n = E at *
  clear h
  go_enter Tryz.func79, Tryz.ntmps79
  go_wp2_with fail
  refine C1.mono ?_
  rintro e w1 ⟨rfl, G⟩
  go_wp2_with fail
  refine (C2.out _ G).mono ?_
  rintro e w2 ⟨rfl, G2, v', h', F'⟩
  have G3 : Below B w w2 := (G.mono hB).trans G2
  have F3 := (WF.of (p := p) (v := v) G).trans F'
  go_wp2_with fail
  go_end0
  exact ⟨rfl, G3, _, h', F3⟩
set_option maxRecDepth 4000 in
set_option maxHeartbeats 1000000 in
theorem wText_any (B p : Nat) (w : World) (v : Value) (l : List UInt8) (er : Int) (s : ByteArray) (h : Wtr B p w v l er) (hl : l.length + 520 ≤ 140737488355328) (hs : s.size ≤ 281474976710656) :
    Calls Tryz.prog 80 #[.pointer (some ⟨p, 0, none⟩), .string s] w fun e w' => WrSaid B p w v (l ++ Im.tW s) (Im.er1 er (Im.tE s)) e w' := by
  have hB : B ≤ w.heap.size := Nat.le_of_lt (Nat.lt_of_le_of_lt h.hp h.lt)
  have C1 : Calls Tryz.prog 122 #[.string s] w fun e w' => e = .returned (.tuple #[.string ⟨(Im.tW s).toArray⟩, .int .i64 (Im.tE s)]) ∧ Below w.heap.size w w' := by
    unfold Im.tW Im.tE
    by_cases hn : s.size ≤ 512
    · rw [if_pos hn, if_pos hn]
      have e1 : (⟨(Im.tb s).toArray⟩ : ByteArray) = ⟨(Nm.nb s.size).toArray⟩ ++ s := by
        apply Nm.ba_ext
        simp [Im.tb]
      rw [e1]
      exact text_yes s w hn
    · rw [if_neg hn, if_neg hn]; exact text_no s w hs (by omega)
  have hz : (Im.tW s).length ≤ 520 := by
    unfold Im.tW
    by_cases hn : s.size ≤ 512
    · rw [if_pos hn]
      have := Nm.nb_len5 s.size (by omega)
      have h2 := Im.size_len s
      unfold Im.tb
      rw [List.length_append]
      omega
    · rw [if_neg hn]; simp
  have C2 : Hid (∀ w', Below w.heap.size w w' → Calls Tryz.prog 120 #[.pointer (some ⟨p, 0, none⟩), .string ⟨(Im.tW s).toArray⟩, .int .i64 (Im.tE s)] w' fun e w2 => WrSaid B p w' v (l ++ Im.tW s) (Im.er1 er (Im.tE s)) e w2) := fun w' h9 => by
    have := wKeep_any B p w' v l er ⟨(Im.tW s).toArray⟩ (Im.tE s) (h.below h9) (by show l.length + (Im.tW s).toArray.size ≤ _; simp; omega)
    simpa [Im.er1] using this
  generalize Im.tW s = L at *
  generalize Im.er1 er (Im.tE s) = R at *
  generalize Im.tE s = E at *
  clear h
  go_enter Tryz.func80, Tryz.ntmps80
  go_wp2_with fail
  refine C1.mono ?_
  rintro e w1 ⟨rfl, G⟩
  go_wp2_with fail
  refine (C2.out _ G).mono ?_
  rintro e w2 ⟨rfl, G2, v', h', F'⟩
  have G3 : Below B w w2 := (G.mono hB).trans G2
  have F3 := (WF.of (p := p) (v := v) G).trans F'
  go_wp2_with fail
  go_end0
  exact ⟨rfl, G3, _, h', F3⟩
set_option maxRecDepth 4000 in
set_option maxHeartbeats 1000000 in
theorem wCounted_any (B p : Nat) (w : World) (v : Value) (l : List UInt8) (er : Int) (s : ByteArray) (h : Wtr B p w v l er) (hl : l.length + 5 + s.size ≤ 140737488355328) :
    Calls Tryz.prog 81 #[.pointer (some ⟨p, 0, none⟩), .string s] w fun e w' => WrSaid B p w v (l ++ Im.nW (s.size : Int) ++ s.data.toList) (Im.er1 er (Im.nE (s.size : Int))) e w' := by
  have hz : (Im.nW (s.size : Int)).length ≤ 5 := by
    unfold Im.nW
    by_cases hn : 0 ≤ (s.size : Int) ∧ (s.size : Int) ≤ 2147483647
    · rw [if_pos hn]; exact Nm.nb_len5 _ (by omega)
    · rw [if_neg hn]; simp
  have C1 := wNumber_any B p w v l er (s.size : Int) h (by omega)
  have C2 : Hid (∀ w' v', Wtr B p w' v' (l ++ Im.nW (s.size : Int)) (Im.er1 er (Im.nE (s.size : Int))) → Calls Tryz.prog 111 #[.pointer (some ⟨p, 0, none⟩), .string s] w' fun e w2 => WrSaid B p w' v' (l ++ Im.nW (s.size : Int) ++ s.data.toList) (Im.er1 er (Im.nE (s.size : Int))) e w2) := fun w' v' h9 => sheetAdd_any B p w' v' _ _ s h9 (by rw [List.length_append]; omega)
  generalize Im.er1 er (Im.nE (s.size : Int)) = R at *
  generalize l ++ Im.nW (s.size : Int) ++ s.data.toList = L2 at *
  generalize l ++ Im.nW (s.size : Int) = L1 at *
  clear h hz
  go_enter Tryz.func81, Tryz.ntmps81
  go_wp2_with fail
  refine C1.mono ?_
  rintro e w1 ⟨rfl, G, v1, h1, F1⟩
  go_wp2_with fail
  refine (C2.out _ _ h1).mono ?_
  rintro e w2 ⟨rfl, G2, v', h', F'⟩
  have G3 := G.trans G2
  have F3 := F1.trans F'
  go_wp2_with fail
  go_end0
  exact ⟨rfl, G3, _, h', F3⟩
theorem below_dn (w : World) : ∀ k, Below w.heap.size w (w.drewN k)
  | 0 => Below.refl _ _
  | k + 1 => by rw [show w.drewN (k + 1) = (w.drewN k).drew from rfl]; exact (below_dn w k).drew
set_option maxRecDepth 4000 in
set_option maxHeartbeats 1000000 in
theorem wResult_any (B p : Nat) (w : World) (v : Value) (l : List UInt8) (er : Int) (h : Wtr B p w v l er) :
    Calls Tryz.prog 72 #[.pointer (some ⟨p, 0, none⟩)] w fun e w' => e = .returned (.tuple #[.string (if er = 0 then ⟨l.toArray⟩ else ⟨#[]⟩), .int .i64 er]) ∧ Below w.heap.size w w' := by
  have c1 := h.c1
  by_cases he : er = 0
  · subst he
    rw [if_pos rfl]
    have C := sheetWhole_any B p w v l 0 h
    clear h
    go_enter Tryz.func72, Tryz.ntmps72
    go_wp2_with fail
    refine C.mono ?_
    rintro e w1 ⟨rfl, G⟩
    go_wp2_with fail
    go_ret2
    exact ⟨rfl, G⟩
  · rw [if_neg he]
    have d1 : (er == 0) = false := by simpa using he
    clear h
    go_enter Tryz.func72, Tryz.ntmps72
    go_wp2_with fail
    go_quiet (fail)
    go_wp2_with fail
    go_ret2
    exact ⟨rfl, below_dn _ _⟩
end Go.Proofs.YtbjbjbpgmojcbabGreat
namespace Go.Proofs.YtbjbjbpgmojcbabGreat
open Go.RowKit
theorem rd_le {α : Type} {p : ByteArray → Option (α × ByteArray)} {enc : α → Im.B} {ok : α → Prop} (hp : Im.Rd p enc ok) {s r : ByteArray} {x : α} (h : p s = some (x, r)) : r.size ≤ s.size := by
  have := congrArg List.length ((hp s x r).1 h).2
  rw [List.length_append, ← Im.size_len, ← Im.size_len] at this
  omega
theorem On.set1 {p : Nat} {w w' : World} (h : On p w w') {b : Nat} (hb : w.heap.size ≤ b) (o : Nat) (v : Value) : On p w (w'.setCell ⟨b, o, none⟩ v) :=
  ⟨h.os, h.tape, h.output, by have := h.size; simpa [World.setCell] using this, fun k hk hne => (Below.heap_setCell _ _ _ _ (by simp; omega)).trans (h.block k hk hne)⟩
theorem On.past {p : Nat} {w w1 w' : World} (h : On p w w1) (g : On p w1 w') : On p w w' := h.trans g
structure FB (w : World) (b : Nat) (f : Nat → Value) : Prop where
  c : ∀ i, i < 5 → w.cell? ⟨b, i, none⟩ = some (f i)
  z : ∀ i, i < 5 → w.frozen? ⟨b, i, none⟩ = false
theorem FB.lt {w : World} {b : Nat} {f : Nat → Value} (h : FB w b f) : b < w.heap.size := World.block_lt_of_cell? w _ (h.c 0 (by omega))
theorem FB.on {w w' : World} {b p : Nat} {f : Nat → Value} (h : FB w b f) (g : On p w w') (hne : b ≠ p) : FB w' b f := by
  have hb := g.block b h.lt (by simp; omega)
  exact ⟨fun i hi => (World.cell?_of_block (w := w) (a := ⟨b, i, none⟩) hb).trans (h.c i hi), fun i hi => (World.frozen?_of_block (w := w) (a := ⟨b, i, none⟩) hb).trans (h.z i hi)⟩
theorem FB.set {w : World} {b : Nat} {f : Nat → Value} (h : FB w b f) (i : Nat) (hi : i < 5) (v : Value) : FB (w.setCell ⟨b, i, none⟩ v) b (fun j => if j = i then v else f j) := by
  refine ⟨fun j hj => ?_, fun j hj => by rw [World.frozen?_setCell]; exact h.z j hj⟩
  by_cases e : j = i
  · subst e; rw [if_pos rfl]; exact World.cell?_setCell_same _ _ _ (h.c j hj)
  · rw [if_neg e]; exact (World.cell?_setCell_other _ _ _ _ (by intro h9; exact e (congrArg Addr.off h9).symm)).trans (h.c j hj)
theorem FB.new (w : World) (T : TypeId) (v0 v1 v2 v3 v4 : Value) : FB (w.alloc (.cells #[v0, v1, v2, v3, v4] T (0, 0))) w.heap.size (fun j => if j = 4 then v4 else if j = 3 then v3 else if j = 2 then v2 else if j = 1 then v1 else v0) :=
  ⟨fun i hi => by
    match i, hi with
    | 0, _ => exact World.cell?_alloc_new _ _ _ 0
    | 1, _ => exact World.cell?_alloc_new _ _ _ 1
    | 2, _ => exact World.cell?_alloc_new _ _ _ 2
    | 3, _ => exact World.cell?_alloc_new _ _ _ 3
    | 4, _ => exact World.cell?_alloc_new _ _ _ 4, fun i hi => World.frozen?_alloc_at _ _ _ _ rfl⟩
theorem FB.low {w : World} {b b' : Nat} {f : Nat → Value} (h : FB w b f) (hne : b ≠ b') (o : Nat) (v : Value) : FB (w.setCell ⟨b', o, none⟩ v) b f :=
  ⟨fun i hi => (World.cell?_setCell_other _ _ _ _ (by intro e; have := congrArg Addr.block e; simp at this; omega)).trans (h.c i hi), fun i hi => by rw [World.frozen?_setCell]; exact h.z i hi⟩
theorem Rdr.low {w : World} {p b : Nat} {s : ByteArray} (h : Rdr w p s) (hne : p ≠ b) (o : Nat) (v : Value) : Rdr (w.setCell ⟨b, o, none⟩ v) p s :=
  ⟨(World.cell?_setCell_other _ _ _ _ (by intro e; have := congrArg Addr.block e; simp at this; omega)).trans h.c, by rw [World.frozen?_setCell]; exact h.f⟩
def fval (f : Ar.F) : Value := .agg #[.string f.name, .int .i64 f.dict, .int .i64 f.size, .int .i64 f.sum, .string f.blk]
set_option maxRecDepth 4000 in
set_option maxHeartbeats 2000000 in
theorem readFile_any (s : ByteArray) (p : Nat) (w : World) (h : Rdr w p s) (hs : s.size ≤ 281474976710656) :
    Calls Tryz.prog 118 #[.pointer (some ⟨p, 0, none⟩)] w fun e w' => RdSaid (Im.rFile s) fval p w e w' := by
  have hpl := h.lt
  have hN : Hid (Im.rFile s = none → ∀ w', On p w w' → RdSaid (Im.rFile s) fval p w (.panicked PN) w') := fun h9 w' h8 => rd_none h9 h8
  have hY : Hid (∀ f r, Im.rFile s = some (f, r) → ∀ w', On p w w' → Rdr w' p r → RdSaid (Im.rFile s) fval p w (.returned (fval f)) w') := fun f r h9 w' h8 h7 => rd_some h9 h8 h7
  generalize RdSaid (Im.rFile s) fval p w = Q at *
  have G0 : On p w ((w.alloc (.cells #[.string ⟨#[]⟩, .int .i64 0, .int .i64 0, .int .i64 0, .string ⟨#[]⟩] 46 (0, 0))).alloc (.cells #[.string ⟨#[]⟩, .int .i64 0, .int .i64 0, .int .i64 0, .string ⟨#[]⟩] 46 (0, 0))) := On.of (((Below.refl _ _).alloc (Nat.le_refl _) _).alloc (by simp) _)
  have F2 := (FB.new w 46 (.string ⟨#[]⟩) (.int .i64 0) (.int .i64 0) (.int .i64 0) (.string ⟨#[]⟩)).on (p := p) (On.of ((Below.refl _ _).alloc (Nat.le_refl _) (.cells #[.string ⟨#[]⟩, .int .i64 0, .int .i64 0, .int .i64 0, .string ⟨#[]⟩] 46 (0, 0)))) (by omega)
  have F3 := FB.new (w.alloc (.cells #[.string ⟨#[]⟩, .int .i64 0, .int .i64 0, .int .i64 0, .string ⟨#[]⟩] 46 (0, 0))) 46 (.string ⟨#[]⟩) (.int .i64 0) (.int .i64 0) (.int .i64 0) (.string ⟨#[]⟩)
  have R0 : Rdr ((w.alloc (.cells #[.string ⟨#[]⟩, .int .i64 0, .int .i64 0, .int .i64 0, .string ⟨#[]⟩] 46 (0, 0))).alloc (.cells #[.string ⟨#[]⟩, .int .i64 0, .int .i64 0, .int .i64 0, .string ⟨#[]⟩] 46 (0, 0))) p s := h.below (((Below.refl _ _).alloc (Nat.le_refl _) _).alloc (by simp) _)
  have e9 : (w.alloc (.cells #[.string ⟨#[]⟩, .int .i64 0, .int .i64 0, .int .i64 0, .string ⟨#[]⟩] 46 (0, 0))).heap.size = w.heap.size + 1 := by simp
  rw [e9] at F3
  clear h e9
  go_enter Tryz.func118, Tryz.ntmps118
  go_wp2_with fail
  generalize ((w.alloc (.cells #[.string ⟨#[]⟩, .int .i64 0, .int .i64 0, .int .i64 0, .string ⟨#[]⟩] 46 (0, 0))).alloc (.cells #[.string ⟨#[]⟩, .int .i64 0, .int .i64 0, .int .i64 0, .string ⟨#[]⟩] 46 (0, 0))) = w0 at *
  have C := rdText_any s p w0 R0 hs
  unfold RdSaid at C
  cases h1 : Im.rCnt 512 s with
  | none =>
    rw [h1] at C
    simp only at C
    refine C.mono ?_
    rintro e w1 ⟨G, rfl⟩
    have hq := hN.out (by simp only [Im.rFile, h1]) _ (G0.past G)
    go_wp2_with fail
    exact ⟨rfl, hq⟩
  | some x =>
    obtain ⟨nm, r1⟩ := x
    rw [h1] at C
    simp only at C
    refine C.mono ?_
    rintro e w1 ⟨G, rfl, R⟩
    have hs1 : r1.size ≤ 281474976710656 := Nat.le_trans (rd_le (Im.rCnt_is _) h1) hs
    have F2' := F2.on G (by omega)
    have F3' := F3.on G (by omega)
    obtain ⟨c, k⟩ : ∃ c, w1.cell? ⟨w.heap.size + 1, 0, none⟩ = some c := ⟨_, F3'.c 0 (by omega)⟩
    have kz := F3'.z 0 (by omega)
    have F3 := F3'.set 0 (by omega) (.string nm)
    have F2 := F2'.low (b' := w.heap.size + 1) (by omega) 0 (.string nm)
    have R1 := R.low (b := w.heap.size + 1) (by omega) 0 (.string nm)
    have G1 := (G0.past G).set1 (b := w.heap.size + 1) (by omega) 0 (.string nm)
    go_wp2_with fail
    clear F2' F3' k kz C G R
    generalize (w1.setCell ⟨w.heap.size + 1, 0, none⟩ (.string nm)) = v1 at *
    have C := number_any r1 p v1 R1 hs1
    unfold RdSaid at C
    cases h2 : Im.rNum r1 with
    | none =>
      rw [h2] at C
      simp only at C
      refine C.mono ?_
      rintro e w2 ⟨G, rfl⟩
      have hq := hN.out (by simp only [Im.rFile, h1, h2]) _ (G1.past G)
      go_wp2_with fail
      exact ⟨rfl, hq⟩
    | some x =>
      obtain ⟨d, r2⟩ := x
      rw [h2] at C
      simp only at C
      refine C.mono ?_
      rintro e w2 ⟨G, rfl, R⟩
      have hs2 : r2.size ≤ 281474976710656 := Nat.le_trans (rd_le Im.rNum_is h2) hs1
      have F2' := F2.on G (by omega)
      have F3' := F3.on G (by omega)
      obtain ⟨c, k⟩ : ∃ c, w2.cell? ⟨w.heap.size + 1, 1, none⟩ = some c := ⟨_, F3'.c 1 (by omega)⟩
      have kz := F3'.z 1 (by omega)
      have F3 := F3'.set 1 (by omega) (.int .i64 (d : Nat))
      have F2 := F2'.low (b' := w.heap.size + 1) (by omega) 1 (.int .i64 (d : Nat))
      have R2 := R.low (b := w.heap.size + 1) (by omega) 1 (.int .i64 (d : Nat))
      have G2 := (G1.past G).set1 (b := w.heap.size + 1) (by omega) 1 (.int .i64 (d : Nat))
      go_wp2_with fail
      clear F2' F3' k kz C G R
      generalize (w2.setCell ⟨w.heap.size + 1, 1, none⟩ (.int .i64 (d : Nat))) = v2 at *
      have C := number_any r2 p v2 R2 hs2
      unfold RdSaid at C
      cases h3 : Im.rNum r2 with
      | none =>
        rw [h3] at C
        simp only at C
        refine C.mono ?_
        rintro e w3 ⟨G, rfl⟩
        have hq := hN.out (by simp only [Im.rFile, h1, h2, h3]) _ (G2.past G)
        go_wp2_with fail
        exact ⟨rfl, hq⟩
      | some x =>
        obtain ⟨z, r3⟩ := x
        rw [h3] at C
        simp only at C
        refine C.mono ?_
        rintro e w3 ⟨G, rfl, R⟩
        have hs3 : r3.size ≤ 281474976710656 := Nat.le_trans (rd_le Im.rNum_is h3) hs2
        have F2' := F2.on G (by omega)
        have F3' := F3.on G (by omega)
        obtain ⟨c, k⟩ : ∃ c, w3.cell? ⟨w.heap.size + 1, 2, none⟩ = some c := ⟨_, F3'.c 2 (by omega)⟩
        have kz := F3'.z 2 (by omega)
        have F3 := F3'.set 2 (by omega) (.int .i64 (z : Nat))
        have F2 := F2'.low (b' := w.heap.size + 1) (by omega) 2 (.int .i64 (z : Nat))
        have R3 := R.low (b := w.heap.size + 1) (by omega) 2 (.int .i64 (z : Nat))
        have G3 := (G2.past G).set1 (b := w.heap.size + 1) (by omega) 2 (.int .i64 (z : Nat))
        go_wp2_with fail
        clear F2' F3' k kz C G R
        generalize (w3.setCell ⟨w.heap.size + 1, 2, none⟩ (.int .i64 (z : Nat))) = v3 at *
        have C := number_any r3 p v3 R3 hs3
        unfold RdSaid at C
        cases h4 : Im.rNum r3 with
        | none =>
          rw [h4] at C
          simp only at C
          refine C.mono ?_
          rintro e w4 ⟨G, rfl⟩
          have hq := hN.out (by simp only [Im.rFile, h1, h2, h3, h4]) _ (G3.past G)
          go_wp2_with fail
          exact ⟨rfl, hq⟩
        | some x =>
          obtain ⟨u, r4⟩ := x
          rw [h4] at C
          simp only at C
          refine C.mono ?_
          rintro e w4 ⟨G, rfl, R⟩
          have hs4 : r4.size ≤ 281474976710656 := Nat.le_trans (rd_le Im.rNum_is h4) hs3
          have F2' := F2.on G (by omega)
          have F3' := F3.on G (by omega)
          obtain ⟨c, k⟩ : ∃ c, w4.cell? ⟨w.heap.size + 1, 3, none⟩ = some c := ⟨_, F3'.c 3 (by omega)⟩
          have kz := F3'.z 3 (by omega)
          have F3 := F3'.set 3 (by omega) (.int .i64 (u : Nat))
          have F2 := F2'.low (b' := w.heap.size + 1) (by omega) 3 (.int .i64 (u : Nat))
          have R4 := R.low (b := w.heap.size + 1) (by omega) 3 (.int .i64 (u : Nat))
          have G4 := (G3.past G).set1 (b := w.heap.size + 1) (by omega) 3 (.int .i64 (u : Nat))
          go_wp2_with fail
          clear F2' F3' k kz C G R
          generalize (w4.setCell ⟨w.heap.size + 1, 3, none⟩ (.int .i64 (u : Nat))) = v4 at *
          have C := rdCounted_any r4 p v4 R4 hs4
          unfold RdSaid at C
          cases h5 : Im.rCnt 2147483647 r4 with
          | none =>
            rw [h5] at C
            simp only at C
            refine C.mono ?_
            rintro e w5 ⟨G, rfl⟩
            have hq := hN.out (by simp only [Im.rFile, h1, h2, h3, h4, h5]) _ (G4.past G)
            go_wp2_with fail
            exact ⟨rfl, hq⟩
          | some x =>
            obtain ⟨bk, r5⟩ := x
            rw [h5] at C
            simp only at C
            refine C.mono ?_
            rintro e w5 ⟨G, rfl, R⟩
            have hs5 : r5.size ≤ 281474976710656 := Nat.le_trans (rd_le (Im.rCnt_is _) h5) hs4
            have F2' := F2.on G (by omega)
            have F3' := F3.on G (by omega)
            obtain ⟨c, k⟩ : ∃ c, w5.cell? ⟨w.heap.size + 1, 4, none⟩ = some c := ⟨_, F3'.c 4 (by omega)⟩
            have kz := F3'.z 4 (by omega)
            have F3 := F3'.set 4 (by omega) (.string bk)
            have F2 := F2'.low (b' := w.heap.size + 1) (by omega) 4 (.string bk)
            have R5 := R.low (b := w.heap.size + 1) (by omega) 4 (.string bk)
            have G5 := (G4.past G).set1 (b := w.heap.size + 1) (by omega) 4 (.string bk)
            generalize hu : (w5.setCell ⟨w.heap.size + 1, 4, none⟩ (.string bk)) = v5 at *
            have y0 : v5.cell? ⟨w.heap.size + 1, 0, none⟩ = some (.string nm) := F3.c 0 (by omega)
            have y1 : v5.cell? ⟨w.heap.size + 1, 1, none⟩ = some (.int .i64 (d : Nat)) := F3.c 1 (by omega)
            have y2 : v5.cell? ⟨w.heap.size + 1, 2, none⟩ = some (.int .i64 (z : Nat)) := F3.c 2 (by omega)
            have y3 : v5.cell? ⟨w.heap.size + 1, 3, none⟩ = some (.int .i64 (u : Nat)) := F3.c 3 (by omega)
            have y4 : v5.cell? ⟨w.heap.size + 1, 4, none⟩ = some (.string bk) := F3.c 4 (by omega)
            obtain ⟨o0, q0⟩ : ∃ c, v5.cell? ⟨w.heap.size, 0, none⟩ = some c := ⟨_, F2.c 0 (by omega)⟩
            have g0 := F2.z 0 (by omega)
            obtain ⟨o1, q1⟩ : ∃ c, v5.cell? ⟨w.heap.size, 1, none⟩ = some c := ⟨_, F2.c 1 (by omega)⟩
            have g1 := F2.z 1 (by omega)
            obtain ⟨o2, q2⟩ : ∃ c, v5.cell? ⟨w.heap.size, 2, none⟩ = some c := ⟨_, F2.c 2 (by omega)⟩
            have g2 := F2.z 2 (by omega)
            obtain ⟨o3, q3⟩ : ∃ c, v5.cell? ⟨w.heap.size, 3, none⟩ = some c := ⟨_, F2.c 3 (by omega)⟩
            have g3 := F2.z 3 (by omega)
            obtain ⟨o4, q4⟩ : ∃ c, v5.cell? ⟨w.heap.size, 4, none⟩ = some c := ⟨_, F2.c 4 (by omega)⟩
            have g4 := F2.z 4 (by omega)
            have E := ((((F2.set 0 (by omega) (.string nm)).set 1 (by omega) (.int .i64 (d : Nat))).set 2 (by omega) (.int .i64 (z : Nat))).set 3 (by omega) (.int .i64 (u : Nat))).set 4 (by omega) (.string bk)
            have hq := hY.out ⟨nm, (d : Nat), (z : Nat), (u : Nat), bk⟩ r5 (by simp only [Im.rFile, h1, h2, h3, h4, h5]) _ (((((G5.set1 (b := w.heap.size) (by omega) 0 (.string nm)).set1 (b := w.heap.size) (by omega) 1 (.int .i64 (d : Nat))).set1 (b := w.heap.size) (by omega) 2 (.int .i64 (z : Nat))).set1 (b := w.heap.size) (by omega) 3 (.int .i64 (u : Nat))).set1 (b := w.heap.size) (by omega) 4 (.string bk)) (((((R5.low (b := w.heap.size) (by omega) 0 (.string nm)).low (b := w.heap.size) (by omega) 1 (.int .i64 (d : Nat))).low (b := w.heap.size) (by omega) 2 (.int .i64 (z : Nat))).low (b := w.heap.size) (by omega) 3 (.int .i64 (u : Nat))).low (b := w.heap.size) (by omega) 4 (.string bk))
            clear G0 G1 G2 G3 G4 G5 R0 R1 R2 R3 R4 R5 F2' F3' G R hN hY C h1 h2 h3 h4 h5
            go_wp2_with fail
            clear y0 y1 y2 y3 y4 q0 q1 q2 q3 q4 g0 g1 g2 g3 g4 hu
            generalize (((((v5.setCell ⟨w.heap.size, 0, none⟩ (.string nm)).setCell ⟨w.heap.size, 1, none⟩ (.int .i64 (d : Nat))).setCell ⟨w.heap.size, 2, none⟩ (.int .i64 (z : Nat))).setCell ⟨w.heap.size, 3, none⟩ (.int .i64 (u : Nat))).setCell ⟨w.heap.size, 4, none⟩ (.string bk)) = v6 at *
            have y0 : v6.cell? ⟨w.heap.size, 0, none⟩ = some (.string nm) := E.c 0 (by omega)
            have y1 : v6.cell? ⟨w.heap.size, 1, none⟩ = some (.int .i64 (d : Nat)) := E.c 1 (by omega)
            have y2 : v6.cell? ⟨w.heap.size, 2, none⟩ = some (.int .i64 (z : Nat)) := E.c 2 (by omega)
            have y3 : v6.cell? ⟨w.heap.size, 3, none⟩ = some (.int .i64 (u : Nat)) := E.c 3 (by omega)
            have y4 : v6.cell? ⟨w.heap.size, 4, none⟩ = some (.string bk) := E.c 4 (by omega)
            exact bodyPost_ret (v := .agg #[.string nm, .int .i64 (d : Nat), .int .i64 (z : Nat), .int .i64 (u : Nat), .string bk]) (by simp [results, Tryz.results118, go_sem, y0, y1, y2, y3, y4]) rfl hq
end Go.Proofs.YtbjbjbpgmojcbabGreat
namespace Go.Proofs.YtbjbjbpgmojcbabGreat
open Go.RowKit
namespace Im
def pD (a : Ar.A) (k : Nat) : B := mrk ++ (Nm.nb a.dicts.length ++ flat tb (a.dicts.take k))
def pF (a : Ar.A) (m : Nat) : B := mrk ++ (Nm.nb a.dicts.length ++ (flat tb a.dicts ++ (Nm.nb a.files.length ++ flat fileB (a.files.take m))))
theorem flat_take_le {α : Type} (enc : α → B) : ∀ (l : List α) (k : Nat), (flat enc (l.take k)).length ≤ (flat enc l).length
  | [], k => by simp [flat]
  | x :: l, 0 => by simp [flat]
  | x :: l, k + 1 => by
    have := flat_take_le enc l k
    simp only [flat, List.take_succ_cons, List.flatMap_cons, List.length_append] at this ⊢
    omega
theorem take_snoc {α : Type} (l : List α) {k : Nat} (h : k < l.length) : l.take (k + 1) = l.take k ++ [l[k]] := by rw [List.take_succ_eq_append_getElem h]
theorem pD_succ {a : Ar.A} {k : Nat} (h : k < a.dicts.length) : pD a (k + 1) = pD a k ++ tb (Tr.xa a.dicts k) := by
  unfold pD
  rw [take_snoc _ h, flat_snoc, show Tr.xa a.dicts k = a.dicts[k] by simp [Tr.xa, h]]
  simp
theorem pF_succ {a : Ar.A} {k : Nat} (h : k < a.files.length) : pF a (k + 1) = pF a k ++ fileB (Ar.fa a.files k) := by
  unfold pF
  rw [take_snoc _ h, flat_snoc, show Ar.fa a.files k = a.files[k] by simp [Ar.fa, h]]
  simp
theorem pD_all (a : Ar.A) : pD a a.dicts.length ++ Nm.nb a.files.length = pF a 0 := by
  unfold pD pF
  simp [flat]
theorem pF_all (a : Ar.A) : pF a a.files.length = imgB a := by unfold pF imgB; rw [List.take_length]
theorem pD_len (a : Ar.A) (k : Nat) : (pD a k).length ≤ (imgB a).length := by
  have := flat_take_le tb a.dicts k
  unfold pD imgB
  simp only [List.length_append]
  omega
theorem pF_len (a : Ar.A) (k : Nat) : (pF a k).length ≤ (imgB a).length := by
  have := flat_take_le fileB a.files k
  unfold pF imgB
  simp only [List.length_append]
  omega
theorem nW_ok {n : Int} (h : In n) : nW n = Nm.nb n.toNat := if_pos h
theorem nE_ok {n : Int} (h : In n) : er1 0 (nE n) = 0 := by unfold er1 nE; rw [if_pos rfl]; exact if_pos h
theorem tW_ok {s : ByteArray} (h : s.size ≤ 512) : tW s = tb s := if_pos h
theorem tE_ok {s : ByteArray} (h : s.size ≤ 512) : er1 0 (tE s) = 0 := by unfold er1 tE; rw [if_pos rfl, if_pos h]
end Im
structure Kp (wr : World) (p : Nat) (v : Value) (c : Nat) : Prop where
  lt : c < wr.heap.size
  np : c ≠ p
  nv : v.ownBlock ≠ some c
theorem Kp.next {wr w' : World} {p c : Nat} {v v' : Value} (h : Kp wr p v c) (F : WF p wr w' v v') : Kp w' p v' c ∧ w'.heap[c]? = wr.heap[c]? :=
  ⟨⟨Nat.lt_of_lt_of_le h.lt F.sz, h.np, fun e => by
    rcases F.at_ c e with h9 | h9
    · exact h.nv h9
    · have := h.lt; omega⟩, F.blk c h.lt h.np h.nv⟩
theorem Bx.blk {w w' : World} {b : Nat} {x y : Value} (h : Bx w b x y) (hb : w'.heap[b]? = w.heap[b]?) (hz : w.heap.size ≤ w'.heap.size) : Bx w' b x y :=
  ⟨(World.cell?_of_block (w := w) (a := ⟨b, 0, none⟩) hb).trans h.c0, (World.cell?_of_block (w := w) (a := ⟨b, 1, none⟩) hb).trans h.c1, (World.frozen?_of_block (w := w) (a := ⟨b, 0, none⟩) hb).trans h.f0, (World.frozen?_of_block (w := w) (a := ⟨b, 1, none⟩) hb).trans h.f1, Nat.lt_of_lt_of_le h.lt hz⟩
theorem FB.blk {w w' : World} {b : Nat} {f : Nat → Value} (h : FB w b f) (hb : w'.heap[b]? = w.heap[b]?) : FB w' b f :=
  ⟨fun i hi => (World.cell?_of_block (w := w) (a := ⟨b, i, none⟩) hb).trans (h.c i hi), fun i hi => (World.frozen?_of_block (w := w) (a := ⟨b, i, none⟩) hb).trans (h.z i hi)⟩
structure WS (w wr : World) (B p c : Nat) (v0 v : Value) (l : List UInt8) (x y : Value) : Prop where
  f : WF p w wr v0 v
  t : Wtr B p wr v l 0
  b : Below B w wr
  x : Bx wr c x y
  k : Kp wr p v c
theorem WS.call {w wr w' : World} {B p c : Nat} {v0 v : Value} {l l' : List UInt8} {x y : Value} {e : Ending} (h : WS w wr B p c v0 v l x y) (s : WrSaid B p wr v l' 0 e w') : e = .returned (.tuple #[]) ∧ ∃ v', WS w w' B p c v0 v' l' x y ∧ WF p wr w' v v' := by
  obtain ⟨he, G, v', T, F⟩ := s
  obtain ⟨K, hb⟩ := h.k.next F
  exact ⟨he, v', ⟨h.f.trans F, T, h.b.trans G, h.x.blk hb F.sz, K⟩, F⟩
theorem WS.below {w wr w' : World} {B p c : Nat} {v0 v : Value} {l : List UInt8} {x y : Value} (h : WS w wr B p c v0 v l x y) (G : Below wr.heap.size wr w') : WS w w' B p c v0 v l x y :=
  ⟨h.f.trans (WF.of G), h.t.below G, h.b.trans (G.mono (Nat.le_of_lt (Nat.lt_of_le_of_lt h.t.hp h.t.lt))), h.x.next G, ⟨Nat.lt_of_lt_of_le h.k.lt G.size, h.k.np, h.k.nv⟩⟩
set_option maxRecDepth 8000 in
set_option maxHeartbeats 4000000 in
theorem writeArchive_any (B p : Nat) (ad af : Option Addr) (cd cf : Nat) (a : Ar.A) (w : World) (v : Value) (h : Wtr B p w v [] 0) (hA : ∀ w', Below B w w' → ArV w' ad af a) (hok : Im.OkA a) (hz : (Im.imgB a).length + 1000 ≤ 140737488355328) :
    Calls Tryz.prog 71 #[.pointer (some ⟨p, 0, none⟩), av ad cd af cf a] w fun e w' => WrSaid B p w v (Im.imgB a) 0 e w' := by
  have HX : Hid (∀ w', Below B w w' → ∀ k, k < a.dicts.length → ∃ b off, ad = some ⟨b, off, none⟩ ∧ b < w'.heap.size ∧ w'.cell? ⟨b, off + k, none⟩ = some (.string (Tr.xa a.dicts k))) := fun w' hb k hk => (hA w' hb).ds.at hk
  have HFl : Hid (∀ w', Below B w w' → ∀ k, k < a.files.length → ∃ b off, af = some ⟨b, off, none⟩ ∧ b < w'.heap.size ∧ FlC w' b (off + k * 5) (Ar.fa a.files k)) := fun w' h9 k hk => (hA w' h9).fs.at hk
  have HD : Hid (∀ k, k < a.dicts.length → Im.pD a (k + 1) = Im.pD a k ++ Im.tb (Tr.xa a.dicts k) ∧ (Tr.xa a.dicts k).size ≤ 512) := fun k hk => ⟨Im.pD_succ hk, by rw [show Tr.xa a.dicts k = a.dicts[k] by simp [Tr.xa, hk]]; exact hok.ds _ (List.getElem_mem hk)⟩
  have HF : Hid (∀ k, k < a.files.length → Im.pF a (k + 1) = Im.pF a k ++ Im.fileB (Ar.fa a.files k) ∧ Im.okF (Ar.fa a.files k)) := fun k hk => ⟨Im.pF_succ hk, by rw [show Ar.fa a.files k = a.files[k] by simp [Ar.fa, hk]]; exact hok.fs _ (List.getElem_mem hk)⟩
  have HLD : Hid (∀ k, (Im.pD a k).length + 1000 ≤ 140737488355328) := fun k => by have := Im.pD_len a k; omega
  have HLF : Hid (∀ k, (Im.pF a k).length + 1000 ≤ 140737488355328) := fun k => by have := Im.pF_len a k; omega
  have H0 : Hid (Im.mrk ++ Nm.nb a.dicts.length = Im.pD a 0) := by show _ = _; unfold Im.pD; simp [Im.flat]
  have H1 : Hid (Im.pD a a.dicts.length ++ Nm.nb a.files.length = Im.pF a 0) := Im.pD_all a
  have H2 : Hid (Im.pF a a.files.length = Im.imgB a) := Im.pF_all a
  have hnd := hok.nd
  have hnf := hok.nf
  have HQ : Hid (∀ w' v' , Wtr B p w' v' (Im.imgB a) 0 → Below B w w' → WF p w w' v v' → WrSaid B p w v (Im.imgB a) 0 (.returned (.tuple #[])) w') := fun w' v' h1 h2 h3 => ⟨rfl, h2, v', h1, h3⟩
  generalize WrSaid B p w v (Im.imgB a) 0 = Q at *
  generalize Im.imgB a = IB at *
  generalize Im.pD a = pd at *
  generalize Im.pF a = pf at *
  have hB : B ≤ w.heap.size := Nat.le_of_lt (Nat.lt_of_le_of_lt h.hp h.lt)
  have hv : v.ownBlock ≠ some w.heap.size := fun e => by have := (h.own.lt _ e).2; omega
  unfold av
  have GA := alloc_below w (.cells #[.slice ad a.dicts.length cd, .slice af a.files.length cf] 25 (0, 0))
  have S0 : WS w (w.alloc (.cells #[.slice ad a.dicts.length cd, .slice af a.files.length cf] 25 (0, 0))) B p w.heap.size v v [] (.slice ad a.dicts.length cd) (.slice af a.files.length cf) := ⟨WF.of GA, h.below GA, GA.mono hB, Bx.new _ _ _, ⟨by simp, by have := h.lt; omega, hv⟩⟩
  have hDI : Im.In (a.dicts.length : Int) := ⟨by omega, by omega⟩
  have hNI : Im.In (a.files.length : Int) := ⟨by omega, by omega⟩
  have hnb := Nm.nb_len5 a.dicts.length (by omega)
  clear h hA hok GA hv hB
  generalize a.dicts.length = D at *
  generalize a.files.length = N at *
  go_enter Tryz.func71, Tryz.ntmps71
  go_wp2_with fail
  generalize (w.alloc (.cells #[.slice ad D cd, .slice af N cf] 25 (0, 0))) = w0 at *
  generalize w.heap.size = c at *
  have C := sheetAdd_any B p w0 v [] 0 ⟨#[112, 114, 101, 115, 115]⟩ S0.t (by simp; decide)
  refine C.mono ?_
  intro e w1 hs1
  obtain ⟨rfl, v1, S1, _⟩ := S0.call hs1
  clear hs1 C S0
  have x0 := S1.x.c0
  have x1 := S1.x.c1
  go_wp2_with fail
  have C := wNumber_any B p w1 v1 _ 0 (D : Int) S1.t (by decide)
  rw [Im.nW_ok hDI, Im.nE_ok hDI, Int.toNat_natCast, show ([] ++ (⟨#[112, 114, 101, 115, 115]⟩ : ByteArray).data.toList ++ Nm.nb D) = pd 0 from H0.out] at C
  refine C.mono ?_
  intro e w2 hs1
  obtain ⟨rfl, v2, S2, _⟩ := S1.call hs1
  clear hs1 C S1 x0 x1
  have x0 := S2.x.c0
  have x1 := S2.x.c1
  go_wp2_with fail
  clear x0 x1
  go_loopw [20] (fun i wr => ∃ (k : Nat) (v1 : Value), k ≤ D ∧ i = .int .i64 k ∧ WS w wr B p c v v1 (pd k) (.slice ad D cd) (.slice af N cf)) (fun i _ => D - (intOf i).toNat)
  case atStart => exact ⟨0, _, by omega, rfl, S2⟩
  case round =>
    clear S2
    obtain ⟨k, v1, hk2, rfl, S3⟩ := hrel
    by_cases hlt : k < D
    · have d1 : decide ((k : Int) < (D : Int)) = true := decide_eq_true (by omega)
      have d1' : decide (k < D) = true := decide_eq_true hlt
      have hki : (k : Int) < (D : Int) := by omega
      obtain ⟨b, off, rfl, hbl, hcell⟩ := HX.out wr S3.b k hlt
      obtain ⟨e1, e2⟩ := HD.out k hlt
      have e3 := HLD.out k
      generalize Tr.xa a.dicts k = X at *
      go_wp2_with fail
      have C := wText_any B p wr v1 _ 0 X S3.t (by omega) (by omega)
      rw [Im.tW_ok e2, Im.tE_ok e2, ← e1] at C
      refine C.mono ?_
      intro e w3 hs1
      obtain ⟨rfl, v3, S4, _⟩ := S3.call hs1
      clear hs1 C S3
      go_wp2_with fail
      go_roundw
      case rel => exact ⟨k + 1, _, by omega, by go_num, S4⟩
      case measure => simp [intOf]; omega
    · obtain rfl : k = D := by omega
      have d1 : decide ((k : Int) < (k : Int)) = false := by simp
      have d1' : decide (k < k) = false := by simp
      have x0 := S3.x.c0
      have x1 := S3.x.c1
      have e3 := HLD.out k
      go_wp2_with fail
      have C := wNumber_any B p wr v1 _ 0 (N : Int) S3.t (by omega)
      rw [Im.nW_ok hNI, Im.nE_ok hNI, Int.toNat_natCast, H1.out] at C
      refine C.mono ?_
      intro e w3 hs1
      obtain ⟨rfl, v3, S4, _⟩ := S3.call hs1
      clear hs1 C S3 x0 x1
      have x0 := S4.x.c0
      have x1 := S4.x.c1
      go_wp2_with fail
      clear x0 x1 e3
      go_loopw [36] (fun i wr => ∃ (m : Nat) (v1 : Value), m ≤ N ∧ i = .int .i64 m ∧ WS w wr B p c v v1 (pf m) (.slice ad k cd) (.slice af N cf)) (fun i _ => N - (intOf i).toNat)
      case atStart => exact ⟨0, _, by omega, rfl, S4⟩
      case round =>
        clear S4
        obtain ⟨m, u0, hm2, rfl, T0⟩ := hrel
        by_cases hlt : m < N
        · have d2 : decide ((m : Int) < (N : Int)) = true := decide_eq_true (by omega)
          have d2' : decide (m < N) = true := decide_eq_true hlt
          have hmi : (m : Int) < (N : Int) := by omega
          obtain ⟨b, off, rfl, hbl, c0, c1, c2, c3, c4⟩ := HFl.out wr T0.b m hlt
          obtain ⟨e1, o0, o1, o2, o3, o4⟩ := HF.out m hlt
          have e3 := HLF.out (m + 1)
          rw [e1] at e3
          unfold Im.fileB at e1 e3
          simp only [List.length_append] at e3
          have HE : Hid (_ = _) := e1
          clear e1
          generalize (Ar.fa a.files m).name = f0 at *
          generalize (Ar.fa a.files m).dict = f1 at *
          generalize (Ar.fa a.files m).size = f2 at *
          generalize (Ar.fa a.files m).sum = f3 at *
          generalize (Ar.fa a.files m).blk = f4 at *
          have oN : Im.In (f4.size : Int) := ⟨by omega, by omega⟩
          have n0 : (Im.tb f0).length = (Nm.nb f0.size).length + f0.size := by unfold Im.tb; rw [List.length_append, ← Im.size_len]
          have n4 : (Im.tb f4).length = (Nm.nb f4.size).length + f4.size := by unfold Im.tb; rw [List.length_append, ← Im.size_len]
          have GF := alloc_below wr (.cells #[.string f0, .int .i64 f1, .int .i64 f2, .int .i64 f3, .string f4] 46 (0, 0))
          have T1 := T0.below GF
          have FB0 := FB.new wr 46 (.string f0) (.int .i64 f1) (.int .i64 f2) (.int .i64 f3) (.string f4)
          have K0 : Kp (wr.alloc (.cells #[.string f0, .int .i64 f1, .int .i64 f2, .int .i64 f3, .string f4] 46 (0, 0))) p u0 wr.heap.size := ⟨by simp, by have := T0.t.lt; omega, fun e => by have := (T0.t.own.lt _ e).2; omega⟩
          go_wp2_with fail
          clear T0 GF c0 c1 c2 c3 c4
          generalize (wr.alloc (.cells #[.string f0, .int .i64 f1, .int .i64 f2, .int .i64 f3, .string f4] 46 (0, 0))) = z0 at *
          generalize wr.heap.size = bF at *
          have C := wText_any B p z0 u0 _ 0 f0 T1.t (by omega) (by omega)
          rw [Im.tW_ok o0, Im.tE_ok o0] at C
          refine C.mono ?_
          intro e z1 hs1
          obtain ⟨rfl, v19, T2, F⟩ := T1.call hs1
          obtain ⟨K1, hbk⟩ := K0.next F
          have FB1 := FB0.blk hbk
          clear hs1 C T1 K0 hbk F FB0
          have y : z1.cell? ⟨bF, 1, none⟩ = some (.int .i64 f1) := FB1.c 1 (by omega)
          go_wp2_with fail
          clear y
          have C := wNumber_any B p z1 v19 _ 0 f1 T2.t (by simp only [List.length_append]; omega)
          rw [Im.nW_ok o1, Im.nE_ok o1] at C
          refine C.mono ?_
          intro e z2 hs1
          obtain ⟨rfl, v29, T3, F⟩ := T2.call hs1
          obtain ⟨K2, hbk⟩ := K1.next F
          have FB2 := FB1.blk hbk
          clear hs1 C T2 K1 hbk F FB1
          have y : z2.cell? ⟨bF, 2, none⟩ = some (.int .i64 f2) := FB2.c 2 (by omega)
          go_wp2_with fail
          clear y
          have C := wNumber_any B p z2 v29 _ 0 f2 T3.t (by simp only [List.length_append]; omega)
          rw [Im.nW_ok o2, Im.nE_ok o2] at C
          refine C.mono ?_
          intro e z3 hs1
          obtain ⟨rfl, v39, T4, F⟩ := T3.call hs1
          obtain ⟨K3, hbk⟩ := K2.next F
          have FB3 := FB2.blk hbk
          clear hs1 C T3 K2 hbk F FB2
          have y : z3.cell? ⟨bF, 3, none⟩ = some (.int .i64 f3) := FB3.c 3 (by omega)
          go_wp2_with fail
          clear y
          have C := wNumber_any B p z3 v39 _ 0 f3 T4.t (by simp only [List.length_append]; omega)
          rw [Im.nW_ok o3, Im.nE_ok o3] at C
          refine C.mono ?_
          intro e z4 hs1
          obtain ⟨rfl, v49, T5, F⟩ := T4.call hs1
          obtain ⟨K4, hbk⟩ := K3.next F
          have FB4 := FB3.blk hbk
          clear hs1 C T4 K3 hbk F FB3
          have y : z4.cell? ⟨bF, 4, none⟩ = some (.string f4) := FB4.c 4 (by omega)
          go_wp2_with fail
          clear y
          have C := wCounted_any B p z4 v49 _ 0 f4 T5.t (by simp only [List.length_append]; omega)
          rw [Im.nW_ok oN, Im.nE_ok oN, Int.toNat_natCast] at C
          refine C.mono ?_
          intro e z5 hs1
          obtain ⟨rfl, v59, T6, F⟩ := T5.call hs1
          obtain ⟨K5, hbk⟩ := K4.next F
          have FB5 := FB4.blk hbk
          clear hs1 C T5 K4 hbk F FB4
          have hl : Hid (pf (m + 1) = pf m ++ Im.tb f0 ++ Nm.nb f1.toNat ++ Nm.nb f2.toNat ++ Nm.nb f3.toNat ++ Nm.nb f4.size ++ f4.data.toList) := by show _ = _; rw [HE.out]; simp only [Im.tb, List.append_assoc]
          rw [← hl.out] at T6
          clear hl HE
          go_wp2_with fail
          go_roundw
          case rel => exact ⟨m + 1, _, by omega, by go_num, T6⟩
          case measure => simp [intOf]; omega
        · obtain rfl : m = N := by omega
          have d2 : decide ((m : Int) < (m : Int)) = false := by simp
          have d2' : decide (m < m) = false := by simp
          rw [H2.out] at T0
          have hq := HQ.out _ _ T0.t T0.b T0.f
          go_wp2_with fail
          go_end0
          exact hq
end Go.Proofs.YtbjbjbpgmojcbabGreat
namespace Go.Proofs.YtbjbjbpgmojcbabGreat
namespace Cd
theorem wrt_small {f : Nat → Int} {s : ByteArray} (h : (wrt f s).2 = 0) : (wrt f s).1.size ≤ 5000 := by
  unfold wrt at h ⊢
  by_cases hc : chk f ≠ 0
  · rw [if_pos hc] at h; exact absurd h hc
  · rw [if_neg hc] at h ⊢
    by_cases hs : 1024 < s.size
    · rw [if_pos hs] at h; simp at h
    · rw [if_neg hs] at h ⊢
      cases hw : wrK f s s.size with
      | none => rw [hw] at h; simp at h
      | some bs =>
        simp only
        have := wrK_len (chk_zero (by simpa using hc)).1 _ _ hw
        rw [size_pk]
        omega
theorem rd_small {f : Nat → Int} {b : ByteArray} {n : Int} (h : (rd f b n).2 = 0) : b.size ≤ 5000 := by
  have h1 := (wrt_rd h).1
  have h2 := wrt_small (f := f) (s := (rd f b n).1) (by rw [h1])
  rw [h1] at h2
  exact h2
end Cd
namespace Bk
theorem dec_small {s : ByteArray} (h : (dec s).2 = 0) : s.size ≤ 6000 := by
  unfold dec at h
  by_cases h8 : s.size < 8
  · omega
  · rw [if_neg h8] at h
    cases hq : Nm.from_ (s.extract 8 s.size).data.toList with
    | none => rw [hq] at h; simp at h
    | some x =>
      obtain ⟨n, k⟩ := x
      rw [hq] at h
      simp only at h
      by_cases h0 : (Cd.rd (pt (s.extract 0 8)) ((s.extract 8 s.size).extract k (s.extract 8 s.size).size) (n : Nat)).2 = 0
      · have := Cd.rd_small h0
        have hk := Nm.nb_from hq
        simp only [ext_size] at this
        omega
      · rw [if_neg h0] at h; simp at h
theorem unp_small {dict b : ByteArray} (h : (unp dict b).2 = 0) : b.size ≤ 7000 := by
  have hx : (b.extract 1 b.size).size = b.size - 1 := by rw [ext_size]; omega
  unfold unp at h
  by_cases hd : 256 < dict.size
  · rw [if_pos hd] at h; simp at h
  · rw [if_neg hd] at h
    by_cases hb : b.size = 0
    · omega
    · rw [if_neg hb] at h
      by_cases h0 : Cd.at8 b 0 = 0
      · rw [if_pos h0] at h
        unfold whl at h
        by_cases h5 : 512 < (b.extract 1 b.size).size
        · rw [if_pos h5] at h; simp at h
        · omega
      · rw [if_neg h0] at h
        by_cases h1 : Cd.at8 b 0 = 1
        · rw [if_pos h1] at h
          unfold ply at h
          by_cases h5 : 1024 < (b.extract 1 b.size).size
          · rw [read_long0 (by omega) h5] at h; simp at h
          · omega
        · rw [if_neg h1] at h
          by_cases h2 : Cd.at8 b 0 = 2
          · rw [if_pos h2] at h
            by_cases h3 : (dec (b.extract 1 b.size)).2 = 0
            · have := dec_small h3
              omega
            · rw [if_neg h3] at h; exact absurd h h3
          · rw [if_neg h2] at h; simp at h
end Bk
end Go.Proofs.YtbjbjbpgmojcbabGreat
