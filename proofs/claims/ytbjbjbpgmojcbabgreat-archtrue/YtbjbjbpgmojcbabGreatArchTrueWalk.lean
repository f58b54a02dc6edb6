/- A part of the proof: what it leans on. -/
import Derived.Test.YtbjbjbpgmojcbabGreatBook13
namespace Go.Proofs.YtbjbjbpgmojcbabGreat
open Go.RowKit
theorem rng_parts {b : Ar.A} {name text : ByteArray} {i n : Int} (hg : Ar.getE b name = 0) (ht : Ar.getT b name = text) (h : Ar.rngE b name i n = 0) : 0 ≤ i ∧ 0 ≤ n ∧ i + n ≤ (text.size : Int) ∧ Ar.rngT b name i n = text.extract i.toNat (i.toNat + n.toNat) := by
  have h2 := h
  unfold Ar.rngE at h
  rw [if_neg (fun h9 => h9 hg), ht] at h
  by_cases hc : 0 ≤ i ∧ 0 ≤ n ∧ i + n ≤ (text.size : Int)
  · refine ⟨hc.1, hc.2.1, hc.2.2, ?_⟩
    unfold Ar.rngT
    rw [if_pos h2, ht]
  · rw [if_neg hc] at h; cases h
set_option maxRecDepth 8000 in
set_option maxHeartbeats 8000000 in
theorem archTrue_any (ad af : Option Addr) (cd cf : Nat) (a : Ar.A) (name text : ByteArray) (dict : Int) (other : ByteArray) (i n : Int) (w : World) (h : ArV w ad af a) (hs : SaneA a) (hn : name.size ≤ 140737488355328) (ht : text.size ≤ 140737488355328) (_ho : other.size ≤ 140737488355328) (hi : -9223372036854775808 ≤ i ∧ i ≤ 9223372036854775807) (hk : -9223372036854775808 ≤ n ∧ n ≤ 9223372036854775807) (hM : Mx w) :
    Calls Tryz.prog 6 #[av ad cd af cf a, .string name, .string text, .int .i64 dict, .string other, .int .i64 i, .int .i64 n] w fun e w' => e = .returned (.bool true) ∧ Below w.heap.size w w' := by
  have C1 : Hid (∀ w', Below w.heap.size w w' → Calls Tryz.prog 13 #[av ad cd af cf a, .string name, .string text, .int .i64 dict] w' fun e w2 => ArSaid w' (Ar.putA a name text dict) (Ar.putE a name text dict) e w2) := fun w' h9 => archPut_any ad af cd cf a name text dict w' (h.below h9) hs hn ht
  have C2 : Hid (∀ w', Below w.heap.size w w' → Calls Tryz.prog 21 #[av ad cd af cf a, .string other] w' fun e w2 => e = .returned (.tuple #[.string (Ar.getT a other), .int .i64 (Ar.getE a other)]) ∧ Below w'.heap.size w' w2) := fun w' h9 => archGet_any ad af cd cf a other w' (h.below h9) hs
  have C3 : Hid (∀ w', Below w.heap.size w w' → Calls Tryz.prog 14 #[av ad cd af cf a, .string name] w' fun e w2 => ArSaid w' (Ar.dropA a name) (Ar.getE a name) e w2) := fun w' h9 => archDrop_any ad af cd cf a name w' (h.below h9) hs
  have C5 : Hid (∀ w', Below w.heap.size w w' → Calls Tryz.prog 17 #[] w' fun e w2 => e = .returned (.bool true) ∧ Below w'.heap.size w' w2) := fun w' h9 => archBegun_any w' (hM.below h9)
  have sB : SaneA (Ar.putA a name text dict) := hs.put hn
  have sC : SaneA (Ar.dropA a name) := hs.drop name
  have K1 : Hid (∀ w' x y p q o, ArV w' x y (Ar.putA a name text dict) → Calls Tryz.prog 21 #[av x p y q (Ar.putA a name text dict), .string o] w' fun e w2 => e = .returned (.tuple #[.string (Ar.getT (Ar.putA a name text dict) o), .int .i64 (Ar.getE (Ar.putA a name text dict) o)]) ∧ Below w'.heap.size w' w2) := fun w' x y p q o hv => archGet_any x y p q _ o w' hv sB
  have K2 : Hid (∀ w' x y p q, ArV w' x y (Ar.putA a name text dict) → Calls Tryz.prog 22 #[av x p y q (Ar.putA a name text dict), .string name, .int .i64 i, .int .i64 n] w' fun e w2 => e = .returned (.tuple #[.string (Ar.rngT (Ar.putA a name text dict) name i n), .int .i64 (Ar.rngE (Ar.putA a name text dict) name i n)]) ∧ Below w'.heap.size w' w2) := fun w' x y p q hv => archRange_any x y p q _ name i n w' hv sB hi hk
  have K3 : Hid (∀ w' x y p q, ArV w' x y (Ar.putA a name text dict) → Calls Tryz.prog 18 #[av x p y q (Ar.putA a name text dict)] w' fun e w2 => e = .returned (.int .i64 (Ar.chk (Ar.putA a name text dict))) ∧ Below w'.heap.size w' w2) := fun w' x y p q hv => archCheck_any x y p q _ w' hv sB
  have K4 : Hid (∀ w' x y p q o, ArV w' x y (Ar.dropA a name) → Calls Tryz.prog 21 #[av x p y q (Ar.dropA a name), .string o] w' fun e w2 => e = .returned (.tuple #[.string (Ar.getT (Ar.dropA a name) o), .int .i64 (Ar.getE (Ar.dropA a name) o)]) ∧ Below w'.heap.size w' w2) := fun w' x y p q o hv => archGet_any x y p q _ o w' hv sC
  have P1 : Hid (Ar.putE a name text dict = 0 → Ar.getE (Ar.putA a name text dict) name = 0 ∧ Ar.getT (Ar.putA a name text dict) name = text ∧ Ar.chk (Ar.putA a name text dict) = 0) := fun h9 => ⟨(Ar.get_put h9).1, (Ar.get_put h9).2, Ar.chk_put h9⟩
  have P2 : Hid (Ar.putE a name text dict = 0 → other ≠ name → Ar.getE (Ar.putA a name text dict) other = Ar.getE a other ∧ Ar.getT (Ar.putA a name text dict) other = Ar.getT a other) := fun h9 h8 => Ar.get_put_other h9 h8
  have P3 : Hid (Ar.getE a name = 0 → Ar.getE (Ar.dropA a name) name = 5) := fun h9 => Ar.get_drop h9
  have P4 : Hid (Ar.getE a name = 0 → other ≠ name → Ar.getE (Ar.dropA a name) other = Ar.getE a other ∧ Ar.getT (Ar.dropA a name) other = Ar.getT a other) := fun h9 h8 => Ar.get_drop_other h9 h8
  have P5 : Hid (Ar.putE a name text dict = 0 → Ar.rngE (Ar.putA a name text dict) name i n = 0 → 0 ≤ i ∧ 0 ≤ n ∧ i + n ≤ (text.size : Int) ∧ Ar.rngT (Ar.putA a name text dict) name i n = text.extract i.toNat (i.toNat + n.toNat)) := fun h9 h8 => rng_parts (Ar.get_put h9).1 (Ar.get_put h9).2 h8
  have O1 : Hid (∀ (w : World) (e : Ending) (w' : World), ArSaid w (Ar.putA a name text dict) (Ar.putE a name text dict) e w' → ∃ x p y q, e = .returned (.tuple #[.agg #[.slice x (Ar.putA a name text dict).dicts.length p, .slice y (Ar.putA a name text dict).files.length q], .int .i64 (Ar.putE a name text dict)]) ∧ ArV w' x y (Ar.putA a name text dict) ∧ Below w.heap.size w w') := fun _ _ _ h => h.open
  have O2 : Hid (∀ (w : World) (e : Ending) (w' : World), ArSaid w (Ar.dropA a name) (Ar.getE a name) e w' → ∃ x p y q, e = .returned (.tuple #[.agg #[.slice x (Ar.dropA a name).dicts.length p, .slice y (Ar.dropA a name).files.length q], .int .i64 (Ar.getE a name)]) ∧ ArV w' x y (Ar.dropA a name) ∧ Below w.heap.size w w') := fun _ _ _ h => h.open
  clear h hs sB sC hM hn
  unfold av at C1 C2 C3 K1 K2 K3 K4 ⊢
  generalize Ar.putA a name text dict = b at *
  generalize Ar.putE a name text dict = pe at *
  generalize Ar.dropA a name = c at *
  generalize Ar.getE a name = de at *
  generalize Ar.getT a other = ot at *
  generalize Ar.getE a other = oe at *
  generalize a.dicts.length = D at *
  generalize a.files.length = N at *
  generalize b.dicts.length = D1 at *
  generalize b.files.length = N1 at *
  generalize c.dicts.length = D2 at *
  generalize c.files.length = N2 at *
  go_enter Tryz.func6, Tryz.ntmps6
  go_wp2_with fail
  have X1 := Bx.new w (.slice ad D cd) (.slice af N cf)
  have B1 := alloc_below w (.cells #[.slice ad D cd, .slice af N cf] 25 (0, 0))
  generalize (w.alloc (.cells #[.slice ad D cd, .slice af N cf] 25 (0, 0))) = w1 at *
  refine (C1.out _ B1).mono ?_
  intro e w2 h1
  obtain ⟨x1, p1, y1, q1, rfl, V1, G⟩ := O1.out _ _ _ h1
  have X2 := X1.next G
  have B2 := bch B1 G (Nat.le_refl _)
  clear G X1 B1 C1 h1
  have GA := alloc_below w2 (.cells #[.slice x1 D1 p1, .slice y1 N1 q1] 25 (0, 0))
  have Y1 := Bx.new w2 (.slice x1 D1 p1) (.slice y1 N1 q1)
  have X3 := X2.next GA
  have V2 := V1.below GA
  have B3 := bch B2 GA (Nat.le_refl _)
  have x0 := X2.c0
  have x1' := X2.c1
  have hxl := X2.lt
  clear GA V1 X2
  go_wp2_with fail
  clear x0 x1' hxl
  generalize (w2.alloc (.cells #[.slice x1 D1 p1, .slice y1 N1 q1] 25 (0, 0))) = w3 at *
  generalize w2.heap.size = bb at *
  refine (C2.out _ B3).mono ?_
  rintro e w4 ⟨rfl, G⟩
  have X4 := X3.next G
  have Y2 := Y1.next G
  have V3 := V2.below G
  have B4 := bch B3 G (Nat.le_refl _)
  clear G X3 Y1 V2 B3 C2
  by_cases hR : other = name
  · subst hR
    by_cases hp : pe = 0
    · obtain ⟨g1, g2, g3⟩ := P1.out hp
      have K1n : Hid (∀ w' x y p q, ArV w' x y b → Calls Tryz.prog 21 #[.agg #[.slice x D1 p, .slice y N1 q], .string other] w' fun e w2 => e = .returned (.tuple #[.string text, .int .i64 0]) ∧ Below w'.heap.size w' w2) := fun w' x y p q hv => by have := K1.out w' x y p q other hv; rw [g1, g2] at this; exact this
      have K3n : Hid (∀ w' x y p q, ArV w' x y b → Calls Tryz.prog 18 #[.agg #[.slice x D1 p, .slice y N1 q]] w' fun e w2 => e = .returned (.int .i64 0) ∧ Below w'.heap.size w' w2) := fun w' x y p q hv => by have := K3.out w' x y p q hv; rw [g3] at this; exact this
      have P6 := P5.out hp
      clear P5 P1 P2 g1 g2 g3 K1 K3
      subst hp
      generalize Ar.rngT b other i n = rt at *
      generalize Ar.rngE b other i n = re at *
      have y0 := Y2.c0
      have y1' := Y2.c1
      go_wp2_with fail
      refine (K1n.out _ _ _ _ _ V3).mono ?_
      rintro e w5 ⟨rfl, G⟩
      have X5 := X4.next G
      have Y3 := Y2.next G
      have V4 := V3.below G
      have B5 := bch B4 G (Nat.le_refl _)
      clear G X4 Y2 V3 B4 y0 y1'
      have y0 := Y3.c0
      have y1' := Y3.c1
      go_wp2_with fail
      refine (K1n.out _ _ _ _ _ V4).mono ?_
      rintro e w6 ⟨rfl, G⟩
      have X6 := X5.next G
      have Y4 := Y3.next G
      have V5 := V4.below G
      have B6 := bch B5 G (Nat.le_refl _)
      clear G X5 Y3 V4 B5 y0 y1'
      have y0 := Y4.c0
      have y1' := Y4.c1
      go_wp2_with fail
      refine (K2.out _ _ _ _ _ V5).mono ?_
      rintro e w7 ⟨rfl, G⟩
      have X7 := X6.next G
      have Y5 := Y4.next G
      have V6 := V5.below G
      have B7 := bch B6 G (Nat.le_refl _)
      clear G X6 Y4 V5 B6 y0 y1' K2
      have y0 := Y5.c0
      have y1' := Y5.c1
      go_wp2_with fail
      refine (K3n.out _ _ _ _ _ V6).mono ?_
      rintro e w8 ⟨rfl, G⟩
      have X8 := X7.next G
      have B8 := bch B7 G (Nat.le_refl _)
      clear G X7 Y5 V6 B7 y0 y1' K3n
      by_cases hre : re = 0
      · obtain ⟨r1, r2, r3, r4⟩ := P6 hre
        obtain ⟨p, rfl⟩ := Int.eq_ofNat_of_zero_le r1
        obtain ⟨q, rfl⟩ := Int.eq_ofNat_of_zero_le r2
        simp only [Int.toNat_natCast] at r4
        subst r4 hre
        have u1 : decide ((p : Int) < 0) = false := decide_eq_false (by omega)
        have u2 : decide ((q : Int) < 0) = false := decide_eq_false (by omega)
        have u3 : IntKind.i64.wrap ((p : Int) + (q : Int)) = (p : Int) + (q : Int) := IntWalk.i64_in _ ⟨by omega, by omega⟩
        have u4 : decide ((text.size : Int) < (p : Int) + (q : Int)) = false := decide_eq_false (by omega)
        have u5 : p + q ≤ text.size := by omega
        clear P6
        have x0 := X8.c0
        have x1' := X8.c1
        go_wp2_with fail
        refine (C3.out _ B8).mono ?_
        intro e v1 h1
        obtain ⟨x2, p2, y2, q2, rfl, U1, G⟩ := O2.out _ _ _ h1
        have B20 := bch B8 G (Nat.le_refl _)
        clear G h1 x0 x1' C3 O2
        by_cases hd : de = 0
        · have hk5 := P3.out hd
          have dd : (de == 0) = true := by simpa using hd
          have dd' : (de != 0) = false := by simpa using hd
          have GA := alloc_below v1 (.cells #[.slice x2 D2 p2, .slice y2 N2 q2] 25 (0, 0))
          have Z1 := Bx.new v1 (.slice x2 D2 p2) (.slice y2 N2 q2)
          have U2 := U1.below GA
          have B21 := bch B20 GA (Nat.le_refl _)
          have K4n : Hid (∀ w' x y p q, ArV w' x y c → Calls Tryz.prog 21 #[.agg #[.slice x D2 p, .slice y N2 q], .string other] w' fun e w2 => e = .returned (.tuple #[.string (Ar.getT c other), .int .i64 5]) ∧ Below w'.heap.size w' w2) := fun w' x y p q hv => by have := K4.out w' x y p q other hv; rw [hk5] at this; exact this
          clear hk5 K4 P4 P3
          generalize Ar.getT c other = cn at *
          clear GA U1 B20
          go_wp2_with fail
          generalize (v1.alloc (.cells #[.slice x2 D2 p2, .slice y2 N2 q2] 25 (0, 0))) = v2 at *
          generalize v1.heap.size = bc at *
          refine (K4n.out _ _ _ _ _ U2).mono ?_
          rintro e v3 ⟨rfl, G⟩
          have Z2 := Z1.next G
          have U3 := U2.below G
          have B22 := bch B21 G (Nat.le_refl _)
          clear G Z1 U2 B21
          have z0 := Z2.c0
          have z1 := Z2.c1
          go_wp2_with fail
          refine (K4n.out _ _ _ _ _ U3).mono ?_
          rintro e v4 ⟨rfl, G⟩
          have B23 := bch B22 G (Nat.le_refl _)
          clear G B22 z0 z1 Z2 U3
          go_wp2_with fail
          refine (C5.out _ B23).mono ?_
          rintro e v5 ⟨rfl, G⟩
          have B24 := bch B23 G (Nat.le_refl _)
          clear G B23
          go_wp2_with fail
          go_ret
          exact ⟨rfl, B24⟩
        · have dd : (de == 0) = false := by simpa using hd
          have dd' : (de != 0) = true := by simpa using hd
          go_wp2_with fail
          refine (C5.out _ (bch B20 (alloc_below v1 _) (Nat.le_refl _))).mono ?_
          rintro e v5 ⟨rfl, G⟩
          have B24 := bch (bch B20 (alloc_below v1 _) (Nat.le_refl _)) G (Nat.le_refl _)
          go_wp2_with fail
          go_ret
          exact ⟨rfl, B24⟩
      · have u1 : (re == 0) = false := by simpa using hre
        clear P6
        have x0 := X8.c0
        have x1' := X8.c1
        go_wp2_with fail
        refine (C3.out _ B8).mono ?_
        intro e v1 h1
        obtain ⟨x2, p2, y2, q2, rfl, U1, G⟩ := O2.out _ _ _ h1
        have B20 := bch B8 G (Nat.le_refl _)
        clear G h1 x0 x1' C3 O2
        by_cases hd : de = 0
        · have hk5 := P3.out hd
          have dd : (de == 0) = true := by simpa using hd
          have dd' : (de != 0) = false := by simpa using hd
          have GA := alloc_below v1 (.cells #[.slice x2 D2 p2, .slice y2 N2 q2] 25 (0, 0))
          have Z1 := Bx.new v1 (.slice x2 D2 p2) (.slice y2 N2 q2)
          have U2 := U1.below GA
          have B21 := bch B20 GA (Nat.le_refl _)
          have K4n : Hid (∀ w' x y p q, ArV w' x y c → Calls Tryz.prog 21 #[.agg #[.slice x D2 p, .slice y N2 q], .string other] w' fun e w2 => e = .returned (.tuple #[.string (Ar.getT c other), .int .i64 5]) ∧ Below w'.heap.size w' w2) := fun w' x y p q hv => by have := K4.out w' x y p q other hv; rw [hk5] at this; exact this
          clear hk5 K4 P4 P3
          generalize Ar.getT c other = cn at *
          clear GA U1 B20
          go_wp2_with fail
          generalize (v1.alloc (.cells #[.slice x2 D2 p2, .slice y2 N2 q2] 25 (0, 0))) = v2 at *
          generalize v1.heap.size = bc at *
          refine (K4n.out _ _ _ _ _ U2).mono ?_
          rintro e v3 ⟨rfl, G⟩
          have Z2 := Z1.next G
          have U3 := U2.below G
          have B22 := bch B21 G (Nat.le_refl _)
          clear G Z1 U2 B21
          have z0 := Z2.c0
          have z1 := Z2.c1
          go_wp2_with fail
          refine (K4n.out _ _ _ _ _ U3).mono ?_
          rintro e v4 ⟨rfl, G⟩
          have B23 := bch B22 G (Nat.le_refl _)
          clear G B22 z0 z1 Z2 U3
          go_wp2_with fail
          refine (C5.out _ B23).mono ?_
          rintro e v5 ⟨rfl, G⟩
          have B24 := bch B23 G (Nat.le_refl _)
          clear G B23
          go_wp2_with fail
          go_ret
          exact ⟨rfl, B24⟩
        · have dd : (de == 0) = false := by simpa using hd
          have dd' : (de != 0) = true := by simpa using hd
          go_wp2_with fail
          refine (C5.out _ (bch B20 (alloc_below v1 _) (Nat.le_refl _))).mono ?_
          rintro e v5 ⟨rfl, G⟩
          have B24 := bch (bch B20 (alloc_below v1 _) (Nat.le_refl _)) G (Nat.le_refl _)
          go_wp2_with fail
          go_ret
          exact ⟨rfl, B24⟩
    · have pp : (pe == 0) = false := by simpa using hp
      clear P5 P1 P2 K1 K2 K3 V3 Y2
      have x0 := X4.c0
      have x1' := X4.c1
      go_wp2_with fail
      refine (C3.out _ B4).mono ?_
      intro e v1 h1
      obtain ⟨x2, p2, y2, q2, rfl, U1, G⟩ := O2.out _ _ _ h1
      have B20 := bch B4 G (Nat.le_refl _)
      clear G h1 x0 x1' C3 O2
      by_cases hd : de = 0
      · have hk5 := P3.out hd
        have dd : (de == 0) = true := by simpa using hd
        have dd' : (de != 0) = false := by simpa using hd
        have GA := alloc_below v1 (.cells #[.slice x2 D2 p2, .slice y2 N2 q2] 25 (0, 0))
        have Z1 := Bx.new v1 (.slice x2 D2 p2) (.slice y2 N2 q2)
        have U2 := U1.below GA
        have B21 := bch B20 GA (Nat.le_refl _)
        have K4n : Hid (∀ w' x y p q, ArV w' x y c → Calls Tryz.prog 21 #[.agg #[.slice x D2 p, .slice y N2 q], .string other] w' fun e w2 => e = .returned (.tuple #[.string (Ar.getT c other), .int .i64 5]) ∧ Below w'.heap.size w' w2) := fun w' x y p q hv => by have := K4.out w' x y p q other hv; rw [hk5] at this; exact this
        clear hk5 K4 P4 P3
        generalize Ar.getT c other = cn at *
        clear GA U1 B20
        go_wp2_with fail
        generalize (v1.alloc (.cells #[.slice x2 D2 p2, .slice y2 N2 q2] 25 (0, 0))) = v2 at *
        generalize v1.heap.size = bc at *
        refine (K4n.out _ _ _ _ _ U2).mono ?_
        rintro e v3 ⟨rfl, G⟩
        have Z2 := Z1.next G
        have U3 := U2.below G
        have B22 := bch B21 G (Nat.le_refl _)
        clear G Z1 U2 B21
        have z0 := Z2.c0
        have z1 := Z2.c1
        go_wp2_with fail
        refine (K4n.out _ _ _ _ _ U3).mono ?_
        rintro e v4 ⟨rfl, G⟩
        have B23 := bch B22 G (Nat.le_refl _)
        clear G B22 z0 z1 Z2 U3
        go_wp2_with fail
        refine (C5.out _ B23).mono ?_
        rintro e v5 ⟨rfl, G⟩
        have B24 := bch B23 G (Nat.le_refl _)
        clear G B23
        go_wp2_with fail
        go_ret
        exact ⟨rfl, B24⟩
      · have dd : (de == 0) = false := by simpa using hd
        have dd' : (de != 0) = true := by simpa using hd
        go_wp2_with fail
        refine (C5.out _ (bch B20 (alloc_below v1 _) (Nat.le_refl _))).mono ?_
        rintro e v5 ⟨rfl, G⟩
        have B24 := bch (bch B20 (alloc_below v1 _) (Nat.le_refl _)) G (Nat.le_refl _)
        go_wp2_with fail
        go_ret
        exact ⟨rfl, B24⟩
  · have hbe := ba_beq other name
    rw [decide_eq_false hR] at hbe
    by_cases hp : pe = 0
    · obtain ⟨g1, g2, g3⟩ := P1.out hp
      have K1n : Hid (∀ w' x y p q, ArV w' x y b → Calls Tryz.prog 21 #[.agg #[.slice x D1 p, .slice y N1 q], .string name] w' fun e w2 => e = .returned (.tuple #[.string text, .int .i64 0]) ∧ Below w'.heap.size w' w2) := fun w' x y p q hv => by have := K1.out w' x y p q name hv; rw [g1, g2] at this; exact this
      have K1o : Hid (∀ w' x y p q, ArV w' x y b → Calls Tryz.prog 21 #[.agg #[.slice x D1 p, .slice y N1 q], .string other] w' fun e w2 => e = .returned (.tuple #[.string ot, .int .i64 oe]) ∧ Below w'.heap.size w' w2) := fun w' x y p q hv => by have := K1.out w' x y p q other hv; rw [(P2.out hp hR).1, (P2.out hp hR).2] at this; exact this
      have K3n : Hid (∀ w' x y p q, ArV w' x y b → Calls Tryz.prog 18 #[.agg #[.slice x D1 p, .slice y N1 q]] w' fun e w2 => e = .returned (.int .i64 0) ∧ Below w'.heap.size w' w2) := fun w' x y p q hv => by have := K3.out w' x y p q hv; rw [g3] at this; exact this
      have P6 := P5.out hp
      clear P5 P1 P2 g1 g2 g3 K1 K3
      subst hp
      generalize Ar.rngT b name i n = rt at *
      generalize Ar.rngE b name i n = re at *
      have y0 := Y2.c0
      have y1' := Y2.c1
      go_wp2_with fail
      refine (K1n.out _ _ _ _ _ V3).mono ?_
      rintro e w5 ⟨rfl, G⟩
      have X5 := X4.next G
      have Y3 := Y2.next G
      have V4 := V3.below G
      have B5 := bch B4 G (Nat.le_refl _)
      clear G X4 Y2 V3 B4 y0 y1'
      have y0 := Y3.c0
      have y1' := Y3.c1
      go_wp2_with fail
      refine (K1o.out _ _ _ _ _ V4).mono ?_
      rintro e w6 ⟨rfl, G⟩
      have X6 := X5.next G
      have Y4 := Y3.next G
      have V5 := V4.below G
      have B6 := bch B5 G (Nat.le_refl _)
      clear G X5 Y3 V4 B5 y0 y1'
      have y0 := Y4.c0
      have y1' := Y4.c1
      go_wp2_with fail
      refine (K2.out _ _ _ _ _ V5).mono ?_
      rintro e w7 ⟨rfl, G⟩
      have X7 := X6.next G
      have Y5 := Y4.next G
      have V6 := V5.below G
      have B7 := bch B6 G (Nat.le_refl _)
      clear G X6 Y4 V5 B6 y0 y1' K2
      have y0 := Y5.c0
      have y1' := Y5.c1
      go_wp2_with fail
      refine (K3n.out _ _ _ _ _ V6).mono ?_
      rintro e w8 ⟨rfl, G⟩
      have X8 := X7.next G
      have B8 := bch B7 G (Nat.le_refl _)
      clear G X7 Y5 V6 B7 y0 y1' K3n
      by_cases hre : re = 0
      · obtain ⟨r1, r2, r3, r4⟩ := P6 hre
        obtain ⟨p, rfl⟩ := Int.eq_ofNat_of_zero_le r1
        obtain ⟨q, rfl⟩ := Int.eq_ofNat_of_zero_le r2
        simp only [Int.toNat_natCast] at r4
        subst r4 hre
        have u1 : decide ((p : Int) < 0) = false := decide_eq_false (by omega)
        have u2 : decide ((q : Int) < 0) = false := decide_eq_false (by omega)
        have u3 : IntKind.i64.wrap ((p : Int) + (q : Int)) = (p : Int) + (q : Int) := IntWalk.i64_in _ ⟨by omega, by omega⟩
        have u4 : decide ((text.size : Int) < (p : Int) + (q : Int)) = false := decide_eq_false (by omega)
        have u5 : p + q ≤ text.size := by omega
        clear P6
        have x0 := X8.c0
        have x1' := X8.c1
        go_wp2_with fail
        refine (C3.out _ B8).mono ?_
        intro e v1 h1
        obtain ⟨x2, p2, y2, q2, rfl, U1, G⟩ := O2.out _ _ _ h1
        have B20 := bch B8 G (Nat.le_refl _)
        clear G h1 x0 x1' C3 O2
        by_cases hd : de = 0
        · have hk5 := P3.out hd
          have dd : (de == 0) = true := by simpa using hd
          have dd' : (de != 0) = false := by simpa using hd
          have GA := alloc_below v1 (.cells #[.slice x2 D2 p2, .slice y2 N2 q2] 25 (0, 0))
          have Z1 := Bx.new v1 (.slice x2 D2 p2) (.slice y2 N2 q2)
          have U2 := U1.below GA
          have B21 := bch B20 GA (Nat.le_refl _)
          obtain ⟨k1, k2⟩ := P4.out hd hR
          have K4n : Hid (∀ w' x y p q, ArV w' x y c → Calls Tryz.prog 21 #[.agg #[.slice x D2 p, .slice y N2 q], .string name] w' fun e w2 => e = .returned (.tuple #[.string (Ar.getT c name), .int .i64 5]) ∧ Below w'.heap.size w' w2) := fun w' x y p q hv => by have := K4.out w' x y p q name hv; rw [hk5] at this; exact this
          have K4o : Hid (∀ w' x y p q, ArV w' x y c → Calls Tryz.prog 21 #[.agg #[.slice x D2 p, .slice y N2 q], .string other] w' fun e w2 => e = .returned (.tuple #[.string ot, .int .i64 oe]) ∧ Below w'.heap.size w' w2) := fun w' x y p q hv => by have := K4.out w' x y p q other hv; rw [k1, k2] at this; exact this
          clear k1 k2 hk5 K4 P4 P3
          generalize Ar.getT c name = cn at *
          clear GA U1 B20
          go_wp2_with fail
          generalize (v1.alloc (.cells #[.slice x2 D2 p2, .slice y2 N2 q2] 25 (0, 0))) = v2 at *
          generalize v1.heap.size = bc at *
          refine (K4n.out _ _ _ _ _ U2).mono ?_
          rintro e v3 ⟨rfl, G⟩
          have Z2 := Z1.next G
          have U3 := U2.below G
          have B22 := bch B21 G (Nat.le_refl _)
          clear G Z1 U2 B21
          have z0 := Z2.c0
          have z1 := Z2.c1
          go_wp2_with fail
          refine (K4o.out _ _ _ _ _ U3).mono ?_
          rintro e v4 ⟨rfl, G⟩
          have B23 := bch B22 G (Nat.le_refl _)
          clear G B22 z0 z1 Z2 U3
          go_wp2_with fail
          refine (C5.out _ B23).mono ?_
          rintro e v5 ⟨rfl, G⟩
          have B24 := bch B23 G (Nat.le_refl _)
          clear G B23
          go_wp2_with fail
          go_ret
          exact ⟨rfl, B24⟩
        · have dd : (de == 0) = false := by simpa using hd
          have dd' : (de != 0) = true := by simpa using hd
          go_wp2_with fail
          refine (C5.out _ (bch B20 (alloc_below v1 _) (Nat.le_refl _))).mono ?_
          rintro e v5 ⟨rfl, G⟩
          have B24 := bch (bch B20 (alloc_below v1 _) (Nat.le_refl _)) G (Nat.le_refl _)
          go_wp2_with fail
          go_ret
          exact ⟨rfl, B24⟩
      · have u1 : (re == 0) = false := by simpa using hre
        clear P6
        have x0 := X8.c0
        have x1' := X8.c1
        go_wp2_with fail
        refine (C3.out _ B8).mono ?_
        intro e v1 h1
        obtain ⟨x2, p2, y2, q2, rfl, U1, G⟩ := O2.out _ _ _ h1
        have B20 := bch B8 G (Nat.le_refl _)
        clear G h1 x0 x1' C3 O2
        by_cases hd : de = 0
        · have hk5 := P3.out hd
          have dd : (de == 0) = true := by simpa using hd
          have dd' : (de != 0) = false := by simpa using hd
          have GA := alloc_below v1 (.cells #[.slice x2 D2 p2, .slice y2 N2 q2] 25 (0, 0))
          have Z1 := Bx.new v1 (.slice x2 D2 p2) (.slice y2 N2 q2)
          have U2 := U1.below GA
          have B21 := bch B20 GA (Nat.le_refl _)
          obtain ⟨k1, k2⟩ := P4.out hd hR
          have K4n : Hid (∀ w' x y p q, ArV w' x y c → Calls Tryz.prog 21 #[.agg #[.slice x D2 p, .slice y N2 q], .string name] w' fun e w2 => e = .returned (.tuple #[.string (Ar.getT c name), .int .i64 5]) ∧ Below w'.heap.size w' w2) := fun w' x y p q hv => by have := K4.out w' x y p q name hv; rw [hk5] at this; exact this
          have K4o : Hid (∀ w' x y p q, ArV w' x y c → Calls Tryz.prog 21 #[.agg #[.slice x D2 p, .slice y N2 q], .string other] w' fun e w2 => e = .returned (.tuple #[.string ot, .int .i64 oe]) ∧ Below w'.heap.size w' w2) := fun w' x y p q hv => by have := K4.out w' x y p q other hv; rw [k1, k2] at this; exact this
          clear k1 k2 hk5 K4 P4 P3
          generalize Ar.getT c name = cn at *
          clear GA U1 B20
          go_wp2_with fail
          generalize (v1.alloc (.cells #[.slice x2 D2 p2, .slice y2 N2 q2] 25 (0, 0))) = v2 at *
          generalize v1.heap.size = bc at *
          refine (K4n.out _ _ _ _ _ U2).mono ?_
          rintro e v3 ⟨rfl, G⟩
          have Z2 := Z1.next G
          have U3 := U2.below G
          have B22 := bch B21 G (Nat.le_refl _)
          clear G Z1 U2 B21
          have z0 := Z2.c0
          have z1 := Z2.c1
          go_wp2_with fail
          refine (K4o.out _ _ _ _ _ U3).mono ?_
          rintro e v4 ⟨rfl, G⟩
          have B23 := bch B22 G (Nat.le_refl _)
          clear G B22 z0 z1 Z2 U3
          go_wp2_with fail
          refine (C5.out _ B23).mono ?_
          rintro e v5 ⟨rfl, G⟩
          have B24 := bch B23 G (Nat.le_refl _)
          clear G B23
          go_wp2_with fail
          go_ret
          exact ⟨rfl, B24⟩
        · have dd : (de == 0) = false := by simpa using hd
          have dd' : (de != 0) = true := by simpa using hd
          go_wp2_with fail
          refine (C5.out _ (bch B20 (alloc_below v1 _) (Nat.le_refl _))).mono ?_
          rintro e v5 ⟨rfl, G⟩
          have B24 := bch (bch B20 (alloc_below v1 _) (Nat.le_refl _)) G (Nat.le_refl _)
          go_wp2_with fail
          go_ret
          exact ⟨rfl, B24⟩
    · have pp : (pe == 0) = false := by simpa using hp
      clear P5 P1 P2 K1 K2 K3 V3 Y2
      have x0 := X4.c0
      have x1' := X4.c1
      go_wp2_with fail
      refine (C3.out _ B4).mono ?_
      intro e v1 h1
      obtain ⟨x2, p2, y2, q2, rfl, U1, G⟩ := O2.out _ _ _ h1
      have B20 := bch B4 G (Nat.le_refl _)
      clear G h1 x0 x1' C3 O2
      by_cases hd : de = 0
      · have hk5 := P3.out hd
        have dd : (de == 0) = true := by simpa using hd
        have dd' : (de != 0) = false := by simpa using hd
        have GA := alloc_below v1 (.cells #[.slice x2 D2 p2, .slice y2 N2 q2] 25 (0, 0))
        have Z1 := Bx.new v1 (.slice x2 D2 p2) (.slice y2 N2 q2)
        have U2 := U1.below GA
        have B21 := bch B20 GA (Nat.le_refl _)
        obtain ⟨k1, k2⟩ := P4.out hd hR
        have K4n : Hid (∀ w' x y p q, ArV w' x y c → Calls Tryz.prog 21 #[.agg #[.slice x D2 p, .slice y N2 q], .string name] w' fun e w2 => e = .returned (.tuple #[.string (Ar.getT c name), .int .i64 5]) ∧ Below w'.heap.size w' w2) := fun w' x y p q hv => by have := K4.out w' x y p q name hv; rw [hk5] at this; exact this
        have K4o : Hid (∀ w' x y p q, ArV w' x y c → Calls Tryz.prog 21 #[.agg #[.slice x D2 p, .slice y N2 q], .string other] w' fun e w2 => e = .returned (.tuple #[.string ot, .int .i64 oe]) ∧ Below w'.heap.size w' w2) := fun w' x y p q hv => by have := K4.out w' x y p q other hv; rw [k1, k2] at this; exact this
        clear k1 k2 hk5 K4 P4 P3
        generalize Ar.getT c name = cn at *
        clear GA U1 B20
        go_wp2_with fail
        generalize (v1.alloc (.cells #[.slice x2 D2 p2, .slice y2 N2 q2] 25 (0, 0))) = v2 at *
        generalize v1.heap.size = bc at *
        refine (K4n.out _ _ _ _ _ U2).mono ?_
        rintro e v3 ⟨rfl, G⟩
        have Z2 := Z1.next G
        have U3 := U2.below G
        have B22 := bch B21 G (Nat.le_refl _)
        clear G Z1 U2 B21
        have z0 := Z2.c0
        have z1 := Z2.c1
        go_wp2_with fail
        refine (K4o.out _ _ _ _ _ U3).mono ?_
        rintro e v4 ⟨rfl, G⟩
        have B23 := bch B22 G (Nat.le_refl _)
        clear G B22 z0 z1 Z2 U3
        go_wp2_with fail
        refine (C5.out _ B23).mono ?_
        rintro e v5 ⟨rfl, G⟩
        have B24 := bch B23 G (Nat.le_refl _)
        clear G B23
        go_wp2_with fail
        go_ret
        exact ⟨rfl, B24⟩
      · have dd : (de == 0) = false := by simpa using hd
        have dd' : (de != 0) = true := by simpa using hd
        go_wp2_with fail
        refine (C5.out _ (bch B20 (alloc_below v1 _) (Nat.le_refl _))).mono ?_
        rintro e v5 ⟨rfl, G⟩
        have B24 := bch (bch B20 (alloc_below v1 _) (Nat.le_refl _)) G (Nat.le_refl _)
        go_wp2_with fail
        go_ret
        exact ⟨rfl, B24⟩
end Go.Proofs.YtbjbjbpgmojcbabGreat
