/- A part of the proof: what it leans on. -/
import Derived.Test.YtbjbjbpgmojcbabGreatBook13
import Derived.Test.YtbjbjbpgmojcbabGreatBook14
namespace Go.Proofs.YtbjbjbpgmojcbabGreat
open Go.RowKit
theorem hid_of {p : Prop} (h : p) : Hid p := h
def Ar.anyK (fs : List Ar.F) (n : Int) : Nat → Bool
  | 0 => false
  | k + 1 => Ar.anyK fs n k || decide ((Ar.fa fs k).dict = n)
theorem anyK_is {fs : List Ar.F} {n : Int} : ∀ {k : Nat}, k ≤ fs.length → (Ar.anyK fs n k = (fs.take k).any fun f => decide (f.dict = n))
  | 0, _ => by simp [Ar.anyK]
  | k + 1, h => by
    rw [Ar.anyK, anyK_is (by omega), Ar.take_succ' (by omega), List.any_append]
    simp
theorem anyK_used {a : Ar.A} {n : Int} : Ar.anyK a.files n a.files.length = Ar.used a n := by
  rw [anyK_is (Nat.le_refl _), List.take_length]; rfl
set_option maxRecDepth 8000 in
set_option maxHeartbeats 8000000 in
theorem archStays_any (ad af : Option Addr) (cd cf : Nat) (a : Ar.A) (size : Int) (name : ByteArray) (w : World) (h : ArV w ad af a) (hs : SaneA a) (_hn : name.size ≤ 140737488355328) (hM : Mx w) :
    Calls Tryz.prog 7 #[av ad cd af cf a, .int .i64 size, .string name] w fun e w' => e = .returned (.bool true) ∧ Below w.heap.size w w' := by
  have C1 : Hid (∀ w', Below w.heap.size w w' → Calls Tryz.prog 21 #[av ad cd af cf a, .string name] w' fun e w2 => e = .returned (.tuple #[.string (Ar.getT a name), .int .i64 (Ar.getE a name)]) ∧ Below w'.heap.size w' w2) := fun w' h9 => archGet_any ad af cd cf a name w' (h.below h9) hs
  have C2 : Hid (∀ w', Below w.heap.size w w' → Calls Tryz.prog 25 #[av ad cd af cf a, .int .i64 size] w' fun e w2 => ArSaid w' (Ar.retA a size) (Ar.retE a size) e w2) := fun w' h9 => archRetrain_any ad af cd cf a size w' (h.below h9) hs (hM.below h9)
  have C3 : Hid (∀ w', Below w.heap.size w w' → Calls Tryz.prog 26 #[av ad cd af cf a] w' fun e w2 => ArSaid w' (Ar.cmpA a) (Ar.chk a) e w2) := fun w' h9 => archCompact_any ad af cd cf a w' (h.below h9) hs
  have C4 : Hid (∀ w', Below w.heap.size w w' → Calls Tryz.prog 27 #[av ad cd af cf a] w' fun e w2 => e = .returned (.tuple #[.int .i64 (Ar.szN a : Nat), .int .i64 (Ar.chk a)]) ∧ Below w'.heap.size w' w2) := fun w' h9 => archSize_any ad af cd cf a w' (h.below h9) hs
  have C5 : Hid (∀ w', Below w.heap.size w w' → Calls Tryz.prog 17 #[] w' fun e w2 => e = .returned (.bool true) ∧ Below w'.heap.size w' w2) := fun w' h9 => archBegun_any w' (hM.below h9)
  have sB : SaneA (Ar.retA a size) := hs.ret size
  have sC : SaneA (Ar.cmpA a) := hs.cmp
  have K1 : Hid (Ar.retE a size = 0 → ∀ w' x y p q, ArV w' x y (Ar.retA a size) → Calls Tryz.prog 21 #[av x p y q (Ar.retA a size), .string name] w' fun e w2 => e = .returned (.tuple #[.string (Ar.getT a name), .int .i64 (Ar.getE a name)]) ∧ Below w'.heap.size w' w2) := fun h9 w' x y p q hv => by
    have := archGet_any x y p q _ name w' hv sB
    rw [(Ar.get_ret h9 name).1, (Ar.get_ret h9 name).2] at this
    exact this
  have K2 : Hid (Ar.chk a = 0 → ∀ w' x y p q, ArV w' x y (Ar.cmpA a) → Calls Tryz.prog 21 #[av x p y q (Ar.cmpA a), .string name] w' fun e w2 => e = .returned (.tuple #[.string (Ar.getT a name), .int .i64 (Ar.getE a name)]) ∧ Below w'.heap.size w' w2) := fun h9 w' x y p q hv => by
    have := archGet_any x y p q _ name w' hv sC
    rw [(Ar.get_cmp h9 name).1, (Ar.get_cmp h9 name).2] at this
    exact this
  have K3 : Hid (Ar.chk a = 0 → ∀ w' x y p q, ArV w' x y (Ar.cmpA a) → Calls Tryz.prog 27 #[av x p y q (Ar.cmpA a)] w' fun e w2 => e = .returned (.tuple #[.int .i64 (Ar.szN (Ar.cmpA a) : Nat), .int .i64 0]) ∧ Below w'.heap.size w' w2) := fun h9 w' x y p q hv => by
    have := archSize_any x y p q _ w' hv sC
    rw [Ar.chk_cmp h9] at this
    exact this
  have K4 : Hid (Ar.chk a = 0 → ∀ w' x y p q, ArV w' x y (Ar.cmpA a) → Calls Tryz.prog 26 #[av x p y q (Ar.cmpA a)] w' fun e w2 => ArSaid w' (Ar.cmpA a) 0 e w2) := fun h9 w' x y p q hv => by
    have := archCompact_any x y p q _ w' hv sC
    rw [Ar.chk_cmp h9, Ar.cmp_again h9] at this
    exact this
  have K5 : Hid (∀ w' x y p q x' y' p' q', ArV w' x y (Ar.cmpA a) → ArV w' x' y' (Ar.cmpA a) → Calls Tryz.prog 20 #[av x p y q (Ar.cmpA a), av x' p' y' q' (Ar.cmpA a)] w' fun e w2 => e = .returned (.bool true) ∧ Below w'.heap.size w' w2) := fun w' x y p q x' y' p' q' hv hv' => same_any x y x' y' p q p' q' _ w' hv hv' sC.nd sC.nf
  have P1 : Hid (Ar.chk a = 0 → Ar.szN (Ar.cmpA a) ≤ Ar.szN a ∧ Ar.szN a ≤ 9223372036854775807 ∧ (Ar.cmpA a).dicts.length ≤ 4 ∧ (Ar.cmpA a).files.length ≤ 12) := fun h9 => by
    obtain ⟨m1, m2, _⟩ := Ar.many_iff.1 (Ar.chk_zero.1 h9).1
    obtain ⟨n1, n2, _⟩ := Ar.many_iff.1 (Ar.chk_zero.1 (Ar.chk_cmp h9)).1
    have k1 := Ar.szD_le hs.ds a.dicts.length
    have k2 := Ar.szF_le hs.bk a.files.length
    have k3 := Ar.sz_cmp h9
    have e1 : Ar.szN a = Ar.sz a := by unfold Ar.szN; rw [if_pos h9]
    have e2 : Ar.szN (Ar.cmpA a) = Ar.sz (Ar.cmpA a) := by unfold Ar.szN; rw [if_pos (Ar.chk_cmp h9)]
    have e3 : Ar.sz a = Ar.szD a.dicts a.dicts.length + Ar.szF a.files a.files.length := rfl
    rw [e1, e2]
    exact ⟨k3, by omega, n1, n2⟩
  have P2 : Hid (Ar.chk a = 0 → ∀ x : Nat, 1 ≤ x → x ≤ (Ar.cmpA a).dicts.length → Ar.anyK (Ar.cmpA a).files (x : Nat) (Ar.cmpA a).files.length = true) := fun h9 x h1 h2 => by rw [anyK_used]; exact Ar.cmp_used h9 h1 h2
  have O1 : Hid (∀ (w : World) (e : Ending) (w' : World), ArSaid w (Ar.retA a size) (Ar.retE a size) e w' → ∃ x p y q, e = .returned (.tuple #[.agg #[.slice x (Ar.retA a size).dicts.length p, .slice y (Ar.retA a size).files.length q], .int .i64 (Ar.retE a size)]) ∧ ArV w' x y (Ar.retA a size) ∧ Below w.heap.size w w') := fun _ _ _ h => h.open
  have O2 : Hid (∀ (E : Int) (w : World) (e : Ending) (w' : World), ArSaid w (Ar.cmpA a) E e w' → ∃ x p y q, e = .returned (.tuple #[.agg #[.slice x (Ar.cmpA a).dicts.length p, .slice y (Ar.cmpA a).files.length q], .int .i64 E]) ∧ ArV w' x y (Ar.cmpA a) ∧ Below w.heap.size w w') := fun _ _ _ _ h => h.open
  have HFl : Hid (∀ (w' : World) x y, ArV w' x y (Ar.cmpA a) → ∀ k, k < (Ar.cmpA a).files.length → ∃ b off, y = some ⟨b, off, none⟩ ∧ b < w'.heap.size ∧ FlC w' b (off + k * 5) (Ar.fa (Ar.cmpA a).files k)) := fun w' x y hv k hk => hv.fs.at hk
  clear h hs sB sC hM
  unfold av at C1 C2 C3 C4 K1 K2 K3 K4 K5 ⊢
  generalize Ar.retA a size = b at *
  generalize Ar.retE a size = pe at *
  generalize Ar.cmpA a = c at *
  generalize Ar.chk a = de at *
  generalize Ar.getT a name = ot at *
  generalize Ar.getE a name = oe at *
  generalize Ar.szN a = sa at *
  generalize Ar.szN c = sc at *
  generalize a.dicts.length = D at *
  generalize a.files.length = N at *
  generalize b.dicts.length = D1 at *
  generalize b.files.length = N1 at *
  generalize c.dicts.length = D2 at *
  generalize c.files.length = N2 at *
  go_enter Tryz.func7, Tryz.ntmps7
  go_wp2_with fail
  have X1 := Bx.new w (.slice ad D cd) (.slice af N cf)
  have B1 := alloc_below w (.cells #[.slice ad D cd, .slice af N cf] 25 (0, 0))
  generalize (w.alloc (.cells #[.slice ad D cd, .slice af N cf] 25 (0, 0))) = w1 at *
  refine (C1.out _ B1).mono ?_
  rintro e w2 ⟨rfl, G⟩
  have X2 := X1.next G
  have B2 := bch B1 G (Nat.le_refl _)
  clear G X1 B1 C1
  have x0 := X2.c0
  have x1' := X2.c1
  go_wp2_with fail
  clear x0 x1'
  refine (C2.out _ B2).mono ?_
  intro e w3 h1
  obtain ⟨x1, p1, y1, q1, rfl, V1, G⟩ := O1.out _ _ _ h1
  have X3 := X2.next G
  have B3 := bch B2 G (Nat.le_refl _)
  clear G X2 B2 C2 h1
  have GA := alloc_below w3 (.cells #[.slice x1 D1 p1, .slice y1 N1 q1] 25 (0, 0))
  have Y1 := Bx.new w3 (.slice x1 D1 p1) (.slice y1 N1 q1)
  have X4 := X3.next GA
  have V2 := V1.below GA
  have B4 := bch B3 GA (Nat.le_refl _)
  clear V1 B3 O1
  by_cases hp : pe = 0
  · have pp : (pe == 0) = true := by simpa using hp
    have K1n := hid_of (K1.out hp)
    subst hp
    go_wp2_with fail
    generalize (w3.alloc (.cells #[.slice x1 D1 p1, .slice y1 N1 q1] 25 (0, 0))) = w4 at *
    generalize w3.heap.size = bb at *
    refine (K1n.out _ _ _ _ _ V2).mono ?_
    rintro e w5 ⟨rfl, G⟩
    have X5 := X4.next G
    have B5 := bch B4 G (Nat.le_refl _)
    clear G X3 X4 V2 B4 K1 K1n GA Y1
    have x0 := X5.c0
    have x1' := X5.c1
    go_wp2_with fail
    clear x0 x1'
    refine (C3.out _ B5).mono ?_
    intro e v1 h1
    obtain ⟨x2, p2, y2, q2, rfl, U1, G⟩ := O2.out _ _ _ _ h1
    have X10 := X5.next G
    have B10 := bch B5 G (Nat.le_refl _)
    clear G h1 C3
    have GA := alloc_below v1 (.cells #[.slice x2 D2 p2, .slice y2 N2 q2] 25 (0, 0))
    by_cases hd : de = 0
    · have dd : (de == 0) = true := by simpa using hd
      have dd' : (de != 0) = false := by simpa using hd
      obtain ⟨s1, s2, s3, s4⟩ := P1.out hd
      have P2n := hid_of (P2.out hd)
      have K2n := hid_of (K2.out hd)
      have K3n := hid_of (K3.out hd)
      have K4n := hid_of (K4.out hd)
      subst hd
      have Z1 := Bx.new v1 (.slice x2 D2 p2) (.slice y2 N2 q2)
      have U2 := U1.below GA
      have X11 := X10.next GA
      have B11 := bch B10 GA (Nat.le_refl _)
      clear GA U1 B10 X10
      go_wp2_with fail
      generalize (v1.alloc (.cells #[.slice x2 D2 p2, .slice y2 N2 q2] 25 (0, 0))) = v2 at *
      generalize v1.heap.size = bc at *
      refine (K2n.out _ _ _ _ _ U2).mono ?_
      rintro e v3 ⟨rfl, G⟩
      have Z2 := Z1.next G
      have X12 := X11.next G
      have U3 := U2.below G
      have B12 := bch B11 G (Nat.le_refl _)
      clear G Z1 U2 B11 X11 K2 K2n
      have z0 := X12.c0
      have z1 := X12.c1
      go_wp2_with fail
      refine (C4.out _ B12).mono ?_
      rintro e v4 ⟨rfl, G⟩
      have Z3 := Z2.next G
      have U4 := U3.below G
      have B13 := bch B12 G (Nat.le_refl _)
      clear G B12 z0 z1 Z2 U3 X12 C4
      have z0 := Z3.c0
      have z1 := Z3.c1
      go_wp2_with fail
      refine (K3n.out _ _ _ _ _ U4).mono ?_
      rintro e v5 ⟨rfl, G⟩
      have Z4 := Z3.next G
      have U5 := U4.below G
      have B14 := bch B13 G (Nat.le_refl _)
      clear G B13 z0 z1 Z3 U4 K3 K3n
      have z0 := Z4.c0
      have z1 := Z4.c1
      go_wp2_with fail
      refine (K4n.out _ _ _ _ _ U5).mono ?_
      intro e v6 h1
      obtain ⟨x3, p3, y3, q3, rfl, T1, G⟩ := O2.out _ _ _ _ h1
      have Z5 := Z4.next G
      have U6 := U5.below G
      have B15 := bch B14 G (Nat.le_refl _)
      clear G h1 B14 z0 z1 Z4 U5 K4 K4n O2
      have GA := alloc_below v6 (.cells #[.slice x3 D2 p3, .slice y3 N2 q3] 25 (0, 0))
      have Z6 := Z5.next GA
      have U7 := U6.below GA
      have T2 := T1.below GA
      have B16 := bch B15 GA (Nat.le_refl _)
      have z0 := Z5.c0
      have z1 := Z5.c1
      have hzl := Z5.lt
      have d5 : decide ((sa : Int) < (sc : Int)) = false := decide_eq_false (by omega)
      have d5' : decide (sa < sc) = false := decide_eq_false (by omega)
      clear GA U6 T1
      go_wp2_with fail
      clear z0 z1 hzl
      generalize (v6.alloc (.cells #[.slice x3 D2 p3, .slice y3 N2 q3] 25 (0, 0))) = v7 at *
      refine (K5.out _ _ _ _ _ _ _ _ _ U7 T2).mono ?_
      rintro e v8 ⟨rfl, G⟩
      have Z7 := Z6.next G
      have U8 := U7.below G
      have B17 := bch B16 G (Nat.le_refl _)
      clear G B15 B16 Z5 Z6 U7 T2 K5
      have z0 := Z7.c0
      have z1 := Z7.c1
      have hD2 : (D2 : Int) ≤ 4 := by omega
      have hN2 : (N2 : Int) ≤ 12 := by omega
      go_wp2_with fail
      go_loopw [23] (fun i wr => ∃ x : Nat, 1 ≤ x ∧ x ≤ D2 + 1 ∧ i = .int .i64 x ∧ wr = v8) (fun i _ => D2 + 1 - (intOf i).toNat)
      case atStart => exact ⟨1, by omega, by omega, rfl, rfl⟩
      case round =>
        obtain ⟨x, hx1, hx2, rfl, hwr⟩ := hrel
        have hwr := hwr.symm
        subst hwr
        by_cases hlt : x ≤ D2
        · have d6 : decide ((x : Int) ≤ (D2 : Int)) = true := decide_eq_true (by omega)
          have d6' : decide (x ≤ D2) = true := decide_eq_true hlt
          have HU : Hid (Ar.anyK c.files (x : Nat) N2 = true) := P2n.out x hx1 hlt
          have HA : Hid (∀ k, Ar.anyK c.files (x : Nat) (k + 1) = (Ar.anyK c.files (x : Nat) k || decide ((Ar.fa c.files k).dict = (x : Nat)))) := fun k => rfl
          have HA0 : Hid (Ar.anyK c.files (x : Nat) 0 = false) := rfl
          generalize Ar.anyK c.files (x : Nat) = ak at *
          go_wp2_with fail
          go_loopw [24, 25] (fun u y wr => ∃ k : Nat, k ≤ N2 ∧ u = .bool (ak k) ∧ y = .int .i64 k ∧ wr = v8) (fun _ y _ => N2 - (intOf y).toNat)
          case atStart => exact ⟨0, by omega, by rw [HA0.out], rfl, rfl⟩
          case round =>
            obtain ⟨k, hk2, rfl, rfl, hwr⟩ := hrel
            have hwr := hwr.symm
            subst hwr
            by_cases hk : k < N2
            · have d7 : decide ((k : Int) < (N2 : Int)) = true := decide_eq_true (by omega)
              have d7' : decide (k < N2) = true := decide_eq_true hk
              have hki : (k : Int) < (N2 : Int) := by omega
              obtain ⟨bf, off, rfl, hbl, hcell⟩ := HFl.out _ _ _ U8 k hk
              have c1 := hcell.c1
              clear hcell
              have HAk := hid_of (HA.out k)
              generalize (Ar.fa c.files k).dict = f1 at *
              cases hu : ak k with
              | true =>
                have HN : Hid (ak (k + 1) = true) := by show _ = _; rw [HAk.out, hu]; rfl
                clear hu HAk
                go_wp2_with fail
                go_roundw
                case rel => exact ⟨k + 1, by omega, by rw [HN.out], by go_num, by trivial⟩
                case measure => simp [intOf]; omega
              | false =>
                by_cases hdx : f1 = (x : Nat)
                · have HN : Hid (ak (k + 1) = true) := by show _ = _; rw [HAk.out, hu, decide_eq_true hdx]; rfl
                  have e1 : (f1 == ((x : Nat) : Int)) = true := by simpa using hdx
                  subst hdx
                  clear hu HAk
                  go_wp2_with fail
                  go_roundw
                  case rel => exact ⟨k + 1, by omega, by rw [HN.out], by go_num, by trivial⟩
                  case measure => simp [intOf]; omega
                · have HN : Hid (ak (k + 1) = false) := by show _ = _; rw [HAk.out, hu, decide_eq_false hdx]; rfl
                  have e1 : (f1 == ((x : Nat) : Int)) = false := by simpa using hdx
                  clear hu HAk
                  go_wp2_with fail
                  go_roundw
                  case rel => exact ⟨k + 1, by omega, by rw [HN.out], by go_num, by trivial⟩
                  case measure => simp [intOf]; omega
            · obtain rfl : k = N2 := by omega
              have d7 : decide ((k : Int) < (k : Int)) = false := by simp
              have hu := HU.out
              rw [hu]
              clear hu
              go_wp2_with fail
              go_roundw
              case rel => exact ⟨x + 1, by omega, by omega, by go_num, by trivial⟩
              case measure => simp [intOf]; omega
        · have d6 : decide ((x : Int) ≤ (D2 : Int)) = false := decide_eq_false (by omega)
          have d6' : decide (x ≤ D2) = false := decide_eq_false hlt
          go_wp2_with fail
          refine (C5.out _ B17).mono ?_
          rintro e v9 ⟨rfl, G⟩
          have B24 := bch B17 G (Nat.le_refl _)
          clear G
          go_wp2_with fail
          go_ret
          exact ⟨rfl, B24⟩
    · have dd : (de == 0) = false := by simpa using hd
      have dd' : (de != 0) = true := by simpa using hd
      go_wp2_with fail
      refine (C5.out _ (bch B10 GA (Nat.le_refl _))).mono ?_
      rintro e v5 ⟨rfl, G⟩
      have B24 := bch (bch B10 GA (Nat.le_refl _)) G (Nat.le_refl _)
      go_wp2_with fail
      go_ret
      exact ⟨rfl, B24⟩
  · have pp : (pe == 0) = false := by simpa using hp
    clear K1 V2 GA Y1
    have hxl := X3.lt
    have x0 := X3.c0
    have x1' := X3.c1
    go_wp2_with fail
    clear x0 x1' hxl X3
    generalize (w3.alloc (.cells #[.slice x1 D1 p1, .slice y1 N1 q1] 25 (0, 0))) = w4 at *
    refine (C3.out _ B4).mono ?_
    intro e v1 h1
    obtain ⟨x2, p2, y2, q2, rfl, U1, G⟩ := O2.out _ _ _ _ h1
    have X10 := X4.next G
    have B10 := bch B4 G (Nat.le_refl _)
    clear G h1 C3
    have GA := alloc_below v1 (.cells #[.slice x2 D2 p2, .slice y2 N2 q2] 25 (0, 0))
    by_cases hd : de = 0
    · have dd : (de == 0) = true := by simpa using hd
      have dd' : (de != 0) = false := by simpa using hd
      obtain ⟨s1, s2, s3, s4⟩ := P1.out hd
      have P2n := hid_of (P2.out hd)
      have K2n := hid_of (K2.out hd)
      have K3n := hid_of (K3.out hd)
      have K4n := hid_of (K4.out hd)
      subst hd
      have Z1 := Bx.new v1 (.slice x2 D2 p2) (.slice y2 N2 q2)
      have U2 := U1.below GA
      have X11 := X10.next GA
      have B11 := bch B10 GA (Nat.le_refl _)
      clear GA U1 B10 X10
      go_wp2_with fail
      generalize (v1.alloc (.cells #[.slice x2 D2 p2, .slice y2 N2 q2] 25 (0, 0))) = v2 at *
      generalize v1.heap.size = bc at *
      refine (K2n.out _ _ _ _ _ U2).mono ?_
      rintro e v3 ⟨rfl, G⟩
      have Z2 := Z1.next G
      have X12 := X11.next G
      have U3 := U2.below G
      have B12 := bch B11 G (Nat.le_refl _)
      clear G Z1 U2 B11 X11 K2 K2n
      have z0 := X12.c0
      have z1 := X12.c1
      go_wp2_with fail
      refine (C4.out _ B12).mono ?_
      rintro e v4 ⟨rfl, G⟩
      have Z3 := Z2.next G
      have U4 := U3.below G
      have B13 := bch B12 G (Nat.le_refl _)
      clear G B12 z0 z1 Z2 U3 X12 C4
      have z0 := Z3.c0
      have z1 := Z3.c1
      go_wp2_with fail
      refine (K3n.out _ _ _ _ _ U4).mono ?_
      rintro e v5 ⟨rfl, G⟩
      have Z4 := Z3.next G
      have U5 := U4.below G
      have B14 := bch B13 G (Nat.le_refl _)
      clear G B13 z0 z1 Z3 U4 K3 K3n
      have z0 := Z4.c0
      have z1 := Z4.c1
      go_wp2_with fail
      refine (K4n.out _ _ _ _ _ U5).mono ?_
      intro e v6 h1
      obtain ⟨x3, p3, y3, q3, rfl, T1, G⟩ := O2.out _ _ _ _ h1
      have Z5 := Z4.next G
      have U6 := U5.below G
      have B15 := bch B14 G (Nat.le_refl _)
      clear G h1 B14 z0 z1 Z4 U5 K4 K4n O2
      have GA := alloc_below v6 (.cells #[.slice x3 D2 p3, .slice y3 N2 q3] 25 (0, 0))
      have Z6 := Z5.next GA
      have U7 := U6.below GA
      have T2 := T1.below GA
      have B16 := bch B15 GA (Nat.le_refl _)
      have z0 := Z5.c0
      have z1 := Z5.c1
      have hzl := Z5.lt
      have d5 : decide ((sa : Int) < (sc : Int)) = false := decide_eq_false (by omega)
      have d5' : decide (sa < sc) = false := decide_eq_false (by omega)
      clear GA U6 T1
      go_wp2_with fail
      clear z0 z1 hzl
      generalize (v6.alloc (.cells #[.slice x3 D2 p3, .slice y3 N2 q3] 25 (0, 0))) = v7 at *
      refine (K5.out _ _ _ _ _ _ _ _ _ U7 T2).mono ?_
      rintro e v8 ⟨rfl, G⟩
      have Z7 := Z6.next G
      have U8 := U7.below G
      have B17 := bch B16 G (Nat.le_refl _)
      clear G B15 B16 Z5 Z6 U7 T2 K5
      have z0 := Z7.c0
      have z1 := Z7.c1
      have hD2 : (D2 : Int) ≤ 4 := by omega
      have hN2 : (N2 : Int) ≤ 12 := by omega
      go_wp2_with fail
      go_loopw [23] (fun i wr => ∃ x : Nat, 1 ≤ x ∧ x ≤ D2 + 1 ∧ i = .int .i64 x ∧ wr = v8) (fun i _ => D2 + 1 - (intOf i).toNat)
      case atStart => exact ⟨1, by omega, by omega, rfl, rfl⟩
      case round =>
        obtain ⟨x, hx1, hx2, rfl, hwr⟩ := hrel
        have hwr := hwr.symm
        subst hwr
        by_cases hlt : x ≤ D2
        · have d6 : decide ((x : Int) ≤ (D2 : Int)) = true := decide_eq_true (by omega)
          have d6' : decide (x ≤ D2) = true := decide_eq_true hlt
          have HU : Hid (Ar.anyK c.files (x : Nat) N2 = true) := P2n.out x hx1 hlt
          have HA : Hid (∀ k, Ar.anyK c.files (x : Nat) (k + 1) = (Ar.anyK c.files (x : Nat) k || decide ((Ar.fa c.files k).dict = (x : Nat)))) := fun k => rfl
          have HA0 : Hid (Ar.anyK c.files (x : Nat) 0 = false) := rfl
          generalize Ar.anyK c.files (x : Nat) = ak at *
          go_wp2_with fail
          go_loopw [24, 25] (fun u y wr => ∃ k : Nat, k ≤ N2 ∧ u = .bool (ak k) ∧ y = .int .i64 k ∧ wr = v8) (fun _ y _ => N2 - (intOf y).toNat)
          case atStart => exact ⟨0, by omega, by rw [HA0.out], rfl, rfl⟩
          case round =>
            obtain ⟨k, hk2, rfl, rfl, hwr⟩ := hrel
            have hwr := hwr.symm
            subst hwr
            by_cases hk : k < N2
            · have d7 : decide ((k : Int) < (N2 : Int)) = true := decide_eq_true (by omega)
              have d7' : decide (k < N2) = true := decide_eq_true hk
              have hki : (k : Int) < (N2 : Int) := by omega
              obtain ⟨bf, off, rfl, hbl, hcell⟩ := HFl.out _ _ _ U8 k hk
              have c1 := hcell.c1
              clear hcell
              have HAk := hid_of (HA.out k)
              generalize (Ar.fa c.files k).dict = f1 at *
              cases hu : ak k with
              | true =>
                have HN : Hid (ak (k + 1) = true) := by show _ = _; rw [HAk.out, hu]; rfl
                clear hu HAk
                go_wp2_with fail
                go_roundw
                case rel => exact ⟨k + 1, by omega, by rw [HN.out], by go_num, by trivial⟩
                case measure => simp [intOf]; omega
              | false =>
                by_cases hdx : f1 = (x : Nat)
                · have HN : Hid (ak (k + 1) = true) := by show _ = _; rw [HAk.out, hu, decide_eq_true hdx]; rfl
                  have e1 : (f1 == ((x : Nat) : Int)) = true := by simpa using hdx
                  subst hdx
                  clear hu HAk
                  go_wp2_with fail
                  go_roundw
                  case rel => exact ⟨k + 1, by omega, by rw [HN.out], by go_num, by trivial⟩
                  case measure => simp [intOf]; omega
                · have HN : Hid (ak (k + 1) = false) := by show _ = _; rw [HAk.out, hu, decide_eq_false hdx]; rfl
                  have e1 : (f1 == ((x : Nat) : Int)) = false := by simpa using hdx
                  clear hu HAk
                  go_wp2_with fail
                  go_roundw
                  case rel => exact ⟨k + 1, by omega, by rw [HN.out], by go_num, by trivial⟩
                  case measure => simp [intOf]; omega
            · obtain rfl : k = N2 := by omega
              have d7 : decide ((k : Int) < (k : Int)) = false := by simp
              have hu := HU.out
              rw [hu]
              clear hu
              go_wp2_with fail
              go_roundw
              case rel => exact ⟨x + 1, by omega, by omega, by go_num, by trivial⟩
              case measure => simp [intOf]; omega
        · have d6 : decide ((x : Int) ≤ (D2 : Int)) = false := decide_eq_false (by omega)
          have d6' : decide (x ≤ D2) = false := decide_eq_false hlt
          go_wp2_with fail
          refine (C5.out _ B17).mono ?_
          rintro e v9 ⟨rfl, G⟩
          have B24 := bch B17 G (Nat.le_refl _)
          clear G
          go_wp2_with fail
          go_ret
          exact ⟨rfl, B24⟩
    · have dd : (de == 0) = false := by simpa using hd
      have dd' : (de != 0) = true := by simpa using hd
      go_wp2_with fail
      refine (C5.out _ (bch B10 GA (Nat.le_refl _))).mono ?_
      rintro e v5 ⟨rfl, G⟩
      have B24 := bch (bch B10 GA (Nat.le_refl _)) G (Nat.le_refl _)
      go_wp2_with fail
      go_ret
      exact ⟨rfl, B24⟩
end Go.Proofs.YtbjbjbpgmojcbabGreat
