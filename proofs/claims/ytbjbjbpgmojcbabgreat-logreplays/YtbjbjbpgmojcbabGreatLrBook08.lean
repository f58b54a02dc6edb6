/- A part of the proof: what it leans on. -/
import Derived.Test.YtbjbjbpgmojcbabGreatProg
import Derived.WalkKit
import Derived.WalkSpells
import Derived.WalkLawsBesides
import Derived.Deep.RegionHeld3
import Derived.Deep.QuietTactic
import Derived.BigQuiet
import Derived.Shelf.Small.Strs
import Derived.Shelf.LaysM
import Derived.Shelf.Strings.Search3
import Derived.Shelf.Strings.Shaped
import Derived.Shelf.SlSortCmp.NoneTotal
import Derived.Test.YtbjbjbpgmojcbabGreatLrBook01
import Derived.Test.YtbjbjbpgmojcbabGreatLrBook05
import Derived.Test.YtbjbjbpgmojcbabGreatLrBook06
import Derived.Test.YtbjbjbpgmojcbabGreatLrBook07
namespace Go.Proofs.YtbjbjbpgmojcbabGreat
open Go.RowKit
namespace Tr
def TxAt (w : World) (b off : Nat) (xs : List ByteArray) : Prop := b < w.heap.size ∧ ∀ i, i < xs.length → w.cell? ⟨b, off + i, none⟩ = some (.string (xa xs i))
theorem TxAt.below {w w' : World} {b off : Nat} {xs : List ByteArray} (h : TxAt w b off xs) (hb : Below w.heap.size w w') : TxAt w' b off xs := ⟨Nat.lt_of_lt_of_le h.1 hb.size, fun i hi => by rw [← h.2 i hi]; exact hb.cell (p := ⟨b, off + i, none⟩) h.1⟩
def lgK (xs : List ByteArray) : Nat → Option Nat
  | 0 => none
  | k + 1 => match lgK xs k with
    | some i => some i
    | none => if 512 < (xa xs k).size then some k else none
theorem lgK_some {xs : List ByteArray} {k i : Nat} (h : lgK xs k = some i) : ∀ j, lgK xs (k + j) = some i := by
  intro j
  induction j with
  | zero => exact h
  | succ j ih => rw [← Nat.add_assoc, lgK, ih]
def many (xs : List ByteArray) : Bool := decide (12 < xs.length) || (lgK xs xs.length).isSome
end Tr
set_option maxHeartbeats 400000 in
theorem tooLong_any (t : ByteArray) (w : World) :
    Calls Tryz.prog 145 #[.string t] w fun e w' => e = .returned (.bool (decide ((512 : Int) < (t.size : Int)))) ∧ Below w.heap.size w w' := by
  go_enter Tryz.func145, Tryz.ntmps145
  go_wp2_with fail
  go_ret
  exact ⟨rfl, Below.refl _ _⟩
set_option maxRecDepth 4000 in
set_option maxHeartbeats 1000000 in
theorem firstLong_any (xs : List ByteArray) (b off cap : Nat) (w : World) (hx : Tr.TxAt w b off xs) (hn2 : xs.length ≤ 1000) (hB : ∀ i, (Tr.xa xs i).size ≤ 140737488355328) :
    Calls Tryz.prog 105 #[.slice (some ⟨b, off, none⟩) xs.length cap, .func (.func 145) #[] #[]] w fun e w' => e = .returned (.int .i64 (match Tr.lgK xs xs.length with | none => -1 | some i => (i : Int))) ∧ Below w.heap.size w w' := by
  have HX : Hid (∀ w', Tr.TxAt w' b off xs → ∀ i, i < xs.length → w'.cell? ⟨b, off + i, none⟩ = some (.string (Tr.xa xs i))) := fun w' h => h.2
  have HB : Hid (∀ i, (Tr.xa xs i).size ≤ 140737488355328) := hB
  clear hB
  obtain ⟨r, hr⟩ : ∃ r, (match Tr.lgK xs xs.length with | none => (-1 : Int) | some i => (i : Int)) = r := ⟨_, rfl⟩
  rw [hr]
  have Hr : Hid ((match Tr.lgK xs xs.length with | none => (-1 : Int) | some i => (i : Int)) = r) := hr
  clear hr
  go_enter Tryz.func105, Tryz.ntmps105
  go_wp2_with fail
  go_loopw [8] (fun i wr => ∃ k : Nat, k ≤ xs.length ∧ i = .int .i64 k ∧ Hid (Tr.lgK xs k = none) ∧ Tr.TxAt wr b off xs ∧ Below w.heap.size w wr) (fun i _ => xs.length - (intOf i).toNat)
  case atStart => exact ⟨0, by omega, rfl, rfl, hx, Below.refl _ _⟩
  case round =>
    clear hx
    obtain ⟨k, hk2, rfl, HL, hx, B1⟩ := hrel
    by_cases hlt : k < xs.length
    · have d1 : decide ((k : Int) < (xs.length : Int)) = true := by simp; omega
      have d1' : decide (k < xs.length) = true := by simp; omega
      have hki : (k : Int) < (xs.length : Int) := by omega
      have c1 := HX.out wr hx k hlt
      have z1 := HB.out k
      have c2 := fun w => tooLong_any (Tr.xa xs k) w
      by_cases hs : 512 < (Tr.xa xs k).size
      · have HN : Hid (Tr.lgK xs (k + 1) = some k) := by show _ = _; rw [Tr.lgK, HL.out]; exact if_pos hs
        have HR : Hid ((k : Int) = r) := by
          have h9 := Tr.lgK_some HN.out (xs.length - (k + 1))
          rw [show k + 1 + (xs.length - (k + 1)) = xs.length by omega] at h9
          have := Hr.out
          rw [h9] at this
          exact this
        have d2 : decide ((512 : Int) < ((Tr.xa xs k).size : Int)) = true := decide_eq_true (by omega)
        rw [d2] at c2
        generalize Tr.xa xs k = X at *
        clear HN hs d2
        go_wp2_with fail
        refine (c2 _).mono ?_
        rintro e w2 ⟨rfl, G⟩
        have B2 := bch B1 G (Nat.le_refl _)
        go_wp2_with fail
        go_ret
        exact ⟨congrArg (fun x => Ending.returned (Value.int .i64 x)) HR.out, B2⟩
      · have HN : Hid (Tr.lgK xs (k + 1) = none) := by show _ = _; rw [Tr.lgK, HL.out]; exact if_neg hs
        have d2 : decide ((512 : Int) < ((Tr.xa xs k).size : Int)) = false := decide_eq_false (by omega)
        rw [d2] at c2
        generalize Tr.xa xs k = X at *
        clear hs d2
        go_wp2_with fail
        refine (c2 _).mono ?_
        rintro e w2 ⟨rfl, G⟩
        have B2 := bch B1 G (Nat.le_refl _)
        have hx2 := hx.below G
        clear B1 G hx
        go_wp2_with fail
        go_roundw
        case rel => exact ⟨k + 1, by omega, by go_num, HN, hx2, B2⟩
        case measure => simp [intOf]; omega
    · obtain rfl : k = xs.length := by omega
      have HR : Hid ((-1 : Int) = r) := by have := Hr.out; rw [HL.out] at this; exact this
      have d1 : decide ((xs.length : Int) < (xs.length : Int)) = false := by simp
      clear Hr
      go_wp2_with fail
      go_ret
      exact ⟨congrArg (fun x => Ending.returned (Value.int .i64 x)) HR.out, B1⟩
set_option maxRecDepth 4000 in
set_option maxHeartbeats 1000000 in
theorem firstLong_nil (ad : Option Addr) (cap : Nat) (w : World) :
    Calls Tryz.prog 105 #[.slice ad 0 cap, .func (.func 145) #[] #[]] w fun e w' => e = .returned (.int .i64 (-1)) ∧ Below w.heap.size w w' := by
  go_enter Tryz.func105, Tryz.ntmps105
  go_wp2_with fail
  go_loopw [8] (fun i wr => i = .int .i64 0 ∧ Below w.heap.size w wr) (fun i _ => 0)
  case atStart => exact ⟨rfl, Below.refl _ _⟩
  case round =>
    obtain ⟨rfl, B1⟩ := hrel
    go_wp2_with fail
    go_ret
    exact ⟨rfl, B1⟩
def TxSl (w : World) (ad : Option Addr) (xs : List ByteArray) : Prop := xs = [] ∨ ∃ b off, ad = some ⟨b, off, none⟩ ∧ Tr.TxAt w b off xs
theorem TxSl.below {w w' : World} {ad : Option Addr} {xs : List ByteArray} (h : TxSl w ad xs) (hb : Below w.heap.size w w') : TxSl w' ad xs := by
  rcases h with h | ⟨b, off, h1, h2⟩
  · exact .inl h
  · exact .inr ⟨b, off, h1, h2.below hb⟩
theorem firstLong_all (xs : List ByteArray) (ad : Option Addr) (cap : Nat) (w : World) (hx : TxSl w ad xs) (hn2 : xs.length ≤ 1000) (hB : ∀ i, (Tr.xa xs i).size ≤ 140737488355328) :
    Calls Tryz.prog 105 #[.slice ad xs.length cap, .func (.func 145) #[] #[]] w fun e w' => e = .returned (.int .i64 (match Tr.lgK xs xs.length with | none => -1 | some i => (i : Int))) ∧ Below w.heap.size w w' := by
  rcases hx with rfl | ⟨b, off, rfl, h2⟩
  · exact firstLong_nil ad cap w
  · exact firstLong_any xs b off cap w h2 hn2 hB
set_option maxRecDepth 4000 in
set_option maxHeartbeats 1000000 in
theorem anyLong_any (xs : List ByteArray) (ad : Option Addr) (cap : Nat) (w : World) (hx : TxSl w ad xs) (hn2 : xs.length ≤ 1000) (hB : ∀ i, (Tr.xa xs i).size ≤ 140737488355328) :
    Calls Tryz.prog 136 #[.slice ad xs.length cap, .func (.func 145) #[] #[]] w fun e w' => e = .returned (.bool (Tr.lgK xs xs.length).isSome) ∧ Below w.heap.size w w' := by
  have c1 := firstLong_all xs ad cap w hx hn2 hB
  cases hq : Tr.lgK xs xs.length with
  | none =>
    rw [hq] at c1
    simp only at c1
    clear hq
    go_enter Tryz.func136, Tryz.ntmps136
    go_wp2_with fail
    refine c1.mono ?_
    rintro e w1 ⟨rfl, G⟩
    go_wp2_with fail
    go_ret
    exact ⟨rfl, G⟩
  | some i =>
    rw [hq] at c1
    simp only at c1
    clear hq
    have h0 : (0 : Int) ≤ (i : Int) := by omega
    have d0 : decide ((0 : Int) ≤ (i : Int)) = true := decide_eq_true h0
    go_enter Tryz.func136, Tryz.ntmps136
    go_wp2_with fail
    refine c1.mono ?_
    rintro e w1 ⟨rfl, G⟩
    go_wp2_with fail
    go_ret
    exact ⟨rfl, G⟩
set_option maxRecDepth 4000 in
set_option maxHeartbeats 1000000 in
theorem tooMany_any (xs : List ByteArray) (ad : Option Addr) (cap : Nat) (w : World) (hx : TxSl w ad xs) (hB : ∀ i, (Tr.xa xs i).size ≤ 140737488355328) :
    Calls Tryz.prog 103 #[.slice ad xs.length cap] w fun e w' => e = .returned (.bool (Tr.many xs)) ∧ Below w.heap.size w w' := by
  unfold Tr.many
  by_cases hn : 12 < xs.length
  · have hn' : (12 : Int) < (xs.length : Int) := by omega
    rw [decide_eq_true hn]
    go_enter Tryz.func103, Tryz.ntmps103
    go_wp2_with fail
    go_ret
    exact ⟨rfl, Below.refl _ _⟩
  · have hn' : (xs.length : Int) ≤ 12 := by omega
    have c1 := fun w hx => anyLong_any xs ad cap w hx (by omega) hB
    rw [decide_eq_false hn, Bool.false_or]
    generalize (Tr.lgK xs xs.length).isSome = r at *
    go_enter Tryz.func103, Tryz.ntmps103
    go_wp2_with fail
    refine (c1 _ hx).mono ?_
    rintro e w1 ⟨rfl, G⟩
    go_wp2_with fail
    go_ret
    exact ⟨rfl, G⟩
end Go.Proofs.YtbjbjbpgmojcbabGreat
namespace Go.Proofs.YtbjbjbpgmojcbabGreat
open Go.RowKit
def fv (f : Ar.F) : Value := .agg #[.string f.name, .int .i64 f.dict, .int .i64 f.size, .int .i64 f.sum, .string f.blk]
structure FlC (w : World) (b o : Nat) (f : Ar.F) : Prop where
  c0 : w.cell? ⟨b, o, none⟩ = some (.string f.name)
  c1 : w.cell? ⟨b, o + 1, none⟩ = some (.int .i64 f.dict)
  c2 : w.cell? ⟨b, o + 2, none⟩ = some (.int .i64 f.size)
  c3 : w.cell? ⟨b, o + 3, none⟩ = some (.int .i64 f.sum)
  c4 : w.cell? ⟨b, o + 4, none⟩ = some (.string f.blk)
def FlAt (w : World) (b off : Nat) (fs : List Ar.F) : Prop := b < w.heap.size ∧ ∀ i, i < fs.length → FlC w b (off + i * 5) (Ar.fa fs i)
theorem FlC.below {w w' : World} {b o : Nat} {f : Ar.F} (h : FlC w b o f) (hb : Below w.heap.size w w') (hlt : b < w.heap.size) : FlC w' b o f :=
  ⟨(hb.cell (p := ⟨b, o, none⟩) hlt).trans h.c0, (hb.cell (p := ⟨b, o + 1, none⟩) hlt).trans h.c1, (hb.cell (p := ⟨b, o + 2, none⟩) hlt).trans h.c2, (hb.cell (p := ⟨b, o + 3, none⟩) hlt).trans h.c3, (hb.cell (p := ⟨b, o + 4, none⟩) hlt).trans h.c4⟩
theorem FlAt.below {w w' : World} {b off : Nat} {fs : List Ar.F} (h : FlAt w b off fs) (hb : Below w.heap.size w w') : FlAt w' b off fs :=
  ⟨Nat.lt_of_lt_of_le h.1 hb.size, fun i hi => (h.2 i hi).below hb h.1⟩
def FlSl (w : World) (ad : Option Addr) (fs : List Ar.F) : Prop := fs = [] ∨ ∃ b off, ad = some ⟨b, off, none⟩ ∧ FlAt w b off fs
theorem FlSl.below {w w' : World} {ad : Option Addr} {fs : List Ar.F} (h : FlSl w ad fs) (hb : Below w.heap.size w w') : FlSl w' ad fs := by
  rcases h with h | ⟨b, off, h1, h2⟩
  · exact .inl h
  · exact .inr ⟨b, off, h1, h2.below hb⟩
def av (ad : Option Addr) (cd : Nat) (af : Option Addr) (cf : Nat) (a : Ar.A) : Value := .agg #[.slice ad a.dicts.length cd, .slice af a.files.length cf]
structure ArV (w : World) (ad af : Option Addr) (a : Ar.A) : Prop where
  ds : TxSl w ad a.dicts
  fs : FlSl w af a.files
theorem ArV.below {w w' : World} {ad af : Option Addr} {a : Ar.A} (h : ArV w ad af a) (hb : Below w.heap.size w w') : ArV w' ad af a := ⟨h.ds.below hb, h.fs.below hb⟩
structure SaneA (a : Ar.A) : Prop where
  nd : a.dicts.length ≤ 8796093022208
  nf : a.files.length ≤ 8796093022208
  ds : ∀ i, (Tr.xa a.dicts i).size ≤ 140737488355328
  nm : ∀ i, (Ar.fa a.files i).name.size ≤ 140737488355328
  bk : ∀ i, (Ar.fa a.files i).blk.size ≤ 140737488355328
theorem SaneA.dct {a : Ar.A} (h : SaneA a) (n : Int) : (Ar.dct a.dicts n).size ≤ 140737488355328 := by
  unfold Ar.dct
  split
  · show 0 ≤ _; omega
  · exact h.ds _
end Go.Proofs.YtbjbjbpgmojcbabGreat
namespace Go.Proofs.YtbjbjbpgmojcbabGreat
open Go.RowKit
namespace Ar
theorem nmK_false {b : ByteArray} {k : Nat} (h : nmK b k = false) : ∀ j, nmK b (k + j) = false := by
  intro j
  induction j with
  | zero => exact h
  | succ j ih => rw [← Nat.add_assoc, nmK, ih, Bool.false_and]
end Ar
theorem at8_get (s : ByteArray) (k : Nat) (h : k < s.size) : Cd.at8 s k = s[k].toNat := by
  unfold Cd.at8
  rw [Nm.at_list s k h]
  rfl
theorem ne_empty {b : ByteArray} (h : 0 < b.size) : b.toList.isEmpty = false := by
  rw [ByteArray.toList_eq, List.isEmpty_eq_false_iff]
  intro e
  have := congrArg List.length e
  simp at this
  rw [this] at h
  exact absurd h (by decide)
theorem empty_is {b : ByteArray} (h : b.size = 0) : b = ⟨#[]⟩ := by
  cases b with | mk d => congr; exact Array.eq_empty_of_size_eq_zero h
set_option maxHeartbeats 400000 in
theorem within_any (n lo hi : Int) (w : World) :
    Calls Tryz.prog 57 #[.int .i64 n, .int .i64 lo, .int .i64 hi] w fun e w' => e = .returned (.bool (decide (lo ≤ n ∧ n ≤ hi))) ∧ w' = w := by
  by_cases h1 : lo ≤ n
  · have d1 : decide (lo ≤ n) = true := decide_eq_true h1
    by_cases h2 : n ≤ hi
    · have d2 : decide (n ≤ hi) = true := decide_eq_true h2
      rw [decide_eq_true ⟨h1, h2⟩]
      go_enter Tryz.func57, Tryz.ntmps57
      go_wp2_with fail
      go_ret
      exact ⟨rfl, rfl⟩
    · have d2 : decide (n ≤ hi) = false := decide_eq_false h2
      rw [decide_eq_false (fun h => h2 h.2)]
      go_enter Tryz.func57, Tryz.ntmps57
      go_wp2_with fail
      go_ret
      exact ⟨rfl, rfl⟩
  · have d1 : decide (lo ≤ n) = false := decide_eq_false h1
    rw [decide_eq_false (fun h => h1 h.1)]
    go_enter Tryz.func57, Tryz.ntmps57
    go_wp2_with fail
    go_ret
    exact ⟨rfl, rfl⟩
set_option maxRecDepth 4000 in
set_option maxHeartbeats 2000000 in
theorem isName_ok (s : ByteArray) (w : World) (h0 : 0 < s.size) (h1 : s.size ≤ 12) :
    Calls Tryz.prog 49 #[.string s] w fun e w' => e = .returned (.bool (Ar.nmK s s.size)) ∧ w' = w := by
  have hne := ne_empty h0
  have hne2 : (s.toList == []) = false := by rw [← hne]; cases s.toList <;> rfl
  have h1' : (s.size : Int) ≤ 12 := by omega
  have h0' : (1 : Int) ≤ (s.size : Int) := by omega
  obtain ⟨r, hr⟩ : ∃ r, Ar.nmK s s.size = r := ⟨_, rfl⟩
  rw [hr]
  have Hr : Hid (Ar.nmK s s.size = r) := hr
  clear hr
  go_enter Tryz.func49, Tryz.ntmps49
  go_wp2_with fail
  go_loopw [14] (fun i wr => ∃ k : Nat, k ≤ s.size ∧ i = .int .i64 k ∧ Hid (Ar.nmK s k = true) ∧ wr = w) (fun i _ => s.size - (intOf i).toNat)
  case atStart => exact ⟨0, by omega, rfl, rfl, rfl⟩
  case round =>
    obtain ⟨k, hk2, rfl, HL, rfl⟩ := hrel
    by_cases hlt : k < s.size
    · have d1 : decide ((k : Int) < (s.size : Int)) = true := by simp; omega
      have d1' : decide (k < s.size) = true := by simp; omega
      have hki : (k : Int) < (s.size : Int) := by omega
      have HY0 := at8_get s k hlt
      obtain ⟨y, hc⟩ : ∃ y, s[k].toNat = y := ⟨_, rfl⟩
      rw [hc] at HY0
      have HY : Hid (Cd.at8 s k = y) := HY0
      clear HY0
      have hy5 : y < 256 := by rw [← hc]; exact s[k].toNat_lt
      by_cases k1 : 97 ≤ y
      · by_cases k2 : y ≤ 122
        · have f0 : decide ((y : Int) < 97) = false := decide_eq_false (by omega)
          have g0 : ¬ ((y : Int) < 97) := by omega
          have f1 : decide ((122 : Int) < (y : Int)) = false := decide_eq_false (by omega)
          have g1 : ¬ ((122 : Int) < (y : Int)) := by omega
          have HN : Hid (Ar.nmK s (k + 1) = true) := by show _ = _; rw [Ar.nmK, HL.out, HY.out]; simp [Ar.okc]; omega
          clear Hr HY
          go_wp2_with fail
          go_roundw
          case rel => exact ⟨k + 1, by omega, by go_num, HN, by trivial⟩
          case measure => simp [intOf]; omega
        · have f0 : decide ((y : Int) < 97) = false := decide_eq_false (by omega)
          have g0 : ¬ ((y : Int) < 97) := by omega
          have f1 : decide ((122 : Int) < (y : Int)) = true := decide_eq_true (by omega)
          have g1 : (122 : Int) < (y : Int) := by omega
          have f2 : decide ((y : Int) < 48) = false := decide_eq_false (by omega)
          have g2 : ¬ ((y : Int) < 48) := by omega
          have f3 : decide ((57 : Int) < (y : Int)) = true := decide_eq_true (by omega)
          have g3 : (57 : Int) < (y : Int) := by omega
          have f5 : ((y : Int) == 46) = false := by simp; omega
          have f6 : ((y : Int) != 46) = true := by simp; omega
          have f7 : decide ((y : Int) = 46) = false := decide_eq_false (by omega)
          have HR : Hid (false = r) := by
            have hb : Ar.nmK s (k + 1) = false := by rw [Ar.nmK, HL.out, HY.out]; simp [Ar.okc]; omega
            have h9 := Ar.nmK_false hb (s.size - (k + 1))
            rw [show k + 1 + (s.size - (k + 1)) = s.size by omega] at h9
            exact h9.symm.trans Hr.out
          clear Hr HY
          go_wp2_with fail
          go_ret
          exact ⟨congrArg (fun x => Ending.returned (Value.bool x)) HR.out, rfl⟩
      · by_cases k3 : 48 ≤ y
        · by_cases k4 : y ≤ 57
          · have f0 : decide ((y : Int) < 97) = true := decide_eq_true (by omega)
            have g0 : (y : Int) < 97 := by omega
            have f1 : decide ((122 : Int) < (y : Int)) = false := decide_eq_false (by omega)
            have g1 : ¬ ((122 : Int) < (y : Int)) := by omega
            have f2 : decide ((y : Int) < 48) = false := decide_eq_false (by omega)
            have g2 : ¬ ((y : Int) < 48) := by omega
            have f3 : decide ((57 : Int) < (y : Int)) = false := decide_eq_false (by omega)
            have g3 : ¬ ((57 : Int) < (y : Int)) := by omega
            have f5 : ((y : Int) == 46) = false := by simp; omega
            have f6 : ((y : Int) != 46) = true := by simp; omega
            have f7 : decide ((y : Int) = 46) = false := decide_eq_false (by omega)
            have HN : Hid (Ar.nmK s (k + 1) = true) := by show _ = _; rw [Ar.nmK, HL.out, HY.out]; simp [Ar.okc]; omega
            clear Hr HY
            go_wp2_with fail
            go_roundw
            case rel => exact ⟨k + 1, by omega, by go_num, HN, by trivial⟩
            case measure => simp [intOf]; omega
          · have f0 : decide ((y : Int) < 97) = true := decide_eq_true (by omega)
            have g0 : (y : Int) < 97 := by omega
            have f1 : decide ((122 : Int) < (y : Int)) = false := decide_eq_false (by omega)
            have g1 : ¬ ((122 : Int) < (y : Int)) := by omega
            have f2 : decide ((y : Int) < 48) = false := decide_eq_false (by omega)
            have g2 : ¬ ((y : Int) < 48) := by omega
            have f3 : decide ((57 : Int) < (y : Int)) = true := decide_eq_true (by omega)
            have g3 : (57 : Int) < (y : Int) := by omega
            have f5 : ((y : Int) == 46) = false := by simp; omega
            have f6 : ((y : Int) != 46) = true := by simp; omega
            have f7 : decide ((y : Int) = 46) = false := decide_eq_false (by omega)
            have HR : Hid (false = r) := by
              have hb : Ar.nmK s (k + 1) = false := by rw [Ar.nmK, HL.out, HY.out]; simp [Ar.okc]; omega
              have h9 := Ar.nmK_false hb (s.size - (k + 1))
              rw [show k + 1 + (s.size - (k + 1)) = s.size by omega] at h9
              exact h9.symm.trans Hr.out
            clear Hr HY
            go_wp2_with fail
            go_ret
            exact ⟨congrArg (fun x => Ending.returned (Value.bool x)) HR.out, rfl⟩
        · by_cases k5 : y = 46
          · have f0 : decide ((y : Int) < 97) = true := decide_eq_true (by omega)
            have g0 : (y : Int) < 97 := by omega
            have f1 : decide ((122 : Int) < (y : Int)) = false := decide_eq_false (by omega)
            have g1 : ¬ ((122 : Int) < (y : Int)) := by omega
            have f2 : decide ((y : Int) < 48) = true := decide_eq_true (by omega)
            have g2 : (y : Int) < 48 := by omega
            have f3 : decide ((57 : Int) < (y : Int)) = false := decide_eq_false (by omega)
            have g3 : ¬ ((57 : Int) < (y : Int)) := by omega
            have f5 : ((y : Int) == 46) = true := by simp; omega
            have f6 : ((y : Int) != 46) = false := by simp; omega
            have f7 : decide ((y : Int) = 46) = true := decide_eq_true (by omega)
            have HN : Hid (Ar.nmK s (k + 1) = true) := by show _ = _; rw [Ar.nmK, HL.out, HY.out]; simp [Ar.okc]; omega
            clear Hr HY
            go_wp2_with fail
            go_roundw
            case rel => exact ⟨k + 1, by omega, by go_num, HN, by trivial⟩
            case measure => simp [intOf]; omega
          · have f0 : decide ((y : Int) < 97) = true := decide_eq_true (by omega)
            have g0 : (y : Int) < 97 := by omega
            have f1 : decide ((122 : Int) < (y : Int)) = false := decide_eq_false (by omega)
            have g1 : ¬ ((122 : Int) < (y : Int)) := by omega
            have f2 : decide ((y : Int) < 48) = true := decide_eq_true (by omega)
            have g2 : (y : Int) < 48 := by omega
            have f3 : decide ((57 : Int) < (y : Int)) = false := decide_eq_false (by omega)
            have g3 : ¬ ((57 : Int) < (y : Int)) := by omega
            have f5 : ((y : Int) == 46) = false := by simp; omega
            have f6 : ((y : Int) != 46) = true := by simp; omega
            have f7 : decide ((y : Int) = 46) = false := decide_eq_false (by omega)
            have HR : Hid (false = r) := by
              have hb : Ar.nmK s (k + 1) = false := by rw [Ar.nmK, HL.out, HY.out]; simp [Ar.okc]; omega
              have h9 := Ar.nmK_false hb (s.size - (k + 1))
              rw [show k + 1 + (s.size - (k + 1)) = s.size by omega] at h9
              exact h9.symm.trans Hr.out
            clear Hr HY
            go_wp2_with fail
            go_ret
            exact ⟨congrArg (fun x => Ending.returned (Value.bool x)) HR.out, rfl⟩
    · obtain rfl : k = s.size := by omega
      have d1 : decide ((s.size : Int) < (s.size : Int)) = false := by simp
      have HR : Hid (true = r) := HL.out.symm.trans Hr.out
      go_wp2_with fail
      go_ret
      exact ⟨congrArg (fun x => Ending.returned (Value.bool x)) HR.out, rfl⟩
set_option maxRecDepth 4000 in
set_option maxHeartbeats 1000000 in
theorem isName_any (s : ByteArray) (w : World) (hs : s.size ≤ 140737488355328) :
    Calls Tryz.prog 49 #[.string s] w fun e w' => e = .returned (.bool (Ar.isNm s)) ∧ w' = w := by
  unfold Ar.isNm
  by_cases h0 : s.size = 0
  · obtain rfl := empty_is h0
    have e : (decide (1 ≤ (⟨#[]⟩ : ByteArray).size ∧ (⟨#[]⟩ : ByteArray).size ≤ 12) && Ar.nmK ⟨#[]⟩ (⟨#[]⟩ : ByteArray).size) = false := rfl
    rw [e]
    go_enter Tryz.func49, Tryz.ntmps49
    go_wp2_with fail
    go_ret
    exact ⟨rfl, rfl⟩
  · by_cases h1 : s.size ≤ 12
    · rw [decide_eq_true ⟨by omega, h1⟩, Bool.true_and]
      exact isName_ok s w (by omega) h1
    · rw [decide_eq_false (by omega), Bool.false_and]
      have h1' : (12 : Int) < (s.size : Int) := by omega
      have d1 : decide ((12 : Int) < (s.size : Int)) = true := decide_eq_true h1'
      have hne := ne_empty (b := s) (by omega)
      have hne2 : (s.toList == []) = false := by rw [← hne]; cases s.toList <;> rfl
      go_enter Tryz.func49, Tryz.ntmps49
      go_wp2_with fail
      go_ret
      exact ⟨rfl, rfl⟩
end Go.Proofs.YtbjbjbpgmojcbabGreat
namespace Go.Proofs.YtbjbjbpgmojcbabGreat
open Go.RowKit
theorem box2 (w : World) (a b : Array Value) (s t : TypeId) : (∀ i, ((w.alloc (.cells a s (0, 0))).alloc (.cells b t (0, 0))).cell? ⟨w.heap.size, i, none⟩ = a[i]?) ∧ ∀ i, ((w.alloc (.cells a s (0, 0))).alloc (.cells b t (0, 0))).cell? ⟨w.heap.size + 1, i, none⟩ = b[i]? := by
  constructor
  · intro i
    rw [World.cell?_alloc_lt _ _ _ (by simp), World.cell?_alloc_new]
  · intro i
    have e : (w.alloc (.cells a s (0, 0))).heap.size = w.heap.size + 1 := by simp
    rw [← e, World.cell?_alloc_new]
set_option maxRecDepth 4000 in
set_option maxHeartbeats 1000000 in
theorem hasDict_any (ad af : Option Addr) (cd cf : Nat) (a : Ar.A) (n : Int) (w : World) (hd : a.dicts.length ≤ 8796093022208) :
    Calls Tryz.prog 50 #[av ad cd af cf a, .int .i64 n] w fun e w' => e = .returned (.bool (Ar.has a.dicts n)) ∧ Below w.heap.size w w' := by
  unfold av Ar.has
  generalize a.dicts.length = D at *
  generalize a.files.length = F at *
  have hD : (D : Int) ≤ 8796093022208 := by omega
  by_cases h1 : 0 ≤ n
  · have d1 : decide ((0 : Int) ≤ n) = true := decide_eq_true h1
    by_cases h2 : n ≤ (D : Int)
    · have d2 : decide (n ≤ (D : Int)) = true := decide_eq_true h2
      rw [decide_eq_true ⟨h1, h2⟩]
      go_enter Tryz.func50, Tryz.ntmps50
      go_wp2_with fail
      go_ret
      exact ⟨rfl, (Below.refl _ _).alloc (Nat.le_refl _) _⟩
    · have d2 : decide (n ≤ (D : Int)) = false := decide_eq_false h2
      rw [decide_eq_false (fun h => h2 h.2)]
      go_enter Tryz.func50, Tryz.ntmps50
      go_wp2_with fail
      go_ret
      exact ⟨rfl, (Below.refl _ _).alloc (Nat.le_refl _) _⟩
  · have d1 : decide ((0 : Int) ≤ n) = false := decide_eq_false h1
    rw [decide_eq_false (fun h => h1 h.1)]
    go_enter Tryz.func50, Tryz.ntmps50
    go_wp2_with fail
    go_ret
    exact ⟨rfl, (Below.refl _ _).alloc (Nat.le_refl _) _⟩
theorem TxSl.at {w : World} {ad : Option Addr} {xs : List ByteArray} (h : TxSl w ad xs) {i : Nat} (hi : i < xs.length) : ∃ b off, ad = some ⟨b, off, none⟩ ∧ b < w.heap.size ∧ w.cell? ⟨b, off + i, none⟩ = some (.string (Tr.xa xs i)) := by
  rcases h with rfl | ⟨b, off, h1, h2⟩
  · simp at hi
  · exact ⟨b, off, h1, h2.1, h2.2 i hi⟩
set_option maxRecDepth 4000 in
set_option maxHeartbeats 1000000 in
theorem dictionary_any (ad af : Option Addr) (cd cf : Nat) (a : Ar.A) (n : Int) (w : World) (hd : TxSl w ad a.dicts) (hl : a.dicts.length ≤ 8796093022208) (hn : Ar.has a.dicts n = true) :
    Calls Tryz.prog 92 #[av ad cd af cf a, .int .i64 n] w fun e w' => e = .returned (.string (Ar.dct a.dicts n)) ∧ Below w.heap.size w w' := by
  obtain ⟨h1, h2⟩ := of_decide_eq_true hn
  unfold av Ar.dct
  by_cases h0 : n = 0
  · subst h0
    rw [if_pos rfl]
    go_enter Tryz.func92, Tryz.ntmps92
    go_wp2_with fail
    go_ret
    exact ⟨rfl, (Below.refl _ _).alloc (Nat.le_refl _) _⟩
  · obtain ⟨m, rfl⟩ : ∃ m : Nat, n = (m : Int) + 1 := ⟨(n - 1).toNat, by omega⟩
    rw [if_neg h0, show (((m : Int) + 1 - 1).toNat) = m by omega]
    obtain ⟨b, off, rfl, hb, hc⟩ := hd.at (i := m) (by omega)
    generalize Tr.xa a.dicts m = X at *
    have hml : m < a.dicts.length := by omega
    generalize a.dicts.length = D at *
    generalize a.files.length = F at *
    have e0 : (((m : Int) + 1) == 0) = false := by simp; omega
    have e1 : decide ((m : Int) + 1 = 0) = false := decide_eq_false h0
    have e2 : (m : Int) + 1 - 1 = (m : Int) := by omega
    have hmi : (m : Int) < (D : Int) := by omega
    have hm9 : (m : Int) ≤ 8796093022208 := by omega
    have hk := (Below.refl w.heap.size w).alloc (Nat.le_refl _) (.cells #[.slice (some ⟨b, off, none⟩) D cd, .slice af F cf] 25 (0, 0))
    have hc2 := hk.cell (p := ⟨b, off + m, none⟩) hb
    clear hn h1 h2
    go_enter Tryz.func92, Tryz.ntmps92
    go_wp2_with fail
    go_ret
    exact ⟨rfl, hk⟩
end Go.Proofs.YtbjbjbpgmojcbabGreat
namespace Go.Proofs.YtbjbjbpgmojcbabGreat
open Go.RowKit
namespace Ar
theorem lgK_some {xs : List ByteArray} {k i : Nat} (h : lgK xs k = some i) : ∀ j, lgK xs (k + j) = some i := by
  intro j
  induction j with
  | zero => exact h
  | succ j ih => rw [← Nat.add_assoc, lgK, ih]
end Ar
set_option maxHeartbeats 400000 in
theorem dLong_any (t : ByteArray) (w : World) :
    Calls Tryz.prog 137 #[.string t] w fun e w' => e = .returned (.bool (decide ((256 : Int) < (t.size : Int)))) ∧ Below w.heap.size w w' := by
  go_enter Tryz.func137, Tryz.ntmps137
  go_wp2_with fail
  go_ret
  exact ⟨rfl, Below.refl _ _⟩
set_option maxRecDepth 4000 in
set_option maxHeartbeats 1000000 in
theorem dFirst_any (xs : List ByteArray) (b off cap : Nat) (w : World) (hx : Tr.TxAt w b off xs) (hn2 : xs.length ≤ 1000) (hB : ∀ i, (Tr.xa xs i).size ≤ 140737488355328) :
    Calls Tryz.prog 105 #[.slice (some ⟨b, off, none⟩) xs.length cap, .func (.func 137) #[] #[]] w fun e w' => e = .returned (.int .i64 (match Ar.lgK xs xs.length with | none => -1 | some i => (i : Int))) ∧ Below w.heap.size w w' := by
  have HX : Hid (∀ w', Tr.TxAt w' b off xs → ∀ i, i < xs.length → w'.cell? ⟨b, off + i, none⟩ = some (.string (Tr.xa xs i))) := fun w' h => h.2
  have HB : Hid (∀ i, (Tr.xa xs i).size ≤ 140737488355328) := hB
  clear hB
  obtain ⟨r, hr⟩ : ∃ r, (match Ar.lgK xs xs.length with | none => (-1 : Int) | some i => (i : Int)) = r := ⟨_, rfl⟩
  rw [hr]
  have Hr : Hid ((match Ar.lgK xs xs.length with | none => (-1 : Int) | some i => (i : Int)) = r) := hr
  clear hr
  go_enter Tryz.func105, Tryz.ntmps105
  go_wp2_with fail
  go_loopw [8] (fun i wr => ∃ k : Nat, k ≤ xs.length ∧ i = .int .i64 k ∧ Hid (Ar.lgK xs k = none) ∧ Tr.TxAt wr b off xs ∧ Below w.heap.size w wr) (fun i _ => xs.length - (intOf i).toNat)
  case atStart => exact ⟨0, by omega, rfl, rfl, hx, Below.refl _ _⟩
  case round =>
    clear hx
    obtain ⟨k, hk2, rfl, HL, hx, B1⟩ := hrel
    by_cases hlt : k < xs.length
    · have d1 : decide ((k : Int) < (xs.length : Int)) = true := by simp; omega
      have d1' : decide (k < xs.length) = true := by simp; omega
      have hki : (k : Int) < (xs.length : Int) := by omega
      have c1 := HX.out wr hx k hlt
      have z1 := HB.out k
      have c2 := fun w => dLong_any (Tr.xa xs k) w
      by_cases hs : 256 < (Tr.xa xs k).size
      · have HN : Hid (Ar.lgK xs (k + 1) = some k) := by show _ = _; rw [Ar.lgK, HL.out]; exact if_pos hs
        have HR : Hid ((k : Int) = r) := by
          have h9 := Ar.lgK_some HN.out (xs.length - (k + 1))
          rw [show k + 1 + (xs.length - (k + 1)) = xs.length by omega] at h9
          have := Hr.out
          rw [h9] at this
          exact this
        have d2 : decide ((256 : Int) < ((Tr.xa xs k).size : Int)) = true := decide_eq_true (by omega)
        rw [d2] at c2
        generalize Tr.xa xs k = X at *
        clear HN hs d2
        go_wp2_with fail
        refine (c2 _).mono ?_
        rintro e w2 ⟨rfl, G⟩
        have B2 := bch B1 G (Nat.le_refl _)
        go_wp2_with fail
        go_ret
        exact ⟨congrArg (fun x => Ending.returned (Value.int .i64 x)) HR.out, B2⟩
      · have HN : Hid (Ar.lgK xs (k + 1) = none) := by show _ = _; rw [Ar.lgK, HL.out]; exact if_neg hs
        have d2 : decide ((256 : Int) < ((Tr.xa xs k).size : Int)) = false := decide_eq_false (by omega)
        rw [d2] at c2
        generalize Tr.xa xs k = X at *
        clear hs d2
        go_wp2_with fail
        refine (c2 _).mono ?_
        rintro e w2 ⟨rfl, G⟩
        have B2 := bch B1 G (Nat.le_refl _)
        have hx2 := hx.below G
        clear B1 G hx
        go_wp2_with fail
        go_roundw
        case rel => exact ⟨k + 1, by omega, by go_num, HN, hx2, B2⟩
        case measure => simp [intOf]; omega
    · obtain rfl : k = xs.length := by omega
      have HR : Hid ((-1 : Int) = r) := by have := Hr.out; rw [HL.out] at this; exact this
      have d1 : decide ((xs.length : Int) < (xs.length : Int)) = false := by simp
      clear Hr
      go_wp2_with fail
      go_ret
      exact ⟨congrArg (fun x => Ending.returned (Value.int .i64 x)) HR.out, B1⟩
set_option maxRecDepth 4000 in
set_option maxHeartbeats 1000000 in
theorem dFirst_nil (ad : Option Addr) (cap : Nat) (w : World) :
    Calls Tryz.prog 105 #[.slice ad 0 cap, .func (.func 137) #[] #[]] w fun e w' => e = .returned (.int .i64 (-1)) ∧ Below w.heap.size w w' := by
  go_enter Tryz.func105, Tryz.ntmps105
  go_wp2_with fail
  go_loopw [8] (fun i wr => i = .int .i64 0 ∧ Below w.heap.size w wr) (fun i _ => 0)
  case atStart => exact ⟨rfl, Below.refl _ _⟩
  case round =>
    obtain ⟨rfl, B1⟩ := hrel
    go_wp2_with fail
    go_ret
    exact ⟨rfl, B1⟩
theorem dFirst_all (xs : List ByteArray) (ad : Option Addr) (cap : Nat) (w : World) (hx : TxSl w ad xs) (hn2 : xs.length ≤ 1000) (hB : ∀ i, (Tr.xa xs i).size ≤ 140737488355328) :
    Calls Tryz.prog 105 #[.slice ad xs.length cap, .func (.func 137) #[] #[]] w fun e w' => e = .returned (.int .i64 (match Ar.lgK xs xs.length with | none => -1 | some i => (i : Int))) ∧ Below w.heap.size w w' := by
  rcases hx with rfl | ⟨b, off, rfl, h2⟩
  · exact dFirst_nil ad cap w
  · exact dFirst_any xs b off cap w h2 hn2 hB
set_option maxRecDepth 4000 in
set_option maxHeartbeats 1000000 in
theorem dAny_any (xs : List ByteArray) (ad : Option Addr) (cap : Nat) (w : World) (hx : TxSl w ad xs) (hn2 : xs.length ≤ 1000) (hB : ∀ i, (Tr.xa xs i).size ≤ 140737488355328) :
    Calls Tryz.prog 136 #[.slice ad xs.length cap, .func (.func 137) #[] #[]] w fun e w' => e = .returned (.bool (Ar.lgK xs xs.length).isSome) ∧ Below w.heap.size w w' := by
  have c1 := dFirst_all xs ad cap w hx hn2 hB
  cases hq : Ar.lgK xs xs.length with
  | none =>
    rw [hq] at c1
    simp only at c1
    clear hq
    go_enter Tryz.func136, Tryz.ntmps136
    go_wp2_with fail
    refine c1.mono ?_
    rintro e w1 ⟨rfl, G⟩
    go_wp2_with fail
    go_ret
    exact ⟨rfl, G⟩
  | some i =>
    rw [hq] at c1
    simp only at c1
    clear hq
    have h0 : (0 : Int) ≤ (i : Int) := by omega
    have d0 : decide ((0 : Int) ≤ (i : Int)) = true := decide_eq_true h0
    go_enter Tryz.func136, Tryz.ntmps136
    go_wp2_with fail
    refine c1.mono ?_
    rintro e w1 ⟨rfl, G⟩
    go_wp2_with fail
    go_ret
    exact ⟨rfl, G⟩
set_option maxRecDepth 4000 in
set_option maxHeartbeats 1000000 in
theorem archMany_any (ad af : Option Addr) (cd cf : Nat) (a : Ar.A) (w : World) (hx : TxSl w ad a.dicts) (hs : SaneA a) :
    Calls Tryz.prog 97 #[av ad cd af cf a] w fun e w' => e = .returned (.bool (Ar.many a)) ∧ Below w.heap.size w w' := by
  have hk := fun o => (Below.refl w.heap.size w).alloc (Nat.le_refl _) o
  have hn := hs.nd
  have hf := hs.nf
  have c1 := fun w hx h => dAny_any a.dicts ad cd w hx h hs.ds
  unfold Ar.many av
  generalize (Ar.lgK a.dicts a.dicts.length).isSome = r at *
  have HX : Hid (∀ o, TxSl (w.alloc o) ad a.dicts) := fun o => hx.below (hk o)
  clear hx
  generalize a.dicts = ds at *
  generalize a.files.length = F at *
  obtain ⟨D, hD⟩ : ∃ D, ds.length = D := ⟨_, rfl⟩
  rw [hD] at c1 hn ⊢
  have hDi : (D : Int) ≤ 8796093022208 := by omega
  have hFi : (F : Int) ≤ 8796093022208 := by omega
  by_cases h1 : 4 < D
  · have h1' : (4 : Int) < (D : Int) := by omega
    have d1 : decide ((4 : Int) < (D : Int)) = true := decide_eq_true h1'
    rw [decide_eq_true (show 4 < D ∨ 12 < F from .inl h1), Bool.true_or]
    go_enter Tryz.func97, Tryz.ntmps97
    go_wp2_with fail
    go_ret
    exact ⟨rfl, hk _⟩
  · have h1' : ¬ (4 : Int) < (D : Int) := by omega
    have d1 : decide ((4 : Int) < (D : Int)) = false := decide_eq_false h1'
    by_cases h2 : 12 < F
    · have h2' : (12 : Int) < (F : Int) := by omega
      have d2 : decide ((12 : Int) < (F : Int)) = true := decide_eq_true h2'
      rw [decide_eq_true (show 4 < D ∨ 12 < F from .inr h2), Bool.true_or]
      go_enter Tryz.func97, Tryz.ntmps97
      go_wp2_with fail
      go_ret
      exact ⟨rfl, hk _⟩
    · have h2' : ¬ (12 : Int) < (F : Int) := by omega
      have d2 : decide ((12 : Int) < (F : Int)) = false := decide_eq_false h2'
      rw [decide_eq_false (show ¬ (4 < D ∨ 12 < F) by omega), Bool.false_or]
      have hb := hk (.cells #[.slice ad D cd, .slice af F cf] 25 (0, 0))
      have c2 := c1 _ (HX.out (.cells #[.slice ad D cd, .slice af F cf] 25 (0, 0))) (by omega)
      clear c1
      go_enter Tryz.func97, Tryz.ntmps97
      go_wp2_with fail
      refine c2.mono ?_
      rintro e w1 ⟨rfl, G⟩
      go_wp2_with fail
      go_ret
      exact ⟨rfl, bch hb G (Nat.le_refl _)⟩
end Go.Proofs.YtbjbjbpgmojcbabGreat
namespace Go.Proofs.YtbjbjbpgmojcbabGreat
theorem run_len {d : Nat} : ∀ {l : List Tk.T} {s : List UInt8} {p : Bool}, (Tk.run d s p l).1 = 0 → s.length ≤ d + 512 → (Tk.run d s p l).2.length ≤ d + 512
  | [], _, _, _, h => h
  | t :: l, s, p, h1, h2 => by
    by_cases he : Tk.err d s p t = 0
    · rw [Tk.run_good he] at h1 ⊢
      exact run_len h1 (by have h9 := Tk.make_ok he; have := h9.1; have := h9.2.1; have := h9.2.2.2.2; omega)
    · rw [Tk.run_bad he] at h1; exact absurd h1 he
theorem Bk.ply_size {dict s : ByteArray} (h : (Bk.ply dict s).2 = 0) : (Bk.ply dict s).1.size ≤ 512 := by
  unfold Bk.ply at h ⊢
  cases hm : readOf dict s with
  | none => rw [hm] at h; cases h
  | some l =>
    simp only
    unfold playOf
    split
    · show 0 ≤ _; omega
    · rename_i h9
      have h8 : checkOf dict l = 0 := Decidable.not_not.1 h9
      unfold checkOf at h8
      split at h8
      · cases h8
      · have := run_len h8 (by simp)
        show (List.toArray _).size ≤ 512
        simp
        omega
theorem Bk.unp_size {dict b : ByteArray} (h : (Bk.unp dict b).2 = 0) : (Bk.unp dict b).1.size ≤ 512 := by
  have z : (⟨#[]⟩ : ByteArray).size ≤ 512 := by decide
  unfold Bk.unp at h ⊢
  split
  · exact z
  · rename_i h1
    rw [if_neg h1] at h
    split
    · exact z
    · rename_i h2
      rw [if_neg h2] at h
      split
      · rename_i h3
        rw [if_pos h3] at h
        unfold Bk.whl at h ⊢
        split
        · exact z
        · rename_i h4; exact Nat.le_of_not_lt h4
      · rename_i h3
        rw [if_neg h3] at h
        split
        · rename_i h4
          rw [if_pos h4] at h
          exact Bk.ply_size h
        · rename_i h4
          rw [if_neg h4] at h
          split
          · rename_i h5
            rw [if_pos h5] at h
            split
            · rename_i h6
              rw [if_pos h6] at h
              exact Bk.ply_size h
            · exact z
          · exact z
end Go.Proofs.YtbjbjbpgmojcbabGreat
namespace Go.Proofs.YtbjbjbpgmojcbabGreat
open Go.RowKit
namespace Ar
def ukT (ds : List ByteArray) (f : F) : ByteArray := if okf ds f = true then tx ds f else ⟨#[]⟩
end Ar
set_option maxRecDepth 4000 in
set_option maxHeartbeats 2000000 in
theorem archUnpack_any (ad af : Option Addr) (cd cf : Nat) (a : Ar.A) (f : Ar.F) (w : World) (hx : TxSl w ad a.dicts) (hs : SaneA a) (hfb : f.blk.size ≤ 140737488355328) :
    Calls Tryz.prog 98 #[av ad cd af cf a, fv f] w fun e w' => e = .returned (.tuple #[.string (Ar.ukT a.dicts f), .bool (Ar.okf a.dicts f)]) ∧ Below w.heap.size w w' := by
  have hn := hs.nd
  have c1 := fun w => hasDict_any ad af cd cf a f.dict w hn
  have HX : Hid (∀ w', Below w.heap.size w w' → TxSl w' ad a.dicts) := fun w' h => hx.below h
  clear hx
  cases hh : Ar.has a.dicts f.dict with
  | false =>
    have e1 : Ar.okf a.dicts f = false := by unfold Ar.okf; rw [hh]; rfl
    have e2 : Ar.ukT a.dicts f = ⟨#[]⟩ := by unfold Ar.ukT; rw [e1]; rfl
    rw [e1, e2]
    rw [hh] at c1
    unfold av at c1 ⊢
    unfold fv
    generalize a.dicts.length = D at *
    generalize a.files.length = F at *
    clear e1 e2 hh hs
    go_enter Tryz.func98, Tryz.ntmps98
    go_wp2_with fail
    refine (c1 _).mono ?_
    rintro e w1 ⟨rfl, G⟩
    go_wp2_with fail
    go_ret2
    exact ⟨rfl, bch (((Below.refl _ _).alloc (Nat.le_refl _) _).alloc (by simp) _) G (by simp)⟩
  | true =>
    have c2 := fun w hx => dictionary_any ad af cd cf a f.dict w hx hn hh
    have c3 := fun w => unpack_any (Ar.dct a.dicts f.dict) f.blk w (hs.dct _) hfb
    rw [hh] at c1
    unfold av at c1 c2 ⊢
    unfold fv
    have HO : Hid (Ar.okf a.dicts f = decide ((Ar.up a.dicts f).2 = 0 ∧ ((Ar.up a.dicts f).1.size : Int) = f.size ∧ Ar.sm (Ar.up a.dicts f).1 = f.sum)) := by show _ = _; unfold Ar.okf; rw [hh, Bool.true_and]
    have HU : Hid (Ar.up a.dicts f = Bk.unp (Ar.dct a.dicts f.dict) f.blk) := rfl
    have HZ : Hid ((Ar.up a.dicts f).2 = 0 → (Ar.up a.dicts f).1.size ≤ 512) := fun h => Bk.unp_size h
    generalize Ar.dct a.dicts f.dict = X at *
    have HT : Hid (Ar.ukT a.dicts f = if Ar.okf a.dicts f = true then (Ar.up a.dicts f).1 else ⟨#[]⟩) := rfl
    rw [HT.out, HO.out]
    rw [HU.out] at HZ ⊢
    obtain ⟨U, hU⟩ : ∃ U, Bk.unp X f.blk = U := ⟨_, rfl⟩
    simp only [hU] at c3 HZ ⊢
    obtain ⟨T, E⟩ := U
    simp only at c3 HZ ⊢
    obtain ⟨r, hr⟩ : ∃ r, decide (E = 0 ∧ (T.size : Int) = f.size ∧ Ar.sm T = f.sum) = r := ⟨_, rfl⟩
    rw [hr]
    have HR : Hid (decide (E = 0 ∧ (T.size : Int) = f.size ∧ Ar.sm T = f.sum) = r) := hr
    obtain ⟨t, ht⟩ : ∃ t, (if r = true then T else ⟨#[]⟩) = t := ⟨_, rfl⟩
    rw [ht]
    have HT2 : Hid ((if r = true then T else ⟨#[]⟩) = t) := ht
    clear HO HU HT hU hh hs hr ht
    generalize f.name = f0 at *
    generalize f.dict = f1 at *
    generalize f.size = f2 at *
    generalize f.sum = f3 at *
    generalize f.blk = f4 at *
    generalize a.dicts.length = D at *
    generalize a.files.length = F at *
    go_enter Tryz.func98, Tryz.ntmps98
    go_wp2_with fail
    refine (c1 _).mono ?_
    rintro e w1 ⟨rfl, G⟩
    clear c1
    have B0 : Below w.heap.size w ((w.alloc (.cells #[.slice ad D cd, .slice af F cf] 25 (0, 0))).alloc (.cells #[.string f0, .int .i64 f1, .int .i64 f2, .int .i64 f3, .string f4] 46 (0, 0))) := ((Below.refl _ _).alloc (Nat.le_refl _) _).alloc (by simp) _
    have hA : ∀ i, w1.cell? ⟨w.heap.size, i, none⟩ = (#[.slice ad D cd, .slice af F cf] : Array Value)[i]? := fun i => (G.cell (p := ⟨w.heap.size, i, none⟩) (by show w.heap.size < _; simp; omega)).trans ((box2 w _ _ _ _).1 i)
    have hF : ∀ i, w1.cell? ⟨w.heap.size + 1, i, none⟩ = (#[.string f0, .int .i64 f1, .int .i64 f2, .int .i64 f3, .string f4] : Array Value)[i]? := fun i => (G.cell (p := ⟨w.heap.size + 1, i, none⟩) (by simp)).trans ((box2 w _ _ _ _).2 i)
    have hz : w.heap.size + 1 < w1.heap.size := by have := G.size; simp at this; omega
    have B1 := bch B0 G (Nat.le_refl _)
    clear G B0
    have a0 : w1.cell? ⟨w.heap.size, 0, none⟩ = some (.slice ad D cd) := hA 0
    have a1 : w1.cell? ⟨w.heap.size, 1, none⟩ = some (.slice af F cf) := hA 1
    have b1 : w1.cell? ⟨w.heap.size + 1, 1, none⟩ = some (.int .i64 f1) := hF 1
    have b2 : w1.cell? ⟨w.heap.size + 1, 2, none⟩ = some (.int .i64 f2) := hF 2
    have b3 : w1.cell? ⟨w.heap.size + 1, 3, none⟩ = some (.int .i64 f3) := hF 3
    have b4 : w1.cell? ⟨w.heap.size + 1, 4, none⟩ = some (.string f4) := hF 4
    clear hA hF
    have HS : Hid (∀ w', Below w1.heap.size w1 w' → Below w1.heap.size w1 w' ∧ w'.cell? ⟨w.heap.size, 0, none⟩ = some (.slice ad D cd) ∧ w'.cell? ⟨w.heap.size, 1, none⟩ = some (.slice af F cf) ∧ w'.cell? ⟨w.heap.size + 1, 1, none⟩ = some (.int .i64 f1) ∧ w'.cell? ⟨w.heap.size + 1, 4, none⟩ = some (.string f4)) := fun w' h =>
      ⟨h, (h.cell (p := ⟨w.heap.size, 0, none⟩) (by show w.heap.size < _; omega)).trans a0, (h.cell (p := ⟨w.heap.size, 1, none⟩) (by show w.heap.size < _; omega)).trans a1, (h.cell (p := ⟨w.heap.size + 1, 1, none⟩) hz).trans b1, (h.cell (p := ⟨w.heap.size + 1, 4, none⟩) hz).trans b4⟩
    have C2 : Hid (∀ w', Below w1.heap.size w1 w' → Calls Tryz.prog 92 #[.agg #[.slice ad D cd, .slice af F cf], .int .i64 f1] w' fun e w2 => e = .returned (.string X) ∧ Below w'.heap.size w' w2) := fun w' h => c2 w' (HX.out _ (bch B1 h (Nat.le_refl _)))
    have C3 : Hid (∀ w, Calls Tryz.prog 138 #[.string X, .string f4] w fun e w2 => e = .returned (.tuple #[.string T, .int .i64 E]) ∧ Below w.heap.size w w2) := c3
    clear c2 c3
    go_wp2_with fail
    go_region_held3 (fun w' => Below w1.heap.size w1 w' ∧ w'.cell? ⟨w.heap.size, 0, none⟩ = some (.slice ad D cd) ∧ w'.cell? ⟨w.heap.size, 1, none⟩ = some (.slice af F cf) ∧ w'.cell? ⟨w.heap.size + 1, 1, none⟩ = some (.int .i64 f1) ∧ w'.cell? ⟨w.heap.size + 1, 4, none⟩ = some (.string f4))
      (first | (exact HS.out _ ((Below.refl _ _).drew)) | (exact HS.out _ (bch (And.left (by assumption)) G5 (Nat.le_refl _))) | (exact HS.out _ (bch (And.left (by assumption)) G4 (Nat.le_refl _))) | (go_keep; done))
      (first
        | (go_at_call 92; refine (C2.out _ ?_).mono ?_; exact And.left (by assumption); rintro e w4 ⟨rfl, G4⟩)
        | (go_at_call 138; refine (C3.out _).mono ?_; rintro e w5 ⟨rfl, G5⟩))
    have B5 : Below w1.heap.size w1 w5 := bch (bch ((Below.refl _ _).drew) G4 (Nat.le_refl _)) G5 (Nat.le_refl _)
    have b2' := (B5.cell (p := ⟨w.heap.size + 1, 2, none⟩) hz).trans b2
    have b3' := (B5.cell (p := ⟨w.heap.size + 1, 3, none⟩) hz).trans b3
    have B6 := bch B1 B5 (Nat.le_refl _)
    have B7 : Hid (∀ n, Below w.heap.size w (w5.drewN n)) := fun n => ⟨B6.os, B6.tape, B6.output, B6.size, B6.block⟩
    clear G4 G5 HS C2 C3 a0 a1 b1 b2 b3 b4 B5 B6 B1 HX
    by_cases hE : E = 0
    · subst hE
      have hT := HZ.out rfl
      have C6 := fun w => sum_any T w (by omega)
      have hsm : Hid ((sumTo T T.size : Int) = Ar.sm T) := rfl
      have hT' : (T.size : Int) ≤ 512 := by omega
      by_cases h2 : (T.size : Int) = f2
      · subst h2
        by_cases h3 : Ar.sm T = f3
        · subst h3
          have hr : Hid (r = true) := by show _ = _; rw [← HR.out]; exact decide_eq_true ⟨rfl, rfl, rfl⟩
          clear HR
          rw [hsm.out] at C6
          generalize Ar.sm T = M at *
          clear hsm
          go_wp2_with fail
          go_quiet ((go_at_call 93; exact Calls.quiet_of_same (C6 _)))
          all_goals
            go_wp2_with fail
            go_ret2
            exact ⟨by rw [← HT2.out, hr.out]; rfl, B7.out _⟩
        · have hr : Hid (r = false) := by show _ = _; rw [← HR.out]; exact decide_eq_false (fun h => h3 h.2.2)
          clear HR
          rw [hsm.out] at C6
          generalize Ar.sm T = M at *
          clear hsm
          have e1 : (M != f3) = true := by simpa using h3
          have e2 : (M == f3) = false := by simpa using h3
          have e3 : decide (M = f3) = false := decide_eq_false h3
          go_wp2_with fail
          go_quiet ((go_at_call 93; exact Calls.quiet_of_same (C6 _)))
          all_goals
            go_wp2_with fail
            go_ret2
            exact ⟨by rw [← HT2.out, hr.out]; rfl, B7.out _⟩
      · have hr : Hid (r = false) := by show _ = _; rw [← HR.out]; exact decide_eq_false (fun h => h2 h.2.1)
        clear HR
        have e1 : ((T.size : Int) != f2) = true := by simpa using h2
        have e2 : ((T.size : Int) == f2) = false := by simpa using h2
        have e3 : decide ((T.size : Int) = f2) = false := decide_eq_false h2
        clear C6 hsm
        go_wp2_with fail
        go_quiet (fail)
        all_goals
          go_wp2_with fail
          go_ret2
          exact ⟨by rw [← HT2.out, hr.out]; rfl, B7.out _⟩
    · have hr : Hid (r = false) := by show _ = _; rw [← HR.out]; exact decide_eq_false (fun h => hE h.1)
      clear HR
      have e1 : (E != 0) = true := by simpa using hE
      have e2 : (E == 0) = false := by simpa using hE
      have e3 : decide (E = 0) = false := decide_eq_false hE
      go_wp2_with fail
      go_quiet (fail)
      all_goals
        go_wp2_with fail
        go_ret2
        exact ⟨by rw [← HT2.out, hr.out]; rfl, B7.out _⟩
end Go.Proofs.YtbjbjbpgmojcbabGreat
namespace Go.Proofs.YtbjbjbpgmojcbabGreat
namespace Ar
theorem fa_get {fs : List F} {i : Nat} (h : i < fs.length) : fa fs i = fs[i] := by simp [fa, h]
def Srt (fs : List F) : Prop := ∀ i j, i < j → j < fs.length → Tr.bl (fa fs i).name (fa fs j).name = true
theorem bl_asymm {a b : ByteArray} (h : Tr.bl a b = true) : Tr.bl b a = false := by
  cases h2 : Tr.bl b a with
  | false => rfl
  | true => have := Tr.bl_trans h h2; rw [Tr.bl_irr] at this; cases this
theorem gdK_at {a : A} : ∀ {k i : Nat}, gdK a k = true → i < k → okAt a i = true
  | 0, i, _, h => by omega
  | k + 1, i, h, hi => by
    rw [gdK, Bool.and_eq_true] at h
    by_cases e : i = k
    · subst e; exact h.2
    · exact gdK_at h.1 (by omega)
theorem gdK_of {a : A} : ∀ {k : Nat}, (∀ i, i < k → okAt a i = true) → gdK a k = true
  | 0, _ => rfl
  | k + 1, h => by rw [gdK, gdK_of (fun i hi => h i (by omega)), h k (by omega)]; rfl
theorem okAt_parts {a : A} {i : Nat} (h : okAt a i = true) : isNm (fa a.files i).name = true ∧ (i = 0 ∨ Tr.bl (fa a.files (i - 1)).name (fa a.files i).name = true) ∧ okf a.dicts (fa a.files i) = true := by
  simp only [okAt, Bool.and_eq_true, Bool.or_eq_true, decide_eq_true_iff] at h
  exact ⟨h.1.1, h.1.2, h.2⟩
theorem srt_of {a : A} (h : gdK a a.files.length = true) : Srt a.files := by
  intro i j hij hj
  induction j with
  | zero => omega
  | succ j ih =>
    have h1 := (okAt_parts (gdK_at h hj)).2.1
    rcases h1 with h1 | h1
    · omega
    · by_cases e : i = j
      · subst e; exact h1
      · exact Tr.bl_trans (ih (by omega) (by omega)) h1
theorem pos_le (fs : List F) (name : ByteArray) : pos fs name ≤ fs.length := (List.takeWhile_prefix _).length_le
theorem pos_lt {fs : List F} {name : ByteArray} {i : Nat} (h : i < pos fs name) : Tr.bl (fa fs i).name name = true := by
  have hl := pos_le fs name
  have hp : fs.takeWhile (fun f => Tr.bl f.name name) <+: fs := List.takeWhile_prefix _
  have h1 : (fs.takeWhile fun f => Tr.bl f.name name)[i]'h = fs[i]'(by omega) := List.IsPrefix.getElem hp h
  rw [fa_get (by omega), ← h1]
  have := List.all_takeWhile (p := fun f => Tr.bl f.name name) (l := fs)
  rw [List.all_eq_true] at this
  exact this _ (List.getElem_mem h)
theorem pos_at {fs : List F} {name : ByteArray} (h : pos fs name < fs.length) : Tr.bl (fa fs (pos fs name)).name name = false := by
  rw [fa_get h]
  induction fs with
  | nil => simp at h
  | cons f fs ih =>
    cases hb : Tr.bl f.name name with
    | false =>
      have e : pos (f :: fs) name = 0 := by simp [pos, hb]
      simp only [e, List.getElem_cons_zero]
      exact hb
    | true =>
      have e : pos (f :: fs) name = pos fs name + 1 := by simp [pos, hb]
      simp only [e, List.getElem_cons_succ]
      exact ih (by rw [e] at h; simpa using h)
theorem pos_is {fs : List F} {name : ByteArray} {i : Nat} (hi : i ≤ fs.length) (h1 : ∀ k, k < i → Tr.bl (fa fs k).name name = true) (h2 : i < fs.length → Tr.bl (fa fs i).name name = false) : pos fs name = i := by
  by_cases e1 : pos fs name < i
  · have := h1 _ e1; rw [pos_at (by omega)] at this; cases this
  · by_cases e2 : i < pos fs name
    · have := h2 (by have := pos_le fs name; omega); rw [pos_lt e2] at this; cases this
    · omega
theorem there_parts {fs : List F} {name : ByteArray} (h : there fs name = true) : pos fs name < fs.length ∧ (fa fs (pos fs name)).name = name := of_decide_eq_true h
theorem take_succ' {fs : List F} {k : Nat} (h : k < fs.length) : fs.take (k + 1) = fs.take k ++ [fa fs k] := by
  rw [List.take_succ_eq_append_getElem h, fa_get h]
def rdK (fs : List F) (name : ByteArray) : Nat → List F
  | 0 => []
  | k + 1 => if (fa fs k).name = name then rdK fs name k else rdK fs name k ++ [fa fs k]
end Ar
end Go.Proofs.YtbjbjbpgmojcbabGreat
namespace Go.Proofs.YtbjbjbpgmojcbabGreat
open Go.RowKit
namespace Cd
theorem wI_same {f g : Nat → Int} {n : Int} {x : Int × (Nat → Int)} : ∀ k, (∀ i, i < k → f i = g i) → wI f n x k = wI g n x k := by
  intro k
  induction k with
  | zero => intro _; rfl
  | succ k ih => intro h; rw [wI, wI, ih (fun i hi => h i (by omega)), h k (by omega)]
theorem wO_same {f g : Nat → Int} (h : ∀ i, i < 16 → f i = g i) : ∀ n, wO f n = wO g n := by
  intro n
  induction n with
  | zero => rfl
  | succ n ih => rw [wO, wO, ih, wI_same 16 h]
theorem wds_same {f g : Nat → Int} (h : ∀ i, i < 16 → f i = g i) : wds f = wds g := by rw [wds, wds, wO_same h]
theorem find_same {f g ws : Nat → Int} {n word : Int} : ∀ k, (∀ i, i < k → f i = g i) → find f ws n word k = find g ws n word k := by
  intro k
  induction k with
  | zero => intro _; rfl
  | succ k ih => intro h; rw [find, find, ih (fun i hi => h i (by omega)), h k (by omega)]
theorem sgn_same {f g ws : Nat → Int} {b : ByteArray} (h : ∀ i, i < 16 → f i = g i) : ∀ m n word a, sgn f ws b m n word a = sgn g ws b m n word a := by
  intro m
  induction m with
  | zero => intro _ _ _; rfl
  | succ m ih => intro n word a; rw [sgn, sgn, ih, fnd, fnd, find_same 16 h]
theorem s15_same {f g : Nat → Int} {b : ByteArray} (h : ∀ i, i < 16 → f i = g i) (a : Nat) : s15 f b a = s15 g b a := by rw [s15, s15, wds_same h, sgn_same h]
theorem rdK_same {f g : Nat → Int} {b : ByteArray} (h : ∀ i, i < 16 → f i = g i) : ∀ k, rdK f b k = rdK g b k := by
  intro k
  induction k with
  | zero => rfl
  | succ k ih => rw [rdK, rdK, ih]; simp only [s15_same h]
theorem sm_same {f g : Nat → Int} : ∀ k, (∀ i, i < k → f i = g i) → sm f k = sm g k := by
  intro k
  induction k with
  | zero => intro _; rfl
  | succ k ih => intro h; rw [sm, sm, ih (fun i hi => h i (by omega)), h k (by omega)]
theorem chk_same {f g : Nat → Int} (h : ∀ i, i < 16 → f i = g i) : chk f = chk g := by
  have e : InR f 15 16 ↔ InR g 15 16 := ⟨fun h9 i hi => by rw [← h i hi]; exact h9 i hi, fun h9 i hi => by rw [h i hi]; exact h9 i hi⟩
  rw [chk, chk, sm_same 16 h]
  by_cases h1 : InR f 15 16
  · rw [if_pos h1, if_pos (e.1 h1)]
  · rw [if_neg h1, if_neg (fun h9 => h1 (e.2 h9))]
theorem rd_same {f g : Nat → Int} {b : ByteArray} {n : Int} (h : ∀ i, i < 16 → f i = g i) : rd f b n = rd g b n := by
  rw [rd, rd, chk_same h, rdK_same h]
theorem wrK_all {f : Nat → Int} {s : ByteArray} : ∀ k, (∀ i, i < k → f (at8 s i / 16) ≠ 0 ∧ f (at8 s i % 16) ≠ 0) → ∃ bs, wrK f s k = some bs := by
  intro k
  induction k with
  | zero => intro _; exact ⟨[], rfl⟩
  | succ k ih =>
    intro h
    obtain ⟨bs, e⟩ := ih (fun i hi => h i (by omega))
    have h1 := h k (by omega)
    exact ⟨_, wrK_next e (fun h9 => h9.elim h1.1 h1.2)⟩
end Cd
namespace Bk
theorem hvK_mono (s : ByteArray) : ∀ k i, hvK s k i ≤ hvK s (k + 1) i := by
  intro k i
  rw [hvK]
  unfold upd
  split
  · rename_i h
    split
    · rename_i h2; rw [← h2, h]; omega
    · rw [h]; omega
  · split
    · rename_i h2; rw [h2]; omega
    · exact Int.le_refl _
theorem hvK_le (s : ByteArray) (k i : Nat) : ∀ j, hvK s k i ≤ hvK s (k + j) i := by
  intro j
  induction j with
  | zero => exact Int.le_refl _
  | succ j ih => exact Int.le_trans ih (hvK_mono s (k + j) i)
theorem hvK_here (s : ByteArray) (k : Nat) : 1 ≤ hvK s (k + 1) (Cd.at8 s k / 16) ∧ 1 ≤ hvK s (k + 1) (Cd.at8 s k % 16) := by
  have h1 := (hvK_b s k (Cd.at8 s k / 16)).1
  have h2 := (hvK_b s k (Cd.at8 s k % 16)).1
  rw [hvK]
  unfold upd
  refine ⟨?_, ?_⟩
  · split
    · split <;> omega
    · rw [if_pos rfl]; omega
  · rw [if_pos rfl]
    split <;> omega
theorem hv_here {s : ByteArray} {k : Nat} (h : k < s.size) : 1 ≤ hv s (Cd.at8 s k / 16) ∧ 1 ≤ hv s (Cd.at8 s k % 16) := by
  have h1 := hvK_here s k
  have h2 := hvK_le s (k + 1) (Cd.at8 s k / 16) (s.size - (k + 1))
  have h3 := hvK_le s (k + 1) (Cd.at8 s k % 16) (s.size - (k + 1))
  rw [show k + 1 + (s.size - (k + 1)) = s.size by omega] at h2 h3
  unfold hv
  omega
theorem bld_fine {s : ByteArray} (h0 : s.size ≠ 0) (h : s.size ≤ 1024) : (Cd.bld (hv s)).2 = 0 := by
  unfold Cd.bld
  rw [if_neg (fun h9 => h9 (hv_in s h))]
  have h1 := (hv_here (s := s) (k := 0) (by omega)).1
  have h2 := ((Cd.lt2_min (hv s) 16).1 (Cd.at8 s 0 / 16) (by have := Cd.at8_lt s 0; omega) (by omega)).1
  rw [if_neg h2]
  split <;> rfl
theorem wrt_fine {s : ByteArray} (h0 : s.size ≠ 0) (h : s.size ≤ 1024) : (Cd.wrt (Cd.bld (hv s)).1 s).2 = 0 := by
  obtain ⟨hc, hz, _⟩ := Cd.bld_best (hv s) (bld_fine h0 h)
  have hn : ∀ i, i < 16 → ¬ (0 < hv s i ∧ (Cd.bld (hv s)).1 i = 0) := by
    cases hq : Cd.cst (Cd.bld (hv s)).1 (hv s) 16 with
    | none => rw [cost_none hc (hv_in s h) hq] at hz; exact absurd hz (by decide)
    | some n => exact (Cd.cst_inv 16 n hq).1
  obtain ⟨bs, e⟩ := Cd.wrK_all (f := (Cd.bld (hv s)).1) (s := s) s.size (fun i hi => by
    have h1 := hv_here hi
    have h2 := Cd.at8_lt s i
    exact ⟨fun h9 => hn _ (by omega) ⟨by omega, h9⟩, fun h9 => hn _ (by omega) ⟨by omega, h9⟩⟩)
  rw [Cd.wrt, if_neg (fun h9 => h9 hc), if_neg (by omega), e]
theorem at8_jn (f : Nat → Int) (h : Cd.InR f 15 16) (j : Nat) (hj : j < 8) : (Cd.at8 ⟨(jn f).toArray⟩ j : Int) = f (2 * j) * 16 + f (2 * j + 1) := by
  have h1 := h (2 * j) (by omega)
  have h2 := h (2 * j + 1) (by omega)
  unfold Cd.at8 jn jnK
  simp only [List.getElem?_map, List.getElem?_range hj, Option.map_some, Option.getD_some]
  rw [UInt8.toNat_ofNat']
  omega
theorem pt_jn (f : Nat → Int) (h : Cd.InR f 15 16) : ∀ i, i < 16 → pt ⟨(jn f).toArray⟩ i = f i := by
  intro i hi
  have h1 := at8_jn f h (i / 2) (by omega)
  have h2 := h (2 * (i / 2)) (by omega)
  have h3 := h (2 * (i / 2) + 1) (by omega)
  unfold pt ptK
  rw [if_pos (by omega)]
  split
  · rename_i h4
    rw [show 2 * (i / 2) = i by omega] at *
    omega
  · rename_i h4
    rw [show 2 * (i / 2) + 1 = i by omega] at *
    omega
theorem ext_front (a b : ByteArray) : (a ++ b).extract 0 a.size = a := by
  apply Nm.ba_ext
  simp [ByteArray.data_extract, ByteArray.data_append, Array.toList_extract]
  rw [List.take_of_length_le (by rw [Cd.size_list]; exact Nat.le_refl _)]
theorem ext_back (a b : ByteArray) : (a ++ b).extract a.size (a ++ b).size = b := by
  apply Nm.ba_ext
  simp [ByteArray.data_extract, ByteArray.data_append, Array.toList_extract]
  rw [List.drop_of_length_le (by rw [Cd.size_list]; exact Nat.le_refl _), List.take_nil, List.nil_append, List.take_of_length_le (by rw [Cd.size_list]; exact Nat.le_refl _)]
theorem jn_size (f : Nat → Int) : (⟨(jn f).toArray⟩ : ByteArray).size = 8 := by
  show (jn _).toArray.size = _
  simp [jn, jnK_len]
theorem dec_enc {s : ByteArray} (h0 : s.size ≠ 0) (h : s.size ≤ 1024) : dec (enc s) = (s, 0) := by
  have hL := bld_in (hv_in s h)
  have hw := wrt_fine h0 h
  unfold enc
  generalize (Cd.bld (hv s)).1 = L at *
  rw [ByteArray.append_assoc]
  have e8 := jn_size L
  have x1 := ext_front ⟨(jn L).toArray⟩ ((⟨(Nm.nb s.size).toArray⟩ : ByteArray) ++ (Cd.wrt L s).1)
  have x2 := ext_back ⟨(jn L).toArray⟩ ((⟨(Nm.nb s.size).toArray⟩ : ByteArray) ++ (Cd.wrt L s).1)
  have x3 := ext_back ⟨(Nm.nb s.size).toArray⟩ (Cd.wrt L s).1
  rw [e8] at x1 x2
  have hf : Nm.from_ ((⟨(Nm.nb s.size).toArray⟩ : ByteArray) ++ (Cd.wrt L s).1).data.toList = some (s.size, (Nm.nb s.size).length) := by
    rw [Nm.appd]
    exact Nm.from_nb s.size _ (by omega)
  have e9 : (⟨(Nm.nb s.size).toArray⟩ : ByteArray).size = (Nm.nb s.size).length := by
    show (Nm.nb s.size).toArray.size = _
    simp
  rw [e9] at x3
  rw [dec_some (n := s.size) (k := (Nm.nb s.size).length) (by rw [ByteArray.size_append, e8]; omega) (by rw [x2]; exact hf), x1, x2, x3, Cd.rd_same (pt_jn L hL), Cd.rd_wrt hw, if_pos rfl]
theorem mnK_first (xs : List ByteArray) : ∀ n, (mnK xs n).size ≤ (xa xs 0).size := by
  intro n
  induction n with
  | zero => exact Nat.le_refl _
  | succ n ih =>
    rw [mnK]
    split <;> omega
theorem mnK_mem (xs : List ByteArray) (h : xs ≠ []) : ∀ n, n ≤ xs.length → mnK xs n ∈ xs := by
  intro n
  induction n with
  | zero =>
    intro _
    cases xs with
    | nil => exact absurd rfl h
    | cons x xs => exact List.mem_cons_self
  | succ n ih =>
    intro hn
    rw [mnK]
    split
    · have e : xa xs n = xs[n]'(by omega) := by rw [xa, List.getD_eq_getElem?_getD, List.getElem?_eq_getElem (by omega)]; rfl
      rw [e]
      exact List.getElem_mem _
    · exact ih (by omega)
theorem at_one (x : UInt8) (b : ByteArray) : Cd.at8 ((⟨#[x]⟩ : ByteArray) ++ b) 0 = x.toNat := by
  unfold Cd.at8
  rw [Nm.appd]
  rfl
theorem ext_one (x : UInt8) (b : ByteArray) : ((⟨#[x]⟩ : ByteArray) ++ b).extract 1 ((⟨#[x]⟩ : ByteArray) ++ b).size = b := ext_back ⟨#[x]⟩ b
theorem one_size (x : UInt8) (b : ByteArray) : ((⟨#[x]⟩ : ByteArray) ++ b).size = b.size + 1 := by
  rw [ByteArray.size_append]
  show 1 + _ = _
  omega
theorem ply_tk {dict text : ByteArray} (hd : dict.size ≤ 256) (ht : text.size ≤ 512) : ply dict (tk dict text) = (text, 0) := by
  obtain ⟨h1, h2⟩ := parse_plays dict text hd ht
  unfold ply
  rw [tk, read_write h1]
  simp only [h2]
theorem unp_pak {dict text : ByteArray} (hd : dict.size ≤ 256) (ht : text.size ≤ 512) : (pak dict text).2 = 0 ∧ unp dict (pak dict text).1 = (text, 0) ∧ (pak dict text).1.size ≤ text.size + 1 := by
  have e : pak dict text = (mnK (bks text (tk dict text)) (bks text (tk dict text)).length, 0) := if_neg (by omega)
  rw [e]
  have hp := ply_tk hd ht
  have hz := tk_size hd ht
  generalize tk dict text = s at *
  have hne : bks text s ≠ [] := by unfold bks; split <;> simp
  have hx : xa (bks text s) 0 = (⟨#[0]⟩ : ByteArray) ++ text := by unfold bks; split <;> rfl
  have hf := mnK_first (bks text s) (bks text s).length
  rw [hx, one_size] at hf
  refine ⟨rfl, ?_, hf⟩
  have hm := mnK_mem (bks text s) hne _ (Nat.le_refl _)
  simp only
  generalize mnK (bks text s) (bks text s).length = b at *
  have u0 : unp dict ((⟨#[0]⟩ : ByteArray) ++ text) = (text, 0) := by
    rw [unp, if_neg (by omega), if_neg (by rw [one_size]; omega), at_one, if_pos (by decide), ext_one, whl, if_neg (by omega)]
  have u1 : unp dict ((⟨#[1]⟩ : ByteArray) ++ s) = (text, 0) := by
    rw [unp, if_neg (by omega), if_neg (by rw [one_size]; omega), at_one, if_neg (by decide), if_pos (by decide), ext_one, hp]
  have u2 : s.size ≠ 0 → unp dict ((⟨#[2]⟩ : ByteArray) ++ enc s) = (text, 0) := by
    intro h0
    rw [unp, if_neg (by omega), if_neg (by rw [one_size]; omega), at_one, if_neg (by decide), if_neg (by decide), if_pos (by decide), ext_one, dec_enc h0 hz, if_pos rfl, hp]
  unfold bks at hm
  by_cases h0 : s.size = 0
  · rw [if_pos h0] at hm
    simp only [List.mem_cons, List.not_mem_nil, or_false] at hm
    rcases hm with rfl | rfl
    · exact u0
    · exact u1
  · rw [if_neg h0] at hm
    simp only [List.mem_cons, List.not_mem_nil, or_false] at hm
    rcases hm with rfl | rfl | rfl
    · exact u0
    · exact u1
    · exact u2 h0
end Bk
end Go.Proofs.YtbjbjbpgmojcbabGreat
namespace Go.Proofs.YtbjbjbpgmojcbabGreat
namespace Ar
def SrtP (fs : List F) : Prop := fs.Pairwise fun f g => Tr.bl f.name g.name = true
theorem srt_iff {fs : List F} : Srt fs ↔ SrtP fs := by
  unfold Srt SrtP
  rw [List.pairwise_iff_getElem]
  constructor
  · intro h i j hi hj hij
    have := h i j hij hj
    rwa [fa_get hi, fa_get hj] at this
  · intro h i j hij hj
    rw [fa_get (by omega), fa_get hj]
    exact h i j (by omega) hj hij
theorem gdK_iff {a : A} : gdK a a.files.length = true ↔ (∀ f ∈ a.files, isNm f.name = true ∧ okf a.dicts f = true) ∧ SrtP a.files := by
  constructor
  · intro h
    refine ⟨fun f hf => ?_, srt_iff.1 (srt_of h)⟩
    obtain ⟨i, hi, rfl⟩ := List.mem_iff_getElem.1 hf
    have := okAt_parts (gdK_at h hi)
    rw [fa_get hi] at this
    exact ⟨this.1, this.2.2⟩
  · rintro ⟨h1, h2⟩
    refine gdK_of fun i hi => ?_
    have h3 := h1 _ (List.getElem_mem hi)
    simp only [okAt, Bool.and_eq_true, Bool.or_eq_true, decide_eq_true_iff]
    refine ⟨⟨by rw [fa_get hi]; exact h3.1, ?_⟩, by rw [fa_get hi]; exact h3.2⟩
    by_cases e : i = 0
    · exact .inl e
    · exact .inr (srt_iff.2 h2 (i - 1) i (by omega) hi)
theorem chk_zero {a : A} : chk a = 0 ↔ many a = false ∧ gdK a a.files.length = true := by
  unfold chk
  cases many a <;> cases gdK a a.files.length <;> simp
theorem chk_srt {a : A} (h : chk a = 0) : Srt a.files := srt_of (chk_zero.1 h).2
theorem lgK_none {xs : List ByteArray} : ∀ {k : Nat}, lgK xs k = none ↔ ∀ i, i < k → (Tr.xa xs i).size ≤ 256
  | 0 => by simp [lgK]
  | k + 1 => by
    rw [lgK]
    have ih := lgK_none (xs := xs) (k := k)
    cases h : lgK xs k with
    | some i =>
      simp only [reduceCtorEq, false_iff]
      intro h2
      rw [ih.2 (fun i hi => h2 i (by omega))] at h; cases h
    | none =>
      have h1 := ih.1 h
      simp only
      by_cases hs : 256 < (Tr.xa xs k).size
      · rw [if_pos hs]
        simp only [reduceCtorEq, false_iff]
        intro h2
        have := h2 k (by omega); omega
      · rw [if_neg hs]
        simp only [true_iff]
        intro i hi
        by_cases e : i = k
        · subst e; omega
        · exact h1 i (by omega)
theorem lg_mem {xs : List ByteArray} : lgK xs xs.length = none ↔ ∀ d ∈ xs, d.size ≤ 256 := by
  rw [lgK_none]
  constructor
  · intro h d hd
    obtain ⟨i, hi, rfl⟩ := List.mem_iff_getElem.1 hd
    have := h i hi
    rwa [show Tr.xa xs i = xs[i] by simp [Tr.xa, hi]] at this
  · intro h i hi
    rw [show Tr.xa xs i = xs[i] by simp [Tr.xa, hi]]
    exact h _ (List.getElem_mem hi)
theorem many_iff {a : A} : many a = false ↔ a.dicts.length ≤ 4 ∧ a.files.length ≤ 12 ∧ ∀ d ∈ a.dicts, d.size ≤ 256 := by
  rw [← lg_mem, many, Bool.or_eq_false_iff, decide_eq_false_iff_not]
  cases h : lgK a.dicts a.dicts.length <;> simp <;> omega
theorem dct_size {a : A} (h : many a = false) (n : Int) : (dct a.dicts n).size ≤ 256 := by
  have h3 := (many_iff.1 h).2.2
  unfold dct
  split
  · show 0 ≤ _; omega
  · generalize (n - 1).toNat = m
    by_cases hi : m < a.dicts.length
    · rw [show Tr.xa a.dicts m = a.dicts[m] by simp [Tr.xa, hi]]
      exact h3 _ (List.getElem_mem hi)
    · rw [show Tr.xa a.dicts m = ⟨#[]⟩ by simp [Tr.xa, show a.dicts.length ≤ m by omega]]
      show 0 ≤ _; omega
theorem putE_zero {a : A} {name text : ByteArray} {dict : Int} (h : putE a name text dict = 0) :
    chk a = 0 ∧ isNm name = true ∧ has a.dicts dict = true ∧ text.size ≤ 512 ∧ (there a.files name = true ∨ a.files.length ≠ 12) := by
  unfold putE at h
  by_cases h1 : chk a = 0
  · rw [if_neg (fun h9 => h9 h1)] at h
    cases h2 : isNm name with
    | false => rw [h2] at h; simp at h
    | true =>
      cases h3 : has a.dicts dict with
      | false => rw [h2, h3] at h; simp at h
      | true =>
        rw [h2, h3] at h
        simp only [Bool.true_eq_false, if_false] at h
        split at h
        · cases h
        · rename_i h4
          refine ⟨h1, by simp, by simp, by omega, ?_⟩
          cases h5 : there a.files name with
          | true => exact .inl rfl
          | false => right; intro e; exact h4 (.inr ⟨h5, e⟩)
  · rw [if_pos h1] at h; exact absurd h h1
end Ar
end Go.Proofs.YtbjbjbpgmojcbabGreat
namespace Go.Proofs.YtbjbjbpgmojcbabGreat
namespace Tr
theorem occ_iff (t p : ByteArray) (hp : 0 < p.size) (j : Nat) : Lib.occAt t.data.toList p.data.toList j = true ↔ j + p.size ≤ t.size ∧ t.extract j (j + p.size) = p := by
  have hl : p.data.toList.length = p.size := by simp
  have ht : t.data.toList.length = t.size := by simp
  have he : (t.extract j (j + p.size)).data.toList = (t.data.toList.drop j).take p.size := by
    rw [ByteArray.data_extract, Array.toList_extract, List.extract_eq_take_drop]; congr 1; omega
  rw [Lib.occAt, List.isPrefixOf_iff_prefix, List.prefix_iff_eq_take, hl]
  constructor
  · intro h
    have h2 := congrArg List.length h
    rw [List.length_take, List.length_drop, hl, ht] at h2
    refine ⟨by omega, ?_⟩
    apply toList_same
    rw [ByteArray.toList_eq, ByteArray.toList_eq, he]; exact h.symm
  · rintro ⟨_, h⟩
    rw [← he, h]
theorem index_iff (t p : ByteArray) (hp : 0 < p.size) (i : Nat) (hi : i + p.size ≤ t.size) (h : t.extract i (i + p.size) = p) : decide (Lib.index t.data.toList p.data.toList = (i : Int)) = !stK p t i := by
  have ht : t.data.toList.length = t.size := by simp
  have ho := (occ_iff t p hp i).2 ⟨hi, h⟩
  rcases Lib.index_spec t.data.toList p.data.toList with ⟨h1, h2⟩ | ⟨k, h1, h2, h3, h4⟩
  · have := h2 i (by omega); rw [ho] at this; cases this
  · cases hs : stK p t i with
    | true =>
      obtain ⟨j, hj, hj2⟩ := stK_iff.1 hs
      have hk : k ≤ j := by
        apply Nat.le_of_not_lt; intro hlt
        have := h4 j hlt; rw [(occ_iff t p hp j).2 hj2] at this; cases this
      rw [h1]; exact decide_eq_false (by omega)
    | false =>
      have hk : ¬ k < i := fun hlt => by
        have := stK_iff.2 ⟨k, hlt, (occ_iff t p hp k).1 h3⟩
        rw [hs] at this; cases this
      have hk2 : ¬ i < k := fun hlt => by have := h4 i hlt; rw [ho] at this; cases this
      rw [h1]; exact decide_eq_true (by omega)
theorem contains_is (t p : ByteArray) (hp : 0 < p.size) : Lib.contains t.data.toList p.data.toList = st p t := by
  have ht : t.data.toList.length = t.size := by simp
  unfold Lib.contains
  rcases Lib.index_spec t.data.toList p.data.toList with ⟨h1, h2⟩ | ⟨k, h1, h2, h3, h4⟩
  · rw [h1]
    cases hs : st p t with
    | false => rfl
    | true =>
      obtain ⟨j, hj, hj2⟩ := st_iff.1 hs
      have := h2 j (by omega); rw [(occ_iff t p hp j).2 ⟨hj, hj2⟩] at this; cases this
  · rw [h1, st_iff.2 ⟨k, (occ_iff t p hp k).1 h3⟩]; exact decide_eq_true (by omega)
def cn (xs : List ByteArray) (k i : Nat) (q : ByteArray) : Nat := ctK xs q k + (if stK q (xa xs k) i = true then 1 else 0)
theorem cn_zero (xs : List ByteArray) (k : Nat) (q : ByteArray) : cn xs k 0 q = ctK xs q k := by simp [cn, stK]
theorem cn_end {xs : List ByteArray} {k i : Nat} {q : ByteArray} (hq : q.size = 4) (hi : (xa xs k).size ≤ i + 3) : cn xs k i q = ctK xs q (k + 1) := by
  rw [cn, ctK, st]
  by_cases h : i ≤ (xa xs k).size + 1
  · have := stK_end (p := q) (t := xa xs k) (k := i) (by omega) ((xa xs k).size + 1 - i)
    rw [show i + ((xa xs k).size + 1 - i) = (xa xs k).size + 1 by omega] at this
    rw [this]
  · have := stK_end (p := q) (t := xa xs k) (k := (xa xs k).size + 1) (by omega) (i - ((xa xs k).size + 1))
    rw [show (xa xs k).size + 1 + (i - ((xa xs k).size + 1)) = i by omega] at this
    rw [this]
theorem stK_same {q t : ByteArray} {i : Nat} (hq : q.size = 4) (hne : q ≠ pc t i) : stK q t (i + 1) = stK q t i := by
  rw [stK, decide_eq_false, Bool.or_false]
  rintro ⟨_, h⟩
  rw [hq] at h
  exact hne h.symm
theorem cn_other {xs : List ByteArray} {k i : Nat} {q : ByteArray} (hq : q.size = 4) (hne : q ≠ pc (xa xs k) i) : cn xs k (i + 1) q = cn xs k i q := by
  rw [cn, cn, stK_same hq hne]
theorem cn_old {xs : List ByteArray} {k i : Nat} (h : stK (pc (xa xs k) i) (xa xs k) i = true) {q : ByteArray} (hq : q.size = 4) : cn xs k (i + 1) q = cn xs k i q := by
  by_cases hne : q = pc (xa xs k) i
  · subst hne; rw [cn, cn, h, stK, h, Bool.true_or]
  · exact cn_other hq hne
theorem cn_new {xs : List ByteArray} {k i : Nat} (hi : i < (xa xs k).size - 3) (h : stK (pc (xa xs k) i) (xa xs k) i = false) : cn xs k (i + 1) (pc (xa xs k) i) = cn xs k i (pc (xa xs k) i) + 1 := by
  have h4 := pc_size hi
  have : stK (pc (xa xs k) i) (xa xs k) (i + 1) = true := stK_iff.2 ⟨i, by omega, by omega, by rw [h4]; rfl⟩
  rw [cn, cn, h, this]; simp
theorem cn_le (xs : List ByteArray) (k i : Nat) (q : ByteArray) : cn xs k i q ≤ k + 1 := by
  have := ctK_le xs q k
  rw [cn]; split <;> omega
end Tr
end Go.Proofs.YtbjbjbpgmojcbabGreat
namespace Go.Proofs
open Go.Shelf
def Tryz.lays106_ren : Go.Shelf.Ren := ⟨fun | 106 => 90 | 213 => 126 | 265 => 154 | n => n, fun | 9 => 9 | 3 => 3 | n => n, fun | n => n⟩
theorem Tryz.lays106 : Go.Proofs.Lays.n106 Tryz.prog Tryz.lays106_ren := {
  mixed := by kernel_rfl
  f106 := Tryz.func90.trans (congrArg some (by kernel_rfl))
  f213 := Tryz.func126.trans (congrArg some (by kernel_rfl))
  f265 := Tryz.func154.trans (congrArg some (by kernel_rfl))
  t3 := Tryz.underlying3
  a3 := Tryz.isAgg3
  z3 := Tryz.sizeOf3
  v3 := Tryz.zeroValue3
  t9 := Tryz.underlying9
  a9 := Tryz.isAgg9
  z9 := Tryz.sizeOf9
  v9 := Tryz.zeroValue9 }
open Go.RowKit in
theorem Tryz.strings_Compare (a b : ByteArray) (w : World) :
    Calls Tryz.prog 90 #[.string a, .string b] w fun e w' => e = .returned (.int .i64 (Lib.compareBytes a.data.toList b.data.toList)) ∧ w' = w := Any.strings_Compare Tryz.lays106 a b w
def Tryz.lays143_ren : Go.Shelf.Ren := ⟨fun | 143 => 149 | 219 => 173 | 217 => 201 | 225 => 202 | 224 => 203 | 267 => 204 | 266 => 216 | 314 => 217 | n => n, fun | 9 => 9 | 3 => 3 | 4 => 4 | 5 => 5 | 46 => 150 | 146 => 235 | 51 => 217 | n => n, fun | 1 => 0 | n => n⟩
theorem Tryz.lays143 : Go.Proofs.Lays.n143 Tryz.prog Tryz.lays143_ren := {
  mixed := by kernel_rfl
  f143 := Tryz.func149.trans (congrArg some (by kernel_rfl))
  f217 := Tryz.func201.trans (congrArg some (by kernel_rfl))
  f219 := Tryz.func173.trans (congrArg some (by kernel_rfl))
  f224 := Tryz.func203.trans (congrArg some (by kernel_rfl))
  f225 := Tryz.func202.trans (congrArg some (by kernel_rfl))
  f266 := Tryz.func216.trans (congrArg some (by kernel_rfl))
  f267 := Tryz.func204.trans (congrArg some (by kernel_rfl))
  f314 := Tryz.func217.trans (congrArg some (by kernel_rfl))
  t3 := Tryz.underlying3
  a3 := Tryz.isAgg3
  z3 := Tryz.sizeOf3
  v3 := Tryz.zeroValue3
  t4 := Tryz.underlying4
  a4 := Tryz.isAgg4
  z4 := Tryz.sizeOf4
  v4 := Tryz.zeroValue4
  t5 := Tryz.underlying5
  a5 := Tryz.isAgg5
  z5 := Tryz.sizeOf5
  v5 := Tryz.zeroValue5
  t9 := Tryz.underlying9
  a9 := Tryz.isAgg9
  z9 := Tryz.sizeOf9
  v9 := Tryz.zeroValue9
  t46 := Tryz.underlying150
  a46 := Tryz.isAgg150
  z46 := Tryz.sizeOf150
  v46 := Tryz.zeroValue150
  t51 := Tryz.underlying217
  a51 := Tryz.isAgg217
  z51 := Tryz.sizeOf217
  v51 := Tryz.zeroValue217
  t146 := Tryz.underlying235
  a146 := Tryz.isAgg235
  z146 := Tryz.sizeOf235
  v146 := Tryz.zeroValue235
  g1 := by kernel_rfl }
open Go.RowKit Go.Lib in
theorem Tryz.strings_Index (s sub : ByteArray) (m : Int) (w : World) (hs : s.size < 4294967281) (hm : w.cell? ⟨0, 0, none⟩ = some (.int .i64 m)) :
    Calls Tryz.prog 149 #[.string s, .string sub] w fun e w' => e = .returned (.int .i64 (Lib.index s.data.toList sub.data.toList)) ∧ w' = w := Any.strings_Index Tryz.lays143 s sub m w hs hm
def Tryz.lays144_ren : Go.Shelf.Ren := ⟨fun | 144 => 107 | 143 => 149 | 219 => 173 | 217 => 201 | 225 => 202 | 224 => 203 | 267 => 204 | 266 => 216 | 314 => 217 | n => n, fun | 9 => 9 | 4 => 4 | 3 => 3 | 5 => 5 | 46 => 150 | 146 => 235 | 51 => 217 | n => n, fun | 1 => 0 | n => n⟩
theorem Tryz.lays144 : Go.Proofs.Lays.n144 Tryz.prog Tryz.lays144_ren := {
  mixed := by kernel_rfl
  f143 := Tryz.func149.trans (congrArg some (by kernel_rfl))
  f144 := Tryz.func107.trans (congrArg some (by kernel_rfl))
  f217 := Tryz.func201.trans (congrArg some (by kernel_rfl))
  f219 := Tryz.func173.trans (congrArg some (by kernel_rfl))
  f224 := Tryz.func203.trans (congrArg some (by kernel_rfl))
  f225 := Tryz.func202.trans (congrArg some (by kernel_rfl))
  f266 := Tryz.func216.trans (congrArg some (by kernel_rfl))
  f267 := Tryz.func204.trans (congrArg some (by kernel_rfl))
  f314 := Tryz.func217.trans (congrArg some (by kernel_rfl))
  t3 := Tryz.underlying3
  a3 := Tryz.isAgg3
  z3 := Tryz.sizeOf3
  v3 := Tryz.zeroValue3
  t4 := Tryz.underlying4
  a4 := Tryz.isAgg4
  z4 := Tryz.sizeOf4
  v4 := Tryz.zeroValue4
  t5 := Tryz.underlying5
  a5 := Tryz.isAgg5
  z5 := Tryz.sizeOf5
  v5 := Tryz.zeroValue5
  t9 := Tryz.underlying9
  a9 := Tryz.isAgg9
  z9 := Tryz.sizeOf9
  v9 := Tryz.zeroValue9
  t46 := Tryz.underlying150
  a46 := Tryz.isAgg150
  z46 := Tryz.sizeOf150
  v46 := Tryz.zeroValue150
  t51 := Tryz.underlying217
  a51 := Tryz.isAgg217
  z51 := Tryz.sizeOf217
  v51 := Tryz.zeroValue217
  t146 := Tryz.underlying235
  a146 := Tryz.isAgg235
  z146 := Tryz.sizeOf235
  v146 := Tryz.zeroValue235
  g1 := by kernel_rfl }
open Go.RowKit Go.Lib in
theorem Tryz.strings_Contains (s sub : ByteArray) (m : Int) (w : World) (hs : s.size < 4294967281) (hm : w.cell? ⟨0, 0, none⟩ = some (.int .i64 m)) :
    Calls Tryz.prog 107 #[.string s, .string sub] w fun e w' => e = .returned (.bool (Lib.contains s.data.toList sub.data.toList)) ∧ w' = w := Any.strings_Contains Tryz.lays144 s sub m w hs hm
def Tryz.laysM144_ren : Go.Shelf.Ren := ⟨fun | 144 => 107 | 143 => 149 | 219 => 173 | 217 => 201 | 225 => 202 | 224 => 203 | 267 => 204 | 266 => 216 | 314 => 217 | n => n, fun | 9 => 9 | 4 => 4 | 3 => 3 | 5 => 5 | 46 => 150 | 146 => 235 | 51 => 217 | n => n, fun | 1 => 0 | n => n⟩
theorem Tryz.laysM144 : Go.Proofs.LaysM.n144 Tryz.prog Tryz.laysM144_ren := {
  mixed := by kernel_rfl
  f143 := Tryz.func149.trans (congrArg some (by kernel_rfl))
  f144 := Tryz.func107.trans (congrArg some (by kernel_rfl))
  f217 := Tryz.func201.trans (congrArg some (by kernel_rfl))
  f219 := Tryz.func173.trans (congrArg some (by kernel_rfl))
  f224 := Tryz.func203.trans (congrArg some (by kernel_rfl))
  f225 := Tryz.func202.trans (congrArg some (by kernel_rfl))
  f266 := Tryz.func216.trans (congrArg some (by kernel_rfl))
  f267 := Tryz.func204.trans (congrArg some (by kernel_rfl))
  f314 := Tryz.func217.trans (congrArg some (by kernel_rfl))
  t3 := Tryz.underlying3
  a3 := Tryz.isAgg3
  z3 := Tryz.sizeOf3
  v3 := Tryz.zeroValue3
  t4 := Tryz.underlying4
  a4 := Tryz.isAgg4
  z4 := Tryz.sizeOf4
  v4 := Tryz.zeroValue4
  t5 := Tryz.underlying5
  a5 := Tryz.isAgg5
  z5 := Tryz.sizeOf5
  v5 := Tryz.zeroValue5
  t9 := Tryz.underlying9
  a9 := Tryz.isAgg9
  z9 := Tryz.sizeOf9
  v9 := Tryz.zeroValue9
  t46 := Tryz.underlying150
  a46 := Tryz.isAgg150
  z46 := Tryz.sizeOf150
  v46 := Tryz.zeroValue150
  t51 := Tryz.underlying217
  a51 := Tryz.isAgg217
  z51 := Tryz.sizeOf217
  v51 := Tryz.zeroValue217
  t146 := Tryz.underlying235
  a146 := Tryz.isAgg235
  z146 := Tryz.sizeOf235
  v146 := Tryz.zeroValue235
  g1 := by kernel_rfl
  i3 := by kernel_rfl
  i4 := by kernel_rfl
  i5 := by kernel_rfl
  i9 := by kernel_rfl
  i46 := by kernel_rfl
  i51 := by kernel_rfl
  i146 := by kernel_rfl
  m1 := by kernel_rfl
  s1_3 := fun w h => Go.Proofs.cell_of_shapedOpen_int (zero := #[.int .i64 0]) (t := 3) h (of_decide_eq_true (by kernel_rfl)) (by kernel_rfl) rfl (by kernel_rfl) (by kernel_rfl) Tryz.underlying3 }
open Go.RowKit Go.Lib in
theorem Tryz.strings_Contains_shaped (s sub : ByteArray) (w : World) (h : w.ShapedOpen Tryz.prog) (hs : s.size < 4294967281) :
    Calls Tryz.prog 107 #[.string s, .string sub] w fun e w' => e = .returned (.bool (Lib.contains s.data.toList sub.data.toList)) ∧ w' = w := Any.strings_Contains_shaped Tryz.laysM144 s sub w h hs
def Tryz.laysSlF06_f23_ren : Go.Shelf.Ren := ⟨fun | 6 => 147 | 15 => 172 | 14 => 171 | 28 => 199 | 29 => 200 | 20 => 191 | 21 => 192 | 22 => 193 | 23 => 194 | 24 => 195 | 25 => 196 | 26 => 197 | 27 => 198 | 46 => 211 | 47 => 212 | 48 => 213 | 49 => 214 | 50 => 215 | 57 => 218 | n => n, fun | 22 => 22 | 24 => 9 | 25 => 119 | 3 => 3 | 39 => 150 | 0 => 0 | 53 => 217 | 55 => 219 | 4 => 4 | 46 => 211 | 45 => 210 | 50 => 71 | 5 => 5 | 9 => 9 | 66 => 229 | 70 => 233 | 76 => 238 | 77 => 176 | n => n, fun | n => n⟩
theorem Tryz.laysSlF06_f23 : Go.Proofs.SlLaysF0.n6 Tryz.prog Tryz.laysSlF06_f23_ren := {
  mixed := by kernel_rfl
  f6 := ⟨Tryz.f147.name, by decide, Tryz.func147.trans (congrArg some (by kernel_rfl))⟩
  f14 := ⟨Tryz.f171.name, by decide, Tryz.func171.trans (congrArg some (by kernel_rfl))⟩
  f15 := Tryz.func172.trans (congrArg some (by kernel_rfl))
  f20 := ⟨Tryz.f191.name, by decide, Tryz.func191.trans (congrArg some (by kernel_rfl))⟩
  f21 := ⟨Tryz.f192.name, by decide, Tryz.func192.trans (congrArg some (by kernel_rfl))⟩
  f22 := ⟨Tryz.f193.name, by decide, Tryz.func193.trans (congrArg some (by kernel_rfl))⟩
  f23 := ⟨Tryz.f194.name, by decide, Tryz.func194.trans (congrArg some (by kernel_rfl))⟩
  f24 := ⟨Tryz.f195.name, by decide, Tryz.func195.trans (congrArg some (by kernel_rfl))⟩
  f25 := ⟨Tryz.f196.name, by decide, Tryz.func196.trans (congrArg some (by kernel_rfl))⟩
  f26 := ⟨Tryz.f197.name, by decide, Tryz.func197.trans (congrArg some (by kernel_rfl))⟩
  f27 := ⟨Tryz.f198.name, by decide, Tryz.func198.trans (congrArg some (by kernel_rfl))⟩
  f28 := Tryz.func199.trans (congrArg some (by kernel_rfl))
  f29 := Tryz.func200.trans (congrArg some (by kernel_rfl))
  f46 := ⟨Tryz.f211.name, by decide, Tryz.func211.trans (congrArg some (by kernel_rfl))⟩
  f47 := Tryz.func212.trans (congrArg some (by kernel_rfl))
  f48 := Tryz.func213.trans (congrArg some (by kernel_rfl))
  f49 := ⟨Tryz.f214.name, by decide, Tryz.func214.trans (congrArg some (by kernel_rfl))⟩
  f50 := ⟨Tryz.f215.name, by decide, Tryz.func215.trans (congrArg some (by kernel_rfl))⟩
  f57 := ⟨Tryz.f218.name, by decide, Tryz.func218.trans (congrArg some (by kernel_rfl))⟩
  t0 := Tryz.underlying0
  a0 := Tryz.isAgg0
  z0 := Tryz.sizeOf0
  v0 := Tryz.zeroValue0
  t3 := Tryz.underlying3
  a3 := Tryz.isAgg3
  z3 := Tryz.sizeOf3
  v3 := Tryz.zeroValue3
  t4 := Tryz.underlying4
  a4 := Tryz.isAgg4
  z4 := Tryz.sizeOf4
  v4 := Tryz.zeroValue4
  t5 := Tryz.underlying5
  a5 := Tryz.isAgg5
  z5 := Tryz.sizeOf5
  v5 := Tryz.zeroValue5
  t9 := Tryz.underlying9
  a9 := Tryz.isAgg9
  z9 := Tryz.sizeOf9
  v9 := Tryz.zeroValue9
  t22 := Tryz.underlying22
  a22 := Tryz.isAgg22
  z22 := Tryz.sizeOf22
  v22 := Tryz.zeroValue22
  t25 := Tryz.underlying119
  a25 := Tryz.isAgg119
  z25 := Tryz.sizeOf119
  v25 := Tryz.zeroValue119
  t39 := Tryz.underlying150
  a39 := Tryz.isAgg150
  z39 := Tryz.sizeOf150
  v39 := Tryz.zeroValue150
  t45 := Tryz.underlying210
  a45 := Tryz.isAgg210
  z45 := Tryz.sizeOf210
  v45 := Tryz.zeroValue210
  t46 := Tryz.underlying211
  a46 := Tryz.isAgg211
  z46 := Tryz.sizeOf211
  v46 := Tryz.zeroValue211
  t50 := Tryz.underlying71
  a50 := Tryz.isAgg71
  z50 := Tryz.sizeOf71
  v50 := Tryz.zeroValue71
  t53 := Tryz.underlying217
  a53 := Tryz.isAgg217
  z53 := Tryz.sizeOf217
  v53 := Tryz.zeroValue217
  t55 := Tryz.underlying219
  a55 := Tryz.isAgg219
  z55 := Tryz.sizeOf219
  v55 := Tryz.zeroValue219
  t66 := Tryz.underlying229
  a66 := Tryz.isAgg229
  z66 := Tryz.sizeOf229
  v66 := Tryz.zeroValue229
  t70 := Tryz.underlying233
  a70 := Tryz.isAgg233
  z70 := Tryz.sizeOf233
  v70 := Tryz.zeroValue233
  t76 := Tryz.underlying238
  a76 := Tryz.isAgg238
  z76 := Tryz.sizeOf238
  v76 := Tryz.zeroValue238
  t77 := Tryz.underlying176
  a77 := Tryz.isAgg176
  z77 := Tryz.sizeOf176
  v77 := Tryz.zeroValue176 }
open Go.RowKit Go.Lib Go.Sort in
theorem Tryz.slices_SortFunc_none {α : Type} [Inhabited α] (p : Option Addr) (cap : Nat) (fv : Value) (w : World) :
    Calls Tryz.prog 147 #[.slice p 0 cap, fv] w fun e w' => e = .returned (.tuple #[]) ∧ w' = w := AnyF.slices_SortFunc_none Tryz.laysSlF06_f23 p cap fv w
def Tryz.laysSlF6_f23_ren : Go.Shelf.Ren := ⟨fun | 6 => 147 | 15 => 172 | 14 => 171 | 28 => 199 | 29 => 200 | 20 => 191 | 21 => 192 | 22 => 193 | 23 => 194 | 24 => 195 | 25 => 196 | 26 => 197 | 27 => 198 | 46 => 211 | 47 => 212 | 48 => 213 | 49 => 214 | 50 => 215 | 57 => 218 | n => n, fun | 22 => 22 | 24 => 9 | 25 => 119 | 3 => 3 | 39 => 150 | 0 => 0 | 53 => 217 | 55 => 219 | 4 => 4 | 46 => 211 | 45 => 210 | 50 => 71 | 5 => 5 | 9 => 9 | 66 => 229 | 70 => 233 | 76 => 238 | 77 => 176 | n => n, fun | n => n⟩
theorem Tryz.laysSlF6_f23 : Go.Proofs.SlLaysF.n6 Tryz.prog Tryz.laysSlF6_f23_ren := {
  mixed := by kernel_rfl
  f6 := ⟨Tryz.f147.name, by decide, Tryz.func147.trans (congrArg some (by kernel_rfl))⟩
  f14 := ⟨Tryz.f171.name, by decide, Tryz.func171.trans (congrArg some (by kernel_rfl))⟩
  f15 := Tryz.func172.trans (congrArg some (by kernel_rfl))
  f20 := ⟨Tryz.f191.name, by decide, Tryz.func191.trans (congrArg some (by kernel_rfl))⟩
  f21 := ⟨Tryz.f192.name, by decide, Tryz.func192.trans (congrArg some (by kernel_rfl))⟩
  f22 := ⟨Tryz.f193.name, by decide, Tryz.func193.trans (congrArg some (by kernel_rfl))⟩
  f23 := ⟨Tryz.f194.name, by decide, Tryz.func194.trans (congrArg some (by kernel_rfl))⟩
  f24 := ⟨Tryz.f195.name, by decide, Tryz.func195.trans (congrArg some (by kernel_rfl))⟩
  f25 := ⟨Tryz.f196.name, by decide, Tryz.func196.trans (congrArg some (by kernel_rfl))⟩
  f26 := ⟨Tryz.f197.name, by decide, Tryz.func197.trans (congrArg some (by kernel_rfl))⟩
  f27 := ⟨Tryz.f198.name, by decide, Tryz.func198.trans (congrArg some (by kernel_rfl))⟩
  f28 := Tryz.func199.trans (congrArg some (by kernel_rfl))
  f29 := Tryz.func200.trans (congrArg some (by kernel_rfl))
  f46 := ⟨Tryz.f211.name, by decide, Tryz.func211.trans (congrArg some (by kernel_rfl))⟩
  f47 := Tryz.func212.trans (congrArg some (by kernel_rfl))
  f48 := Tryz.func213.trans (congrArg some (by kernel_rfl))
  f49 := ⟨Tryz.f214.name, by decide, Tryz.func214.trans (congrArg some (by kernel_rfl))⟩
  f50 := ⟨Tryz.f215.name, by decide, Tryz.func215.trans (congrArg some (by kernel_rfl))⟩
  f57 := ⟨Tryz.f218.name, by decide, Tryz.func218.trans (congrArg some (by kernel_rfl))⟩
  t0 := Tryz.underlying0
  a0 := Tryz.isAgg0
  z0 := Tryz.sizeOf0
  v0 := Tryz.zeroValue0
  t3 := Tryz.underlying3
  a3 := Tryz.isAgg3
  z3 := Tryz.sizeOf3
  v3 := Tryz.zeroValue3
  t4 := Tryz.underlying4
  a4 := Tryz.isAgg4
  z4 := Tryz.sizeOf4
  v4 := Tryz.zeroValue4
  t5 := Tryz.underlying5
  a5 := Tryz.isAgg5
  z5 := Tryz.sizeOf5
  v5 := Tryz.zeroValue5
  t9 := Tryz.underlying9
  a9 := Tryz.isAgg9
  z9 := Tryz.sizeOf9
  v9 := Tryz.zeroValue9
  t22 := Tryz.underlying22
  a22 := Tryz.isAgg22
  z22 := Tryz.sizeOf22
  v22 := Tryz.zeroValue22
  a24 := Tryz.isAgg9
  z24 := Tryz.sizeOf9
  t25 := Tryz.underlying119
  a25 := Tryz.isAgg119
  z25 := Tryz.sizeOf119
  v25 := Tryz.zeroValue119
  t39 := Tryz.underlying150
  a39 := Tryz.isAgg150
  z39 := Tryz.sizeOf150
  v39 := Tryz.zeroValue150
  t45 := Tryz.underlying210
  a45 := Tryz.isAgg210
  z45 := Tryz.sizeOf210
  v45 := Tryz.zeroValue210
  t46 := Tryz.underlying211
  a46 := Tryz.isAgg211
  z46 := Tryz.sizeOf211
  v46 := Tryz.zeroValue211
  t50 := Tryz.underlying71
  a50 := Tryz.isAgg71
  z50 := Tryz.sizeOf71
  v50 := Tryz.zeroValue71
  t53 := Tryz.underlying217
  a53 := Tryz.isAgg217
  z53 := Tryz.sizeOf217
  v53 := Tryz.zeroValue217
  t55 := Tryz.underlying219
  a55 := Tryz.isAgg219
  z55 := Tryz.sizeOf219
  v55 := Tryz.zeroValue219
  t66 := Tryz.underlying229
  a66 := Tryz.isAgg229
  z66 := Tryz.sizeOf229
  v66 := Tryz.zeroValue229
  t70 := Tryz.underlying233
  a70 := Tryz.isAgg233
  z70 := Tryz.sizeOf233
  v70 := Tryz.zeroValue233
  t76 := Tryz.underlying238
  a76 := Tryz.isAgg238
  z76 := Tryz.sizeOf238
  v76 := Tryz.zeroValue238
  t77 := Tryz.underlying176
  a77 := Tryz.isAgg176
  z77 := Tryz.sizeOf176
  v77 := Tryz.zeroValue176 }
open Go.RowKit Go.Lib Go.Sort in
theorem Tryz.slices_SortFunc_total {α : Type} [Inhabited α] (enc : α → Value) (h1 : OneCell enc) (cf : α → α → Int) (hO : SWO (ltOf cf)) (g : Nat) (cb : Array Value) (blk off cap : Nat) (d : Array α) (w : World) (eg : ∀ args w, (callFunc g args).run Tryz.prog w = .ok (.enter g args) w) (hcmp : CmpLays1 Tryz.prog g cb enc cf blk off d.size w) (hH : Holds enc w blk off d) (hblk : blk < w.heap.size) (hsz : d.size < 4611686018427387904) (hT : ∀ x y, (ltOf cf) x y = false → (ltOf cf) y x = false → x = y) :
    Calls Tryz.prog 147 #[.slice (some ⟨blk, off, none⟩) d.size cap, .func (.func g) #[] cb] w fun e w' =>
      e = .returned (.tuple #[]) ∧ ∃ n os, w' = sortWorld enc w blk off n (d.toList.mergeSort fun x y => !(ltOf cf) y x).toArray os := Any.slices_SortFunc_total Tryz.laysSlF6_f23 enc h1 cf hO g cb blk off cap d w eg hcmp hH hblk hsz hT
end Go.Proofs
