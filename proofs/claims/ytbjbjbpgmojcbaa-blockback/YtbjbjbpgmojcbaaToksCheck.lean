/- What toks.Check, and what it calls, comes to. -/
import Derived.Test.YtbjbjbpgmojcbaaToksMath
import Derived.Test.YtbjbjbpgmojcbaaOwn8
import Derived.BigQuiet
import Derived.Deep.QuietTactic
namespace Go.Proofs.Ytbjbjbpgmojcbaa
open Go.RowKit

theorem empty_iff (s : ByteArray) : s.toList.isEmpty = true ↔ s.size = 0 := by
  rw [Lib.toList_data, List.isEmpty_iff_length_eq_zero]
  have : s.data.toList.length = s.size := by simp
  rw [this]
theorem empty_of {s : ByteArray} (h : s.size = 0) : s.toList.isEmpty = true := (empty_iff s).2 h
theorem empty_not {s : ByteArray} (h : s.size ≠ 0) : s.toList.isEmpty = false := by
  cases e : s.toList.isEmpty with
  | false => rfl
  | true => exact absurd ((empty_iff s).1 e) h

/-- The form alone, of a tok behind M bytes, a dictionary of D, a Lit right ahead or not. -/
def fits (D M : Int) (L : Bool) (lit : ByteArray) (far len : Int) : Bool :=
  if lit.size ≠ 0 then decide (far = 0 ∧ len = 0 ∧ L = false) else decide (3 ≤ len ∧ len ≤ 64 ∧ 1 ≤ far ∧ far ≤ D + M)

set_option maxHeartbeats 400000 in
theorem fits_lit (g : Nat) (D M : Int) (L : Bool) (lit : ByteArray) (far len : Int) (w : World) (hg : g < w.heap.size)
    (h2 : w.cell? ⟨g, 2, none⟩ = some (.bool L)) (hl : lit.size ≠ 0) :
    Calls Try.prog 84 #[.pointer (some ⟨g, 0, none⟩), .agg #[.string lit, .int .i64 far, .int .i64 len]] w fun e w' => e = .returned (.bool (fits D M L lit far len)) ∧ Below w.heap.size w w' := by
  have hE := empty_not hl
  by_cases hf : far = 0
  · have hf' : (far == 0) = true := by simp [hf]
    by_cases hn : len = 0
    · have hn' : (len == 0) = true := by simp [hn]
      have HR : Hid (fits D M L lit far len = !L) := by
        show fits D M L lit far len = !L
        unfold fits
        rw [if_pos hl]
        cases L <;> simp [hf, hn]
      clear hf hn
      go_enter Try.func84, Try.ntmps84
      go_wp2_with fail
      go_ret
      exact ⟨by rw [HR.out]; rfl, (Below.refl _ _).alloc (Nat.le_refl _) _⟩
    · have hn' : (len == 0) = false := by simp [hn]
      have HR : Hid (fits D M L lit far len = false) := by
        show fits D M L lit far len = false
        unfold fits
        rw [if_pos hl]
        simp [hn]
      clear hf hn
      go_enter Try.func84, Try.ntmps84
      go_wp2_with fail
      go_ret
      exact ⟨by rw [HR.out]; rfl, (Below.refl _ _).alloc (Nat.le_refl _) _⟩
  · have hf' : (far == 0) = false := by simp [hf]
    have HR : Hid (fits D M L lit far len = false) := by
      show fits D M L lit far len = false
      unfold fits
      rw [if_pos hl]
      simp [hf]
    clear hf
    go_enter Try.func84, Try.ntmps84
    go_wp2_with fail
    go_ret
    exact ⟨by rw [HR.out]; rfl, (Below.refl _ _).alloc (Nat.le_refl _) _⟩

set_option maxHeartbeats 400000 in
theorem fits_copy (g : Nat) (D M : Int) (L : Bool) (lit : ByteArray) (far len : Int) (w : World) (hg : g < w.heap.size)
    (h0 : w.cell? ⟨g, 0, none⟩ = some (.int .i64 D)) (h1 : w.cell? ⟨g, 1, none⟩ = some (.int .i64 M))
    (hD0 : 0 ≤ D) (hD1 : D ≤ 256) (hM0 : 0 ≤ M) (hM1 : M ≤ 512) (hl : lit.size = 0) :
    Calls Try.prog 84 #[.pointer (some ⟨g, 0, none⟩), .agg #[.string lit, .int .i64 far, .int .i64 len]] w fun e w' => e = .returned (.bool (fits D M L lit far len)) ∧ Below w.heap.size w w' := by
  have hE := empty_of hl
  have hF : fits D M L lit far len = decide (3 ≤ len ∧ len ≤ 64 ∧ 1 ≤ far ∧ far ≤ D + M) := by unfold fits; rw [if_neg (by omega)]
  have hr1 : IntKind.i64.wrap (D + M) = D + M := IntWalk.i64_in _ ⟨by omega, by omega⟩
  by_cases a1 : 3 ≤ len
  · have b1 : decide (3 ≤ len) = true := by simp; omega
    by_cases a2 : len ≤ 64
    · have b2 : decide (len ≤ 64) = true := by simp; omega
      by_cases a3 : 1 ≤ far
      · have b3 : decide (1 ≤ far) = true := by simp; omega
        by_cases a4 : far ≤ D + M
        · have b4 : decide (far ≤ D + M) = true := by simp; omega
          have HR : Hid (fits D M L lit far len = true) := by rw [hF]; show decide _ = true; simp; omega
          clear hF
          go_enter Try.func84, Try.ntmps84
          go_wp2_with fail
          go_quiet (fail)
          go_wp2_with fail
          go_ret
          exact ⟨by rw [HR.out]; rfl, below_drewN ((Below.refl _ _).alloc (Nat.le_refl _) _) _⟩
        · have b4 : decide (far ≤ D + M) = false := by simp; omega
          have HR : Hid (fits D M L lit far len = false) := by rw [hF]; show decide _ = false; simp; omega
          clear hF
          go_enter Try.func84, Try.ntmps84
          go_wp2_with fail
          go_quiet (fail)
          go_wp2_with fail
          go_ret
          exact ⟨by rw [HR.out]; rfl, below_drewN ((Below.refl _ _).alloc (Nat.le_refl _) _) _⟩
      · have b3 : decide (1 ≤ far) = false := by simp; omega
        have HR : Hid (fits D M L lit far len = false) := by rw [hF]; show decide _ = false; simp; omega
        clear hF
        go_enter Try.func84, Try.ntmps84
        go_wp2_with fail
        go_quiet (fail)
        go_wp2_with fail
        go_ret
        exact ⟨by rw [HR.out]; rfl, below_drewN ((Below.refl _ _).alloc (Nat.le_refl _) _) _⟩
    · have b2 : decide (len ≤ 64) = false := by simp; omega
      have HR : Hid (fits D M L lit far len = false) := by rw [hF]; show decide _ = false; simp; omega
      clear hF
      go_enter Try.func84, Try.ntmps84
      go_wp2_with fail
      go_quiet (fail)
      go_wp2_with fail
      go_ret
      exact ⟨by rw [HR.out]; rfl, below_drewN ((Below.refl _ _).alloc (Nat.le_refl _) _) _⟩
  · have b1 : decide (3 ≤ len) = false := by simp; omega
    have HR : Hid (fits D M L lit far len = false) := by rw [hF]; show decide _ = false; simp; omega
    clear hF
    go_enter Try.func84, Try.ntmps84
    go_wp2_with fail
    go_quiet (fail)
    go_wp2_with fail
    go_ret
    exact ⟨by rw [HR.out]; rfl, below_drewN ((Below.refl _ _).alloc (Nat.le_refl _) _) _⟩

theorem fits_any (g : Nat) (D M : Int) (L : Bool) (lit : ByteArray) (far len : Int) (w : World) (hg : g < w.heap.size)
    (h0 : w.cell? ⟨g, 0, none⟩ = some (.int .i64 D)) (h1 : w.cell? ⟨g, 1, none⟩ = some (.int .i64 M)) (h2 : w.cell? ⟨g, 2, none⟩ = some (.bool L))
    (hD0 : 0 ≤ D) (hD1 : D ≤ 256) (hM0 : 0 ≤ M) (hM1 : M ≤ 512) :
    Calls Try.prog 84 #[.pointer (some ⟨g, 0, none⟩), .agg #[.string lit, .int .i64 far, .int .i64 len]] w fun e w' => e = .returned (.bool (fits D M L lit far len)) ∧ Below w.heap.size w w' := by
  by_cases hl : lit.size = 0
  · exact fits_copy g D M L lit far len w hg h0 h1 hD0 hD1 hM0 hM1 hl
  · exact fits_lit g D M L lit far len w hg h2 hl

/-- What a call of add leaves of the three cells. -/
def MkAt (w : World) (B g : Nat) (D M : Int) (L : Bool) : Prop :=
  B ≤ g ∧ g < w.heap.size ∧ w.cell? ⟨g, 0, none⟩ = some (.int .i64 D) ∧ w.cell? ⟨g, 1, none⟩ = some (.int .i64 M) ∧ w.cell? ⟨g, 2, none⟩ = some (.bool L) ∧ w.frozen? ⟨g, 1, none⟩ = false ∧ w.frozen? ⟨g, 2, none⟩ = false

theorem MkAt.below {w w' : World} {B g : Nat} {D M : Int} {L : Bool} (h : MkAt w B g D M L) (hb : Below w.heap.size w w') : MkAt w' B g D M L := by
  obtain ⟨a, b, c0, c1, c2, f1, f2⟩ := h
  exact ⟨a, Nat.lt_of_lt_of_le b hb.size, (hb.cell (by exact b)).trans c0, (hb.cell (by exact b)).trans c1, (hb.cell (by exact b)).trans c2, (hb.frozen (by exact b)).trans f1, (hb.frozen (by exact b)).trans f2⟩

theorem MkAt.set2 {w : World} {B g : Nat} {D M : Int} {L : Bool} (h : MkAt w B g D M L) (n : Nat) (M' : Int) (L' : Bool) :
    MkAt (((w.drewN n).setCell ⟨g, 1, none⟩ (.int .i64 M')).setCell ⟨g, 2, none⟩ (.bool L')) B g D M' L' := by
  obtain ⟨a, b, c0, c1, c2, f1, f2⟩ := h
  have d0 : (w.drewN n).cell? ⟨g, 0, none⟩ = some (.int .i64 D) := c0
  have d1 : (w.drewN n).cell? ⟨g, 1, none⟩ = some (.int .i64 M) := c1
  have d2 : (w.drewN n).cell? ⟨g, 2, none⟩ = some (.bool L) := c2
  refine ⟨a, by simpa [World.setCell] using b, ?_, ?_, ?_, ?_, ?_⟩
  · rw [World.cell?_setCell_other _ _ _ _ (by simp), World.cell?_setCell_other _ _ _ _ (by simp)]; exact d0
  · rw [World.cell?_setCell_other _ _ _ _ (by simp)]
    exact World.cell?_setCell_same _ _ _ d1
  · refine World.cell?_setCell_same _ _ _ (u := .bool L) ?_
    rw [World.cell?_setCell_other _ _ _ _ (by simp)]
    exact d2
  · rw [World.frozen?_setCell, World.frozen?_setCell]; exact f1
  · rw [World.frozen?_setCell, World.frozen?_setCell]; exact f2

theorem MkAt.alloc {w : World} {B g : Nat} {D M : Int} {L : Bool} (h : MkAt w B g D M L) (o : Obj) : MkAt (w.alloc o) B g D M L := h.below ((Below.refl _ _).alloc (Nat.le_refl _) o)

theorem fits_mk {w : World} {B g : Nat} {D M : Int} {L : Bool} (h : MkAt w B g D M L) (lit : ByteArray) (far len : Int) (hD0 : 0 ≤ D) (hD1 : D ≤ 256) (hM0 : 0 ≤ M) (hM1 : M ≤ 512) :
    Calls Try.prog 84 #[.pointer (some ⟨g, 0, none⟩), .agg #[.string lit, .int .i64 far, .int .i64 len]] w fun e w' => e = .returned (.bool (fits D M L lit far len)) ∧ Below w.heap.size w w' :=
  fits_any g D M L lit far len w h.2.1 h.2.2.1 h.2.2.2.1 h.2.2.2.2.1 hD0 hD1 hM0 hM1

set_option maxHeartbeats 1000000 in
theorem add_form (B g : Nat) (D M : Int) (L : Bool) (lit : ByteArray) (far len : Int) (w : World) (h : MkAt w B g D M L)
    (hD0 : 0 ≤ D) (hD1 : D ≤ 256) (hM0 : 0 ≤ M) (hM1 : M ≤ 512) (hF : fits D M L lit far len = false) :
    Calls Try.prog 56 #[.pointer (some ⟨g, 0, none⟩), .agg #[.string lit, .int .i64 far, .int .i64 len]] w fun e w' => e = .returned (.int .i64 1) ∧ Below w.heap.size w w' := by
  go_enter Try.func56, Try.ntmps56
  go_wp2_with fail
  refine (fits_mk (h.alloc _) lit far len hD0 hD1 hM0 hM1).mono ?_
  rintro e w1 ⟨rfl, hb⟩
  go_wp2_with fail
  go_ret
  exact ⟨rfl, bch ((Below.refl _ _).alloc (Nat.le_refl _) _) hb (Nat.le_refl _)⟩

theorem sub_below {w w1 : World} {o : Obj} (hb : Below (w.alloc o).heap.size (w.alloc o) w1) : w.heap.size < w1.heap.size := by
  have := hb.size
  simp at this
  omega

theorem box_cells {w w1 : World} {x y z : Value} {T : TypeId} (hb : Below (w.alloc (.cells #[x, y, z] T)).heap.size (w.alloc (.cells #[x, y, z] T)) w1) :
    w1.cell? ⟨w.heap.size, 0, none⟩ = some x ∧ w1.cell? ⟨w.heap.size, 1, none⟩ = some y ∧ w1.cell? ⟨w.heap.size, 2, none⟩ = some z := by
  refine ⟨(hb.cell (by simp)).trans ?_, (hb.cell (by simp)).trans ?_, (hb.cell (by simp)).trans ?_⟩ <;> (rw [World.cell?_alloc_mark]; rfl)

set_option maxHeartbeats 1000000 in
theorem add_many (B g : Nat) (D M : Int) (L : Bool) (lit : ByteArray) (far len : Int) (w : World) (h : MkAt w B g D M L)
    (hD0 : 0 ≤ D) (hD1 : D ≤ 256) (hM0 : 0 ≤ M) (hM1 : M ≤ 512) (hlit : lit.size ≤ 140737488355328) (hln : 0 ≤ len ∧ len ≤ 64) (hF : fits D M L lit far len = true) (hbig : 512 < M + lit.size + len) :
    Calls Try.prog 56 #[.pointer (some ⟨g, 0, none⟩), .agg #[.string lit, .int .i64 far, .int .i64 len]] w fun e w' => e = .returned (.int .i64 2) ∧ Below w.heap.size w w' := by
  obtain ⟨hl0, hl1⟩ := hln
  have hs : (lit.size : Int) ≤ 140737488355328 := by omega
  have hr1 : IntKind.i64.wrap (M + (lit.size : Int)) = M + (lit.size : Int) := IntWalk.i64_in _ ⟨by omega, by omega⟩
  have hr2 : IntKind.i64.wrap (M + (lit.size : Int) + len) = M + (lit.size : Int) + len := IntWalk.i64_in _ ⟨by omega, by omega⟩
  have hd : decide (512 < M + (lit.size : Int) + len) = true := by simp; omega
  go_enter Try.func56, Try.ntmps56
  go_wp2_with fail
  refine (fits_mk (h.alloc _) lit far len hD0 hD1 hM0 hM1).mono ?_
  rintro e w1 ⟨rfl, hb⟩
  have hm := (h.alloc (.cells #[.string lit, .int .i64 far, .int .i64 len] 73)).below hb
  obtain ⟨k0, k1, k2⟩ := box_cells hb
  have m1 := hm.2.2.2.1
  clear hm
  go_wp2_with fail
  go_quiet (fail)
  go_wp2_with fail
  go_ret
  exact ⟨rfl, below_drewN (bch ((Below.refl _ _).alloc (Nat.le_refl _) _) hb (Nat.le_refl _)) _⟩

set_option maxHeartbeats 1000000 in
theorem add_ok (B g : Nat) (D M : Int) (L : Bool) (lit : ByteArray) (far len : Int) (w : World) (h : MkAt w B g D M L)
    (hD0 : 0 ≤ D) (hD1 : D ≤ 256) (hM0 : 0 ≤ M) (hM1 : M ≤ 512) (hln : 0 ≤ len ∧ len ≤ 64) (hF : fits D M L lit far len = true) (hok : M + lit.size + len ≤ 512) :
    Calls Try.prog 56 #[.pointer (some ⟨g, 0, none⟩), .agg #[.string lit, .int .i64 far, .int .i64 len]] w fun e w' => e = .returned (.int .i64 0) ∧ Below B w w' ∧ MkAt w' B g D (M + lit.size + len) (!lit.toList.isEmpty) ∧ Hid (∀ k, k < w.heap.size → k ≠ g → w'.heap[k]? = w.heap[k]?) := by
  obtain ⟨hl0, hl1⟩ := hln
  have hs : (lit.size : Int) ≤ 512 := by omega
  have hr1 : IntKind.i64.wrap (M + (lit.size : Int)) = M + (lit.size : Int) := IntWalk.i64_in _ ⟨by omega, by omega⟩
  have hr2 : IntKind.i64.wrap (M + (lit.size : Int) + len) = M + (lit.size : Int) + len := IntWalk.i64_in _ ⟨by omega, by omega⟩
  have hd : decide (512 < M + (lit.size : Int) + len) = false := by simp; omega
  have hgw := h.2.1
  have hBg := h.1
  go_enter Try.func56, Try.ntmps56
  go_wp2_with fail
  refine (fits_mk (h.alloc _) lit far len hD0 hD1 hM0 hM1).mono ?_
  rintro e w1 ⟨rfl, hb⟩
  have hm := (h.alloc (.cells #[.string lit, .int .i64 far, .int .i64 len] 73)).below hb
  obtain ⟨k0, k1, k2⟩ := box_cells hb
  have HM : Hid (MkAt w1 B g D M L) := hm
  obtain ⟨_, m0, m1, m2, m3, m4, m5⟩ := hm
  have hne : ¬ g = w.heap.size := by omega
  have hne2 : ¬ w.heap.size = g := by omega
  go_wp2_with fail
  go_quiet (fail)
  go_wp2_with fail
  go_ret
  have hB1 : Below B w w1 := (((Below.refl _ _).alloc (Nat.le_refl _) _).trans (hb.mono (by simp))).mono (by omega)
  refine ⟨rfl, ((below_drewN hB1 nq).setCell (p := ⟨g, 1, none⟩) hBg _).setCell (p := ⟨g, 2, none⟩) hBg _, HM.out.set2 nq _ _, fun k hk hkg => ?_⟩
  rw [Below.heap_setCell _ _ _ _ (by exact hkg), Below.heap_setCell _ _ _ _ (by exact hkg)]
  show w1.heap[k]? = _
  rw [hb.block k (by simp; omega)]
  exact Below.heap_alloc _ _ _ hk

/-- The code's own test, and the document's. -/
theorem err_fits (d : Nat) (s : List UInt8) (p : Bool) (t : Tk.T) (M : Int) (hM : M = (s.length : Int) - d) :
    Tk.err d s p t = if fits d M p t.lit t.far t.len = false then 1 else if 512 < M + t.lit.size + t.len then 2 else 0 := by
  unfold Tk.err fits
  by_cases h0 : t.lit.size ≠ 0
  · rw [if_pos h0, if_pos h0]
    by_cases h1 : t.far ≠ 0 ∨ t.len ≠ 0 ∨ p = true
    · rw [if_pos h1, if_pos]
      simp only [decide_eq_false_iff_not]
      rintro ⟨a, b, c⟩
      rcases h1 with h | h | h
      · exact h a
      · exact h b
      · rw [c] at h; cases h
    · have ha : t.far = 0 := by
        by_cases e : t.far = 0
        · exact e
        · exact absurd (Or.inl e) h1
      have hb : t.len = 0 := by
        by_cases e : t.len = 0
        · exact e
        · exact absurd (Or.inr (Or.inl e)) h1
      have hc : p = false := by
        cases p
        · rfl
        · exact absurd (Or.inr (Or.inr rfl)) h1
      rw [if_neg h1]
      rw [if_neg (c := decide (t.far = 0 ∧ t.len = 0 ∧ p = false) = false) (by simp [ha, hb, hc])]
      rw [hb, hM]
      simp
  · rw [if_neg h0, if_neg h0]
    by_cases h1 : 3 ≤ t.len ∧ t.len ≤ 64 ∧ 1 ≤ t.far ∧ t.far ≤ s.length
    · rw [if_neg (by simpa using h1), if_neg (c := decide (3 ≤ t.len ∧ t.len ≤ 64 ∧ 1 ≤ t.far ∧ t.far ≤ (d : Int) + M) = false) (by simp; omega), hM]
      have : (t.lit.size : Int) = 0 := by omega
      rw [this, Int.add_zero]
    · rw [if_pos h1, if_pos]
      simp only [decide_eq_false_iff_not]
      omega

/-- Toks in memory. -/
def TkAt (w : World) (b off : Nat) (l : List Tk.T) : Prop :=
  ∀ i (h : i < l.length), w.cell? ⟨b, off + i * 3, none⟩ = some (.string l[i].lit) ∧ w.cell? ⟨b, off + i * 3 + 1, none⟩ = some (.int .i64 l[i].far) ∧ w.cell? ⟨b, off + i * 3 + 2, none⟩ = some (.int .i64 l[i].len)

/-- A slice of toks. -/
def SlAt (w : World) (ad : Option Addr) (l : List Tk.T) : Prop := l = [] ∨ ∃ b off, ad = some ⟨b, off, none⟩ ∧ b < w.heap.size ∧ TkAt w b off l

theorem SlAt.below {w w' : World} {ad : Option Addr} {l : List Tk.T} (h : SlAt w ad l) (hb : Below w.heap.size w w') : SlAt w' ad l := by
  rcases h with h | ⟨b, off, rfl, hlt, ht⟩
  · exact .inl h
  · refine .inr ⟨b, off, rfl, Nat.lt_of_lt_of_le hlt hb.size, fun i hi => ?_⟩
    have := ht i hi
    rw [hb.cell (by exact hlt), hb.cell (by exact hlt), hb.cell (by exact hlt)]
    exact this

/-- No tok's Lit is too long for any machine. -/
def Sane (l : List Tk.T) : Prop := l.length ≤ 140737488355328 ∧ ∀ t ∈ l, t.lit.size ≤ 140737488355328
end Go.Proofs.Ytbjbjbpgmojcbaa
