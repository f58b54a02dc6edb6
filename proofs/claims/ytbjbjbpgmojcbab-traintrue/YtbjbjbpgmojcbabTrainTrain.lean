/- What train.Train comes to. -/
import Derived.Test.YtbjbjbpgmojcbabTrainPick
import Derived.Test.YtbjbjbpgmojcbabClone
import Derived.RegionTactic
import Derived.ChangeAlike
import Derived.BigRegion
namespace Go.Proofs.Ytbjbjbpgmojcbab
open Go.RowKit

namespace Tr
theorem TxFar.set {lo : Nat} {w : World} {ad : Option Addr} {xs : List ByteArray} (h : TxFar lo w ad xs) {bx : Nat} (hb : bx < lo) (v : Value) : TxFar lo (w.setCell ⟨bx, 0, none⟩ v) ad xs := by
  rcases h with h | ⟨b, off, h1, h2, h3⟩
  · exact .inl h
  · refine .inr ⟨b, off, h1, h2, by simpa using h3.1, fun i hi => ?_⟩
    exact (World.cell?_setCell_other w _ _ _ (by intro e; have := congrArg Addr.block e; simp at this; omega)).trans (h3.2 i hi)
theorem TxFar.drop {lo : Nat} {w : World} {b off : Nat} {xs : List ByteArray} (h2 : lo ≤ b) (h : TxAt w b off xs) (j : Nat) : TxFar lo w (some ⟨b, off + j, none⟩) (xs.drop j) := by
  refine .inr ⟨b, off + j, rfl, h2, h.1, fun i hi => ?_⟩
  rw [List.length_drop] at hi
  rw [show off + j + i = off + (j + i) by omega, h.2 (j + i) (by omega)]
  simp [xa]
/-- The length of a slice. -/
def slen : Value → Nat
  | .slice _ n _ => n
  | _ => 0
theorem xa_get {L : List ByteArray} {i : Nat} (h : i < L.length) : xa L i = L[i] := by simp [xa, h]
/-- One piece more. -/
theorem rk_step {xs pre P : List ByteArray} {d : ByteArray} (h : Rk xs (pre ++ P)) (hpre : ∀ p, p ∈ pre → st p d = true) {i : Nat} (hf : fnK P d P.length = some i) :
    i < P.length ∧ best xs d = xa P i ∧ (xa P i).size = 4 ∧ (∀ p, p ∈ pre ++ P.take (i + 1) → st p (xa P i ++ d) = true) := by
  have hs := fnK_spec (L := P) (d := d) (k := P.length)
  rw [hf] at hs
  obtain ⟨h1, h2, h3⟩ := hs
  have hm : xa P i ∈ pre ++ P := by rw [xa_get h1]; exact List.mem_append_right _ (List.getElem_mem h1)
  have h4 := ((h.2 _).1 hm).1
  refine ⟨h1, ?_, h4, ?_⟩
  · have hi : pre.length + i < (pre ++ P).length := by rw [List.length_append]; omega
    have e : (pre ++ P)[pre.length + i] = xa P i := by rw [xa_get h1, List.getElem_append_right (by omega)]; simp
    rw [← e]
    refine rk_first h hi (by rw [e]; exact h2) fun k hk => ?_
    by_cases hk2 : k < pre.length
    · rw [List.getElem_append_left hk2]; exact hpre _ (List.getElem_mem hk2)
    · rw [List.getElem_append_right (by omega), ← xa_get]; exact h3 _ (by omega)
  · intro p hp
    rw [List.mem_append] at hp
    rcases hp with hp | hp
    · exact st_append (hpre p hp)
    · obtain ⟨k, hk, rfl⟩ := List.mem_iff_getElem.1 hp
      rw [List.length_take] at hk
      rw [List.getElem_take, ← xa_get]
      by_cases e : k = i
      · subst e; exact st_own _ _
      · exact st_append (h3 k (by omega))
theorem rk_stop {xs pre P : List ByteArray} {d : ByteArray} (h : Rk xs (pre ++ P)) (hpre : ∀ p, p ∈ pre → st p d = true) (hf : fnK P d P.length = none) : (best xs d).size = 0 := by
  have hs := fnK_spec (L := P) (d := d) (k := P.length)
  rw [hf] at hs
  refine rk_none h fun k hk => ?_
  by_cases hk2 : k < pre.length
  · rw [List.getElem_append_left hk2]; exact hpre _ (List.getElem_mem hk2)
  · rw [List.length_append] at hk
    rw [List.getElem_append_right (by omega), ← xa_get]; exact hs _ (by omega)
theorem many_false {xs : List ByteArray} (h : many xs = false) : xs.length ≤ 12 ∧ ∀ i, (xa xs i).size ≤ 512 := by
  rw [many, Bool.or_eq_false_iff, decide_eq_false_iff_not] at h
  refine ⟨by omega, fun i => ?_⟩
  apply Nat.le_of_not_lt
  intro hlt
  by_cases hi : i < xs.length
  · have : ∀ k, i < k → (lgK xs k).isSome = true := by
      intro k hk
      induction k with
      | zero => omega
      | succ k ih =>
        rw [lgK]
        by_cases e : i = k
        · subst e
          cases lgK xs i with
          | some _ => rfl
          | none => simp only; rw [if_pos hlt]; rfl
        · have := ih (by omega)
          cases hq : lgK xs k with
          | some _ => rfl
          | none => rw [hq] at this; cases this
    rw [this _ hi] at h
    cases h.2
  · have : xa xs i = ⟨#[]⟩ := by simp [xa, show xs.length ≤ i by omega]
    rw [this] at hlt
    have : (⟨#[]⟩ : ByteArray).size = 0 := rfl
    omega
end Tr

set_option maxRecDepth 4000 in
set_option maxHeartbeats 4000000 in
theorem train_ok (xs : List ByteArray) (size : Int) (ad : Option Addr) (cap : Nat) (w : World) (hx : TxSl w ad xs) (hB : ∀ i, (Tr.xa xs i).size ≤ 140737488355328) (hM : Mx w) (hm : Tr.many xs = false) (h0 : 0 ≤ size) (h1 : size ≤ 256) :
    Calls Try.prog 6 #[.slice ad xs.length cap, .int .i64 size] w fun e w' => e = .returned (.tuple #[.string (Tr.trn xs size.toNat), .int .i64 0]) ∧ Below w.heap.size w w' := by
  obtain ⟨hn, hX⟩ := Tr.many_false hm
  have c1 := tooMany_any xs ad cap w hx hB
  rw [hm] at c1
  have HR : Hid (∀ w', Below w.heap.size w w' → Calls Try.prog 14 #[.slice ad xs.length cap] w' fun e w2 => ∃ ad' cap' L, e = .returned (.slice ad' (L : List ByteArray).length cap') ∧ L.length ≤ cap' ∧ L.length ≤ 6144 ∧ Tr.TxFar w'.heap.size w2 ad' L ∧ Tr.Rk xs L ∧ Below w'.heap.size w' w2) := fun w' hb => ranked_any xs ad cap w' (hx.below hb) hn hX (hM.below hb)
  have HM : Hid (∀ w', Below w.heap.size w w' → Mx w') := fun w' hb => hM.below hb
  have d1 : decide (size < 0) = false := decide_eq_false (by omega)
  have d2 : decide ((256 : Int) < size) = false := decide_eq_false (by omega)
  have HG := Tr.trn_good xs size.toNat
  obtain ⟨R, hR⟩ : ∃ R, Tr.trn xs size.toNat = R := ⟨_, rfl⟩
  rw [hR] at HG ⊢
  have HR0 : Hid (Tr.tro xs size.toNat 65 ⟨#[]⟩ = R) := hR
  have hRs : R.size ≤ 256 := by have := HG.most; omega
  clear hX hx hB hM hm hR HG
  go_enter Try.func6, Try.ntmps6
  go_wp2_with fail
  refine c1.mono ?_
  rintro e w1 ⟨rfl, B1⟩
  clear c1
  have c2 := HR.out (w1.alloc (.cells #[.string ⟨#[]⟩] 9 (0, 0))) (B1.alloc B1.size _)
  go_wp2_with fail
  refine c2.mono ?_
  rintro e w2 ⟨ad', cap', L, rfl, hLc, hL6, hT, hRk, B2⟩
  clear c2 HR
  have hcx : w2.cell? ⟨w1.heap.size, 0, none⟩ = some (.string ⟨#[]⟩) := by
    rw [B2.cell (p := ⟨w1.heap.size, 0, none⟩) (by simp)]
    exact cell_one_new _ _ _ 0 _ rfl
  have hfx : w2.frozen? ⟨w1.heap.size, 0, none⟩ = false := by
    rw [B2.frozen (p := ⟨w1.heap.size, 0, none⟩) (by simp)]
    exact World.frozen?_alloc_at _ _ _ _ rfl
  have B3 : Below w.heap.size w w2 := bch (B1.alloc B1.size (.cells #[.string ⟨#[]⟩] 9 (0, 0))) B2 (Nat.le_refl _)
  have hlo : w1.heap.size < (w1.alloc (.cells #[.string ⟨#[]⟩] 9 (0, 0))).heap.size := by simp
  have hwb := B1.size
  generalize (w1.alloc (.cells #[.string ⟨#[]⟩] 9 (0, 0))).heap.size = lo at *
  generalize w1.heap.size = bx at *
  clear B1 B2
  have HRk : Hid (Tr.Rk xs L) := hRk
  clear hRk
  go_wp2_with fail
  go_loopw [7] (fun v wr => ∃ (pre P : List ByteArray) (d : ByteArray) (f : Nat) (ad2 : Option Addr) (c : Nat), v = .slice ad2 P.length c ∧ P.length ≤ c ∧ P.length ≤ 6144 ∧ Hid (pre ++ P = L) ∧ Tr.TxFar lo wr ad2 P ∧ Hid (∀ p, p ∈ pre → Tr.st p d = true) ∧ Hid (Tr.tro xs size.toNat f d = R) ∧ Hid (4 * f + d.size = 260) ∧ d.size ≤ 256 ∧ wr.cell? ⟨bx, 0, none⟩ = some (.string d) ∧ wr.frozen? ⟨bx, 0, none⟩ = false ∧ Below w.heap.size w wr)
    (fun v _ => Tr.slen v)
  case atStart => exact ⟨[], L, ⟨#[]⟩, 65, ad', cap', rfl, hLc, hL6, rfl, hT, (fun p hp => by cases hp), HR0, rfl, by decide, hcx, hfx, B3⟩
  case round =>
    clear hcx hfx hT B3 hLc hL6
    obtain ⟨pre, P, d, f, ad2, c, rfl, hPc, hP6, HPL, hT, Hpre, HRd, Hf, hd, hcx, hfx, B3⟩ := hrel
    by_cases hfit : (d.size : Int) + 4 ≤ size
    · have e1 : decide ((d.size : Int) + 4 ≤ size) = true := decide_eq_true hfit
      have hrk : Tr.Rk xs (pre ++ P) := by rw [HPL.out]; exact HRk.out
      have hp4 : ∀ i, i < P.length → (Tr.xa P i).size = 4 := fun i hi => ((hrk.2 _).1 (List.mem_append_right _ (by rw [Tr.xa_get hi]; exact List.getElem_mem hi))).1
      have c3 := firstNot_any lo P d ad2 c bx wr hT (by omega) hcx (HM.out _ B3) (by omega) hp4
      unfold Tr.fix at c3
      cases hq : Tr.fnK P d P.length with
      | none =>
        rw [hq] at c3
        simp only at c3
        have HN : Hid (d = R) := by
          have h9 := HRd.out
          rw [Tr.tro_none (Tr.rk_stop hrk Hpre.out hq)] at h9
          exact h9
        clear hq hp4 hrk
        have c4 := fun w => clone_any d w (by omega)
        go_wp2_with fail
        refine c3.mono ?_
        rintro e w3 ⟨rfl, rfl⟩
        go_wp2_with fail
        refine (c4 _).mono ?_
        rintro e w4 ⟨rfl, G⟩
        go_wp2_with fail
        go_ret2
        exact ⟨by rw [HN.out]; rfl, bch B3 G (Nat.le_refl _)⟩
      | some i =>
        rw [hq] at c3
        simp only at c3
        obtain ⟨h2, h3, h4, h5⟩ := Tr.rk_step hrk Hpre.out hq
        obtain ⟨g, rfl⟩ : ∃ g, f = g + 1 := ⟨f - 1, by have := Hf.out; omega⟩
        have HN : Hid (Tr.tro xs size.toNat g (Tr.xa P i ++ d) = R) := by
          have h9 := HRd.out
          rw [Tr.tro_step (by omega) (by rw [h3]; exact h4), h3] at h9
          exact h9
        have HPre2 : Hid (∀ p, p ∈ pre ++ P.take (i + 1) → Tr.st p (Tr.xa P i ++ d) = true) := h5
        have HPL2 : Hid (pre ++ P.take (i + 1) ++ P.drop (i + 1) = L) := by show _ = _; rw [List.append_assoc, List.take_append_drop]; exact HPL.out
        rcases hT with hT | ⟨b2, off2, rfl, hlo2, hTx⟩
        · rw [hT] at h2; simp at h2
        have cX := hTx.2 i h2
        have hXd : (Tr.xa P i ++ d).size = 4 + d.size := by rw [ByteArray.size_append, h4]
        have hT2 := Tr.TxFar.drop hlo2 hTx (i + 1)
        generalize Tr.xa P i = X at *
        have hii : (i : Int) < (P.length : Int) := by omega
        have hi0 : decide ((i : Int) < 0) = false := decide_eq_false (by omega)
        have hi6 : (i : Int) ≤ 6144 := by omega
        have hXs : X.size ≤ 4 := by omega
        clear hq hp4 hrk HRd Hpre HPL h3 h5 hTx
        go_wp2_with fail
        refine c3.mono ?_
        rintro e w3 ⟨rfl, rfl⟩
        go_wp2_with fail
        go_region
        have hT3 := (hT2.set hlo (.string (X ++ d)))
        have hc3 : (w3.setCell ⟨bx, 0, none⟩ (.string (X ++ d))).cell? ⟨bx, 0, none⟩ = some (.string (X ++ d)) := World.cell?_setCell_same _ _ _ hcx
        have hf3 : (w3.setCell ⟨bx, 0, none⟩ (.string (X ++ d))).frozen? ⟨bx, 0, none⟩ = false := by rw [World.frozen?_setCell]; exact hfx
        have B4 : Below w.heap.size w (w3.setCell ⟨bx, 0, none⟩ (.string (X ++ d))) := B3.setCell hwb _
        have HD : Hid ((P.drop (i + 1)).length = P.length - (i + 1)) := List.length_drop ..
        have hlP : ((i : Int) + 1) ≤ (P.length : Int) := by omega
        have hlc : (P.length : Int) ≤ (c : Int) := by omega
        by_cases hce : i + 1 = c
        · subst hce
          obtain hPl : P.length = i + 1 := by omega
          go_wp2_with fail
          go_roundw
          case rel => exact ⟨pre ++ P.take (i + 1), [], X ++ d, g, _, 0, rfl, Nat.le_refl _, by simp, by have h9 := HPL2.out; rw [List.drop_of_length_le (by omega : P.length ≤ i + 1)] at h9; exact h9, .inl rfl, HPre2, HN, by have := Hf.out; show 4 * g + _ = 260; omega, by omega, hc3, hf3, B4.drew⟩
          case measure => simp [Tr.slen]; omega
        · have hce' : ¬ ((i : Int) + 1 = (c : Int)) := by omega
          go_wp2_with fail
          go_roundw
          case rel => exact ⟨pre ++ P.take (i + 1), P.drop (i + 1), X ++ d, g, _, c - (i + 1), by rw [HD.out], by rw [HD.out]; omega, by rw [HD.out]; omega, HPL2, hT3, HPre2, HN, by have := Hf.out; show 4 * g + _ = 260; omega, by omega, hc3, hf3, B4.drew⟩
          case measure => simp [Tr.slen]; omega
    · have e1 : decide ((d.size : Int) + 4 ≤ size) = false := decide_eq_false hfit
      have HN : Hid (d = R) := by
        have h9 := HRd.out
        rw [Tr.tro_full (by omega)] at h9
        exact h9
      have c4 := fun w => clone_any d w (by omega)
      go_wp2_with fail
      refine (c4 _).mono ?_
      rintro e w4 ⟨rfl, G⟩
      go_wp2_with fail
      go_ret2
      exact ⟨by rw [HN.out]; rfl, bch B3 G (Nat.le_refl _)⟩

set_option maxRecDepth 4000 in
set_option maxHeartbeats 1000000 in
theorem train_many (xs : List ByteArray) (size : Int) (ad : Option Addr) (cap : Nat) (w : World) (hx : TxSl w ad xs) (hB : ∀ i, (Tr.xa xs i).size ≤ 140737488355328) (hm : Tr.many xs = true) :
    Calls Try.prog 6 #[.slice ad xs.length cap, .int .i64 size] w fun e w' => e = .returned (.tuple #[.string ⟨#[]⟩, .int .i64 2]) ∧ Below w.heap.size w w' := by
  have c1 := tooMany_any xs ad cap w hx hB
  rw [hm] at c1
  clear hB hm hx
  go_enter Try.func6, Try.ntmps6
  go_wp2_with fail
  refine c1.mono ?_
  rintro e w1 ⟨rfl, B1⟩
  go_wp2_with fail
  go_ret2
  exact ⟨rfl, B1⟩
set_option maxRecDepth 4000 in
set_option maxHeartbeats 1000000 in
theorem train_range (xs : List ByteArray) (size : Int) (ad : Option Addr) (cap : Nat) (w : World) (hx : TxSl w ad xs) (hB : ∀ i, (Tr.xa xs i).size ≤ 140737488355328) (hm : Tr.many xs = false) (h : size < 0 ∨ 256 < size) :
    Calls Try.prog 6 #[.slice ad xs.length cap, .int .i64 size] w fun e w' => e = .returned (.tuple #[.string ⟨#[]⟩, .int .i64 3]) ∧ Below w.heap.size w w' := by
  have c1 := tooMany_any xs ad cap w hx hB
  rw [hm] at c1
  clear hB hm hx
  by_cases h0 : size < 0
  · have d1 : decide (size < 0) = true := decide_eq_true h0
    clear h
    go_enter Try.func6, Try.ntmps6
    go_wp2_with fail
    refine c1.mono ?_
    rintro e w1 ⟨rfl, B1⟩
    go_wp2_with fail
    go_ret2
    exact ⟨rfl, B1⟩
  · have d1 : decide (size < 0) = false := decide_eq_false h0
    have h2 : 256 < size := by omega
    have d2 : decide ((256 : Int) < size) = true := decide_eq_true h2
    clear h
    go_enter Try.func6, Try.ntmps6
    go_wp2_with fail
    refine c1.mono ?_
    rintro e w1 ⟨rfl, B1⟩
    go_wp2_with fail
    go_ret2
    exact ⟨rfl, B1⟩

namespace Tr
/-- What Train tells, and the error. -/
def tnE (xs : List ByteArray) (size : Int) : Int := if many xs = true then 2 else if 0 ≤ size ∧ size ≤ 256 then 0 else 3
def tnD (xs : List ByteArray) (size : Int) : ByteArray := if tnE xs size = 0 then trn xs size.toNat else ⟨#[]⟩
def cnE (xs : List ByteArray) (p : ByteArray) : Int := if many xs = true then 2 else if p.size = 4 then 0 else 3
def cnN (xs : List ByteArray) (p : ByteArray) : Nat := if cnE xs p = 0 then ct xs p else 0
end Tr
theorem train_any (xs : List ByteArray) (size : Int) (ad : Option Addr) (cap : Nat) (w : World) (hx : TxSl w ad xs) (hB : ∀ i, (Tr.xa xs i).size ≤ 140737488355328) (hM : Mx w) :
    Calls Try.prog 6 #[.slice ad xs.length cap, .int .i64 size] w fun e w' => e = .returned (.tuple #[.string (Tr.tnD xs size), .int .i64 (Tr.tnE xs size)]) ∧ Below w.heap.size w w' := by
  unfold Tr.tnD Tr.tnE
  cases hm : Tr.many xs with
  | true => simpa using train_many xs size ad cap w hx hB hm
  | false =>
    by_cases h : 0 ≤ size ∧ size ≤ 256
    · simpa [h] using train_ok xs size ad cap w hx hB hM hm h.1 h.2
    · simpa [h] using train_range xs size ad cap w hx hB hm (by omega)
end Go.Proofs.Ytbjbjbpgmojcbab
