/- What toks.Write answers for every list, and what chapter 2's own TokBytes comes to. -/
import Derived.Test.YtbjbjbpgmojcbaaToksWrite
import Derived.Test.YtbjbjbpgmojcbaaNumsText
import Derived.Deep.DrawnRows
namespace Go.Proofs.Ytbjbjbpgmojcbaa
open Go.RowKit
attribute [local go_sem ↓] Go.wp_at_zero Go.wp_at_succ

set_option maxHeartbeats 1000000 in
theorem write_nil (dict : ByteArray) (ad : Option Addr) (cap : Nat) (w : World) (hd : dict.size ≤ 256) :
    Calls Try.prog 33 #[.string dict, .slice ad 0 cap] w fun e w' => e = .returned (.tuple #[.string ⟨#[]⟩, .int .i64 0]) ∧ Below w.heap.size w w' := by
  have hc := check_nil dict ad cap w hd
  have hmf : ∀ (fn : Fn) (first cap : Array Value) (w : World), (Instr.makeFunc fn first cap).run Try.prog w = .ok (.func fn first cap) w := fun _ _ _ _ => rfl
  have hcv := fun w => Lib.run_convert_nil_bytes (P := Try.prog) w 69 9 5 0 Try.underlying69 Try.underlying5 Try.underlying9
  go_enter Try.func33, Try.ntmps33
  go_wp2_with fail
  refine hc.mono ?_
  rintro e w1 ⟨rfl, G⟩
  clear hc
  go_wp2_with fail
  refine wp_loop_rounds 1 ?_
  rw [rounds_succ]
  go_wp2_with fail
  go_ret2
  exact ⟨rfl, G.alloc G.size _⟩

/-- What Write tells. -/
def writeOf (dict : ByteArray) (l : List Tk.T) : ByteArray := if checkOf dict l ≠ 0 then ⟨#[]⟩ else ⟨(tbs l).toArray⟩

theorem check_ok {dict : ByteArray} {l : List Tk.T} (h0 : checkOf dict l = 0) : dict.size ≤ 256 ∧ (Tk.run dict.size dict.data.toList false l).1 = 0 := by
  unfold checkOf at h0
  by_cases h : 256 < dict.size
  · rw [if_pos h] at h0; omega
  · rw [if_neg h] at h0
    exact ⟨by omega, h0⟩

theorem write_any (dict : ByteArray) (ad : Option Addr) (cap : Nat) (l : List Tk.T) (w : World) (hl : SlAt w ad l) (hs : Sane l) :
    Calls Try.prog 33 #[.string dict, .slice ad l.length cap] w fun e w' => e = .returned (.tuple #[.string (writeOf dict l), .int .i64 (checkOf dict l)]) ∧ Below w.heap.size w w' := by
  unfold writeOf
  by_cases h0 : checkOf dict l = 0
  · rw [if_neg (by simpa using h0), h0]
    obtain ⟨hd, h1⟩ := check_ok h0
    rcases hl with rfl | ⟨b, off, rfl, hb, ht⟩
    · exact write_nil dict ad cap w hd
    · exact write_ok dict b off cap l w hb ht hs hd _ (by rw [← h1])
  · rw [if_pos h0]
    exact write_bad dict ad cap l w hl hs _ rfl (by simpa using h0)

/-- Toks as they may be. -/
def Small (l : List Tk.T) : Prop := l.length ≤ 1000 ∧ ∀ t ∈ l, t.lit.size ≤ 1000 ∧ 0 ≤ t.len ∧ t.len ≤ 1000 ∧ 0 ≤ t.far ∧ t.far ≤ 1000

theorem tb_len (t : Tk.T) (h : t.lit.size ≤ 1000 ∧ 0 ≤ t.len ∧ t.len ≤ 1000 ∧ 0 ≤ t.far ∧ t.far ≤ 1000) : (tb t).length ≤ 1010 := by
  unfold tb
  split
  · have := Nm.nb_len5 (2 * t.lit.size) (by omega)
    simp
    omega
  · have h1 := Nm.nb_len5 (2 * t.len + 1).toNat (by omega)
    have h2 := Nm.nb_len5 t.far.toNat (by omega)
    simp
    omega

set_option maxRecDepth 4000 in
set_option maxHeartbeats 4000000 in
theorem tokBytes_some (b off cap : Nat) (l : List Tk.T) (w : World) (hb : b < w.heap.size) (hl : TkAt w b off l) (hs : Small l) :
    Calls Try.prog 34 #[.slice (some ⟨b, off, none⟩) l.length cap] w fun e w' => e = .returned (.string ⟨(tbs l).toArray⟩) ∧ Below w.heap.size w w' := by
  have hn' : (l.length : Int) ≤ 1000 := by have := hs.1; omega
  go_enter Try.func34, Try.ntmps34
  go_wp2_with fail
  go_loopw [3, 4] (fun x i wr => ∃ (k : Nat) (X : ByteArray), k ≤ l.length ∧ i = .int .i64 k ∧ x = .string X ∧ Hid (X.data.toList = tbs (l.take k)) ∧ X.size ≤ 1010 * k ∧ Below w.heap.size w wr)
    (fun _ i _ => l.length - (intOf i).toNat)
  case atStart => exact ⟨0, ⟨#[]⟩, by omega, rfl, rfl, rfl, by decide, Below.refl _ _⟩
  case round =>
    obtain ⟨k, X, hk, rfl, rfl, hX, hXl, G⟩ := hrel
    by_cases hlt : k < l.length
    · obtain ⟨c0, c1, c2⟩ := hl k hlt
      rw [← G.cell (by exact hb)] at c0 c1 c2
      have HT : Hid (tbs (l.take (k + 1)) = X.data.toList ++ tb l[k]) := by
        show _ = _
        rw [hX.out, ← tbs_snoc]
        congr 1
        simp
      have hsm := hs.2 l[k] (List.getElem_mem hlt)
      have htl := tb_len l[k] hsm
      clear hl hs
      generalize l[k] = t at *
      have hi1 : (0 : Int) ≤ (k : Int) := by omega
      have hi2 : (k : Int) < (l.length : Int) := by omega
      obtain ⟨m1, m2, m3, m4, m5⟩ := hsm
      have hXb : (X.size : Int) ≤ 2000000 := by omega
      by_cases h0 : t.lit.size ≠ 0
      · have hE0 := empty_not h0
        have hls : (t.lit.size : Int) ≤ 1000 := by omega
        have hr1 : IntKind.i64.wrap (2 * (t.lit.size : Int)) = 2 * (t.lit.size : Int) := IntWalk.i64_in _ ⟨by omega, by omega⟩
        have hl5 := Nm.nb_len5 (2 * (t.lit.size : Int)).toNat (by omega)
        have hno1 : ¬ 9223372036854775807 < X.size + (Nm.nb (2 * (t.lit.size : Int)).toNat).length := by omega
        have hno2 : ¬ 9223372036854775807 < X.size + (Nm.nb (2 * (t.lit.size : Int)).toNat).length + t.lit.size := by omega
        go_wp2_with fail
        go_region_held3 (fun w' => w'.cell? ⟨b, off + k * 3, none⟩ = some (.string t.lit)) (first | go_keep | (rw [hB.cell (by exact Nat.lt_of_lt_of_le hb G.size)]; assumption)) (first | (go_at_call 16; refine (numBytes_any (2 * t.lit.size) (2 * (t.lit.size : Int)) _ (by omega) (by omega) (by omega)).mono ?_; rintro e w1 ⟨rfl, hB⟩))
        go_wp2_with fail
        go_roundw
        case rel =>
          have e1 : (X ++ ⟨(Nm.nb (2 * (t.lit.size : Int)).toNat).toArray⟩ ++ t.lit).data.toList = tbs (l.take (k + 1)) := by
            rw [Nm.appd, Nm.appd, HT.out, tb, if_pos h0, List.append_assoc]
            congr 2
          have e2 : (X ++ ⟨(Nm.nb (2 * (t.lit.size : Int)).toNat).toArray⟩ ++ t.lit).size ≤ 1010 * (k + 1) := by
            rw [Nm.apps, Nm.apps, size_mk8 (Nm.nb _)]
            omega
          exact ⟨k + 1, _, by omega, by go_num, rfl, e1, e2, bch G.drew hB (Nat.le_refl _)⟩
        case measure => simp [intOf]; omega
      · have hE0 := empty_of (s := t.lit) (by omega)
        have hr1 : IntKind.i64.wrap (2 * t.len) = 2 * t.len := IntWalk.i64_in _ ⟨by omega, by omega⟩
        have hr2 : IntKind.i64.wrap (2 * t.len + 1) = 2 * t.len + 1 := IntWalk.i64_in _ ⟨by omega, by omega⟩
        have hl5 := Nm.nb_len5 (2 * t.len + 1).toNat (by omega)
        have hl6 := Nm.nb_len5 t.far.toNat (by omega)
        have hno1 : ¬ 9223372036854775807 < X.size + (Nm.nb (2 * t.len + 1).toNat).length := by omega
        have hno2 : ¬ 9223372036854775807 < X.size + (Nm.nb (2 * t.len + 1).toNat).length + (Nm.nb t.far.toNat).length := by omega
        go_wp2_with fail
        have hbw : b < wr.heap.size := Nat.lt_of_lt_of_le hb G.size
        have tok : True := trivial
        go_region_held3 (fun w' => w'.cell? ⟨b, off + k * 3 + 1, none⟩ = some (.int .i64 t.far) ∧ w'.cell? ⟨b, off + k * 3 + 2, none⟩ = some (.int .i64 t.len)) (first | (go_keep; done) | exact ⟨(hB2.cell (by exact Nat.lt_of_lt_of_le hbw hB1.size)).trans ((hB1.cell (by exact hbw)).trans c1), (hB2.cell (by exact Nat.lt_of_lt_of_le hbw hB1.size)).trans ((hB1.cell (by exact hbw)).trans c2)⟩ | exact ⟨(hB1.cell (by exact hbw)).trans c1, (hB1.cell (by exact hbw)).trans c2⟩) (first | (go_at_call 16; have _t := tok; clear tok; refine (numBytes_any (2 * t.len + 1).toNat (2 * t.len + 1) _ (by omega) (by omega) (by omega)).mono ?_; rintro e w1 ⟨rfl, hB1⟩) | (go_at_call 16; refine (numBytes_any t.far.toNat t.far _ (by omega) (by omega) (by omega)).mono ?_; rintro e w2 ⟨rfl, hB2⟩))
        go_wp2_with fail
        go_roundw
        case rel =>
          have e1 : (X ++ ⟨(Nm.nb (2 * t.len + 1).toNat).toArray⟩ ++ ⟨(Nm.nb t.far.toNat).toArray⟩).data.toList = tbs (l.take (k + 1)) := by
            rw [Nm.appd, Nm.appd, HT.out, tb, if_neg h0, List.append_assoc]
          have e2 : (X ++ ⟨(Nm.nb (2 * t.len + 1).toNat).toArray⟩ ++ ⟨(Nm.nb t.far.toNat).toArray⟩).size ≤ 1010 * (k + 1) := by
            rw [Nm.apps, Nm.apps, size_mk8 (Nm.nb _), size_mk8 (Nm.nb _)]
            omega
          exact ⟨k + 1, _, by omega, by go_num, rfl, e1, e2, bch (bch G.drew hB1 (Nat.le_refl _)) hB2 (Nat.le_refl _)⟩
        case measure => simp [intOf]; omega
    · have hd1 : decide ((k : Int) < (l.length : Int)) = false := by simp; omega
      have hd2 : decide (k < l.length) = false := by simp; omega
      have HE : Hid (X = ⟨(tbs l).toArray⟩) := by
        show _ = _
        apply Nm.ba_ext
        rw [hX.out, List.take_of_length_le (by omega)]
      clear hl hs
      go_wp2_with fail
      go_ret
      exact ⟨by rw [← HE.out]; rfl, G⟩

set_option maxHeartbeats 1000000 in
theorem tokBytes_nil (ad : Option Addr) (cap : Nat) (w : World) :
    Calls Try.prog 34 #[.slice ad 0 cap] w fun e w' => e = .returned (.string ⟨#[]⟩) ∧ Below w.heap.size w w' := by
  go_enter Try.func34, Try.ntmps34
  go_wp2_with fail
  refine wp_loop_rounds 1 ?_
  rw [rounds_succ]
  go_wp2_with fail
  go_ret
  exact ⟨rfl, Below.refl _ _⟩

theorem tokBytes_any (ad : Option Addr) (cap : Nat) (l : List Tk.T) (w : World) (hl : SlAt w ad l) (hs : Small l) :
    Calls Try.prog 34 #[.slice ad l.length cap] w fun e w' => e = .returned (.string ⟨(tbs l).toArray⟩) ∧ Below w.heap.size w w' := by
  rcases hl with rfl | ⟨b, off, rfl, hb, ht⟩
  · exact tokBytes_nil ad cap w
  · exact tokBytes_some b off cap l w hb ht hs
end Go.Proofs.Ytbjbjbpgmojcbaa
