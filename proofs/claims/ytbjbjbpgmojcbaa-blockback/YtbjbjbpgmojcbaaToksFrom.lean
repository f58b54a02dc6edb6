/- What chapter 2's own ToksFrom comes to. -/
import Derived.Test.YtbjbjbpgmojcbaaToksRead
import Derived.Test.YtbjbjbpgmojcbaaToksRef
import Derived.Test.YtbjbjbpgmojcbaaNumsFrom
import Derived.Deep.AppendLies
namespace Go.Proofs.Ytbjbjbpgmojcbaa
open Go.RowKit

/-- The document's own reading. -/
def fromOf (dict s : ByteArray) : Option (List Tk.T) :=
  match Tk.D s with
  | none => none
  | some l => if l.length ≤ 512 ∧ checkOf dict l = 0 then some l else none

theorem fromOf_none {dict s S : ByteArray} {l : List Tk.T} (h1 : Tk.D s = (Tk.D S).map (l ++ ·)) (h2 : Tk.D S = none) : fromOf dict s = none := by
  unfold fromOf
  rw [h1, h2]
  rfl
theorem fromOf_many {dict s S : ByteArray} {l : List Tk.T} (h1 : Tk.D s = (Tk.D S).map (l ++ ·)) (h2 : 512 < l.length) : fromOf dict s = none := by
  unfold fromOf
  rw [h1]
  cases Tk.D S with
  | none => rfl
  | some m =>
    simp only [Option.map_some]
    rw [if_neg]
    simp
    omega
theorem fromOf_end {dict s S : ByteArray} {l : List Tk.T} (h1 : Tk.D s = (Tk.D S).map (l ++ ·)) (h2 : S.size = 0) (h3 : l.length ≤ 512) : fromOf dict s = if checkOf dict l = 0 then some l else none := by
  unfold fromOf
  rw [h1, Tk.D_nil h2]
  simp [h3]

theorem D_step {s S S2 : ByteArray} {l : List Tk.T} {t : Tk.T} {k : Nat} (h1 : Tk.D s = (Tk.D S).map (l ++ ·)) (h2 : Tk.one S = some (t, k)) (h3 : S.extract k S.size = S2) : Tk.D s = (Tk.D S2).map ((l ++ [t]) ++ ·) := by
  rw [h1, Tk.D_some h2, h3]
  cases Tk.D S2 <;> simp

theorem own_set {w : World} {B n size q o : Nat} {e : TypeId} {v : Value} {xs : List Value} (h : w.ownsRow B e size v n xs) (hne : v.ownBlock ≠ some q) (x : Value) : (w.setCell ⟨q, o, none⟩ x).ownsRow B e size v n xs :=
  h.kept (row := some q) ⟨rfl, rfl, rfl, by simp [World.setCell], fun k _ hk => Below.heap_setCell _ _ _ _ (fun e => hk (by rw [e]))⟩ (.inr hne)

theorem news3' (w : World) (g : Nat) (hg : g = w.heap.size) (x y z : Value) (T : TypeId) : ∀ j u, [x, y, z][j]? = some u → (w.alloc (.cells #[x, y, z] T)).cell? ((⟨g, 0, none⟩ : Addr).add j) = some u := by
  subst hg
  exact news3 w x y z T

theorem size_set (w : World) (a : Addr) (x : Value) : (w.setCell a x).heap.size = w.heap.size := by simp [World.setCell]

/-- No tok's Lit is longer than what was read. -/
def Lits (l : List Tk.T) (n : Nat) : Prop := ∀ t ∈ l, t.lit.size ≤ n

set_option maxRecDepth 4000 in
set_option maxHeartbeats 4000000 in
theorem toksFrom_any (dict s : ByteArray) (w : World) (hs : s.size ≤ 140737488355328) :
    Calls Try.prog 36 #[.string dict, .string s] w fun e w' => Below w.heap.size w w' ∧
      ((fromOf dict s = none ∧ e = .returned (.tuple #[.slice none 0 0, .bool false])) ∨ ∃ l ad cap, fromOf dict s = some l ∧ e = .returned (.tuple #[.slice ad l.length cap, .bool true]) ∧ SlAt w' ad l) := by
  obtain ⟨i0, hi, hz0, hz1, hz2⟩ := info_parts info_tok
  generalize hRO : fromOf dict s = RO at *
  have HRO : Hid (fromOf dict s = RO) := hRO
  clear hRO
  go_enter Try.func36, Try.ntmps36
  go_wp2_with fail
  go_loopw [1, 6] (fun x v wr => ∃ (S : ByteArray) (l : List Tk.T), x = .string S ∧ wr.ownsRow w.heap.size 73 3 v l.length (tcs l) ∧ Hid (Tk.D s = (Tk.D S).map (l ++ ·)) ∧
      l.length ≤ 512 ∧ S.size ≤ 140737488355328 ∧ Hid (Lits l 140737488355328) ∧ Below w.heap.size w wr)
    (fun x _ _ => strOf x)
  case atStart =>
    refine ⟨s, [], rfl, World.ownsRow_nil _ _ _ _, ?_, by simp, hs, fun t ht => by simp at ht, Below.refl _ _⟩
    show _ = _
    cases Tk.D s <;> rfl
  case round =>
    obtain ⟨S, l, rfl, hown, hD, hl, hS, hlits, G⟩ := hrel
    have hgs := G.size
    by_cases h0 : S.size = 0
    · have hE0 := empty_of h0
      obtain ⟨ad, cap, rfl, hsl⟩ := sl_of_row hown
      have hsane : Sane l := ⟨by omega, hlits.out⟩
      have hc := fun w hsl => ref_any dict ad cap l w hsl hsane
      generalize hP : playOf dict l = PO at *
      clear hP
      by_cases hck : checkOf dict l = 0
      · have HX : Hid (RO = some l) := by
          show _ = _
          rw [← HRO.out, fromOf_end hD.out h0 hl, if_pos hck]
        rw [hck] at hc
        clear hown hD hck
        go_wp2_with fail
        refine (hc _ hsl).mono ?_
        rintro e w1 ⟨rfl, hb1⟩
        clear hc
        go_wp2_with fail
        go_ret2
        exact ⟨bch G hb1 (Nat.le_refl _), .inr ⟨l, ad, cap, HX.out, rfl, hsl.below hb1⟩⟩
      · have HX : Hid (RO = none) := by
          show _ = _
          rw [← HRO.out, fromOf_end hD.out h0 hl, if_neg hck]
        have hne : (checkOf dict l != 0) = true := by simpa using hck
        generalize checkOf dict l = E at *
        clear hown hD hck
        go_wp2_with fail
        refine (hc _ hsl).mono ?_
        rintro e w1 ⟨rfl, hb1⟩
        clear hc
        go_wp2_with fail
        go_ret2
        exact ⟨bch G hb1 (Nat.le_refl _), .inl ⟨HX.out, rfl⟩⟩
    · have hE0 := empty_not h0
      cases hf : Nm.from_ S.data.toList with
      | none =>
        have HX : Hid (RO = none) := by
          show _ = _
          rw [← HRO.out]
          exact fromOf_none hD.out (Tk.D_none h0 (by simp [Tk.one, hf]))
        have hc := fun w => numFrom_no S w (by omega) hf
        clear hf hD
        go_wp2_with fail
        refine (hc _).mono ?_
        rintro e w1 ⟨rfl, hb1⟩
        clear hc
        go_wp2_with fail
        go_ret2
        exact ⟨bch G hb1 (Nat.le_refl _), .inl ⟨HX.out, rfl⟩⟩
      | some x =>
        obtain ⟨n, k⟩ := x
        have hc := fun w => numFrom_yes S w n k (by omega) hf
        have hnb := Nm.nb_from hf
        have hn : (n : Int) ≤ 2147483647 := by omega
        have hkS : k ≤ S.size := by simpa using hnb.2.2.1
        obtain ⟨r, hr⟩ : ∃ r, S.extract k S.size = r := ⟨_, rfl⟩
        have hrs : r.size = S.size - k := by rw [← hr, Tk.ext_size]
        have HRS : Hid (r.size = S.size - k) := hrs
        have hrb : r.size ≤ 140737488355328 := by omega
        rw [hr] at hc
        by_cases ho : n % 2 = 1
        · have ho1 : ((n : Int) % 2 == 0) = false := by simp; omega
          have hq2 : (n : Int) / 2 ≤ 2147483647 := by omega
          cases hg : Nm.from_ r.data.toList with
          | none =>
            have HX : Hid (RO = none) := by
              show _ = _
              rw [← HRO.out]
              refine fromOf_none hD.out (Tk.D_none h0 ?_)
              unfold Tk.one
              rw [hf]
              simp only
              rw [if_pos ho, hr, hg]
            have hc2 := fun w => numFrom_no r w (by omega) hg
            clear hf hD hg hr hrs hnb ho
            go_wp2_with fail
            refine (hc _).mono ?_
            rintro e w1 ⟨rfl, hb1⟩
            clear hc
            have G1 := bch G hb1 (Nat.le_refl _)
            have hgs1 := G1.size
            go_wp2_with fail
            refine (hc2 _).mono ?_
            rintro e w2 ⟨rfl, hb2⟩
            clear hc2
            obtain ⟨q0, q1, q2, q3, q4, q5⟩ := box6 hb2
            go_wp2_with fail
            go_ret2
            exact ⟨((bch (G1.alloc hgs1 _) hb2 (Nat.le_refl _)).setCell (p := ⟨w1.heap.size, 1, none⟩) hgs1 _), .inl ⟨HX.out, rfl⟩⟩
          | some y =>
            obtain ⟨f, j⟩ := y
            have hone : Tk.one S = some (⟨⟨#[]⟩, f, (n / 2 : Nat)⟩, k + j) := by
              unfold Tk.one
              rw [hf]
              simp only
              rw [if_pos ho, hr, hg]
            obtain ⟨S2, hS2⟩ : ∃ S2, r.extract j r.size = S2 := ⟨_, rfl⟩
            have hSS : S.extract (k + j) S.size = S2 := by
              rw [← hS2, ← hr]
              apply Nm.ba_ext
              rw [Tk.ext_end, Tk.ext_end, Tk.ext_end, List.drop_drop]
            have HD2 : Hid (Tk.D s = (Tk.D S2).map ((l ++ [⟨⟨#[]⟩, f, (n / 2 : Nat)⟩]) ++ ·)) := D_step hD.out hone hSS
            have hnn : ((n / 2 : Nat) : Int) = (n : Int) / 2 := by omega
            rw [hnn] at HD2
            have hc2 := fun w => numFrom_yes r w f j (by omega) hg
            rw [hS2] at hc2
            have HS : Hid (S2.size < S.size) := by
              show _ < _
              have := Tk.one_pos hone
              rw [← hSS, Tk.ext_size]
              omega
            have hS2b : S2.size ≤ 140737488355328 := by have := HS.out; omega
            have HO : Hid (wr.ownsRow w.heap.size 73 3 u6 l.length (tcs l)) := hown
            clear hf hD hg hr hrs hnb ho hone hS2 hSS hnn hown
            go_wp2_with fail
            refine (hc _).mono ?_
            rintro e w1 ⟨rfl, hb1⟩
            clear hc
            have G1 := bch G hb1 (Nat.le_refl _)
            have hgs1 := G1.size
            have HO1 := own_below HO.out hb1
            go_wp2_with fail
            refine (hc2 _).mono ?_
            rintro e w2 ⟨rfl, hb2⟩
            clear hc2
            obtain ⟨q0, q1, q2, q3, q4, q5⟩ := box6 hb2
            have hneq : u6.ownBlock ≠ some w1.heap.size := fun e => by have := (HO1.lt _ e).2; omega
            have HO2 := own_set (o := 1) (own_below (HO1.alloc _) hb2) hneq (.int .i64 f)
            have G2 := (bch (G1.alloc hgs1 _) hb2 (Nat.le_refl _)).setCell (p := ⟨w1.heap.size, 1, none⟩) hgs1 (.int .i64 f)
            have hgs2 := G2.size
            rw [size_set] at hgs2
            have hsz2 := size_set w2 ⟨w1.heap.size, 1, none⟩ (.int .i64 f)
            have Hsz2 : Hid ((w2.setCell ⟨w1.heap.size, 1, none⟩ (.int .i64 f)).heap.size = w2.heap.size) := hsz2
            clear hsz2
            by_cases h512 : 512 < l.length + 1
            · have HX : Hid (RO = none) := by
                show _ = _
                rw [← HRO.out]
                exact fromOf_many HD2.out (by simp; omega)
              have hd1 : decide ((512 : Int) < (l.length : Int) + 1) = true := by simp; omega
              go_wp2_with (at_builtin; go_must (refine wpList_append_lies _ rfl _ _ 40 rfl w.heap.size 73 i0 (.agg #[.string ⟨#[]⟩, .int .i64 0, .int .i64 0]) 3 32 Try.underlying40 hi hz0 hz1 hz2 rfl (by decide) _ l.length (tcs l) rfl (HO2.alloc _) ⟨w2.heap.size, 0, none⟩ 1 1 [.string ⟨#[]⟩, .int .i64 f, .int .i64 ((n : Int) / 2)] rfl rfl (news3' _ _ Hsz2.out.symm _ _ _ _) (one3 _ _ _ rfl rfl rfl) (by decide) (ml_le (by omega)) (by omega) (sz_alloc _ (by rw [Hsz2.out]; exact hgs2)) _ rfl ?_; intro g4 cp4 w4 hown4 hgrow4 _ _))
              go_ret2
              exact ⟨(G2.alloc G2.size _).grown hgrow4 (sz_alloc _ G2.size) (fun k hk => (HO2.lt k hk).1), .inl ⟨HX.out, rfl⟩⟩
            · have hd1 : decide ((512 : Int) < (l.length : Int) + 1) = false := by simp; omega
              go_wp2_with (at_builtin; go_must (refine wpList_append_lies _ rfl _ _ 40 rfl w.heap.size 73 i0 (.agg #[.string ⟨#[]⟩, .int .i64 0, .int .i64 0]) 3 32 Try.underlying40 hi hz0 hz1 hz2 rfl (by decide) _ l.length (tcs l) rfl (HO2.alloc _) ⟨w2.heap.size, 0, none⟩ 1 1 [.string ⟨#[]⟩, .int .i64 f, .int .i64 ((n : Int) / 2)] rfl rfl (news3' _ _ Hsz2.out.symm _ _ _ _) (one3 _ _ _ rfl rfl rfl) (by decide) (ml_le (by omega)) (by omega) (sz_alloc _ (by rw [Hsz2.out]; exact hgs2)) _ rfl ?_; intro g4 cp4 w4 hown4 hgrow4 _ _))
              go_roundw
              case rel =>
                have htc : tcs (l ++ [⟨⟨#[]⟩, f, (n : Int) / 2⟩]) = tcs l ++ [.string ⟨#[]⟩, .int .i64 f, .int .i64 ((n : Int) / 2)] := tcs_append _ _
                refine ⟨S2, l ++ [⟨⟨#[]⟩, f, (n : Int) / 2⟩], rfl, by rw [htc, List.length_append]; exact hown4, HD2, by simp; omega, hS2b, ?_, (G2.alloc G2.size _).grown hgrow4 (sz_alloc _ G2.size) (fun k hk => (HO2.lt k hk).1)⟩
                intro t ht
                rcases List.mem_append.1 ht with h | h
                · exact hlits.out t h
                · simp at h
                  subst h
                  exact Nat.zero_le _
              case measure => exact HS.out
        · have ho1 : ((n : Int) % 2 == 0) = true := by simp; omega
          obtain ⟨m, hm⟩ : ∃ m, n / 2 = m := ⟨_, rfl⟩
          have hq : (n : Int) / 2 = (m : Int) := by omega
          by_cases hbig : r.size < m
          · have HX : Hid (RO = none) := by
              show _ = _
              rw [← HRO.out]
              refine fromOf_none hD.out (Tk.D_none h0 ?_)
              unfold Tk.one
              rw [hf]
              simp only
              rw [if_neg ho, if_pos (by omega)]
            have hd1 : decide ((r.size : Int) < (m : Int)) = true := by simp; omega
            have hd2 : decide (r.size < m) = true := by simp; omega
            clear hf hD hr hrs hnb ho hm hbig
            go_wp2_with fail
            refine (hc _).mono ?_
            rintro e w1 ⟨rfl, hb1⟩
            clear hc
            have G1 := bch G hb1 (Nat.le_refl _)
            have hgs1 := G1.size
            go_wp2_with fail
            go_ret2
            exact ⟨G1.alloc hgs1 _, .inl ⟨HX.out, rfl⟩⟩
          · have hd1 : decide ((r.size : Int) < (m : Int)) = false := by simp; omega
            have hd2 : decide (r.size < m) = false := by simp; omega
            have hi1 : (0 : Int) ≤ (m : Int) := by omega
            have hi2 : (m : Int) ≤ (r.size : Int) := by omega
            have hone : Tk.one S = some (⟨S.extract k (k + n / 2), 0, 0⟩, k + n / 2) := by
              unfold Tk.one
              rw [hf]
              simp only
              rw [if_neg ho, if_neg (by omega)]
            rw [hm] at hone
            obtain ⟨S2, hS2⟩ : ∃ S2, r.extract m r.size = S2 := ⟨_, rfl⟩
            obtain ⟨lit, hlit⟩ : ∃ lit, r.extract 0 m = lit := ⟨_, rfl⟩
            have hSS : S.extract (k + m) S.size = S2 := by
              rw [← hS2, ← hr]
              apply Nm.ba_ext
              rw [Tk.ext_end, Tk.ext_end, Tk.ext_end, List.drop_drop]
            have hLL : S.extract k (k + m) = lit := by
              rw [← hlit, ← hr]
              apply Nm.ba_ext
              rw [Tk.ext_data, Tk.ext_data, Tk.ext_end]
              simp
            rw [hLL] at hone
            have HD2 : Hid (Tk.D s = (Tk.D S2).map ((l ++ [⟨lit, 0, 0⟩]) ++ ·)) := D_step hD.out hone hSS
            have HS : Hid (S2.size < S.size) := by
              show _ < _
              have := Tk.one_pos hone
              rw [← hSS, Tk.ext_size]
              omega
            have hS2b : S2.size ≤ 140737488355328 := by have := HS.out; omega
            have Hlit : Hid (lit.size ≤ 140737488355328) := by
              have := one_lit hone
              show _ ≤ _
              exact Nat.le_trans this hS
            have HO : Hid (wr.ownsRow w.heap.size 73 3 u6 l.length (tcs l)) := hown
            clear hf hD hr hrs hnb ho hm hone hSS hLL hbig hown
            go_wp2_with fail
            refine (hc _).mono ?_
            rintro e w1 ⟨rfl, hb1⟩
            clear hc
            have G1 := bch G hb1 (Nat.le_refl _)
            have hgs1 := G1.size
            have HO1 := own_below HO.out hb1
            have G2 := G1.alloc hgs1 (.cells #[.string lit, .int .i64 0, .int .i64 0] 73)
            have HO2 := HO1.alloc (.cells #[.string lit, .int .i64 0, .int .i64 0] 73)
            by_cases h512 : 512 < l.length + 1
            · have HX : Hid (RO = none) := by
                show _ = _
                rw [← HRO.out]
                exact fromOf_many HD2.out (by simp; omega)
              have hd1 : decide ((512 : Int) < (l.length : Int) + 1) = true := by simp; omega
              go_wp2_with (at_builtin; go_must (refine wpList_append_lies _ rfl _ _ 40 rfl w.heap.size 73 i0 (.agg #[.string ⟨#[]⟩, .int .i64 0, .int .i64 0]) 3 32 Try.underlying40 hi hz0 hz1 hz2 rfl (by decide) _ l.length (tcs l) rfl (HO2.alloc _) ⟨w1.heap.size + 1, 0, none⟩ 1 1 [.string lit, .int .i64 0, .int .i64 0] rfl rfl (news3' _ _ (by simp) _ _ _ _) (one3 _ _ _ rfl rfl rfl) (by decide) (ml_le (by omega)) (by omega) (sz_alloc _ (sz_alloc _ hgs1)) _ rfl ?_; intro g4 cp4 w4 hown4 hgrow4 _ _))
              go_ret2
              exact ⟨(G2.alloc G2.size _).grown hgrow4 (sz_alloc _ G2.size) (fun k hk => (HO2.lt k hk).1), .inl ⟨HX.out, rfl⟩⟩
            · have hd1 : decide ((512 : Int) < (l.length : Int) + 1) = false := by simp; omega
              go_wp2_with (at_builtin; go_must (refine wpList_append_lies _ rfl _ _ 40 rfl w.heap.size 73 i0 (.agg #[.string ⟨#[]⟩, .int .i64 0, .int .i64 0]) 3 32 Try.underlying40 hi hz0 hz1 hz2 rfl (by decide) _ l.length (tcs l) rfl (HO2.alloc _) ⟨w1.heap.size + 1, 0, none⟩ 1 1 [.string lit, .int .i64 0, .int .i64 0] rfl rfl (news3' _ _ (by simp) _ _ _ _) (one3 _ _ _ rfl rfl rfl) (by decide) (ml_le (by omega)) (by omega) (sz_alloc _ (sz_alloc _ hgs1)) _ rfl ?_; intro g4 cp4 w4 hown4 hgrow4 _ _))
              go_roundw
              case rel =>
                have htc : tcs (l ++ [⟨lit, 0, 0⟩]) = tcs l ++ [.string lit, .int .i64 0, .int .i64 0] := tcs_append _ _
                refine ⟨S2, l ++ [⟨lit, 0, 0⟩], rfl, by rw [htc, List.length_append]; exact hown4, HD2, by simp; omega, hS2b, ?_, (G2.alloc G2.size _).grown hgrow4 (sz_alloc _ G2.size) (fun k hk => (HO2.lt k hk).1)⟩
                intro t ht
                rcases List.mem_append.1 ht with h | h
                · exact hlits.out t h
                · simp at h
                  subst h
                  exact Hlit.out
              case measure => exact HS.out
end Go.Proofs.Ytbjbjbpgmojcbaa
