/- What toks.Play answers: chapter 2's B1. -/
import Derived.Test.YtbjbjbpgmojcbaaToksCheck2
namespace Go.Proofs.Ytbjbjbpgmojcbaa
open Go.RowKit

theorem App.box {wr w3 : World} {B : Nat} {v v' : Value} {l' : List UInt8} {x y z : Value} {T : TypeId} (hA : App (wr.alloc (.cells #[x, y, z] T)) w3 B v v' l') (hne : ∀ g, v.ownBlock = some g → g < wr.heap.size) :
    w3.cell? ⟨wr.heap.size, 0, none⟩ = some x ∧ w3.cell? ⟨wr.heap.size, 1, none⟩ = some y ∧ w3.cell? ⟨wr.heap.size, 2, none⟩ = some z := by
  have h1 : wr.heap.size < (wr.alloc (.cells #[x, y, z] T)).heap.size := by simp
  have h2 : some wr.heap.size ≠ v.ownBlock := fun e => Nat.lt_irrefl _ (hne _ e.symm)
  refine ⟨(hA.cell h1 h2).trans ?_, (hA.cell h1 h2).trans ?_, (hA.cell h1 h2).trans ?_⟩ <;> (rw [World.cell?_alloc_mark]; rfl)

set_option maxHeartbeats 1000000 in
theorem play_bad (dict : ByteArray) (ad : Option Addr) (cap : Nat) (l : List Tk.T) (w : World) (hl : SlAt w ad l) (hs : Sane l) (e0 : Int) (he : checkOf dict l = e0) (hne : (e0 != 0) = true) :
    Calls Try.prog 26 #[.string dict, .slice ad l.length cap] w fun e w' => e = .returned (.tuple #[.string ⟨#[]⟩, .int .i64 e0]) ∧ Below w.heap.size w w' := by
  have hc := fun w hl => check_any dict ad cap l w hl hs
  rw [he] at hc
  clear he
  go_enter Try.func26, Try.ntmps26
  go_wp2_with fail
  refine (hc _ hl).mono ?_
  rintro e w1 ⟨rfl, G⟩
  clear hc
  go_wp2_with fail
  go_ret2
  exact ⟨rfl, G⟩

set_option maxHeartbeats 1000000 in
theorem play_ok (dict : ByteArray) (b off cap : Nat) (l : List Tk.T) (w : World) (hb : b < w.heap.size) (hl : TkAt w b off l) (hs : Sane l) (hd : dict.size ≤ 256) (s1 : List UInt8) (hr : Tk.run dict.size dict.data.toList false l = (0, s1)) :
    Calls Try.prog 26 #[.string dict, .slice (some ⟨b, off, none⟩) l.length cap] w fun e w' => e = .returned (.tuple #[.string ⟨(s1.drop dict.size).toArray⟩, .int .i64 0]) ∧ Below w.heap.size w w' := by
  have hc := check_some dict b off cap l w hd hb hl hs
  rw [hr] at hc
  have hd' : (dict.size : Int) ≤ 256 := by omega
  have hn' : (l.length : Int) ≤ 140737488355328 := by have := hs.1; omega
  go_enter Try.func26, Try.ntmps26
  go_wp2_with fail
  refine hc.mono ?_
  rintro e w1 ⟨rfl, G⟩
  clear hc
  obtain ⟨v, w2, hcv, ho, G2, hv, hvg⟩ := Own8.of_string w1 dict (by omega) w.heap.size G.size
  obtain ⟨g, cp, rfl, hg1, hg2, hg3, hg4, _⟩ := ho.form hv
  have G3 := bch G G2 (Nat.le_refl _)
  have Hr : Hid (Tk.run dict.size dict.data.toList false l = (0, s1)) := hr
  clear hr
  go_wp2_with fail
  clear hcv hv hvg
  go_loopw [7, 20] (fun x i wr => ∃ (k g cp : Nat) (s : List UInt8) (p : Bool), k ≤ l.length ∧ i = .int .i64 k ∧ x = .slice (some ⟨g, 0, none⟩) s.length cp ∧ Own8 wr w.heap.size (.slice (some ⟨g, 0, none⟩) s.length cp) s ∧
      Hid (Tk.run dict.size s p (l.drop k) = (0, s1)) ∧ dict.size ≤ s.length ∧ s.length ≤ dict.size + 512 ∧ Below w.heap.size w wr)
    (fun _ i _ => l.length - (intOf i).toNat)
  case atStart =>
    exact ⟨0, g, cp, dict.data.toList, false, by omega, rfl, by simp, by simpa using ho, Hr, by simp, by simp, G3⟩
  case round =>
    clear ho hg1 hg2 hg3 hg4 G G2 G3
    obtain ⟨k, g', cp', s, p, hk, rfl, rfl, ho, hrun, hs1, hs2, G⟩ := hrel
    by_cases hlt : k < l.length
    · have hdrop : l.drop k = l[k] :: l.drop (k + 1) := List.drop_eq_getElem_cons hlt
      obtain ⟨c0, c1, c2⟩ := hl k hlt
      rw [← G.cell (by exact hb)] at c0 c1 c2
      rw [hdrop] at hrun
      clear hdrop hl hs
      generalize l[k] = t at *
      have he : Tk.err dict.size s p t = 0 := by
        by_cases h : Tk.err dict.size s p t = 0
        · exact h
        · have := hrun.out
          rw [Tk.run_bad h] at this
          simp only [Prod.mk.injEq] at this
          exact absurd this.1 h
      have HR : Hid (Tk.run dict.size (Tk.make s t) (decide (t.lit.size ≠ 0)) (l.drop (k + 1)) = (0, s1)) := by
        have := hrun.out
        rw [Tk.run_good he] at this
        exact this
      have hmk := Tk.make_ok he
      have hgs := G.size
      have HO : Hid (Own8 wr w.heap.size (.slice (some ⟨g', 0, none⟩) s.length cp') s) := ho
      clear ho he hrun
      go_wp2_with (at_builtin; refine wp_append8s _ rfl _ _ rfl w.heap.size (.slice (some ⟨g', 0, none⟩) s.length cp') s rfl (HO.out.alloc _) t.lit rfl (by omega) (sz_alloc _ hgs) ?_; intro v1 w3 hA; obtain ⟨k0, k1, k2⟩ := hA.box (fun g hg => (HO.out.lt g hg).2))
      obtain ⟨wo, rfl⟩ : ∃ wo : World, wo = wr := ⟨_, rfl⟩
      have hown := hA.own
      have hnn := hA.some_ (by simp)
      obtain ⟨g1, cp1, rfl, hh1, hh2, hh3, hh4, _⟩ := hown.form hnn
      have hat := hA.at_ g1 rfl
      have hgo := HO.out.lt g' rfl
      have hne1 : g1 ≠ wo.heap.size := by
        rcases hat with h | h
        · simp [Value.ownBlock] at h; omega
        · simp at h; omega
      have G1 : Below w.heap.size w w3 := (G.alloc hgs _).trans hA.below
      have hsz1 : wo.heap.size < w3.heap.size := by
        have := hA.below.size
        simp at this
        omega
      have hlen0 : (s ++ t.lit.data.toList).length = s.length + t.lit.size := by simp
      have HK : Hid (Tk.make s t = Tk.copy t.far.toNat t.len.toNat (s ++ t.lit.data.toList)) := by
        show _ = _
        unfold Tk.make
        by_cases h0 : t.lit.size = 0
        · have : t.lit.data.toList = [] := List.eq_nil_of_length_eq_zero (by simpa using h0)
          rw [if_neg (by omega), this, List.append_nil]
        · rw [if_pos h0, (hmk.2.2.2.1 h0).2]
          rfl
      have hmk1 := hmk.1
      have hmk2 := hmk.2.1
      have hl00 : 0 ≤ t.len := hmk.2.1
      have hmk5 := hmk.2.2.2.2
      have HF : Hid (0 < t.len → 1 ≤ t.far ∧ t.far ≤ s.length ∧ t.lit.size = 0 ∧ t.len ≤ 64) := by
        intro hp
        by_cases h0 : t.lit.size = 0
        · have := hmk.2.2.1 h0
          omega
        · have := hmk.2.2.2.1 h0
          omega
      clear hmk hA hnn hat k0 c0 c1 c2
      generalize hS : s ++ t.lit.data.toList = S at *
      clear hS
      have hl64 : t.len ≤ 64 ∨ t.len ≤ 0 := by
        by_cases hp : 0 < t.len
        · left; exact (HF.out hp).2.2.2
        · right; omega
      have hl65 : t.len ≤ 64 := by omega
      have HL0 : Hid (S.length = s.length + t.lit.size) := hlen0
      have HM1 : Hid ((Tk.make s t).length = s.length + t.lit.size + t.len.toNat) := hmk1
      clear hl64 hmk2 hlen0 hmk1
      go_loopw [7, 30] (fun x i wi => ∃ (j g cp : Nat), (j : Int) ≤ t.len ∧ i = .int .i64 j ∧ x = .slice (some ⟨g, 0, none⟩) (Tk.copy t.far.toNat j S).length cp ∧ Own8 wi w.heap.size (.slice (some ⟨g, 0, none⟩) (Tk.copy t.far.toNat j S).length cp) (Tk.copy t.far.toNat j S) ∧
          g ≠ wo.heap.size ∧ wo.heap.size < wi.heap.size ∧ wi.cell? ⟨wo.heap.size, 1, none⟩ = some (.int .i64 t.far) ∧ Below w.heap.size w wi)
        (fun _ i _ => 64 - (intOf i).toNat)
      case atStart => exact ⟨0, g1, cp1, by omega, rfl, rfl, hown, hne1, hsz1, k1, G1⟩
      case round =>
        clear hown hne1 hsz1 k1 G1 hh1 hh2 hh3 hh4 k2 G hgo
        obtain ⟨j, g2, cp2, hj, rfl, rfl, hown, hne2, hsz2, k1, G⟩ := hrel
        by_cases hjl : (j : Int) < t.len
        · obtain ⟨f1, f2, f3, f4⟩ := HF.out (by omega)
          have hlen0 := HL0.out
          obtain ⟨F, hF⟩ := Int.eq_ofNat_of_zero_le (a := t.far) (by omega)
          have hcl := Tk.copy_length t.far.toNat j S
          have hcs := Tk.copy_succ t.far.toNat j S
          generalize hfn : t.far.toNat = fn at *
          generalize Tk.copy fn j S = X at *
          obtain ⟨ga, ca, hq, _, q2, _, _, q5⟩ := hown.form (by simp)
          simp only [Value.slice.injEq, Option.some.injEq, Addr.mk.injEq, and_true, true_and] at hq
          obtain ⟨rfl, rfl⟩ := hq
          have hfF : fn = F := by omega
          subst hfF
          rw [hF] at k1
          have HFF : Hid (t.far = (fn : Int)) := hF
          have hXl : fn ≤ X.length := by omega
          have hix : X.length - fn < X.length := by omega
          obtain ⟨bt, hbt⟩ : ∃ bt, X[X.length - fn]? = some bt := ⟨_, List.getElem?_eq_getElem hix⟩
          have hld := q5 _ _ hbt
          have HX1 : Hid (Tk.copy fn (j + 1) S = X ++ [bt]) := by
            show _ = _
            rw [hcs]
            simp [List.getD, hbt]
          have HO2 : Hid (Own8 wr w.heap.size (.slice (some ⟨g2, 0, none⟩) X.length cp2) X) := hown
          have hi1 : (0 : Int) ≤ (X.length : Int) - (fn : Int) := by omega
          have hi2 : (X.length : Int) - (fn : Int) < (X.length : Int) := by omega
          have hXb : (X.length : Int) ≤ 1000 := by omega
          have hgs2 := G.size
          have HCL : Hid (X.length = S.length + j) := hcl
          clear hown hcs q5 hbt hfn HF hF hcl f3 f1 f2 f4 hlen0
          go_wp2_with (at_builtin; refine wp_append8 _ rfl _ _ rfl w.heap.size (.slice (some ⟨g2, 0, none⟩) X.length cp2) X rfl (HO2.out.alloc _) bt wr.heap.size 1 rfl (by rw [World.cell?_alloc_mark]; rfl) (by omega) (sz_alloc _ hgs2) ?_; intro v4 w4 hA4)
          go_roundw
          case rel =>
            obtain ⟨g3, cp3, rfl, r1, r2, r3, r4, _⟩ := hA4.own.form (hA4.some_ (by simp))
            have hat := hA4.at_ g3 rfl
            have hsz4 := hA4.below.size
            simp at hsz4
            refine ⟨j + 1, g3, cp3, by omega, by go_num, by rw [HX1.out], by rw [HX1.out]; exact hA4.own, ?_, by omega, ?_, (G.alloc hgs2 _).trans hA4.below⟩
            · rcases hat with h | h
              · have : g2 = g3 := by simpa [Value.ownBlock] using h
                omega
              · simp at h; omega
            · rw [hA4.cell (by simp; omega) (by simp [Value.ownBlock]; omega), HFF.out, ← k1]
              exact (Below.refl _ _ |>.alloc (Nat.le_refl _) _).cell (by exact hsz2)
          case measure => simp [intOf]; omega
        · have hjt : j = t.len.toNat := by omega
          subst hjt
          have HK2 := HK.out
          rw [← HK2] at hown
          clear HK2 k1
          go_wp2_with fail
          go_roundw
          case rel =>
            have h9 := HM1.out
            refine ⟨k + 1, g2, cp2, Tk.make s t, _, by omega, by go_num, by rw [HK.out], hown, HR, by omega, by omega, G⟩
          case measure => simp [intOf]; omega
    · have hs1' : s = s1 := by
        have := hrun.out
        rw [List.drop_eq_nil_of_le (by omega)] at this
        simpa [Tk.run] using this
      subst hs1'
      obtain ⟨ga, ca, hq, _, q2, q3, q4, q5⟩ := ho.form (by simp)
      simp only [Value.slice.injEq, Option.some.injEq, Addr.mk.injEq, and_true, true_and] at hq
      obtain ⟨rfl, rfl⟩ := hq
      have hcv := fun c => Own8.conv q5 dict.size c
      have hi1 : (dict.size : Int) ≤ (s.length : Int) := by omega
      have hi2 : (s.length : Int) ≤ (cp' : Int) := by omega
      have hi3 : (s.length : Int) ≤ 1000 := by omega
      have hi4 : (cp' : Int) ≤ 9223372036854775807 := by unfold maxLen at q4; omega
      have hd1 : decide ((k : Int) < (l.length : Int)) = false := by simp; omega
      have hd2 : decide (k < l.length) = false := by simp; omega
      by_cases hcd : cp' = dict.size
      · have hsl : s.length = dict.size := by omega
        have hcv0 : ∀ c, (convert 69 9 (.slice (some ⟨g', 0, none⟩) 0 c)).run Try.prog wr = .ok (.string ⟨#[]⟩) wr := fun c =>
          Own8.conv (w := wr) (l := []) (g := g') (fun j b hj => by simp at hj) 0 c
        have HS : Hid (s.drop dict.size = []) := List.drop_eq_nil_of_le (by omega)
        subst hcd
        clear hrun q5 hl hs ho hcv
        go_wp2_with fail
        go_ret2
        exact ⟨by rw [HS.out]; rfl, G⟩
      · clear hrun q5 hl hs ho
        go_wp2_with fail
        go_ret2
        exact ⟨rfl, G⟩

set_option maxHeartbeats 1000000 in
theorem play_nil (dict : ByteArray) (ad : Option Addr) (cap : Nat) (w : World) (hd : dict.size ≤ 256) :
    Calls Try.prog 26 #[.string dict, .slice ad 0 cap] w fun e w' => e = .returned (.tuple #[.string ⟨#[]⟩, .int .i64 0]) ∧ Below w.heap.size w w' := by
  have hc := check_nil dict ad cap w hd
  have hd' : (dict.size : Int) ≤ 256 := by omega
  go_enter Try.func26, Try.ntmps26
  go_wp2_with fail
  refine hc.mono ?_
  rintro e w1 ⟨rfl, G⟩
  clear hc
  obtain ⟨v, w2, hcv, ho, G2, hv, hvg⟩ := Own8.of_string w1 dict (by omega) w.heap.size G.size
  obtain ⟨g, cp, rfl, hg1, hg2, hg3, hg4, q5⟩ := ho.form hv
  have G3 := bch G G2 (Nat.le_refl _)
  have hlen : dict.data.toList.length = dict.size := by simp
  rw [hlen] at hcv hg3
  have hcv1 := fun c => Own8.conv q5 dict.size c
  rw [hlen, Nat.sub_self, List.drop_eq_nil_of_le (by omega)] at hcv1
  have hcv0 : ∀ c, (convert 69 9 (.slice (some ⟨g, 0, none⟩) 0 c)).run Try.prog w2 = .ok (.string ⟨#[]⟩) w2 := fun c =>
    Own8.conv (w := w2) (l := []) (g := g) (fun j b hj => by simp at hj) 0 c
  have hi2 : (dict.size : Int) ≤ (cp : Int) := by omega
  have hi4 : (cp : Int) ≤ 9223372036854775807 := by unfold maxLen at hg4; omega
  clear q5 hv hvg ho hlen
  by_cases hcd : cp = dict.size
  · subst hcd
    go_wp2_with fail
    refine wp_loop_rounds 1 ?_
    rw [rounds_succ]
    go_wp2_with fail
    go_ret2
    exact ⟨rfl, G3⟩
  · go_wp2_with fail
    refine wp_loop_rounds 1 ?_
    rw [rounds_succ]
    go_wp2_with fail
    go_ret2
    exact ⟨rfl, G3⟩

/-- What Play tells. -/
def playOf (dict : ByteArray) (l : List Tk.T) : ByteArray := if checkOf dict l ≠ 0 then ⟨#[]⟩ else ⟨((Tk.run dict.size dict.data.toList false l).2.drop dict.size).toArray⟩

theorem play_any (dict : ByteArray) (ad : Option Addr) (cap : Nat) (l : List Tk.T) (w : World) (hl : SlAt w ad l) (hs : Sane l) :
    Calls Try.prog 26 #[.string dict, .slice ad l.length cap] w fun e w' => e = .returned (.tuple #[.string (playOf dict l), .int .i64 (checkOf dict l)]) ∧ Below w.heap.size w w' := by
  unfold playOf
  by_cases h0 : checkOf dict l = 0
  · rw [if_neg (by simpa using h0), h0]
    have hd : dict.size ≤ 256 := by
      unfold checkOf at h0
      by_cases h : 256 < dict.size
      · rw [if_pos h] at h0; omega
      · omega
    have h1 : (Tk.run dict.size dict.data.toList false l).1 = 0 := by
      unfold checkOf at h0
      rwa [if_neg (by omega)] at h0
    rcases hl with rfl | ⟨b, off, rfl, hb, ht⟩
    · have e : (Tk.run dict.size dict.data.toList false []).2.drop dict.size = [] := List.drop_eq_nil_of_le (by simp [Tk.run])
      rw [e]
      exact play_nil dict ad cap w hd
    · exact play_ok dict b off cap l w hb ht hs hd _ (by rw [← h1])
  · rw [if_pos h0]
    exact play_bad dict ad cap l w hl hs _ rfl (by simpa using h0)
end Go.Proofs.Ytbjbjbpgmojcbaa
