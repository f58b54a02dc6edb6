/- What chapter 2's own ParseOf tells. -/
import Derived.Test.YtbjbjbpgmojcbaaToksParse2
namespace Go.Proofs.Ytbjbjbpgmojcbaa
open Go.RowKit

theorem ext_none (s : ByteArray) (a : Nat) : s.extract a a = ⟨#[]⟩ := by
  apply Nm.ba_ext
  rw [Tk.ext_data]
  simp
theorem ext_more (s : ByteArray) (f a : Nat) (h : f ≤ a) : s.extract f a ++ s.extract a (a + 1) = s.extract f (a + 1) := by
  apply Nm.ba_ext
  rw [Nm.appd, Tk.ext_data, Tk.ext_data, Tk.ext_data, show a + 1 - a = 1 by omega, show a + 1 - f = (a - f) + 1 by omega, List.take_add, List.drop_drop, show f + (a - f) = a by omega]
theorem ext_len (s : ByteArray) (f a : Nat) (ha : a ≤ s.size) : (s.extract f a).size = a - f := by simp; omega

theorem fold_range {l : List UInt8} {a m p : Nat} {b : Nat × Nat} : ((List.range (p + 1)).reverse).foldl (Tk.stp l a m) b = ((List.range p).reverse).foldl (Tk.stp l a m) (Tk.stp l a m b p) := by
  rw [List.range_succ]
  simp

set_option maxRecDepth 4000 in
set_option maxHeartbeats 4000000 in
theorem parseOf_ok (dict text : ByteArray) (w : World) (hd : dict.size ≤ 256) (ht : text.size ≤ 512) :
    Calls Try.prog 32 #[.string dict, .string text] w fun e w' => Below w.heap.size w w' ∧ ∃ ad cap, e = .returned (.slice ad (Tk.P (dict ++ text) dict.size dict.size).length cap) ∧ SlAt w' ad (Tk.P (dict ++ text) dict.size dict.size) := by
  have d1' : (dict.size : Int) ≤ 256 := by omega
  have d2' : (text.size : Int) ≤ 512 := by omega
  obtain ⟨i0, hi, hz0, hz1, hz2⟩ := info_parts info_tok
  go_enter Try.func32, Try.ntmps32
  go_wp2_with fail
  have hsz : (dict ++ text).size = dict.size + text.size := Nm.apps _ _
  generalize hs0 : dict ++ text = s at *
  have hs1 : s.size ≤ 768 := by omega
  have hs2 : (s.size : Int) ≤ 768 := by omega
  have hds : dict.size ≤ s.size := by omega
  have HS0 : Hid (dict ++ text = s) := hs0
  clear hsz hs0 d1' d2'
  generalize hd0 : dict.size = d at *
  have HD0 : Hid (dict.size = d) := hd0
  clear hd0
  go_loopw [6, 7, 8, 9, 10, 11, 12] (fun o x i _ _ _ _ wr => ∃ (a f : Nat) (X : ByteArray) (l : List Tk.T), x = .string X ∧ Hid (X = s.extract f a) ∧ i = .int .i64 (a : Nat) ∧ wr.ownsRow w.heap.size 73 3 o l.length (tcs l) ∧ f ≤ a ∧ a ≤ s.size ∧ l.length ≤ f ∧ Hid (l ++ Tk.P s a f = Tk.P s d d) ∧ Below w.heap.size w wr) (fun _ _ i _ _ _ _ _ => s.size - (intOf i).toNat)
  case atStart => exact ⟨d, d, ⟨#[]⟩, [], rfl, (ext_none s d).symm, rfl, World.ownsRow_nil _ _ _ _, Nat.le_refl _, hds, by simp, rfl, Below.refl _ _⟩
  case round =>
    obtain ⟨a, f, X, l, rfl, hX, rfl, hown, hfa, has, hlf, hP, G⟩ := hrel
    have HO : Hid (wr.ownsRow w.heap.size 73 3 u6 l.length (tcs l)) := hown
    clear hown
    have hXs : X.size = a - f := by rw [hX.out]; exact ext_len s f a has
    have hgs := G.size
    by_cases hend : a < s.size
    · have d3 : decide ((a : Int) < (s.size : Int)) = true := by simp; omega
      have d3' : decide (a < s.size) = true := by simp; omega
      go_wp2_with fail
      obtain ⟨wo, rfl⟩ : ∃ wo : World, wo = wr := ⟨_, rfl⟩
      obtain ⟨bb, hbb⟩ : ∃ bb, Tk.bst s.data.toList a = bb := ⟨_, rfl⟩
      have HB : Hid (Tk.bst s.data.toList a = bb) := hbb
      clear hbb
      have hl : s.data.toList.length = s.size := by simp
      have HM : Hid (Tk.most s.data.toList a = min 64 (s.size - a)) := by show _ = _; unfold Tk.most; rw [hl]
      clear hl
      go_loopw [9, 10, 11, 12] (fun x y i _ wi => ∃ best far q : Nat, x = .int .i64 (best : Nat) ∧ y = .int .i64 (far : Nat) ∧ i = .int .i64 (q : Nat) ∧ 1 ≤ q ∧ q ≤ a + 1 ∧ far ≤ a ∧ best ≤ 64 ∧ Hid ((List.range (a + 1 - q)).reverse.foldl (Tk.stp s.data.toList a (Tk.most s.data.toList a)) (far, best) = bb) ∧ Below wo.heap.size wo wi) (fun _ _ i _ _ => a + 1 - (intOf i).toNat)
      case atStart => exact ⟨0, 0, 1, rfl, rfl, rfl, by omega, by omega, by omega, by omega, HB.out, Below.refl _ _⟩
      case round =>
        obtain ⟨best, far, q, rfl, rfl, rfl, hq1, hq2, hfar, hbest, hfold, Gi⟩ := hrel
        by_cases hqa : q ≤ a
        · have d4 : decide ((q : Int) ≤ (a : Int)) = true := by simp; omega
          have d4' : decide (q ≤ a) = true := by simp; omega
          have hstep : (List.range (a + 1 - q)).reverse.foldl (Tk.stp s.data.toList a (Tk.most s.data.toList a)) (far, best) = (List.range (a + 1 - (q + 1))).reverse.foldl (Tk.stp s.data.toList a (Tk.most s.data.toList a)) (Tk.stp s.data.toList a (Tk.most s.data.toList a) (far, best) (a - q)) := by
            rw [show a + 1 - q = (a - q) + 1 by omega, fold_range, show a + 1 - (q + 1) = a - q by omega]
          have hcm := fun w => come_any s a q w (by omega) has hq1 hqa
          have hle := Tk.alk_le s.data.toList (Tk.most s.data.toList a) (a - q) a
          have hm64 : Tk.most s.data.toList a ≤ 64 := by rw [HM.out]; omega
          rw [← HM.out] at hcm
          obtain ⟨k, hk⟩ : ∃ k, Tk.alk s.data.toList (a - q) a (Tk.most s.data.toList a) = k := ⟨_, rfl⟩
          rw [hk] at hcm hle
          by_cases hbig : best < k
          · have HF : Hid ((List.range (a + 1 - (q + 1))).reverse.foldl (Tk.stp s.data.toList a (Tk.most s.data.toList a)) (q, k) = bb) := by
              show _ = _
              rw [← hfold.out, hstep]
              unfold Tk.stp
              rw [hk, if_pos (by exact hbig), show a - (a - q) = q by omega]
            have d5 : decide ((best : Int) < (k : Int)) = true := by simp; omega
            have d5' : decide (best < k) = true := by simp; omega
            have hk64 : k ≤ 64 := by omega
            clear hstep hfold hk hle hm64
            go_wp2_with (go_at_call 60; go_must (refine (hcm _).mono ?_; rintro e w1 ⟨rfl, hb1⟩))
            go_roundw
            case rel => exact ⟨k, q, q + 1, rfl, rfl, by go_num, by omega, by omega, by omega, hk64, HF, bch Gi hb1 (Nat.le_refl _)⟩
            case measure => simp [intOf]; omega
          · have HF : Hid ((List.range (a + 1 - (q + 1))).reverse.foldl (Tk.stp s.data.toList a (Tk.most s.data.toList a)) (far, best) = bb) := by
              show _ = _
              rw [← hfold.out, hstep]
              unfold Tk.stp
              rw [hk, if_neg (by exact hbig)]
            have d5 : decide ((best : Int) < (k : Int)) = false := by simp; omega
            have d5' : decide (best < k) = false := by simp; omega
            clear hstep hfold hk hle hm64
            go_wp2_with (go_at_call 60; go_must (refine (hcm _).mono ?_; rintro e w1 ⟨rfl, hb1⟩))
            go_roundw
            case rel => exact ⟨best, far, q + 1, rfl, rfl, by go_num, by omega, by omega, hfar, hbest, HF, bch Gi hb1 (Nat.le_refl _)⟩
            case measure => simp [intOf]; omega
        · have d4 : decide ((q : Int) ≤ (a : Int)) = false := by simp; omega
          have d4' : decide (q ≤ a) = false := by simp; omega
          have hbb : bb = (far, best) := by
            rw [← hfold.out, show a + 1 - q = 0 by omega]
            rfl
          subst hbb
          have HOi : Hid (wr.ownsRow w.heap.size 73 3 u6 l.length (tcs l)) := own_below HO.out Gi
          have GG := bch G Gi (Nat.le_refl _)
          have hgw := GG.size
          clear hfold
          by_cases h3 : best < 3
          · have HN : Hid (l ++ Tk.P s (a + 1) f = Tk.P s d d) := by
              show _ = _
              rw [← hP.out, Tk.P_lit hend (by rw [HB.out]; exact h3)]
            have HXN : Hid (X ++ s.extract a (a + 1) = s.extract f (a + 1)) := by
              show _ = _
              rw [hX.out]
              exact ext_more s f a hfa
            have d6 : decide ((best : Int) < 3) = true := by simp; omega
            have d6' : decide (best < 3) = true := by simp; omega
            have hsl := slice_at s (a : Int) ((a : Int) + 1) a (a + 1) rfl (by omega) (by omega) (by omega)
            have hY : (s.extract a (a + 1)).size = 1 := by rw [ext_len s a (a + 1) (by omega)]; omega
            have hXb : X.size ≤ 768 := by omega
            have hwr : IntKind.i64.wrap ((a : Int) + 1) = (a : Int) + 1 := IntWalk.i64_in _ ⟨by omega, by omega⟩
            generalize s.extract a (a + 1) = Y at *
            have HXs : Hid (X.size = a - f) := hXs
            clear hX hXs hP HM HB
            go_wp2_with fail
            go_roundw
            case rel => exact ⟨a + 1, f, X ++ Y, l, rfl, HXN, by go_num, HOi.out, by omega, by omega, hlf, HN, GG⟩
            case measure => simp [intOf]; omega
          · have hbo := Tk.bst_ok s.data.toList a
            rw [HB.out, HM.out] at hbo
            simp only at hbo
            have han : a + best ≤ s.size := by omega
            have HN : Hid ((l ++ Tk.lay s f a) ++ [⟨⟨#[]⟩, (far : Nat), (best : Nat)⟩] ++ Tk.P s (a + best) (a + best) = Tk.P s d d) := by
              show _ = _
              rw [← hP.out, Tk.P_copy hend (by rw [HB.out]; exact h3), HB.out]
              simp
            have d6 : decide ((best : Int) < 3) = false := by simp; omega
            have d6' : decide (best < 3) = false := by simp; omega
            have hwr : IntKind.i64.wrap ((a : Int) + (best : Int)) = (a : Int) + (best : Int) := IntWalk.i64_in _ ⟨by omega, by omega⟩
            clear hbo hP HM HB
            by_cases hf : f < a
            · have hE := empty_not (s := X) (by omega)
              have hlay : Tk.lay s f a = [⟨X, 0, 0⟩] := by
                unfold Tk.lay
                rw [if_pos hf, hX.out]
              rw [hlay] at HN
              have HXs : Hid (X.size = a - f) := hXs
              clear hX hXs hlay
              have tok : True := trivial
              go_wp2_with (first | (at_builtin; have _t := tok; go_must (refine wpList_append_own _ rfl _ _ 40 rfl w.heap.size 73 i0 (.agg #[.string ⟨#[]⟩, .int .i64 0, .int .i64 0]) 3 32 Try.underlying40 hi hz0 hz1 hz2 rfl (by decide) _ _ _ rfl (HOi.out.alloc _) ⟨wr.heap.size, 0, none⟩ 1 1 [.string X, .int .i64 0, .int .i64 0] rfl rfl (news3 _ _ _ _ _) (one3 _ _ _ rfl rfl rfl) (ml_le (by omega)) (by omega) (by simp; omega) ?_; intro v4 w4 hown4 hgrow4 _; clear _t tok; have hgs4 := hgrow4.size)) | (at_builtin; go_must (refine wpList_append_own _ rfl _ _ 40 rfl w.heap.size 73 i0 (.agg #[.string ⟨#[]⟩, .int .i64 0, .int .i64 0]) 3 32 Try.underlying40 hi hz0 hz1 hz2 rfl (by decide) _ _ _ rfl (hown4.alloc _) ⟨w4.heap.size, 0, none⟩ 1 1 [.string ⟨#[]⟩, .int .i64 (far : Nat), .int .i64 (best : Nat)] rfl rfl (news3 _ _ _ _ _) (one3 _ _ _ rfl rfl rfl) (ml_le (by omega)) (by omega) (by simp at hgs4 hgw ⊢; omega) ?_; intro v5 w5 hown5 hgrow5 _)))
              go_roundw
              case rel =>
                have t1 : tcs (l ++ [⟨X, 0, 0⟩] ++ [⟨⟨#[]⟩, (far : Nat), (best : Nat)⟩]) = tcs l ++ [.string X, .int .i64 0, .int .i64 0] ++ [.string ⟨#[]⟩, .int .i64 (far : Nat), .int .i64 (best : Nat)] := by rw [tcs_append, tcs_append]; rfl
                have B4 := (GG.alloc hgw _).grown hgrow4 (by simp; omega) (fun k hk => (HOi.out.lt k hk).1)
                refine ⟨a + best, a + best, ⟨#[]⟩, l ++ [⟨X, 0, 0⟩] ++ [⟨⟨#[]⟩, (far : Nat), (best : Nat)⟩], rfl, (ext_none s _).symm, by go_num, ?_, Nat.le_refl _, by omega, by simp; omega, HN, (B4.alloc B4.size _).grown hgrow5 (by have := B4.size; simp; omega) (fun k hk => (hown4.lt k hk).1)⟩
                rw [t1, List.length_append, List.length_append]
                exact hown5
              case measure => simp [intOf]; omega
            · have hE := empty_of (s := X) (by omega)
              have hlay : Tk.lay s f a = [] := by
                unfold Tk.lay
                rw [if_neg hf]
              rw [hlay, List.append_nil] at HN
              have HX0 : Hid (X.size = 0) := by show _ = _; omega
              have HXs : Hid (X.size = a - f) := hXs
              clear hX hXs hlay
              go_wp2_with (first | (at_builtin; go_must (refine wpList_append_own _ rfl _ _ 40 rfl w.heap.size 73 i0 (.agg #[.string ⟨#[]⟩, .int .i64 0, .int .i64 0]) 3 32 Try.underlying40 hi hz0 hz1 hz2 rfl (by decide) _ _ _ rfl (HOi.out.alloc _) ⟨wr.heap.size, 0, none⟩ 1 1 [.string ⟨#[]⟩, .int .i64 (far : Nat), .int .i64 (best : Nat)] rfl rfl (news3 _ _ _ _ _) (one3 _ _ _ rfl rfl rfl) (ml_le (by omega)) (by omega) (by simp at hgw ⊢; omega) ?_; intro v5 w5 hown5 hgrow5 _)))
              go_roundw
              case rel =>
                have t1 : tcs (l ++ [⟨⟨#[]⟩, (far : Nat), (best : Nat)⟩]) = tcs l ++ [.string ⟨#[]⟩, .int .i64 (far : Nat), .int .i64 (best : Nat)] := by rw [tcs_append]; rfl
                have hX0 : X = ⟨#[]⟩ := Nm.ba_ext (List.eq_nil_of_length_eq_zero (by simpa using HX0.out))
                refine ⟨a + best, a + best, X, l ++ [⟨⟨#[]⟩, (far : Nat), (best : Nat)⟩], rfl, by rw [hX0]; exact (ext_none s _).symm, by go_num, ?_, Nat.le_refl _, by omega, by simp; omega, HN, (GG.alloc hgw _).grown hgrow5 (by simp; omega) (fun k hk => (HOi.out.lt k hk).1)⟩
                rw [t1, List.length_append]
                exact hown5
              case measure => simp [intOf]; omega
    · have d3 : decide ((a : Int) < (s.size : Int)) = false := by simp; omega
      have d3' : decide (a < s.size) = false := by simp; omega
      have HE : Hid (l ++ Tk.lay s f a = Tk.P s d d) := by
        show _ = _
        rw [← hP.out, Tk.P_end (by omega)]
      have HOi := HO
      clear hP
      by_cases hf : f < a
      · have hE := empty_not (s := X) (by omega)
        have hlay : Tk.lay s f a = [⟨X, 0, 0⟩] := by
          unfold Tk.lay
          rw [if_pos hf, hX.out]
        rw [hlay] at HE
        have HXs : Hid (X.size = a - f) := hXs
        clear hX hXs hlay
        have tok : True := trivial
        go_wp2_with (first | (at_builtin; have _t := tok; go_must (refine wpList_append_own _ rfl _ _ 40 rfl w.heap.size 73 i0 (.agg #[.string ⟨#[]⟩, .int .i64 0, .int .i64 0]) 3 32 Try.underlying40 hi hz0 hz1 hz2 rfl (by decide) _ _ _ rfl (HOi.out.alloc _) ⟨wr.heap.size, 0, none⟩ 1 1 [.string X, .int .i64 0, .int .i64 0] rfl rfl (news3 _ _ _ _ _) (one3 _ _ _ rfl rfl rfl) (ml_le (by omega)) (by omega) (by simp; omega) ?_; intro v4 w4 hown4 hgrow4 _; clear _t tok; have hgs4 := hgrow4.size)))
        go_ret
        have t1 : tcs (l ++ [⟨X, 0, 0⟩]) = tcs l ++ [.string X, .int .i64 0, .int .i64 0] := by rw [tcs_append]; rfl
        rw [← t1] at hown4
        obtain ⟨ad, cap, hv, hsl⟩ := sl_of_row hown4
        refine ⟨(G.alloc hgs _).grown hgrow4 (by simp; omega) (fun k hk => (HO.out.lt k hk).1), ad, cap, ?_, ?_⟩
        · rw [HS0.out, HD0.out, ← HE.out, ← hv]
          rfl
        · rw [HS0.out, HD0.out, ← HE.out]
          exact hsl
      · have hE := empty_of (s := X) (by omega)
        have hlay : Tk.lay s f a = [] := by
          unfold Tk.lay
          rw [if_neg hf]
        rw [hlay, List.append_nil] at HE
        have HXs : Hid (X.size = a - f) := hXs
        clear hX hXs hlay
        go_wp2_with fail
        go_ret
        obtain ⟨ad, cap, hv, hsl⟩ := sl_of_row HO.out
        refine ⟨G, ad, cap, ?_, ?_⟩
        · rw [HS0.out, HD0.out, ← HE.out, ← hv]
          rfl
        · rw [HS0.out, HD0.out, ← HE.out]
          exact hsl
end Go.Proofs.Ytbjbjbpgmojcbaa
