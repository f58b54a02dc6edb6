/- A part of the proof: what it leans on. -/
import Derived.Test.YtbjbjbpgmojcbaaBook01
import Derived.Test.YtbjbjbpgmojcbaaBook02
import Derived.Test.YtbjbjbpgmojcbaaBook06
import Derived.Test.YtbjbjbpgmojcbaaBook07
import Derived.Test.YtbjbjbpgmojcbaaBook08
namespace Go.Proofs.Ytbjbjbpgmojcbaa
open Go.RowKit
theorem ext_none (s : ByteArray) (a : Nat) : s.extract a a = ⟨#[]⟩ := by
  apply Nm.ba_ext
  rw [Tk.ext_data]
  simp
theorem ext_more (s : ByteArray) (f a : Nat) (h : f ≤ a) : s.extract f a ++ s.extract a (a + 1) = s.extract f (a + 1) := by
  apply Nm.ba_ext
  rw [Nm.appd, Tk.ext_data, Tk.ext_data, Tk.ext_data, show a + 1 - a = 1 by omega, show a + 1 - f = (a - f) + 1 by omega, List.take_add, List.drop_drop, show f + (a - f) = a by omega]
theorem ext_len (s : ByteArray) (f a : Nat) (ha : a ≤ s.size) : (s.extract f a).size = a - f := by simp; omega
theorem fold_range {l : List UInt8} {a m p : Nat} {b : Nat × Nat} : ((List.range (p + 1)).reverse).foldl (Tk.stp l a m) b = ((List.range p).reverse).foldl (Tk.stp l a m) (Tk.stp l a m b p) := by
  rw [List.range_succ]
  simp
set_option maxRecDepth 4000 in
set_option maxHeartbeats 4000000 in
theorem parseOf_ok (dict text : ByteArray) (w : World) (hd : dict.size ≤ 256) (ht : text.size ≤ 512) :
    Calls Try.prog 32 #[.string dict, .string text] w fun e w' => Below w.heap.size w w' ∧ ∃ ad cap, e = .returned (.slice ad (Tk.P (dict ++ text) dict.size dict.size).length cap) ∧ SlAt w' ad (Tk.P (dict ++ text) dict.size dict.size) := by
  have d1' : (dict.size : Int) ≤ 256 := by omega
  have d2' : (text.size : Int) ≤ 512 := by omega
  obtain ⟨i0, hi, hz0, hz1, hz2⟩ := info_parts info_tok
  go_enter Try.func32, Try.ntmps32
  go_wp2_with fail
  have hsz : (dict ++ text).size = dict.size + text.size := Nm.apps _ _
  generalize hs0 : dict ++ text = s at *
  have hs1 : s.size ≤ 768 := by omega
  have hs2 : (s.size : Int) ≤ 768 := by omega
  have hds : dict.size ≤ s.size := by omega
  have HS0 : Hid (dict ++ text = s) := hs0
  clear hsz hs0 d1' d2'
  generalize hd0 : dict.size = d at *
  have HD0 : Hid (dict.size = d) := hd0
  clear hd0
  go_loopw [6, 7, 8, 9, 10, 11, 12] (fun o x i _ _ _ _ wr => ∃ (a f : Nat) (X : ByteArray) (l : List Tk.T), x = .string X ∧ Hid (X = s.extract f a) ∧ i = .int .i64 (a : Nat) ∧ wr.ownsRow w.heap.size 73 3 o l.length (tcs l) ∧ f ≤ a ∧ a ≤ s.size ∧ l.length ≤ f ∧ Hid (l ++ Tk.P s a f = Tk.P s d d) ∧ Below w.heap.size w wr) (fun _ _ i _ _ _ _ _ => s.size - (intOf i).toNat)
  case atStart => exact ⟨d, d, ⟨#[]⟩, [], rfl, (ext_none s d).symm, rfl, World.ownsRow_nil _ _ _ _, Nat.le_refl _, hds, by simp, rfl, Below.refl _ _⟩
  case round =>
    obtain ⟨a, f, X, l, rfl, hX, rfl, hown, hfa, has, hlf, hP, G⟩ := hrel
    have HO : Hid (wr.ownsRow w.heap.size 73 3 u6 l.length (tcs l)) := hown
    clear hown
    have hXs : X.size = a - f := by rw [hX.out]; exact ext_len s f a has
    have hgs := G.size
    by_cases hend : a < s.size
    · have d3 : decide ((a : Int) < (s.size : Int)) = true := by simp; omega
      have d3' : decide (a < s.size) = true := by simp; omega
      go_wp2_with fail
      obtain ⟨wo, rfl⟩ : ∃ wo : World, wo = wr := ⟨_, rfl⟩
      obtain ⟨bb, hbb⟩ : ∃ bb, Tk.bst s.data.toList a = bb := ⟨_, rfl⟩
      have HB : Hid (Tk.bst s.data.toList a = bb) := hbb
      clear hbb
      have hl : s.data.toList.length = s.size := by simp
      have HM : Hid (Tk.most s.data.toList a = min 64 (s.size - a)) := by show _ = _; unfold Tk.most; rw [hl]
      clear hl
      go_loopw [9, 10, 11, 12] (fun x y i _ wi => ∃ best far q : Nat, x = .int .i64 (best : Nat) ∧ y = .int .i64 (far : Nat) ∧ i = .int .i64 (q : Nat) ∧ 1 ≤ q ∧ q ≤ a + 1 ∧ far ≤ a ∧ best ≤ 64 ∧ Hid ((List.range (a + 1 - q)).reverse.foldl (Tk.stp s.data.toList a (Tk.most s.data.toList a)) (far, best) = bb) ∧ Below wo.heap.size wo wi) (fun _ _ i _ _ => a + 1 - (intOf i).toNat)
      case atStart => exact ⟨0, 0, 1, rfl, rfl, rfl, by omega, by omega, by omega, by omega, HB.out, Below.refl _ _⟩
      case round =>
        obtain ⟨best, far, q, rfl, rfl, rfl, hq1, hq2, hfar, hbest, hfold, Gi⟩ := hrel
        by_cases hqa : q ≤ a
        · have d4 : decide ((q : Int) ≤ (a : Int)) = true := by simp; omega
          have d4' : decide (q ≤ a) = true := by simp; omega
          have hstep : (List.range (a + 1 - q)).reverse.foldl (Tk.stp s.data.toList a (Tk.most s.data.toList a)) (far, best) = (List.range (a + 1 - (q + 1))).reverse.foldl (Tk.stp s.data.toList a (Tk.most s.data.toList a)) (Tk.stp s.data.toList a (Tk.most s.data.toList a) (far, best) (a - q)) := by
            rw [show a + 1 - q = (a - q) + 1 by omega, fold_range, show a + 1 - (q + 1) = a - q by omega]
          have hcm := fun w => come_any s a q w (by omega) has hq1 hqa
          have hle := Tk.alk_le s.data.toList (Tk.most s.data.toList a) (a - q) a
          have hm64 : Tk.most s.data.toList a ≤ 64 := by rw [HM.out]; omega
          rw [← HM.out] at hcm
          obtain ⟨k, hk⟩ : ∃ k, Tk.alk s.data.toList (a - q) a (Tk.most s.data.toList a) = k := ⟨_, rfl⟩
          rw [hk] at hcm hle
          by_cases hbig : best < k
          · have HF : Hid ((List.range (a + 1 - (q + 1))).reverse.foldl (Tk.stp s.data.toList a (Tk.most s.data.toList a)) (q, k) = bb) := by
              show _ = _
              rw [← hfold.out, hstep]
              unfold Tk.stp
              rw [hk, if_pos (by exact hbig), show a - (a - q) = q by omega]
            have d5 : decide ((best : Int) < (k : Int)) = true := by simp; omega
            have d5' : decide (best < k) = true := by simp; omega
            have hk64 : k ≤ 64 := by omega
            clear hstep hfold hk hle hm64
            go_wp2_with (go_at_call 60; go_must (refine (hcm _).mono ?_; rintro e w1 ⟨rfl, hb1⟩))
            go_roundw
            case rel => exact ⟨k, q, q + 1, rfl, rfl, by go_num, by omega, by omega, by omega, hk64, HF, bch Gi hb1 (Nat.le_refl _)⟩
            case measure => simp [intOf]; omega
          · have HF : Hid ((List.range (a + 1 - (q + 1))).reverse.foldl (Tk.stp s.data.toList a (Tk.most s.data.toList a)) (far, best) = bb) := by
              show _ = _
              rw [← hfold.out, hstep]
              unfold Tk.stp
              rw [hk, if_neg (by exact hbig)]
            have d5 : decide ((best : Int) < (k : Int)) = false := by simp; omega
            have d5' : decide (best < k) = false := by simp; omega
            clear hstep hfold hk hle hm64
            go_wp2_with (go_at_call 60; go_must (refine (hcm _).mono ?_; rintro e w1 ⟨rfl, hb1⟩))
            go_roundw
            case rel => exact ⟨best, far, q + 1, rfl, rfl, by go_num, by omega, by omega, hfar, hbest, HF, bch Gi hb1 (Nat.le_refl _)⟩
            case measure => simp [intOf]; omega
        · have d4 : decide ((q : Int) ≤ (a : Int)) = false := by simp; omega
          have d4' : decide (q ≤ a) = false := by simp; omega
          have hbb : bb = (far, best) := by
            rw [← hfold.out, show a + 1 - q = 0 by omega]
            rfl
          subst hbb
          have HOi : Hid (wr.ownsRow w.heap.size 73 3 u6 l.length (tcs l)) := own_below HO.out Gi
          have GG := bch G Gi (Nat.le_refl _)
          have hgw := GG.size
          clear hfold
          by_cases h3 : best < 3
          · have HN : Hid (l ++ Tk.P s (a + 1) f = Tk.P s d d) := by
              show _ = _
              rw [← hP.out, Tk.P_lit hend (by rw [HB.out]; exact h3)]
            have HXN : Hid (X ++ s.extract a (a + 1) = s.extract f (a + 1)) := by
              show _ = _
              rw [hX.out]
              exact ext_more s f a hfa
            have d6 : decide ((best : Int) < 3) = true := by simp; omega
            have d6' : decide (best < 3) = true := by simp; omega
            have hsl := slice_at s (a : Int) ((a : Int) + 1) a (a + 1) rfl (by omega) (by omega) (by omega)
            have hY : (s.extract a (a + 1)).size = 1 := by rw [ext_len s a (a + 1) (by omega)]; omega
            have hXb : X.size ≤ 768 := by omega
            have hwr : IntKind.i64.wrap ((a : Int) + 1) = (a : Int) + 1 := IntWalk.i64_in _ ⟨by omega, by omega⟩
            generalize s.extract a (a + 1) = Y at *
            have HXs : Hid (X.size = a - f) := hXs
            clear hX hXs hP HM HB
            go_wp2_with fail
            go_roundw
            case rel => exact ⟨a + 1, f, X ++ Y, l, rfl, HXN, by go_num, HOi.out, by omega, by omega, hlf, HN, GG⟩
            case measure => simp [intOf]; omega
          · have hbo := Tk.bst_ok s.data.toList a
            rw [HB.out, HM.out] at hbo
            simp only at hbo
            have han : a + best ≤ s.size := by omega
            have HN : Hid ((l ++ Tk.lay s f a) ++ [⟨⟨#[]⟩, (far : Nat), (best : Nat)⟩] ++ Tk.P s (a + best) (a + best) = Tk.P s d d) := by
              show _ = _
              rw [← hP.out, Tk.P_copy hend (by rw [HB.out]; exact h3), HB.out]
              simp
            have d6 : decide ((best : Int) < 3) = false := by simp; omega
            have d6' : decide (best < 3) = false := by simp; omega
            have hwr : IntKind.i64.wrap ((a : Int) + (best : Int)) = (a : Int) + (best : Int) := IntWalk.i64_in _ ⟨by omega, by omega⟩
            clear hbo hP HM HB
            by_cases hf : f < a
            · have hE := empty_not (s := X) (by omega)
              have hlay : Tk.lay s f a = [⟨X, 0, 0⟩] := by
                unfold Tk.lay
                rw [if_pos hf, hX.out]
              rw [hlay] at HN
              have HXs : Hid (X.size = a - f) := hXs
              clear hX hXs hlay
              have tok : True := trivial
              go_wp2_with (first | (at_builtin; have _t := tok; go_must (refine wpList_append_own _ rfl _ _ 40 rfl w.heap.size 73 i0 (.agg #[.string ⟨#[]⟩, .int .i64 0, .int .i64 0]) 3 32 Try.underlying40 hi hz0 hz1 hz2 rfl (by decide) _ _ _ rfl (HOi.out.alloc _) ⟨wr.heap.size, 0, none⟩ 1 1 [.string X, .int .i64 0, .int .i64 0] rfl rfl (news3 _ _ _ _ _) (one3 _ _ _ rfl rfl rfl) (ml_le (by omega)) (by omega) (by simp; omega) ?_; intro v4 w4 hown4 hgrow4 _; clear _t tok; have hgs4 := hgrow4.size)) | (at_builtin; go_must (refine wpList_append_own _ rfl _ _ 40 rfl w.heap.size 73 i0 (.agg #[.string ⟨#[]⟩, .int .i64 0, .int .i64 0]) 3 32 Try.underlying40 hi hz0 hz1 hz2 rfl (by decide) _ _ _ rfl (hown4.alloc _) ⟨w4.heap.size, 0, none⟩ 1 1 [.string ⟨#[]⟩, .int .i64 (far : Nat), .int .i64 (best : Nat)] rfl rfl (news3 _ _ _ _ _) (one3 _ _ _ rfl rfl rfl) (ml_le (by omega)) (by omega) (by simp at hgs4 hgw ⊢; omega) ?_; intro v5 w5 hown5 hgrow5 _)))
              go_roundw
              case rel =>
                have t1 : tcs (l ++ [⟨X, 0, 0⟩] ++ [⟨⟨#[]⟩, (far : Nat), (best : Nat)⟩]) = tcs l ++ [.string X, .int .i64 0, .int .i64 0] ++ [.string ⟨#[]⟩, .int .i64 (far : Nat), .int .i64 (best : Nat)] := by rw [tcs_append, tcs_append]; rfl
                have B4 := (GG.alloc hgw _).grown hgrow4 (by simp; omega) (fun k hk => (HOi.out.lt k hk).1)
                refine ⟨a + best, a + best, ⟨#[]⟩, l ++ [⟨X, 0, 0⟩] ++ [⟨⟨#[]⟩, (far : Nat), (best : Nat)⟩], rfl, (ext_none s _).symm, by go_num, ?_, Nat.le_refl _, by omega, by simp; omega, HN, (B4.alloc B4.size _).grown hgrow5 (by have := B4.size; simp; omega) (fun k hk => (hown4.lt k hk).1)⟩
                rw [t1, List.length_append, List.length_append]
                exact hown5
              case measure => simp [intOf]; omega
            · have hE := empty_of (s := X) (by omega)
              have hlay : Tk.lay s f a = [] := by
                unfold Tk.lay
                rw [if_neg hf]
              rw [hlay, List.append_nil] at HN
              have HX0 : Hid (X.size = 0) := by show _ = _; omega
              have HXs : Hid (X.size = a - f) := hXs
              clear hX hXs hlay
              go_wp2_with (first | (at_builtin; go_must (refine wpList_append_own _ rfl _ _ 40 rfl w.heap.size 73 i0 (.agg #[.string ⟨#[]⟩, .int .i64 0, .int .i64 0]) 3 32 Try.underlying40 hi hz0 hz1 hz2 rfl (by decide) _ _ _ rfl (HOi.out.alloc _) ⟨wr.heap.size, 0, none⟩ 1 1 [.string ⟨#[]⟩, .int .i64 (far : Nat), .int .i64 (best : Nat)] rfl rfl (news3 _ _ _ _ _) (one3 _ _ _ rfl rfl rfl) (ml_le (by omega)) (by omega) (by simp at hgw ⊢; omega) ?_; intro v5 w5 hown5 hgrow5 _)))
              go_roundw
              case rel =>
                have t1 : tcs (l ++ [⟨⟨#[]⟩, (far : Nat), (best : Nat)⟩]) = tcs l ++ [.string ⟨#[]⟩, .int .i64 (far : Nat), .int .i64 (best : Nat)] := by rw [tcs_append]; rfl
                have hX0 : X = ⟨#[]⟩ := Nm.ba_ext (List.eq_nil_of_length_eq_zero (by simpa using HX0.out))
                refine ⟨a + best, a + best, X, l ++ [⟨⟨#[]⟩, (far : Nat), (best : Nat)⟩], rfl, by rw [hX0]; exact (ext_none s _).symm, by go_num, ?_, Nat.le_refl _, by omega, by simp; omega, HN, (GG.alloc hgw _).grown hgrow5 (by simp; omega) (fun k hk => (HOi.out.lt k hk).1)⟩
                rw [t1, List.length_append]
                exact hown5
              case measure => simp [intOf]; omega
    · have d3 : decide ((a : Int) < (s.size : Int)) = false := by simp; omega
      have d3' : decide (a < s.size) = false := by simp; omega
      have HE : Hid (l ++ Tk.lay s f a = Tk.P s d d) := by
        show _ = _
        rw [← hP.out, Tk.P_end (by omega)]
      have HOi := HO
      clear hP
      by_cases hf : f < a
      · have hE := empty_not (s := X) (by omega)
        have hlay : Tk.lay s f a = [⟨X, 0, 0⟩] := by
          unfold Tk.lay
          rw [if_pos hf, hX.out]
        rw [hlay] at HE
        have HXs : Hid (X.size = a - f) := hXs
        clear hX hXs hlay
        have tok : True := trivial
        go_wp2_with (first | (at_builtin; have _t := tok; go_must (refine wpList_append_own _ rfl _ _ 40 rfl w.heap.size 73 i0 (.agg #[.string ⟨#[]⟩, .int .i64 0, .int .i64 0]) 3 32 Try.underlying40 hi hz0 hz1 hz2 rfl (by decide) _ _ _ rfl (HOi.out.alloc _) ⟨wr.heap.size, 0, none⟩ 1 1 [.string X, .int .i64 0, .int .i64 0] rfl rfl (news3 _ _ _ _ _) (one3 _ _ _ rfl rfl rfl) (ml_le (by omega)) (by omega) (by simp; omega) ?_; intro v4 w4 hown4 hgrow4 _; clear _t tok; have hgs4 := hgrow4.size)))
        go_ret
        have t1 : tcs (l ++ [⟨X, 0, 0⟩]) = tcs l ++ [.string X, .int .i64 0, .int .i64 0] := by rw [tcs_append]; rfl
        rw [← t1] at hown4
        obtain ⟨ad, cap, hv, hsl⟩ := sl_of_row hown4
        refine ⟨(G.alloc hgs _).grown hgrow4 (by simp; omega) (fun k hk => (HO.out.lt k hk).1), ad, cap, ?_, ?_⟩
        · rw [HS0.out, HD0.out, ← HE.out, ← hv]
          rfl
        · rw [HS0.out, HD0.out, ← HE.out]
          exact hsl
      · have hE := empty_of (s := X) (by omega)
        have hlay : Tk.lay s f a = [] := by
          unfold Tk.lay
          rw [if_neg hf]
        rw [hlay, List.append_nil] at HE
        have HXs : Hid (X.size = a - f) := hXs
        clear hX hXs hlay
        go_wp2_with fail
        go_ret
        obtain ⟨ad, cap, hv, hsl⟩ := sl_of_row HO.out
        refine ⟨G, ad, cap, ?_, ?_⟩
        · rw [HS0.out, HD0.out, ← HE.out, ← hv]
          rfl
        · rw [HS0.out, HD0.out, ← HE.out]
          exact hsl
end Go.Proofs.Ytbjbjbpgmojcbaa
namespace Go.Proofs.Ytbjbjbpgmojcbaa
open Go.RowKit
set_option linter.unusedVariables false
namespace Bk
def bst (text s : ByteArray) : ByteArray := if s.size < text.size then (⟨#[1]⟩ : ByteArray) ++ s else (⟨#[0]⟩ : ByteArray) ++ text
theorem min_bks (text s : ByteArray) : mnK (bks text s) (bks text s).length = if s.size = 0 then bst text s else if ((⟨#[2]⟩ : ByteArray) ++ enc s).size < (bst text s).size then (⟨#[2]⟩ : ByteArray) ++ enc s else bst text s := by
  have e2 : ∀ r, mnK (((⟨#[0]⟩ : ByteArray) ++ text) :: ((⟨#[1]⟩ : ByteArray) ++ s) :: r) 2 = bst text s := by
    intro r
    rw [mnK, mnK_one]
    show (if ((⟨#[1]⟩ : ByteArray) ++ s).size < ((⟨#[0]⟩ : ByteArray) ++ text).size then (⟨#[1]⟩ : ByteArray) ++ s else (⟨#[0]⟩ : ByteArray) ++ text) = _
    rw [one_size, one_size, bst]
    by_cases h : s.size < text.size
    · rw [if_pos (by omega), if_pos h]
    · rw [if_neg (by omega), if_neg h]
  unfold bks
  by_cases h0 : s.size = 0
  · rw [if_pos h0, if_pos h0]
    exact e2 []
  · rw [if_neg h0, if_neg h0]
    show mnK _ 3 = _
    rw [mnK, e2]
    rfl
end Bk
theorem tokBytes_P (dict text : ByteArray) (hd : dict.size ≤ 256) (ht : text.size ≤ 512) (ad : Option Addr) (cap : Nat) (w : World) (h : SlAt w ad (Tk.P (dict ++ text) dict.size dict.size)) :
    Calls Try.prog 34 #[.slice ad (Tk.P (dict ++ text) dict.size dict.size).length cap] w fun e w' => e = .returned (.string (Bk.tk dict text)) ∧ Below w.heap.size w w' :=
  tokBytes_any ad cap _ w h (check_small (parse_plays dict text hd ht).1)
set_option maxRecDepth 4000 in
set_option maxHeartbeats 1000000 in
theorem packOf_110 (dict text s : ByteArray) (w : World) (hd : dict.size ≤ 256) (ht : text.size ≤ 512) (hS : Bk.tk dict text = s) (hs : s.size ≤ 1024) (hp : s.size < text.size) (hz : s.size = 0) :
    Calls Try.prog 49 #[.string dict, .string text] w fun e w' => e = .returned (.string ((⟨#[1]⟩ : ByteArray) ++ s)) ∧ Below w.heap.size w w' := by
  have c1 := fun w => parseOf_ok dict text w hd ht
  have c2 := fun ad cap w h => tokBytes_P dict text hd ht ad cap w h
  rw [hS] at c2
  have c3 := fun w => third_any s w hs
  have z2 := Bk.enc_size s hs
  have x0 := Bk.one_size 0 text
  have x1 := Bk.one_size 1 s
  have x2 := Bk.one_size 2 (Bk.enc s)
  generalize Tk.P (dict ++ text) dict.size dict.size = L at *
  generalize (⟨#[2]⟩ : ByteArray) ++ Bk.enc s = T at *
  generalize Bk.enc s = En at *
  have hT : T.size ≤ 20000 := by omega
  have hT' : (T.size : Int) ≤ 20000 := by omega
  have hs' : (s.size : Int) ≤ 1024 := by omega
  have ht' : (text.size : Int) ≤ 512 := by omega
  have hw1 : wrap64 ((s.size : Int) + 1) = (s.size : Int) + 1 := w64 (by omega) (by omega)
  have hp1 : decide ((s.size : Int) + 1 < (text.size : Int) + 1) = true := by simp; omega
  have hp3 : decide ((s.size : Int) < (text.size : Int)) = true := by simp; omega
  have hp2 : decide ((s.size : Int) + 1 < 1 + (text.size : Int)) = true := by simp; omega
  have hp4 : (s.size : Int) + 1 < 1 + (text.size : Int) := by omega
  have hs0 : s = ⟨#[]⟩ := by
    apply ByteArray.ext
    exact Array.eq_empty_of_size_eq_zero hz
  have hem : s.toList.isEmpty = true := by rw [hs0, ByteArray.toList_eq]; rfl
  clear hs0 hS hz c3
  clear hp hd ht hs x0 x1
  go_enter Try.func49, Try.ntmps49
  go_wp2_with fail
  refine (c1 _).mono ?_
  rintro e w1 ⟨G1, ad, cap, rfl, S1⟩
  go_wp2_with fail
  refine (c2 ad cap _ S1).mono ?_
  rintro e w2 ⟨rfl, G2⟩
  have B2 := bch G1 G2 (Nat.le_refl _)
  clear G1 G2 S1 c1 c2
  go_wp2_with fail
  go_ret
  exact ⟨rfl, B2⟩
set_option maxRecDepth 4000 in
set_option maxHeartbeats 1000000 in
theorem packOf_100 (dict text s : ByteArray) (w : World) (hd : dict.size ≤ 256) (ht : text.size ≤ 512) (hS : Bk.tk dict text = s) (hs : s.size ≤ 1024) (hp : ¬ s.size < text.size) (hz : s.size = 0) :
    Calls Try.prog 49 #[.string dict, .string text] w fun e w' => e = .returned (.string ((⟨#[0]⟩ : ByteArray) ++ text)) ∧ Below w.heap.size w w' := by
  have c1 := fun w => parseOf_ok dict text w hd ht
  have c2 := fun ad cap w h => tokBytes_P dict text hd ht ad cap w h
  rw [hS] at c2
  have c3 := fun w => third_any s w hs
  have z2 := Bk.enc_size s hs
  have x0 := Bk.one_size 0 text
  have x1 := Bk.one_size 1 s
  have x2 := Bk.one_size 2 (Bk.enc s)
  generalize Tk.P (dict ++ text) dict.size dict.size = L at *
  generalize (⟨#[2]⟩ : ByteArray) ++ Bk.enc s = T at *
  generalize Bk.enc s = En at *
  have hT : T.size ≤ 20000 := by omega
  have hT' : (T.size : Int) ≤ 20000 := by omega
  have hs' : (s.size : Int) ≤ 1024 := by omega
  have ht' : (text.size : Int) ≤ 512 := by omega
  have hw1 : wrap64 ((s.size : Int) + 1) = (s.size : Int) + 1 := w64 (by omega) (by omega)
  have hp1 : decide ((s.size : Int) + 1 < (text.size : Int) + 1) = false := by simp; omega
  have hp3 : decide ((s.size : Int) < (text.size : Int)) = false := by simp; omega
  have hp2 : decide ((s.size : Int) + 1 < 1 + (text.size : Int)) = false := by simp; omega
  have hp4 : 1 + (text.size : Int) ≤ (s.size : Int) + 1 := by omega
  have hs0 : s = ⟨#[]⟩ := by
    apply ByteArray.ext
    exact Array.eq_empty_of_size_eq_zero hz
  have hem : s.toList.isEmpty = true := by rw [hs0, ByteArray.toList_eq]; rfl
  clear hs0 hS hz c3
  clear hp hd ht hs x0 x1
  go_enter Try.func49, Try.ntmps49
  go_wp2_with fail
  refine (c1 _).mono ?_
  rintro e w1 ⟨G1, ad, cap, rfl, S1⟩
  go_wp2_with fail
  refine (c2 ad cap _ S1).mono ?_
  rintro e w2 ⟨rfl, G2⟩
  have B2 := bch G1 G2 (Nat.le_refl _)
  clear G1 G2 S1 c1 c2
  go_wp2_with fail
  go_ret
  exact ⟨rfl, B2⟩
set_option maxRecDepth 4000 in
set_option maxHeartbeats 1000000 in
theorem packOf_011 (dict text s : ByteArray) (w : World) (hd : dict.size ≤ 256) (ht : text.size ≤ 512) (hS : Bk.tk dict text = s) (hs : s.size ≤ 1024) (hp : s.size < text.size) (hz : s.size ≠ 0) (hr : (Bk.enc s).size + 1 < s.size + 1) :
    Calls Try.prog 49 #[.string dict, .string text] w fun e w' => e = .returned (.string ((⟨#[2]⟩ : ByteArray) ++ Bk.enc s)) ∧ Below w.heap.size w w' := by
  have c1 := fun w => parseOf_ok dict text w hd ht
  have c2 := fun ad cap w h => tokBytes_P dict text hd ht ad cap w h
  rw [hS] at c2
  have c3 := fun w => third_any s w hs
  have z2 := Bk.enc_size s hs
  have x0 := Bk.one_size 0 text
  have x1 := Bk.one_size 1 s
  have x2 := Bk.one_size 2 (Bk.enc s)
  generalize Tk.P (dict ++ text) dict.size dict.size = L at *
  generalize (⟨#[2]⟩ : ByteArray) ++ Bk.enc s = T at *
  generalize Bk.enc s = En at *
  have hT : T.size ≤ 20000 := by omega
  have hT' : (T.size : Int) ≤ 20000 := by omega
  have hs' : (s.size : Int) ≤ 1024 := by omega
  have ht' : (text.size : Int) ≤ 512 := by omega
  have hw1 : wrap64 ((s.size : Int) + 1) = (s.size : Int) + 1 := w64 (by omega) (by omega)
  have hp1 : decide ((s.size : Int) + 1 < (text.size : Int) + 1) = true := by simp; omega
  have hp3 : decide ((s.size : Int) < (text.size : Int)) = true := by simp; omega
  have hp2 : decide ((s.size : Int) + 1 < 1 + (text.size : Int)) = true := by simp; omega
  have hp4 : (s.size : Int) + 1 < 1 + (text.size : Int) := by omega
  have hem : s.toList.isEmpty = false := by
    rw [ByteArray.toList_eq]
    cases hq : s.data.toList with
    | nil => exact absurd (by rw [← Cd.size_list, hq]; rfl) hz
    | cons a b => rfl
  have hr1 : decide ((T.size : Int) < 1 + (s.size : Int)) = true := by rw [x2]; simp; omega
  have hr2 : (T.size : Int) < 1 + (s.size : Int) := by omega
  clear hS hr hz x2 z2
  clear hp hd ht hs x0 x1
  go_enter Try.func49, Try.ntmps49
  go_wp2_with fail
  refine (c1 _).mono ?_
  rintro e w1 ⟨G1, ad, cap, rfl, S1⟩
  go_wp2_with fail
  refine (c2 ad cap _ S1).mono ?_
  rintro e w2 ⟨rfl, G2⟩
  have B2 := bch G1 G2 (Nat.le_refl _)
  clear G1 G2 S1 c1 c2
  go_wp2_with fail
  refine (c3 _).mono ?_
  rintro e w3 ⟨rfl, G3⟩
  have B3 := bch B2 G3 (Nat.le_refl _)
  clear B2 G3 c3
  go_wp2_with fail
  go_ret
  exact ⟨rfl, B3⟩
set_option maxRecDepth 4000 in
set_option maxHeartbeats 1000000 in
theorem packOf_010 (dict text s : ByteArray) (w : World) (hd : dict.size ≤ 256) (ht : text.size ≤ 512) (hS : Bk.tk dict text = s) (hs : s.size ≤ 1024) (hp : s.size < text.size) (hz : s.size ≠ 0) (hr : ¬ (Bk.enc s).size + 1 < s.size + 1) :
    Calls Try.prog 49 #[.string dict, .string text] w fun e w' => e = .returned (.string ((⟨#[1]⟩ : ByteArray) ++ s)) ∧ Below w.heap.size w w' := by
  have c1 := fun w => parseOf_ok dict text w hd ht
  have c2 := fun ad cap w h => tokBytes_P dict text hd ht ad cap w h
  rw [hS] at c2
  have c3 := fun w => third_any s w hs
  have z2 := Bk.enc_size s hs
  have x0 := Bk.one_size 0 text
  have x1 := Bk.one_size 1 s
  have x2 := Bk.one_size 2 (Bk.enc s)
  generalize Tk.P (dict ++ text) dict.size dict.size = L at *
  generalize (⟨#[2]⟩ : ByteArray) ++ Bk.enc s = T at *
  generalize Bk.enc s = En at *
  have hT : T.size ≤ 20000 := by omega
  have hT' : (T.size : Int) ≤ 20000 := by omega
  have hs' : (s.size : Int) ≤ 1024 := by omega
  have ht' : (text.size : Int) ≤ 512 := by omega
  have hw1 : wrap64 ((s.size : Int) + 1) = (s.size : Int) + 1 := w64 (by omega) (by omega)
  have hp1 : decide ((s.size : Int) + 1 < (text.size : Int) + 1) = true := by simp; omega
  have hp3 : decide ((s.size : Int) < (text.size : Int)) = true := by simp; omega
  have hp2 : decide ((s.size : Int) + 1 < 1 + (text.size : Int)) = true := by simp; omega
  have hp4 : (s.size : Int) + 1 < 1 + (text.size : Int) := by omega
  have hem : s.toList.isEmpty = false := by
    rw [ByteArray.toList_eq]
    cases hq : s.data.toList with
    | nil => exact absurd (by rw [← Cd.size_list, hq]; rfl) hz
    | cons a b => rfl
  have hr1 : decide ((T.size : Int) < 1 + (s.size : Int)) = false := by rw [x2]; simp; omega
  have hr2 : 1 + (s.size : Int) ≤ (T.size : Int) := by omega
  clear hS hr hz x2 z2
  clear hp hd ht hs x0 x1
  go_enter Try.func49, Try.ntmps49
  go_wp2_with fail
  refine (c1 _).mono ?_
  rintro e w1 ⟨G1, ad, cap, rfl, S1⟩
  go_wp2_with fail
  refine (c2 ad cap _ S1).mono ?_
  rintro e w2 ⟨rfl, G2⟩
  have B2 := bch G1 G2 (Nat.le_refl _)
  clear G1 G2 S1 c1 c2
  go_wp2_with fail
  refine (c3 _).mono ?_
  rintro e w3 ⟨rfl, G3⟩
  have B3 := bch B2 G3 (Nat.le_refl _)
  clear B2 G3 c3
  go_wp2_with fail
  go_ret
  exact ⟨rfl, B3⟩
set_option maxRecDepth 4000 in
set_option maxHeartbeats 1000000 in
theorem packOf_001 (dict text s : ByteArray) (w : World) (hd : dict.size ≤ 256) (ht : text.size ≤ 512) (hS : Bk.tk dict text = s) (hs : s.size ≤ 1024) (hp : ¬ s.size < text.size) (hz : s.size ≠ 0) (hr : (Bk.enc s).size + 1 < text.size + 1) :
    Calls Try.prog 49 #[.string dict, .string text] w fun e w' => e = .returned (.string ((⟨#[2]⟩ : ByteArray) ++ Bk.enc s)) ∧ Below w.heap.size w w' := by
  have c1 := fun w => parseOf_ok dict text w hd ht
  have c2 := fun ad cap w h => tokBytes_P dict text hd ht ad cap w h
  rw [hS] at c2
  have c3 := fun w => third_any s w hs
  have z2 := Bk.enc_size s hs
  have x0 := Bk.one_size 0 text
  have x1 := Bk.one_size 1 s
  have x2 := Bk.one_size 2 (Bk.enc s)
  generalize Tk.P (dict ++ text) dict.size dict.size = L at *
  generalize (⟨#[2]⟩ : ByteArray) ++ Bk.enc s = T at *
  generalize Bk.enc s = En at *
  have hT : T.size ≤ 20000 := by omega
  have hT' : (T.size : Int) ≤ 20000 := by omega
  have hs' : (s.size : Int) ≤ 1024 := by omega
  have ht' : (text.size : Int) ≤ 512 := by omega
  have hw1 : wrap64 ((s.size : Int) + 1) = (s.size : Int) + 1 := w64 (by omega) (by omega)
  have hp1 : decide ((s.size : Int) + 1 < (text.size : Int) + 1) = false := by simp; omega
  have hp3 : decide ((s.size : Int) < (text.size : Int)) = false := by simp; omega
  have hp2 : decide ((s.size : Int) + 1 < 1 + (text.size : Int)) = false := by simp; omega
  have hp4 : 1 + (text.size : Int) ≤ (s.size : Int) + 1 := by omega
  have hem : s.toList.isEmpty = false := by
    rw [ByteArray.toList_eq]
    cases hq : s.data.toList with
    | nil => exact absurd (by rw [← Cd.size_list, hq]; rfl) hz
    | cons a b => rfl
  have hr1 : decide ((T.size : Int) < 1 + (text.size : Int)) = true := by rw [x2]; simp; omega
  have hr2 : (T.size : Int) < 1 + (text.size : Int) := by omega
  clear hS hr hz x2 z2
  clear hp hd ht hs x0 x1
  go_enter Try.func49, Try.ntmps49
  go_wp2_with fail
  refine (c1 _).mono ?_
  rintro e w1 ⟨G1, ad, cap, rfl, S1⟩
  go_wp2_with fail
  refine (c2 ad cap _ S1).mono ?_
  rintro e w2 ⟨rfl, G2⟩
  have B2 := bch G1 G2 (Nat.le_refl _)
  clear G1 G2 S1 c1 c2
  go_wp2_with fail
  refine (c3 _).mono ?_
  rintro e w3 ⟨rfl, G3⟩
  have B3 := bch B2 G3 (Nat.le_refl _)
  clear B2 G3 c3
  go_wp2_with fail
  go_ret
  exact ⟨rfl, B3⟩
set_option maxRecDepth 4000 in
set_option maxHeartbeats 1000000 in
theorem packOf_000 (dict text s : ByteArray) (w : World) (hd : dict.size ≤ 256) (ht : text.size ≤ 512) (hS : Bk.tk dict text = s) (hs : s.size ≤ 1024) (hp : ¬ s.size < text.size) (hz : s.size ≠ 0) (hr : ¬ (Bk.enc s).size + 1 < text.size + 1) :
    Calls Try.prog 49 #[.string dict, .string text] w fun e w' => e = .returned (.string ((⟨#[0]⟩ : ByteArray) ++ text)) ∧ Below w.heap.size w w' := by
  have c1 := fun w => parseOf_ok dict text w hd ht
  have c2 := fun ad cap w h => tokBytes_P dict text hd ht ad cap w h
  rw [hS] at c2
  have c3 := fun w => third_any s w hs
  have z2 := Bk.enc_size s hs
  have x0 := Bk.one_size 0 text
  have x1 := Bk.one_size 1 s
  have x2 := Bk.one_size 2 (Bk.enc s)
  generalize Tk.P (dict ++ text) dict.size dict.size = L at *
  generalize (⟨#[2]⟩ : ByteArray) ++ Bk.enc s = T at *
  generalize Bk.enc s = En at *
  have hT : T.size ≤ 20000 := by omega
  have hT' : (T.size : Int) ≤ 20000 := by omega
  have hs' : (s.size : Int) ≤ 1024 := by omega
  have ht' : (text.size : Int) ≤ 512 := by omega
  have hw1 : wrap64 ((s.size : Int) + 1) = (s.size : Int) + 1 := w64 (by omega) (by omega)
  have hp1 : decide ((s.size : Int) + 1 < (text.size : Int) + 1) = false := by simp; omega
  have hp3 : decide ((s.size : Int) < (text.size : Int)) = false := by simp; omega
  have hp2 : decide ((s.size : Int) + 1 < 1 + (text.size : Int)) = false := by simp; omega
  have hp4 : 1 + (text.size : Int) ≤ (s.size : Int) + 1 := by omega
  have hem : s.toList.isEmpty = false := by
    rw [ByteArray.toList_eq]
    cases hq : s.data.toList with
    | nil => exact absurd (by rw [← Cd.size_list, hq]; rfl) hz
    | cons a b => rfl
  have hr1 : decide ((T.size : Int) < 1 + (text.size : Int)) = false := by rw [x2]; simp; omega
  have hr2 : 1 + (text.size : Int) ≤ (T.size : Int) := by omega
  clear hS hr hz x2 z2
  clear hp hd ht hs x0 x1
  go_enter Try.func49, Try.ntmps49
  go_wp2_with fail
  refine (c1 _).mono ?_
  rintro e w1 ⟨G1, ad, cap, rfl, S1⟩
  go_wp2_with fail
  refine (c2 ad cap _ S1).mono ?_
  rintro e w2 ⟨rfl, G2⟩
  have B2 := bch G1 G2 (Nat.le_refl _)
  clear G1 G2 S1 c1 c2
  go_wp2_with fail
  refine (c3 _).mono ?_
  rintro e w3 ⟨rfl, G3⟩
  have B3 := bch B2 G3 (Nat.le_refl _)
  clear B2 G3 c3
  go_wp2_with fail
  go_ret
  exact ⟨rfl, B3⟩
theorem packOf_ok (dict text : ByteArray) (w : World) (hd : dict.size ≤ 256) (ht : text.size ≤ 512) :
    Calls Try.prog 49 #[.string dict, .string text] w fun e w' => e = .returned (.string (Bk.pak dict text).1) ∧ Below w.heap.size w w' := by
  have e : (Bk.pak dict text).1 = Bk.mnK (Bk.bks text (Bk.tk dict text)) (Bk.bks text (Bk.tk dict text)).length := by rw [Bk.pak, if_neg (by omega)]
  rw [e, Bk.min_bks]
  have hs := Bk.tk_size hd ht
  have h1 := Bk.one_size 1 (Bk.tk dict text)
  have h0 := Bk.one_size 0 text
  have h2 := Bk.one_size 2 (Bk.enc (Bk.tk dict text))
  unfold Bk.bst
  by_cases hp : (Bk.tk dict text).size < text.size
  · rw [if_pos hp]
    by_cases hz : (Bk.tk dict text).size = 0
    · rw [if_pos hz]
      exact packOf_110 dict text _ w hd ht rfl hs hp hz
    · rw [if_neg hz]
      by_cases hr : (Bk.enc (Bk.tk dict text)).size + 1 < (Bk.tk dict text).size + 1
      · rw [if_pos (by rw [h1, h2]; exact hr)]
        exact packOf_011 dict text _ w hd ht rfl hs hp hz hr
      · rw [if_neg (by rw [h1, h2]; exact hr)]
        exact packOf_010 dict text _ w hd ht rfl hs hp hz hr
  · rw [if_neg hp]
    by_cases hz : (Bk.tk dict text).size = 0
    · rw [if_pos hz]
      exact packOf_100 dict text _ w hd ht rfl hs hp hz
    · rw [if_neg hz]
      by_cases hr : (Bk.enc (Bk.tk dict text)).size + 1 < text.size + 1
      · rw [if_pos (by rw [h0, h2]; exact hr)]
        exact packOf_001 dict text _ w hd ht rfl hs hp hz hr
      · rw [if_neg (by rw [h0, h2]; exact hr)]
        exact packOf_000 dict text _ w hd ht rfl hs hp hz hr
end Go.Proofs.Ytbjbjbpgmojcbaa
namespace Go.Proofs.Ytbjbjbpgmojcbaa
open Go.RowKit
set_option linter.unusedVariables false
set_option maxRecDepth 4000 in
set_option maxHeartbeats 1000000 in
theorem played_any (dict : ByteArray) (ad : Option Addr) (cap : Nat) (l : List Tk.T) (w : World) (hl : SlAt w ad l) (hs : Sane l) :
    Calls Try.prog 82 #[.string dict, .slice ad l.length cap] w fun e w' => e = .returned (.string (playOf dict l)) ∧ Below w.heap.size w w' := by
  have c1 := fun w hl => ref_any dict ad cap l w hl hs
  generalize playOf dict l = P at *
  generalize checkOf dict l = C at *
  go_enter Try.func82, Try.ntmps82
  go_wp2_with fail
  refine (c1 _ hl).mono ?_
  rintro e w1 ⟨rfl, G⟩
  go_wp2_with fail
  go_ret
  exact ⟨rfl, G⟩
theorem from_some {dict s : ByteArray} {m : List Tk.T} (hd : dict.size ≤ 256) (hs : s.size ≤ 140737488355328) (hm : readOf dict s = some m) (w : World) : Calls Try.prog 36 #[.string dict, .string s] w fun e w' => Below w.heap.size w w' ∧ ∃ ad cap, e = .returned (.tuple #[.slice ad m.length cap, .bool true]) ∧ SlAt w' ad m := (toksFrom_any dict s w hs).mono fun e w' h => by
  rw [from_read hd] at h
  rcases h with ⟨h1, ⟨h2, _⟩ | ⟨k, a, c, h2, h3, h4⟩⟩
  · rw [hm] at h2; cases h2
  · rw [hm] at h2; cases h2; exact ⟨h1, a, c, h3, h4⟩
theorem from_nil {dict s : ByteArray} (hd : dict.size ≤ 256) (hs : s.size ≤ 140737488355328) (hm : readOf dict s = none) (w : World) : Calls Try.prog 36 #[.string dict, .string s] w fun e w' => Below w.heap.size w w' ∧ e = .returned (.tuple #[.slice none 0 0, .bool false]) := (toksFrom_any dict s w hs).mono fun e w' h => by
  rw [from_read hd] at h
  rcases h with ⟨h1, ⟨_, h2⟩ | ⟨k, a, c, h2, h3, h4⟩⟩
  · exact ⟨h1, h2⟩
  · rw [hm] at h2; cases h2
theorem played_of {dict s : ByteArray} {m : List Tk.T} (hd : dict.size ≤ 256) (hm : readOf dict s = some m) (ad : Option Addr) (cap : Nat) (w : World) (h : SlAt w ad m) : Calls Try.prog 82 #[.string dict, .slice ad m.length cap] w fun e w' => e = .returned (.string (playOf dict m)) ∧ Below w.heap.size w w' :=
  played_any dict ad cap m w h (small_sane (check_small (readOf_some hd hm).2))
theorem not_empty {b : ByteArray} (h0 : b.size ≠ 0) : b.toList.isEmpty = false := by
  rw [ByteArray.toList_eq, Bool.eq_false_iff]
  intro e
  rw [List.isEmpty_iff] at e
  apply h0
  have := congrArg List.length e
  rw [Cd.size_list] at this
  simpa using this
theorem at_first {b : ByteArray} (h : 0 < b.size) : Cd.at8 b 0 = b[0].toNat := by unfold Cd.at8; rw [Nm.at_list b 0 h]; rfl
theorem at_ext (s : ByteArray) (j : Nat) (hj : j < 8) : Cd.at8 (s.extract 0 8) j = Cd.at8 s j := by
  unfold Cd.at8
  congr 2
  simp [ByteArray.data_extract, Array.toList_extract]
  rw [List.getElem?_take_of_lt hj, Array.getElem?_toList]
theorem pt_ext (s : ByteArray) (i : Nat) : Bk.ptK s 8 i = Bk.pt (s.extract 0 8) i := by
  unfold Bk.pt Bk.ptK
  by_cases h : i < 2 * 8
  · rw [if_pos h, if_pos h, at_ext s (i / 2) (by omega)]
  · rw [if_neg h, if_neg h]
set_option maxRecDepth 4000 in
set_option maxHeartbeats 1000000 in
theorem unpackOf_empty (dict : ByteArray) (w : World) :
    Calls Try.prog 52 #[.string dict, .string ⟨#[]⟩] w fun e w' => e = .returned (.tuple #[.string ⟨#[]⟩, .bool false]) ∧ Below w.heap.size w w' := by
  go_enter Try.func52, Try.ntmps52
  go_wp2_with fail
  go_ret2
  exact ⟨rfl, Below.refl _ _⟩
set_option maxRecDepth 4000 in
set_option maxHeartbeats 1000000 in
theorem unpackOf_0 (dict b S : ByteArray) (w : World) (hd : dict.size ≤ 256) (hb : b.size ≤ 140737488355328) (h0 : 0 < b.size) (hS : b.extract 1 b.size = S) (hx : (b[0].toNat : Int) = 0) :
    Calls Try.prog 52 #[.string dict, .string b] w fun e w' => e = .returned (.tuple #[.string S, .bool (decide ((S.size : Int) ≤ 512))]) ∧ Below w.heap.size w w' := by
  have hne := not_empty (b := b) (by omega)
  have hb1 : (1 : Int) ≤ (b.size : Int) := by omega
  have hb1n : 1 ≤ b.size := by omega
  have hb0 : (0 : Int) < (b.size : Int) := by omega
  have hbi : (b.size : Int) ≤ 140737488355328 := by omega
  have hs1 := ext_size b 1 b.size
  rw [hS] at hs1
  have hs2 : S.size ≤ 140737488355328 := by omega
  clear hs1
  go_enter Try.func52, Try.ntmps52
  go_wp2_with fail
  go_region
  go_wp2_with fail
  go_ret2
  exact ⟨rfl, (Below.refl _ _).drew⟩
set_option maxRecDepth 4000 in
set_option maxHeartbeats 1000000 in
theorem unpackOf_3 (dict b S : ByteArray) (w : World) (hd : dict.size ≤ 256) (hb : b.size ≤ 140737488355328) (h0 : 0 < b.size) (hS : b.extract 1 b.size = S) (hx : 2 < (b[0].toNat : Int)) :
    Calls Try.prog 52 #[.string dict, .string b] w fun e w' => e = .returned (.tuple #[.string ⟨#[]⟩, .bool false]) ∧ Below w.heap.size w w' := by
  have hne := not_empty (b := b) (by omega)
  have hb1 : (1 : Int) ≤ (b.size : Int) := by omega
  have hb1n : 1 ≤ b.size := by omega
  have hb0 : (0 : Int) < (b.size : Int) := by omega
  have hbi : (b.size : Int) ≤ 140737488355328 := by omega
  have hs1 := ext_size b 1 b.size
  rw [hS] at hs1
  have hs2 : S.size ≤ 140737488355328 := by omega
  clear hs1
  obtain ⟨x, hxe⟩ : ∃ x : Int, (b[0].toNat : Int) = x := ⟨_, rfl⟩
  rw [hxe] at hx
  have q0 : (x == 0) = false := by simp; omega
  have q1 : (x == 2) = false := by simp; omega
  have q2 : ¬ x = 0 := by omega
  have q3 : ¬ x = 2 := by omega
  have q4 : decide (2 < x) = true := by simp; omega
  go_enter Try.func52, Try.ntmps52
  go_wp2_with fail
  go_region
  go_wp2_with fail
  go_ret2
  exact ⟨rfl, (Below.refl _ _).drew⟩
set_option maxRecDepth 4000 in
set_option maxHeartbeats 1000000 in
theorem unpackOf_1n (dict b S : ByteArray) (w : World) (hd : dict.size ≤ 256) (hb : b.size ≤ 140737488355328) (h0 : 0 < b.size) (hS : b.extract 1 b.size = S) (hx : (b[0].toNat : Int) = 1) (hm : readOf dict S = none) :
    Calls Try.prog 52 #[.string dict, .string b] w fun e w' => e = .returned (.tuple #[.string ⟨#[]⟩, .bool false]) ∧ Below w.heap.size w w' := by
  have hne := not_empty (b := b) (by omega)
  have hb1 : (1 : Int) ≤ (b.size : Int) := by omega
  have hb1n : 1 ≤ b.size := by omega
  have hb0 : (0 : Int) < (b.size : Int) := by omega
  have hbi : (b.size : Int) ≤ 140737488355328 := by omega
  have hs1 := ext_size b 1 b.size
  rw [hS] at hs1
  have hs2 : S.size ≤ 140737488355328 := by omega
  clear hs1
  have c1 := fun w => from_nil hd (by omega) hm w
  clear hm
  go_enter Try.func52, Try.ntmps52
  go_wp2_with fail
  go_region
  go_wp2_with fail
  refine (c1 _).mono ?_
  rintro e w1 ⟨G1, rfl⟩
  have B1 : Below w.heap.size w w1 := (Below.refl _ _).drew.trans G1
  go_wp2_with fail
  go_ret2
  exact ⟨rfl, B1⟩
set_option maxRecDepth 4000 in
set_option maxHeartbeats 1000000 in
theorem unpackOf_1s (dict b S : ByteArray) (w : World) (hd : dict.size ≤ 256) (hb : b.size ≤ 140737488355328) (h0 : 0 < b.size) (hS : b.extract 1 b.size = S) (hx : (b[0].toNat : Int) = 1) (m : List Tk.T) (hm : readOf dict S = some m) :
    Calls Try.prog 52 #[.string dict, .string b] w fun e w' => e = .returned (.tuple #[.string (playOf dict m), .bool true]) ∧ Below w.heap.size w w' := by
  have hne := not_empty (b := b) (by omega)
  have hb1 : (1 : Int) ≤ (b.size : Int) := by omega
  have hb1n : 1 ≤ b.size := by omega
  have hb0 : (0 : Int) < (b.size : Int) := by omega
  have hbi : (b.size : Int) ≤ 140737488355328 := by omega
  have hs1 := ext_size b 1 b.size
  rw [hS] at hs1
  have hs2 : S.size ≤ 140737488355328 := by omega
  clear hs1
  have c1 := fun w => from_some hd (by omega) hm w
  have c2 := fun ad cap w h => played_of hd hm ad cap w h
  clear hm
  generalize playOf dict m = P at *
  go_enter Try.func52, Try.ntmps52
  go_wp2_with fail
  go_region
  go_wp2_with fail
  refine (c1 _).mono ?_
  rintro e w1 ⟨G1, ad, cap, rfl, S1⟩
  have B1 : Below w.heap.size w w1 := (Below.refl _ _).drew.trans G1
  go_wp2_with fail
  refine (c2 ad cap _ S1).mono ?_
  rintro e w2 ⟨rfl, G2⟩
  have B2 := bch B1 G2 (Nat.le_refl _)
  go_wp2_with fail
  go_ret2
  exact ⟨rfl, B2⟩
set_option maxRecDepth 4000 in
set_option maxHeartbeats 1000000 in
theorem unpackOf_2s (dict b S : ByteArray) (w : World) (hd : dict.size ≤ 256) (hb : b.size ≤ 140737488355328) (h0 : 0 < b.size) (hS : b.extract 1 b.size = S) (hx : (b[0].toNat : Int) = 2) (h8 : S.size < 8) :
    Calls Try.prog 52 #[.string dict, .string b] w fun e w' => e = .returned (.tuple #[.string ⟨#[]⟩, .bool false]) ∧ Below w.heap.size w w' := by
  have hne := not_empty (b := b) (by omega)
  have hb1 : (1 : Int) ≤ (b.size : Int) := by omega
  have hb1n : 1 ≤ b.size := by omega
  have hb0 : (0 : Int) < (b.size : Int) := by omega
  have hbi : (b.size : Int) ≤ 140737488355328 := by omega
  have hs1 := ext_size b 1 b.size
  rw [hS] at hs1
  have hs2 : S.size ≤ 140737488355328 := by omega
  clear hs1
  have h8' : (S.size : Int) < 8 := by omega
  have h8d : decide ((S.size : Int) < 8) = true := by simp; omega
  go_enter Try.func52, Try.ntmps52
  go_wp2_with fail
  go_region
  go_wp2_with fail
  go_ret2
  exact ⟨rfl, (Below.refl _ _).drew⟩
end Go.Proofs.Ytbjbjbpgmojcbaa
namespace Go.Proofs.Ytbjbjbpgmojcbaa
open Go.RowKit
set_option linter.unusedVariables false
set_option maxRecDepth 4000 in
set_option maxHeartbeats 1000000 in
theorem unpackOf_2n (dict b S : ByteArray) (w : World) (hd : dict.size ≤ 256) (hb : b.size ≤ 140737488355328) (h0 : 0 < b.size) (hS : b.extract 1 b.size = S) (hx : (b[0].toNat : Int) = 2) (Z : ByteArray) (hZ : S.extract 8 S.size = Z) (h8 : ¬ S.size < 8) (hn : Nm.from_ Z.data.toList = none) :
    Calls Try.prog 52 #[.string dict, .string b] w fun e w' => e = .returned (.tuple #[.string ⟨#[]⟩, .bool false]) ∧ Below w.heap.size w w' := by
  have hne := not_empty (b := b) (by omega)
  have hb1 : (1 : Int) ≤ (b.size : Int) := by omega
  have hb1n : 1 ≤ b.size := by omega
  have hb0 : (0 : Int) < (b.size : Int) := by omega
  have hbi : (b.size : Int) ≤ 140737488355328 := by omega
  have hs1 := ext_size b 1 b.size
  rw [hS] at hs1
  have hs2 : S.size ≤ 140737488355328 := by omega
  have hz1 := ext_size S 8 S.size
  rw [hZ] at hz1
  have hz2 : Z.size ≤ 140737488355328 := by omega
  clear hs1 hz1
  have h8' : (8 : Int) ≤ (S.size : Int) := by omega
  have h8n : 8 ≤ S.size := by omega
  have h8d : decide ((S.size : Int) < 8) = false := by simp; omega
  have h8s : (S.size : Int) ≤ 140737488355328 := by omega
  have c1 := fun w => numFrom_no Z w (by omega) hn
  have c2 := fun w => readCode_any (Bk.pt (S.extract 0 8)) ⟨#[]⟩ 0 w
  generalize (Cd.rd (Bk.pt (S.extract 0 8)) ⟨#[]⟩ 0).1 = X1 at *
  generalize (Cd.rd (Bk.pt (S.extract 0 8)) ⟨#[]⟩ 0).2 = X2 at *
  clear hn
  have HX : Hid (∀ i, Bk.ptK S 8 i = Bk.pt (S.extract 0 8) i) := pt_ext S
  generalize Bk.pt (S.extract 0 8) = f at *
  have hif := arr_infoc f
  have R3 := RowAt.new w (fun _ => 0)
  have HB : Below w.heap.size w (w.alloc (.cells (arr fun _ => 0) 54)) := (Below.refl _ _).alloc (Nat.le_refl _) _
  rw [← arr_zero] at R3 HB
  go_enter Try.func52, Try.ntmps52
  go_wp2_with fail
  go_region
  go_wp2_with fail
  rw [arr_zero] at R3 HB
  rw [arr_zero]
  generalize w.alloc (.cells (arr fun _ => 0) 54) = w0 at *
  obtain ⟨g3, hg3⟩ : ∃ g3, w.heap.size = g3 := ⟨_, rfl⟩
  have hq : Hid (w.heap.size ≤ g3) := Nat.le_of_eq hg3
  have hg3' : w.heap.size = g3 := hg3
  have R3' : RowAt w0 g3 (Bk.ptK S 0) := by rw [← hg3]; exact R3.congr (fun i _ => by simp [Bk.ptK])
  clear R3
  rw [hg3']
  clear hg3
  go_loopw [9] (fun i wr => ∃ k : Nat, k ≤ 8 ∧ i = .int .i64 k ∧ RowAt wr g3 (Bk.ptK S k) ∧ Below w.heap.size w wr) (fun i _ => 8 - (intOf i).toNat)
  case atStart => exact ⟨0, by omega, rfl, R3', HB.drew⟩
  case round =>
    clear R3' HB
    obtain ⟨k, hk, rfl, R3, HB⟩ := hrel
    by_cases hlt : k < 8
    · have hk1 : decide ((k : Int) < 8) = true := by simp; omega
      have hk2 : decide (k < 8) = true := by simp; omega
      have hks : k < S.size := by omega
      have hk3 : (k : Int) < (S.size : Int) := by omega
      obtain ⟨x, hxx⟩ : ∃ x : Int, (S[k].toNat : Int) = x := ⟨_, rfl⟩
      have hA : Cd.at8 S k = S[k].toNat := by unfold Cd.at8; rw [Nm.at_list S k hks]; rfl
      have hA2 := Cd.at8_lt S k
      have hx0 : 0 ≤ x := by omega
      have hx1 : x ≤ 255 := by omega
      obtain ⟨H, hH⟩ : ∃ H, Cd.at8 S k / 16 = H := ⟨_, rfl⟩
      obtain ⟨L, hL⟩ : ∃ L, Cd.at8 S k % 16 = L := ⟨_, rfl⟩
      have e1 : x / 16 = (H : Int) := by omega
      have e2 : x % 16 = (L : Int) := by omega
      have e3 : x.tdiv 16 = (H : Int) := by rw [Int.tdiv_eq_ediv_of_nonneg hx0]; exact e1
      have e4 : x.tmod 16 = (L : Int) := by rw [Int.tmod_eq_emod_of_nonneg hx0]; exact e2
      have hH2 : H < 16 := by omega
      have hL2 : L < 16 := by omega
      have u1 : IntKind.u8.wrap (H : Int) = (H : Int) := IntWalk.u8_in _ ⟨by omega, by omega⟩
      have u2 : IntKind.i64.wrap (H : Int) = (H : Int) := IntWalk.i64_in _ ⟨by omega, by omega⟩
      have u3 : IntKind.u8.wrap (L : Int) = (L : Int) := IntWalk.u8_in _ ⟨by omega, by omega⟩
      have u4 : IntKind.i64.wrap (L : Int) = (L : Int) := IntWalk.i64_in _ ⟨by omega, by omega⟩
      obtain ⟨K2, hK2e⟩ : ∃ K2, 2 * k = K2 := ⟨_, rfl⟩
      obtain ⟨K3, hK3e⟩ : ∃ K3, 2 * k + 1 = K3 := ⟨_, rfl⟩
      have hK2 : K2 < 16 := by omega
      have hK3 : K3 < 16 := by omega
      have m2 : 2 * (k : Int) = (K2 : Int) := by omega
      have m3 : (K2 : Int) + 1 = (K3 : Int) := by omega
      have hK2i : (K2 : Int) < 16 := by omega
      have hK3i : (K3 : Int) < 16 := by omega
      have w4 : IntKind.i64.wrap (K2 : Int) = (K2 : Int) := IntWalk.i64_in _ ⟨by omega, by omega⟩
      have w5 : IntKind.i64.wrap (K3 : Int) = (K3 : Int) := IntWalk.i64_in _ ⟨by omega, by omega⟩
      have c1 := R3.cell K2 hK2
      have f1 := R3.frozen K2
      have c2 := R3.cell K3 hK3
      have f2 := R3.frozen K3
      have S3 := R3.set K2 (H : Int)
      have SB := HB.setCell (p := ⟨g3, K2, none⟩) (by have := hq.out; show _ ≤ g3; omega) (.int .i64 (H : Int))
      have T3 := (S3.set K3 (L : Int)).congr (f' := Bk.ptK S (k + 1)) (fun i _ => by rw [← hK2e, ← hK3e, ← hH, ← hL]; exact Bk.ptK_next S k i)
      have TB := SB.setCell (p := ⟨g3, K3, none⟩) (by have := hq.out; show _ ≤ g3; omega) (.int .i64 (L : Int))
      clear hA hA2 hH hL e1 e2 hK2e hK3e R3 HB S3 SB
      go_wp2_with fail
      go_region
      all_goals go_wp2_with fail
      all_goals go_roundw
      case rel => exact ⟨k + 1, by omega, by go_num, T3, TB.drew⟩
      case measure => simp [intOf]; omega
    · obtain rfl : k = 8 := by omega
      have hk1 : decide ((8 : Int) < 8) = false := by decide
      have R4 := R3.congr (f' := f) (fun i _ => HX.out i)
      clear R3 HX hx
      go_wp2_with fail
      refine (c1 _).mono ?_
      rintro e w1 ⟨rfl, G1⟩
      have R5 := R4.below G1
      have B5 := bch HB G1 (Nat.le_refl _)
      clear R4 HB G1 c1
      go_wp2_with (refine wpList_load_row rfl 54 _ rfl g3 rfl 54 (arr f) (0, 0) _ R5.2 Try.underlying54 rfl hif ?_)
      refine (c2 _).mono ?_
      rintro e w2 ⟨rfl, G2⟩
      have B6 := bch B5 G2 (Nat.le_refl _)
      go_wp2_with fail
      go_ret2
      exact ⟨rfl, B6⟩
set_option maxRecDepth 4000 in
set_option maxHeartbeats 1000000 in
theorem unpackOf_2e (dict b S : ByteArray) (w : World) (hd : dict.size ≤ 256) (hb : b.size ≤ 140737488355328) (h0 : 0 < b.size) (hS : b.extract 1 b.size = S) (hx : (b[0].toNat : Int) = 2) (Z : ByteArray) (hZ : S.extract 8 S.size = Z) (h8 : ¬ S.size < 8) (n k : Nat) (Y : ByteArray) (hn : Nm.from_ Z.data.toList = some (n, k)) (hY : Z.extract k Z.size = Y) (hE : (Cd.rd (Bk.pt (S.extract 0 8)) Y (n : Nat)).2 ≠ 0) :
    Calls Try.prog 52 #[.string dict, .string b] w fun e w' => e = .returned (.tuple #[.string ⟨#[]⟩, .bool false]) ∧ Below w.heap.size w w' := by
  have hne := not_empty (b := b) (by omega)
  have hb1 : (1 : Int) ≤ (b.size : Int) := by omega
  have hb1n : 1 ≤ b.size := by omega
  have hb0 : (0 : Int) < (b.size : Int) := by omega
  have hbi : (b.size : Int) ≤ 140737488355328 := by omega
  have hs1 := ext_size b 1 b.size
  rw [hS] at hs1
  have hs2 : S.size ≤ 140737488355328 := by omega
  have hz1 := ext_size S 8 S.size
  rw [hZ] at hz1
  have hz2 : Z.size ≤ 140737488355328 := by omega
  clear hs1 hz1
  have h8' : (8 : Int) ≤ (S.size : Int) := by omega
  have h8n : 8 ≤ S.size := by omega
  have h8d : decide ((S.size : Int) < 8) = false := by simp; omega
  have h8s : (S.size : Int) ≤ 140737488355328 := by omega
  have c1 := fun w => numFrom_yes Z w n k (by omega) hn
  rw [hY] at c1
  have c2 := fun w => readCode_any (Bk.pt (S.extract 0 8)) Y (n : Nat) w
  generalize (Cd.rd (Bk.pt (S.extract 0 8)) Y (n : Nat)).1 = X1 at *
  generalize (Cd.rd (Bk.pt (S.extract 0 8)) Y (n : Nat)).2 = X2 at *
  have q1 : (X2 == 0) = false := by simp [hE]
  have q2 : (X2 != 0) = true := by simp [hE]
  clear hn hY
  have HX : Hid (∀ i, Bk.ptK S 8 i = Bk.pt (S.extract 0 8) i) := pt_ext S
  generalize Bk.pt (S.extract 0 8) = f at *
  have hif := arr_infoc f
  have R3 := RowAt.new w (fun _ => 0)
  have HB : Below w.heap.size w (w.alloc (.cells (arr fun _ => 0) 54)) := (Below.refl _ _).alloc (Nat.le_refl _) _
  rw [← arr_zero] at R3 HB
  go_enter Try.func52, Try.ntmps52
  go_wp2_with fail
  go_region
  go_wp2_with fail
  rw [arr_zero] at R3 HB
  rw [arr_zero]
  generalize w.alloc (.cells (arr fun _ => 0) 54) = w0 at *
  obtain ⟨g3, hg3⟩ : ∃ g3, w.heap.size = g3 := ⟨_, rfl⟩
  have hq : Hid (w.heap.size ≤ g3) := Nat.le_of_eq hg3
  have hg3' : w.heap.size = g3 := hg3
  have R3' : RowAt w0 g3 (Bk.ptK S 0) := by rw [← hg3]; exact R3.congr (fun i _ => by simp [Bk.ptK])
  clear R3
  rw [hg3']
  clear hg3
  go_loopw [9] (fun i wr => ∃ k : Nat, k ≤ 8 ∧ i = .int .i64 k ∧ RowAt wr g3 (Bk.ptK S k) ∧ Below w.heap.size w wr) (fun i _ => 8 - (intOf i).toNat)
  case atStart => exact ⟨0, by omega, rfl, R3', HB.drew⟩
  case round =>
    clear R3' HB
    obtain ⟨k, hk, rfl, R3, HB⟩ := hrel
    by_cases hlt : k < 8
    · have hk1 : decide ((k : Int) < 8) = true := by simp; omega
      have hk2 : decide (k < 8) = true := by simp; omega
      have hks : k < S.size := by omega
      have hk3 : (k : Int) < (S.size : Int) := by omega
      obtain ⟨x, hxx⟩ : ∃ x : Int, (S[k].toNat : Int) = x := ⟨_, rfl⟩
      have hA : Cd.at8 S k = S[k].toNat := by unfold Cd.at8; rw [Nm.at_list S k hks]; rfl
      have hA2 := Cd.at8_lt S k
      have hx0 : 0 ≤ x := by omega
      have hx1 : x ≤ 255 := by omega
      obtain ⟨H, hH⟩ : ∃ H, Cd.at8 S k / 16 = H := ⟨_, rfl⟩
      obtain ⟨L, hL⟩ : ∃ L, Cd.at8 S k % 16 = L := ⟨_, rfl⟩
      have e1 : x / 16 = (H : Int) := by omega
      have e2 : x % 16 = (L : Int) := by omega
      have e3 : x.tdiv 16 = (H : Int) := by rw [Int.tdiv_eq_ediv_of_nonneg hx0]; exact e1
      have e4 : x.tmod 16 = (L : Int) := by rw [Int.tmod_eq_emod_of_nonneg hx0]; exact e2
      have hH2 : H < 16 := by omega
      have hL2 : L < 16 := by omega
      have u1 : IntKind.u8.wrap (H : Int) = (H : Int) := IntWalk.u8_in _ ⟨by omega, by omega⟩
      have u2 : IntKind.i64.wrap (H : Int) = (H : Int) := IntWalk.i64_in _ ⟨by omega, by omega⟩
      have u3 : IntKind.u8.wrap (L : Int) = (L : Int) := IntWalk.u8_in _ ⟨by omega, by omega⟩
      have u4 : IntKind.i64.wrap (L : Int) = (L : Int) := IntWalk.i64_in _ ⟨by omega, by omega⟩
      obtain ⟨K2, hK2e⟩ : ∃ K2, 2 * k = K2 := ⟨_, rfl⟩
      obtain ⟨K3, hK3e⟩ : ∃ K3, 2 * k + 1 = K3 := ⟨_, rfl⟩
      have hK2 : K2 < 16 := by omega
      have hK3 : K3 < 16 := by omega
      have m2 : 2 * (k : Int) = (K2 : Int) := by omega
      have m3 : (K2 : Int) + 1 = (K3 : Int) := by omega
      have hK2i : (K2 : Int) < 16 := by omega
      have hK3i : (K3 : Int) < 16 := by omega
      have w4 : IntKind.i64.wrap (K2 : Int) = (K2 : Int) := IntWalk.i64_in _ ⟨by omega, by omega⟩
      have w5 : IntKind.i64.wrap (K3 : Int) = (K3 : Int) := IntWalk.i64_in _ ⟨by omega, by omega⟩
      have c1 := R3.cell K2 hK2
      have f1 := R3.frozen K2
      have c2 := R3.cell K3 hK3
      have f2 := R3.frozen K3
      have S3 := R3.set K2 (H : Int)
      have SB := HB.setCell (p := ⟨g3, K2, none⟩) (by have := hq.out; show _ ≤ g3; omega) (.int .i64 (H : Int))
      have T3 := (S3.set K3 (L : Int)).congr (f' := Bk.ptK S (k + 1)) (fun i _ => by rw [← hK2e, ← hK3e, ← hH, ← hL]; exact Bk.ptK_next S k i)
      have TB := SB.setCell (p := ⟨g3, K3, none⟩) (by have := hq.out; show _ ≤ g3; omega) (.int .i64 (L : Int))
      clear hA hA2 hH hL e1 e2 hK2e hK3e R3 HB S3 SB
      go_wp2_with fail
      go_region
      all_goals go_wp2_with fail
      all_goals go_roundw
      case rel => exact ⟨k + 1, by omega, by go_num, T3, TB.drew⟩
      case measure => simp [intOf]; omega
    · obtain rfl : k = 8 := by omega
      have hk1 : decide ((8 : Int) < 8) = false := by decide
      have R4 := R3.congr (f' := f) (fun i _ => HX.out i)
      clear R3 HX hx
      go_wp2_with fail
      refine (c1 _).mono ?_
      rintro e w1 ⟨rfl, G1⟩
      have R5 := R4.below G1
      have B5 := bch HB G1 (Nat.le_refl _)
      clear R4 HB G1 c1
      go_wp2_with (refine wpList_load_row rfl 54 _ rfl g3 rfl 54 (arr f) (0, 0) _ R5.2 Try.underlying54 rfl hif ?_)
      refine (c2 _).mono ?_
      rintro e w2 ⟨rfl, G2⟩
      have B6 := bch B5 G2 (Nat.le_refl _)
      clear R5 B5 G2 c2
      go_wp2_with fail
      go_ret2
      exact ⟨rfl, B6⟩
set_option maxRecDepth 4000 in
set_option maxHeartbeats 1000000 in
theorem unpackOf_2tn (dict b S : ByteArray) (w : World) (hd : dict.size ≤ 256) (hb : b.size ≤ 140737488355328) (h0 : 0 < b.size) (hS : b.extract 1 b.size = S) (hx : (b[0].toNat : Int) = 2) (Z : ByteArray) (hZ : S.extract 8 S.size = Z) (h8 : ¬ S.size < 8) (n k : Nat) (Y : ByteArray) (hn : Nm.from_ Z.data.toList = some (n, k)) (hY : Z.extract k Z.size = Y) (X1 : ByteArray) (hE : Cd.rd (Bk.pt (S.extract 0 8)) Y (n : Nat) = (X1, 0)) (hX : X1.size ≤ 140737488355328) (hm : readOf dict X1 = none) :
    Calls Try.prog 52 #[.string dict, .string b] w fun e w' => e = .returned (.tuple #[.string ⟨#[]⟩, .bool false]) ∧ Below w.heap.size w w' := by
  have hne := not_empty (b := b) (by omega)
  have hb1 : (1 : Int) ≤ (b.size : Int) := by omega
  have hb1n : 1 ≤ b.size := by omega
  have hb0 : (0 : Int) < (b.size : Int) := by omega
  have hbi : (b.size : Int) ≤ 140737488355328 := by omega
  have hs1 := ext_size b 1 b.size
  rw [hS] at hs1
  have hs2 : S.size ≤ 140737488355328 := by omega
  have hz1 := ext_size S 8 S.size
  rw [hZ] at hz1
  have hz2 : Z.size ≤ 140737488355328 := by omega
  clear hs1 hz1
  have h8' : (8 : Int) ≤ (S.size : Int) := by omega
  have h8n : 8 ≤ S.size := by omega
  have h8d : decide ((S.size : Int) < 8) = false := by simp; omega
  have h8s : (S.size : Int) ≤ 140737488355328 := by omega
  have c1 := fun w => numFrom_yes Z w n k (by omega) hn
  rw [hY] at c1
  have c2 := fun w => readCode_any (Bk.pt (S.extract 0 8)) Y (n : Nat) w
  rw [hE] at c2
  have c3 := fun w => from_nil hd hX hm w
  clear hn hY hE hm
  have HX : Hid (∀ i, Bk.ptK S 8 i = Bk.pt (S.extract 0 8) i) := pt_ext S
  generalize Bk.pt (S.extract 0 8) = f at *
  have hif := arr_infoc f
  have R3 := RowAt.new w (fun _ => 0)
  have HB : Below w.heap.size w (w.alloc (.cells (arr fun _ => 0) 54)) := (Below.refl _ _).alloc (Nat.le_refl _) _
  rw [← arr_zero] at R3 HB
  go_enter Try.func52, Try.ntmps52
  go_wp2_with fail
  go_region
  go_wp2_with fail
  rw [arr_zero] at R3 HB
  rw [arr_zero]
  generalize w.alloc (.cells (arr fun _ => 0) 54) = w0 at *
  obtain ⟨g3, hg3⟩ : ∃ g3, w.heap.size = g3 := ⟨_, rfl⟩
  have hq : Hid (w.heap.size ≤ g3) := Nat.le_of_eq hg3
  have hg3' : w.heap.size = g3 := hg3
  have R3' : RowAt w0 g3 (Bk.ptK S 0) := by rw [← hg3]; exact R3.congr (fun i _ => by simp [Bk.ptK])
  clear R3
  rw [hg3']
  clear hg3
  go_loopw [9] (fun i wr => ∃ k : Nat, k ≤ 8 ∧ i = .int .i64 k ∧ RowAt wr g3 (Bk.ptK S k) ∧ Below w.heap.size w wr) (fun i _ => 8 - (intOf i).toNat)
  case atStart => exact ⟨0, by omega, rfl, R3', HB.drew⟩
  case round =>
    clear R3' HB
    obtain ⟨k, hk, rfl, R3, HB⟩ := hrel
    by_cases hlt : k < 8
    · have hk1 : decide ((k : Int) < 8) = true := by simp; omega
      have hk2 : decide (k < 8) = true := by simp; omega
      have hks : k < S.size := by omega
      have hk3 : (k : Int) < (S.size : Int) := by omega
      obtain ⟨x, hxx⟩ : ∃ x : Int, (S[k].toNat : Int) = x := ⟨_, rfl⟩
      have hA : Cd.at8 S k = S[k].toNat := by unfold Cd.at8; rw [Nm.at_list S k hks]; rfl
      have hA2 := Cd.at8_lt S k
      have hx0 : 0 ≤ x := by omega
      have hx1 : x ≤ 255 := by omega
      obtain ⟨H, hH⟩ : ∃ H, Cd.at8 S k / 16 = H := ⟨_, rfl⟩
      obtain ⟨L, hL⟩ : ∃ L, Cd.at8 S k % 16 = L := ⟨_, rfl⟩
      have e1 : x / 16 = (H : Int) := by omega
      have e2 : x % 16 = (L : Int) := by omega
      have e3 : x.tdiv 16 = (H : Int) := by rw [Int.tdiv_eq_ediv_of_nonneg hx0]; exact e1
      have e4 : x.tmod 16 = (L : Int) := by rw [Int.tmod_eq_emod_of_nonneg hx0]; exact e2
      have hH2 : H < 16 := by omega
      have hL2 : L < 16 := by omega
      have u1 : IntKind.u8.wrap (H : Int) = (H : Int) := IntWalk.u8_in _ ⟨by omega, by omega⟩
      have u2 : IntKind.i64.wrap (H : Int) = (H : Int) := IntWalk.i64_in _ ⟨by omega, by omega⟩
      have u3 : IntKind.u8.wrap (L : Int) = (L : Int) := IntWalk.u8_in _ ⟨by omega, by omega⟩
      have u4 : IntKind.i64.wrap (L : Int) = (L : Int) := IntWalk.i64_in _ ⟨by omega, by omega⟩
      obtain ⟨K2, hK2e⟩ : ∃ K2, 2 * k = K2 := ⟨_, rfl⟩
      obtain ⟨K3, hK3e⟩ : ∃ K3, 2 * k + 1 = K3 := ⟨_, rfl⟩
      have hK2 : K2 < 16 := by omega
      have hK3 : K3 < 16 := by omega
      have m2 : 2 * (k : Int) = (K2 : Int) := by omega
      have m3 : (K2 : Int) + 1 = (K3 : Int) := by omega
      have hK2i : (K2 : Int) < 16 := by omega
      have hK3i : (K3 : Int) < 16 := by omega
      have w4 : IntKind.i64.wrap (K2 : Int) = (K2 : Int) := IntWalk.i64_in _ ⟨by omega, by omega⟩
      have w5 : IntKind.i64.wrap (K3 : Int) = (K3 : Int) := IntWalk.i64_in _ ⟨by omega, by omega⟩
      have c1 := R3.cell K2 hK2
      have f1 := R3.frozen K2
      have c2 := R3.cell K3 hK3
      have f2 := R3.frozen K3
      have S3 := R3.set K2 (H : Int)
      have SB := HB.setCell (p := ⟨g3, K2, none⟩) (by have := hq.out; show _ ≤ g3; omega) (.int .i64 (H : Int))
      have T3 := (S3.set K3 (L : Int)).congr (f' := Bk.ptK S (k + 1)) (fun i _ => by rw [← hK2e, ← hK3e, ← hH, ← hL]; exact Bk.ptK_next S k i)
      have TB := SB.setCell (p := ⟨g3, K3, none⟩) (by have := hq.out; show _ ≤ g3; omega) (.int .i64 (L : Int))
      clear hA hA2 hH hL e1 e2 hK2e hK3e R3 HB S3 SB
      go_wp2_with fail
      go_region
      all_goals go_wp2_with fail
      all_goals go_roundw
      case rel => exact ⟨k + 1, by omega, by go_num, T3, TB.drew⟩
      case measure => simp [intOf]; omega
    · obtain rfl : k = 8 := by omega
      have hk1 : decide ((8 : Int) < 8) = false := by decide
      have R4 := R3.congr (f' := f) (fun i _ => HX.out i)
      clear R3 HX hx
      go_wp2_with fail
      refine (c1 _).mono ?_
      rintro e w1 ⟨rfl, G1⟩
      have R5 := R4.below G1
      have B5 := bch HB G1 (Nat.le_refl _)
      clear R4 HB G1 c1
      go_wp2_with (refine wpList_load_row rfl 54 _ rfl g3 rfl 54 (arr f) (0, 0) _ R5.2 Try.underlying54 rfl hif ?_)
      refine (c2 _).mono ?_
      rintro e w2 ⟨rfl, G2⟩
      have B6 := bch B5 G2 (Nat.le_refl _)
      clear R5 B5 G2 c2
      go_wp2_with fail
      refine (c3 _).mono ?_
      rintro e w3 ⟨G3, rfl⟩
      have B7 := bch B6 G3 (Nat.le_refl _)
      go_wp2_with fail
      go_ret2
      exact ⟨rfl, B7⟩
set_option maxRecDepth 4000 in
set_option maxHeartbeats 1000000 in
theorem unpackOf_2ts (dict b S : ByteArray) (w : World) (hd : dict.size ≤ 256) (hb : b.size ≤ 140737488355328) (h0 : 0 < b.size) (hS : b.extract 1 b.size = S) (hx : (b[0].toNat : Int) = 2) (Z : ByteArray) (hZ : S.extract 8 S.size = Z) (h8 : ¬ S.size < 8) (n k : Nat) (Y : ByteArray) (hn : Nm.from_ Z.data.toList = some (n, k)) (hY : Z.extract k Z.size = Y) (X1 : ByteArray) (hE : Cd.rd (Bk.pt (S.extract 0 8)) Y (n : Nat) = (X1, 0)) (hX : X1.size ≤ 140737488355328) (m : List Tk.T) (hm : readOf dict X1 = some m) :
    Calls Try.prog 52 #[.string dict, .string b] w fun e w' => e = .returned (.tuple #[.string (playOf dict m), .bool true]) ∧ Below w.heap.size w w' := by
  have hne := not_empty (b := b) (by omega)
  have hb1 : (1 : Int) ≤ (b.size : Int) := by omega
  have hb1n : 1 ≤ b.size := by omega
  have hb0 : (0 : Int) < (b.size : Int) := by omega
  have hbi : (b.size : Int) ≤ 140737488355328 := by omega
  have hs1 := ext_size b 1 b.size
  rw [hS] at hs1
  have hs2 : S.size ≤ 140737488355328 := by omega
  have hz1 := ext_size S 8 S.size
  rw [hZ] at hz1
  have hz2 : Z.size ≤ 140737488355328 := by omega
  clear hs1 hz1
  have h8' : (8 : Int) ≤ (S.size : Int) := by omega
  have h8n : 8 ≤ S.size := by omega
  have h8d : decide ((S.size : Int) < 8) = false := by simp; omega
  have h8s : (S.size : Int) ≤ 140737488355328 := by omega
  have c1 := fun w => numFrom_yes Z w n k (by omega) hn
  rw [hY] at c1
  have c2 := fun w => readCode_any (Bk.pt (S.extract 0 8)) Y (n : Nat) w
  rw [hE] at c2
  have c3 := fun w => from_some hd hX hm w
  have c4 := fun ad cap w h => played_of hd hm ad cap w h
  clear hn hY hE hm
  generalize playOf dict m = P at *
  have HX : Hid (∀ i, Bk.ptK S 8 i = Bk.pt (S.extract 0 8) i) := pt_ext S
  generalize Bk.pt (S.extract 0 8) = f at *
  have hif := arr_infoc f
  have R3 := RowAt.new w (fun _ => 0)
  have HB : Below w.heap.size w (w.alloc (.cells (arr fun _ => 0) 54)) := (Below.refl _ _).alloc (Nat.le_refl _) _
  rw [← arr_zero] at R3 HB
  go_enter Try.func52, Try.ntmps52
  go_wp2_with fail
  go_region
  go_wp2_with fail
  rw [arr_zero] at R3 HB
  rw [arr_zero]
  generalize w.alloc (.cells (arr fun _ => 0) 54) = w0 at *
  obtain ⟨g3, hg3⟩ : ∃ g3, w.heap.size = g3 := ⟨_, rfl⟩
  have hq : Hid (w.heap.size ≤ g3) := Nat.le_of_eq hg3
  have hg3' : w.heap.size = g3 := hg3
  have R3' : RowAt w0 g3 (Bk.ptK S 0) := by rw [← hg3]; exact R3.congr (fun i _ => by simp [Bk.ptK])
  clear R3
  rw [hg3']
  clear hg3
  go_loopw [9] (fun i wr => ∃ k : Nat, k ≤ 8 ∧ i = .int .i64 k ∧ RowAt wr g3 (Bk.ptK S k) ∧ Below w.heap.size w wr) (fun i _ => 8 - (intOf i).toNat)
  case atStart => exact ⟨0, by omega, rfl, R3', HB.drew⟩
  case round =>
    clear R3' HB
    obtain ⟨k, hk, rfl, R3, HB⟩ := hrel
    by_cases hlt : k < 8
    · have hk1 : decide ((k : Int) < 8) = true := by simp; omega
      have hk2 : decide (k < 8) = true := by simp; omega
      have hks : k < S.size := by omega
      have hk3 : (k : Int) < (S.size : Int) := by omega
      obtain ⟨x, hxx⟩ : ∃ x : Int, (S[k].toNat : Int) = x := ⟨_, rfl⟩
      have hA : Cd.at8 S k = S[k].toNat := by unfold Cd.at8; rw [Nm.at_list S k hks]; rfl
      have hA2 := Cd.at8_lt S k
      have hx0 : 0 ≤ x := by omega
      have hx1 : x ≤ 255 := by omega
      obtain ⟨H, hH⟩ : ∃ H, Cd.at8 S k / 16 = H := ⟨_, rfl⟩
      obtain ⟨L, hL⟩ : ∃ L, Cd.at8 S k % 16 = L := ⟨_, rfl⟩
      have e1 : x / 16 = (H : Int) := by omega
      have e2 : x % 16 = (L : Int) := by omega
      have e3 : x.tdiv 16 = (H : Int) := by rw [Int.tdiv_eq_ediv_of_nonneg hx0]; exact e1
      have e4 : x.tmod 16 = (L : Int) := by rw [Int.tmod_eq_emod_of_nonneg hx0]; exact e2
      have hH2 : H < 16 := by omega
      have hL2 : L < 16 := by omega
      have u1 : IntKind.u8.wrap (H : Int) = (H : Int) := IntWalk.u8_in _ ⟨by omega, by omega⟩
      have u2 : IntKind.i64.wrap (H : Int) = (H : Int) := IntWalk.i64_in _ ⟨by omega, by omega⟩
      have u3 : IntKind.u8.wrap (L : Int) = (L : Int) := IntWalk.u8_in _ ⟨by omega, by omega⟩
      have u4 : IntKind.i64.wrap (L : Int) = (L : Int) := IntWalk.i64_in _ ⟨by omega, by omega⟩
      obtain ⟨K2, hK2e⟩ : ∃ K2, 2 * k = K2 := ⟨_, rfl⟩
      obtain ⟨K3, hK3e⟩ : ∃ K3, 2 * k + 1 = K3 := ⟨_, rfl⟩
      have hK2 : K2 < 16 := by omega
      have hK3 : K3 < 16 := by omega
      have m2 : 2 * (k : Int) = (K2 : Int) := by omega
      have m3 : (K2 : Int) + 1 = (K3 : Int) := by omega
      have hK2i : (K2 : Int) < 16 := by omega
      have hK3i : (K3 : Int) < 16 := by omega
      have w4 : IntKind.i64.wrap (K2 : Int) = (K2 : Int) := IntWalk.i64_in _ ⟨by omega, by omega⟩
      have w5 : IntKind.i64.wrap (K3 : Int) = (K3 : Int) := IntWalk.i64_in _ ⟨by omega, by omega⟩
      have c1 := R3.cell K2 hK2
      have f1 := R3.frozen K2
      have c2 := R3.cell K3 hK3
      have f2 := R3.frozen K3
      have S3 := R3.set K2 (H : Int)
      have SB := HB.setCell (p := ⟨g3, K2, none⟩) (by have := hq.out; show _ ≤ g3; omega) (.int .i64 (H : Int))
      have T3 := (S3.set K3 (L : Int)).congr (f' := Bk.ptK S (k + 1)) (fun i _ => by rw [← hK2e, ← hK3e, ← hH, ← hL]; exact Bk.ptK_next S k i)
      have TB := SB.setCell (p := ⟨g3, K3, none⟩) (by have := hq.out; show _ ≤ g3; omega) (.int .i64 (L : Int))
      clear hA hA2 hH hL e1 e2 hK2e hK3e R3 HB S3 SB
      go_wp2_with fail
      go_region
      all_goals go_wp2_with fail
      all_goals go_roundw
      case rel => exact ⟨k + 1, by omega, by go_num, T3, TB.drew⟩
      case measure => simp [intOf]; omega
    · obtain rfl : k = 8 := by omega
      have hk1 : decide ((8 : Int) < 8) = false := by decide
      have R4 := R3.congr (f' := f) (fun i _ => HX.out i)
      clear R3 HX hx
      go_wp2_with fail
      refine (c1 _).mono ?_
      rintro e w1 ⟨rfl, G1⟩
      have R5 := R4.below G1
      have B5 := bch HB G1 (Nat.le_refl _)
      clear R4 HB G1 c1
      go_wp2_with (refine wpList_load_row rfl 54 _ rfl g3 rfl 54 (arr f) (0, 0) _ R5.2 Try.underlying54 rfl hif ?_)
      refine (c2 _).mono ?_
      rintro e w2 ⟨rfl, G2⟩
      have B6 := bch B5 G2 (Nat.le_refl _)
      clear R5 B5 G2 c2
      go_wp2_with fail
      refine (c3 _).mono ?_
      rintro e w3 ⟨G3, ad, cap, rfl, S3⟩
      have B7 := bch B6 G3 (Nat.le_refl _)
      go_wp2_with fail
      refine (c4 ad cap _ S3).mono ?_
      rintro e w4 ⟨rfl, G4⟩
      have B8 := bch B7 G4 (Nat.le_refl _)
      go_wp2_with fail
      go_ret2
      exact ⟨rfl, B8⟩
end Go.Proofs.Ytbjbjbpgmojcbaa
namespace Go.Proofs.Ytbjbjbpgmojcbaa
open Go.RowKit
set_option linter.unusedVariables false
def UnpSaid (u : ByteArray × Int) (w : World) (e : Ending) (w' : World) : Prop := ∃ x, e = .returned (.tuple #[.string x, .bool (decide (u.2 = 0))]) ∧ (u.2 = 0 → x = u.1) ∧ (u.2 ≠ 0 → u = (⟨#[]⟩, 1)) ∧ Below w.heap.size w w'
theorem said_no {u : ByteArray × Int} (hu : u = (⟨#[]⟩, 1)) {w : World} {x : ByteArray} : ∀ e w', (e = .returned (.tuple #[.string x, .bool false]) ∧ Below w.heap.size w w') → UnpSaid u w e w' := by
  subst hu
  intro e w' h
  exact ⟨x, h.1, fun h9 => absurd h9 (by decide), fun _ => rfl, h.2⟩
theorem said_yes {u : ByteArray × Int} {x : ByteArray} (hu : u = (x, 0)) {w : World} : ∀ e w', (e = .returned (.tuple #[.string x, .bool true]) ∧ Below w.heap.size w w') → UnpSaid u w e w' := by
  subst hu
  intro e w' h
  exact ⟨x, h.1, fun _ => rfl, fun h9 => absurd rfl h9, h.2⟩
theorem unpackOf_any (dict b : ByteArray) (w : World) (hd : dict.size ≤ 256) (hb : b.size ≤ 140737488355328) :
    Calls Try.prog 52 #[.string dict, .string b] w fun e w' => UnpSaid (Bk.unp dict b) w e w' := by
  by_cases h0 : b.size = 0
  · have e : Bk.unp dict b = (⟨#[]⟩, 1) := by rw [Bk.unp, if_neg (by omega), if_pos h0]
    obtain rfl : b = ⟨#[]⟩ := by
      apply ByteArray.ext
      exact Array.eq_empty_of_size_eq_zero h0
    exact (unpackOf_empty dict w).mono (said_no e)
  · have h1 : 0 < b.size := by omega
    have hA := at_first h1
    have hU : Bk.unp dict b = if Cd.at8 b 0 = 0 then Bk.whl (b.extract 1 b.size) else if Cd.at8 b 0 = 1 then Bk.ply dict (b.extract 1 b.size) else if Cd.at8 b 0 = 2 then (if (Bk.dec (b.extract 1 b.size)).2 = 0 then Bk.ply dict (Bk.dec (b.extract 1 b.size)).1 else (⟨#[]⟩, (Bk.dec (b.extract 1 b.size)).2)) else (⟨#[]⟩, 1) := by rw [Bk.unp, if_neg (by omega), if_neg h0]
    have hs1 := ext_size b 1 b.size
    obtain ⟨S, hS⟩ : ∃ S, b.extract 1 b.size = S := ⟨_, rfl⟩
    rw [hS] at hU hs1
    by_cases k0 : Cd.at8 b 0 = 0
    · rw [if_pos k0] at hU
      have c := unpackOf_0 dict b S w hd hb h1 hS (by omega)
      by_cases hl : 512 < S.size
      · rw [Bk.whl, if_pos hl] at hU
        rw [decide_eq_false (by omega)] at c
        exact c.mono (said_no hU)
      · rw [Bk.whl, if_neg hl] at hU
        rw [decide_eq_true (by omega)] at c
        exact c.mono (said_yes hU)
    · rw [if_neg k0] at hU
      by_cases k1 : Cd.at8 b 0 = 1
      · rw [if_pos k1] at hU
        cases hm : readOf dict S with
        | none =>
          rw [Bk.ply, hm] at hU
          exact (unpackOf_1n dict b S w hd hb h1 hS (by omega) hm).mono (said_no hU)
        | some m =>
          rw [Bk.ply, hm] at hU
          exact (unpackOf_1s dict b S w hd hb h1 hS (by omega) m hm).mono (said_yes hU)
      · rw [if_neg k1] at hU
        by_cases k2 : Cd.at8 b 0 = 2
        · rw [if_pos k2] at hU
          by_cases h8 : S.size < 8
          · have e : Bk.dec S = (⟨#[]⟩, 1) := by rw [Bk.dec, if_pos h8]
            rw [e, if_neg (by decide)] at hU
            exact (unpackOf_2s dict b S w hd hb h1 hS (by omega) h8).mono (said_no hU)
          · cases hn : Nm.from_ (S.extract 8 S.size).data.toList with
            | none =>
              rw [Bk.dec_none h8 hn, if_neg (by decide)] at hU
              exact (unpackOf_2n dict b S w hd hb h1 hS (by omega) _ rfl h8 hn).mono (said_no hU)
            | some nk =>
              obtain ⟨n, k⟩ := nk
              rw [Bk.dec_some h8 hn] at hU
              by_cases hE : (Cd.rd (Bk.pt (S.extract 0 8)) ((S.extract 8 S.size).extract k (S.extract 8 S.size).size) (n : Nat)).2 = 0
              · rw [if_pos hE, if_pos rfl] at hU
                have hz := rd_size _ _ _ hE
                have e9 : Cd.rd (Bk.pt (S.extract 0 8)) ((S.extract 8 S.size).extract k (S.extract 8 S.size).size) (n : Nat) = ((Cd.rd (Bk.pt (S.extract 0 8)) ((S.extract 8 S.size).extract k (S.extract 8 S.size).size) (n : Nat)).1, 0) := by
                  rw [← hE]
                cases hm : readOf dict (Cd.rd (Bk.pt (S.extract 0 8)) ((S.extract 8 S.size).extract k (S.extract 8 S.size).size) (n : Nat)).1 with
                | none =>
                  rw [Bk.ply, hm] at hU
                  exact (unpackOf_2tn dict b S w hd hb h1 hS (by omega) _ rfl h8 n k _ hn rfl _ e9 hz hm).mono (said_no hU)
                | some m =>
                  rw [Bk.ply, hm] at hU
                  exact (unpackOf_2ts dict b S w hd hb h1 hS (by omega) _ rfl h8 n k _ hn rfl _ e9 hz m hm).mono (said_yes hU)
              · rw [if_neg hE, if_neg (by decide)] at hU
                exact (unpackOf_2e dict b S w hd hb h1 hS (by omega) _ rfl h8 n k _ hn rfl hE).mono (said_no hU)
        · rw [if_neg k2] at hU
          exact (unpackOf_3 dict b S w hd hb h1 hS (by omega)).mono (said_no hU)
end Go.Proofs.Ytbjbjbpgmojcbaa
