/- What toks.Read answers: chapter 2's B3. -/
import Derived.Test.YtbjbjbpgmojcbaaToksCheck2
import Derived.Test.YtbjbjbpgmojcbaaToksTake
namespace Go.Proofs.Ytbjbjbpgmojcbaa
open Go.RowKit

/-- Toks as cells. -/
def tcs : List Tk.T → List Value
  | [] => []
  | t :: l => .string t.lit :: .int .i64 t.far :: .int .i64 t.len :: tcs l
theorem tcs_append (a b : List Tk.T) : tcs (a ++ b) = tcs a ++ tcs b := by
  induction a with
  | nil => rfl
  | cons t a ih => simp [tcs, ih]
theorem tcs_length (a : List Tk.T) : (tcs a).length = a.length * 3 := by
  induction a with
  | nil => rfl
  | cons t a ih => simp [tcs, ih]; omega
theorem tcs_at : ∀ (l : List Tk.T) (i : Nat) (h : i < l.length), (tcs l)[i * 3]? = some (.string l[i].lit) ∧ (tcs l)[i * 3 + 1]? = some (.int .i64 l[i].far) ∧ (tcs l)[i * 3 + 2]? = some (.int .i64 l[i].len) := by
  intro l
  induction l with
  | nil => intro i h; simp at h
  | cons t l ih =>
    intro i h
    cases i with
    | zero => simp [tcs]
    | succ i =>
      have := ih i (by simpa using h)
      rw [show (i + 1) * 3 = i * 3 + 3 by omega, show i * 3 + 3 + 1 = i * 3 + 1 + 3 by omega, show i * 3 + 3 + 2 = i * 3 + 2 + 3 by omega]
      simpa [tcs] using this

theorem info_tok : (Try.prog.info? 73).map (fun i => (i.zero, i.size, i.bytes)) = some (some (.agg #[.string ⟨#[]⟩, .int .i64 0, .int .i64 0]), 3, 32) := by kernel_rfl

/-- A slice of toks that the call made is one. -/
theorem sl_of_row {w : World} {B n : Nat} {v : Value} {l : List Tk.T} (h : w.ownsRow B 73 3 v n (tcs l)) : ∃ ad cap, v = .slice ad l.length cap ∧ SlAt w ad l := by
  have hlen := h.1
  rw [tcs_length] at hlen
  have hn : n = l.length := by omega
  subst hn
  rcases h.2 with ⟨rfl, h0⟩ | ⟨g, cap, cur, rfl, hb, hg, hnc, hcm, hcs, htk⟩
  · have : l = [] := List.eq_nil_of_length_eq_zero h0
    subst this
    exact ⟨none, 0, rfl, .inl rfl⟩
  · refine ⟨some ⟨g, 0, none⟩, cap, rfl, .inr ⟨g, 0, rfl, (Array.getElem?_eq_some_iff.1 hg).1, fun i hi => ?_⟩⟩
    have hat : ∀ j u, (tcs l)[j]? = some u → w.cell? ⟨g, 0 + j, none⟩ = some u := by
      intro j u hj
      rw [Nat.zero_add, cell_of_row w g j cur _ _ hg]
      rw [← htk, List.getElem?_take] at hj
      split at hj
      · simpa using hj
      · simp at hj
    have := tcs_at l i hi
    exact ⟨hat _ _ this.1, hat _ _ this.2.1, hat _ _ this.2.2⟩

theorem one3 (x y z : Value) (hx : x.oneCell' = true) (hy : y.oneCell' = true) (hz : z.oneCell' = true) : ∀ u ∈ [x, y, z], u.oneCell' = true := by
  intro u hu
  simp at hu
  rcases hu with rfl | rfl | rfl <;> assumption

theorem news3 (w : World) (x y z : Value) (T : TypeId) : ∀ j u, [x, y, z][j]? = some u → (w.alloc (.cells #[x, y, z] T)).cell? ((⟨w.heap.size, 0, none⟩ : Addr).add j) = some u := by
  intro j u hj
  rw [addr_add, World.cell?_alloc_mark]
  simpa using hj

set_option maxRecDepth 4000 in
set_option maxHeartbeats 1000000 in
theorem read_dict (dict s : ByteArray) (w : World) (hd : 256 < dict.size) :
    Calls Try.prog 35 #[.string dict, .string s] w fun e w' => e = .returned (.tuple #[.slice none 0 0, .int .i64 2]) ∧ Below w.heap.size w w' := by
  have h : decide ((256 : Int) < (dict.size : Int)) = true := by simp; omega
  have h' : (256 : Int) < (dict.size : Int) := by omega
  go_enter Try.func35, Try.ntmps35
  go_wp2_with fail
  go_step3
  go_wp2_with fail
  rw [Exit.noGoto_ret]
  go_ret2
  exact ⟨rfl, Below.refl _ _⟩

set_option maxRecDepth 4000 in
set_option maxHeartbeats 1000000 in
theorem read_long (dict s : ByteArray) (w : World) (hd : dict.size ≤ 256) (hs : 1024 < s.size) :
    Calls Try.prog 35 #[.string dict, .string s] w fun e w' => e = .returned (.tuple #[.slice none 0 0, .int .i64 1]) ∧ Below w.heap.size w w' := by
  have h : decide ((256 : Int) < (dict.size : Int)) = false := by simp; omega
  have h' : (dict.size : Int) ≤ 256 := by omega
  have h2 : decide ((1024 : Int) < (s.size : Int)) = true := by simp; omega
  have h2' : (1024 : Int) < (s.size : Int) := by omega
  go_enter Try.func35, Try.ntmps35
  go_wp2_with fail
  go_step3
  go_wp2_with fail
  rw [Exit.noGoto_ret]
  go_ret2
  exact ⟨rfl, Below.refl _ _⟩

/-- The right toks of which these are the bytes. -/
def readOf (dict s : ByteArray) : Option (List Tk.T) :=
  match Tk.D s with
  | none => none
  | some l => if (Tk.run dict.size dict.data.toList false l).1 = 0 then some l else none

/-- How long the text in a slot is. -/
def strOf : Value → Nat | .string s => s.size | _ => 0

theorem own_below {w w' : World} {B n size : Nat} {e : TypeId} {v : Value} {xs : List Value} (h : w.ownsRow B e size v n xs) (hb : Below w.heap.size w w') : w'.ownsRow B e size v n xs :=
  h.kept (row := none) ⟨hb.os, hb.tape, hb.output, hb.size, fun k hk _ => hb.block k hk⟩ (by cases v.ownBlock <;> simp)

/-- Behind a call that turned nothing old below B but block g. -/
theorem own_but {w w' : World} {B B' g n size : Nat} {e : TypeId} {v : Value} {xs : List Value} (h : w.ownsRow B e size v n xs) (hb : Below B' w w') (hk : ∀ k, k < w.heap.size → k ≠ g → w'.heap[k]? = w.heap[k]?) (hg : g < B) : w'.ownsRow B e size v n xs :=
  h.kept (row := some g) ⟨hb.os, hb.tape, hb.output, hb.size, fun k hk1 hne => hk k hk1 (fun e => hne (by rw [e]))⟩ (.inr (fun e => by have := (h.lt g e).1; omega))

theorem box_but {w w' : World} {g : Nat} {x y z : Value} {T : TypeId} (hk : ∀ k, k < (w.alloc (.cells #[x, y, z] T)).heap.size → k ≠ g → w'.heap[k]? = (w.alloc (.cells #[x, y, z] T)).heap[k]?) (hg : g < w.heap.size) :
    w'.cell? ⟨w.heap.size, 0, none⟩ = some x ∧ w'.cell? ⟨w.heap.size, 1, none⟩ = some y ∧ w'.cell? ⟨w.heap.size, 2, none⟩ = some z := by
  have e : ∀ j, w'.cell? ⟨w.heap.size, j, none⟩ = (w.alloc (.cells #[x, y, z] T)).cell? ⟨w.heap.size, j, none⟩ := fun j => World.cell?_of_block (w := w.alloc (.cells #[x, y, z] T)) (hk w.heap.size (by simp) (by omega))
  refine ⟨?_, ?_, ?_⟩
  · rw [e, World.cell?_alloc_mark]; rfl
  · rw [e, World.cell?_alloc_mark]; rfl
  · rw [e, World.cell?_alloc_mark]; rfl

theorem MkAt.grown {w w' : World} {B g n : Nat} {D M : Int} {L : Bool} {v : Value} {xs : List Value} {e : TypeId} (h : MkAt w B g D M L) (ho : w.ownsRow (g + 1) e 3 v n xs) (hg : w.grownBy w' v.ownBlock) : MkAt w' B g D M L := by
  obtain ⟨a, b, c0, c1, c2, f1, f2⟩ := h
  have hb := hg.block g b (fun e => by have := (ho.lt g e.symm).1; omega)
  refine ⟨a, Nat.lt_of_lt_of_le b hg.size, ?_, ?_, ?_, ?_, ?_⟩
  · rw [World.cell?_of_block (w := w) (by exact hb)]; exact c0
  · rw [World.cell?_of_block (w := w) (by exact hb)]; exact c1
  · rw [World.cell?_of_block (w := w) (by exact hb)]; exact c2
  · rw [World.frozen?_of_block (w := w) (by exact hb)]; exact f1
  · rw [World.frozen?_of_block (w := w) (by exact hb)]; exact f2

theorem one_lit {S : ByteArray} {t : Tk.T} {k : Nat} (h : Tk.one S = some (t, k)) : t.lit.size ≤ S.size := by
  unfold Tk.one at h
  cases hf : Nm.from_ S.data.toList with
  | none => rw [hf] at h; simp at h
  | some x =>
    rw [hf] at h
    simp only at h
    split at h
    · split at h
      · simp at h
      · simp only [Option.some.injEq, Prod.mk.injEq] at h
        rw [← h.1]
        exact Nat.zero_le _
    · split at h
      · simp at h
      · simp only [Option.some.injEq, Prod.mk.injEq] at h
        rw [← h.1]
        exact Nm.ext_le (Nat.le_refl _)

theorem readOf_none {dict s S : ByteArray} {l : List Tk.T} (h1 : Tk.D s = (Tk.D S).map (l ++ ·)) (h2 : Tk.D S = none) : readOf dict s = none := by
  unfold readOf
  rw [h1, h2]
  rfl
theorem readOf_bad {dict s S S2 : ByteArray} {l : List Tk.T} {t : Tk.T} {k : Nat} {st : List UInt8} {p : Bool} (h1 : Tk.D s = (Tk.D S).map (l ++ ·)) (h2 : Tk.one S = some (t, k)) (h3 : S.extract k S.size = S2)
    (h4 : ∀ m, Tk.run dict.size dict.data.toList false (l ++ m) = Tk.run dict.size st p m) (h5 : Tk.err dict.size st p t ≠ 0) : readOf dict s = none := by
  unfold readOf
  rw [h1, Tk.D_some h2, h3]
  cases Tk.D S2 with
  | none => rfl
  | some m =>
    simp only [Option.map_some]
    rw [h4, Tk.run_bad h5, if_neg h5]
theorem readOf_end {dict s S : ByteArray} {l : List Tk.T} {st : List UInt8} {p : Bool} (h1 : Tk.D s = (Tk.D S).map (l ++ ·)) (h2 : S.size = 0)
    (h4 : ∀ m, Tk.run dict.size dict.data.toList false (l ++ m) = Tk.run dict.size st p m) : readOf dict s = some l := by
  unfold readOf
  rw [h1, Tk.D_nil h2]
  simp only [Option.map_some, List.append_nil]
  have := h4 []
  rw [List.append_nil] at this
  rw [this]
  rfl

set_option maxRecDepth 4000 in
set_option maxHeartbeats 4000000 in
theorem read_short (dict s : ByteArray) (w : World) (hd : dict.size ≤ 256) (hs : s.size ≤ 1024) :
    Calls Try.prog 35 #[.string dict, .string s] w fun e w' => Below w.heap.size w w' ∧
      ((readOf dict s = none ∧ e = .returned (.tuple #[.slice none 0 0, .int .i64 1])) ∨ ∃ l ad cap, readOf dict s = some l ∧ e = .returned (.tuple #[.slice ad l.length cap, .int .i64 0]) ∧ SlAt w' ad l) := by
  have h : decide ((256 : Int) < (dict.size : Int)) = false := by simp; omega
  have h' : (dict.size : Int) ≤ 256 := by omega
  have h2 : decide ((1024 : Int) < (s.size : Int)) = false := by simp; omega
  have h2' : (s.size : Int) ≤ 1024 := by omega
  obtain ⟨i0, hi, hz0, hz1, hz2⟩ := info_parts info_tok
  generalize hRO : readOf dict s = RO at *
  have HRO : Hid (readOf dict s = RO) := hRO
  clear hRO
  go_enter Try.func35, Try.ntmps35
  go_wp2_with fail
  go_step3
  go_wp2_with fail
  go_step3
  go_wp2_with fail
  go_loopw [1, 6] (fun x v wr => ∃ (S : ByteArray) (l : List Tk.T) (st : List UInt8) (p : Bool), x = .string S ∧ wr.ownsRow (w.heap.size + 1) 73 3 v l.length (tcs l) ∧ Hid (Tk.D s = (Tk.D S).map (l ++ ·)) ∧
      Hid (∀ m, Tk.run dict.size dict.data.toList false (l ++ m) = Tk.run dict.size st p m) ∧ l.length + dict.size ≤ st.length ∧ st.length ≤ dict.size + 512 ∧ MkAt wr w.heap.size w.heap.size dict.size ((st.length : Int) - dict.size) p ∧ S.size ≤ 1024 ∧ Below w.heap.size w wr)
    (fun x _ _ => strOf x)
  case atStart =>
    refine ⟨s, [], dict.data.toList, false, rfl, World.ownsRow_nil _ _ _ _, ?_, fun m => rfl, by simp, by simp, ?_, hs, (Below.refl _ _).alloc (Nat.le_refl _) _⟩
    · show _ = _
      cases Tk.D s <;> rfl
    · have e : ((dict.data.toList.length : Int) - dict.size) = 0 := by simp
      rw [e]
      exact ⟨Nat.le_refl _, by simp, by rw [World.cell?_alloc_mark]; rfl, by rw [World.cell?_alloc_mark]; rfl, by rw [World.cell?_alloc_mark]; rfl, by rw [World.frozen?_alloc_mark]; simp, by rw [World.frozen?_alloc_mark]; simp⟩
  case round =>
    obtain ⟨S, l, st, p, rfl, hown, hD, hrun, hs1, hs2, hm, hS, G⟩ := hrel
    by_cases h0 : S.size = 0
    · have hE0 := empty_of h0
      have HX : Hid (RO = some l) := by
        show _ = _
        rw [← HRO.out]
        exact readOf_end hD.out h0 hrun.out
      clear hm
      go_wp2_with fail
      try rw [Exit.noGoto_ret]
      go_ret2
      obtain ⟨ad, cap, hv, hsl⟩ := sl_of_row hown
      exact ⟨G, .inr ⟨l, ad, cap, HX.out, by rw [← hv]; rfl, hsl⟩⟩
    · have hE0 := empty_not h0
      have hgs := G.size
      have hgm := hm.2.1
      cases ho : Tk.one S with
      | none =>
        have HX : Hid (RO = none) := by
          show _ = _
          rw [← HRO.out]
          exact readOf_none hD.out (Tk.D_none h0 ho)
        have hc := fun w => take1_no S w (by omega) ho
        clear hm hD hrun ho
        go_wp2_with fail
        refine (hc _).mono ?_
        rintro e w1 ⟨lit, far, len, r, rfl, hb1⟩
        clear hc
        go_wp2_with fail
        try rw [Exit.noGoto_ret]
        go_ret2
        exact ⟨(bch G hb1 (Nat.le_refl _)).alloc (Nat.le_trans hgs hb1.size) _, .inl ⟨HX.out, rfl⟩⟩
      | some x =>
        obtain ⟨t, kk⟩ := x
        have hc := fun w => take1_yes S w (by omega) t kk ho
        have hpos := Tk.one_pos ho
        obtain ⟨S2, hS2⟩ : ∃ S2, S.extract kk S.size = S2 := ⟨_, rfl⟩
        rw [hS2] at hc
        have hS2s : S2.size < S.size := by rw [← hS2, Tk.ext_size]; omega
        have hS2b : S2.size ≤ 1024 := by omega
        have hlit : t.lit.size ≤ 140737488355328 := by
          have := one_lit ho
          omega
        have HB : Hid (Tk.err dict.size st p t ≠ 0 → RO = none) := by
          intro he
          rw [← HRO.out]
          exact readOf_bad hD.out ho hS2 hrun.out he
        have HD2 : Hid (Tk.D s = (Tk.D S2).map ((l ++ [t]) ++ ·)) := by
          show _ = _
          rw [hD.out, Tk.D_some ho, hS2]
          cases Tk.D S2 <;> simp
        have hef := err_fits dict.size st p t _ rfl
        have HE : Hid (Tk.err dict.size st p t = if fits dict.size ((st.length : Int) - dict.size) p t.lit t.far t.len = false then 1 else if 512 < (st.length : Int) - dict.size + t.lit.size + t.len then 2 else 0) := hef
        have Hm : Hid (MkAt wr w.heap.size w.heap.size dict.size ((st.length : Int) - dict.size) p) := hm
        have HO : Hid (wr.ownsRow (w.heap.size + 1) 73 3 u6 l.length (tcs l)) := hown
        have hM0 : 0 ≤ (st.length : Int) - dict.size := by omega
        have hM1 : (st.length : Int) - dict.size ≤ 512 := by omega
        have hD0 : (0 : Int) ≤ (dict.size : Int) := by omega
        have HS : Hid (S2.size < S.size) := hS2s
        clear hm hD ho hef hown hS2 hpos hS2s
        cases hF : fits dict.size ((st.length : Int) - dict.size) p t.lit t.far t.len with
        | false =>
          have HX : Hid (RO = none) := HB.out (by rw [HE.out, if_pos hF]; omega)
          go_wp2_with fail
          refine (hc _).mono ?_
          rintro e w1 ⟨rfl, hb1⟩
          clear hc
          have Hm1 := (Hm.out.below hb1)
          have G1 := bch G hb1 (Nat.le_refl _)
          have hgs1 := G1.size
          go_wp2_with (go_at_call 56; go_must (refine (add_form w.heap.size w.heap.size dict.size ((st.length : Int) - dict.size) p t.lit t.far t.len _ (Hm1.alloc _) hD0 h' hM0 hM1 hF).mono ?_; rintro e w3 ⟨rfl, hb3⟩))
          try rw [Exit.noGoto_ret]
          go_ret2
          exact ⟨bch (G1.alloc hgs1 _) hb3 (Nat.le_refl _), .inl ⟨HX.out, rfl⟩⟩
        | true =>
          have hln := fits_len hF
          by_cases hbig : 512 < (st.length : Int) - dict.size + t.lit.size + t.len
          · have HX : Hid (RO = none) := HB.out (by rw [HE.out, if_neg (by rw [hF]; simp), if_pos hbig]; omega)
            go_wp2_with fail
            refine (hc _).mono ?_
            rintro e w1 ⟨rfl, hb1⟩
            clear hc
            have Hm1 := (Hm.out.below hb1)
            have G1 := bch G hb1 (Nat.le_refl _)
            have hgs1 := G1.size
            go_wp2_with (go_at_call 56; go_must (refine (add_many w.heap.size w.heap.size dict.size ((st.length : Int) - dict.size) p t.lit t.far t.len _ (Hm1.alloc _) hD0 h' hM0 hM1 hlit hln hF hbig).mono ?_; rintro e w3 ⟨rfl, hb3⟩))
            try rw [Exit.noGoto_ret]
            go_ret2
            exact ⟨bch (G1.alloc hgs1 _) hb3 (Nat.le_refl _), .inl ⟨HX.out, rfl⟩⟩
          · have he : Tk.err dict.size st p t = 0 := by rw [HE.out, if_neg (by rw [hF]; simp), if_neg hbig]
            have hmk := Tk.make_ok he
            have HK : Hid ((Tk.make st t).length = st.length + t.lit.size + t.len.toNat) := hmk.1
            have HL : Hid (1 ≤ t.lit.size + t.len.toNat) := by
              show _ ≤ _
              by_cases h0 : t.lit.size = 0
              · have := hmk.2.2.1 h0; omega
              · omega
            have HRn : Hid (∀ m, Tk.run dict.size dict.data.toList false ((l ++ [t]) ++ m) = Tk.run dict.size (Tk.make st t) (decide (t.lit.size ≠ 0)) m) := by
              intro m
              rw [List.append_assoc, hrun.out]
              exact Tk.run_good he
            have HD : Hid ((!t.lit.toList.isEmpty) = decide (t.lit.size ≠ 0)) := by
              show _ = _
              by_cases h0 : t.lit.size = 0
              · rw [empty_of h0]; simp [h0]
              · rw [empty_not h0]; simp [h0]
            have hl512 : l.length ≤ 512 := by omega
            clear he hmk
            go_wp2_with fail
            refine (hc _).mono ?_
            rintro e w1 ⟨rfl, hb1⟩
            clear hc
            have Hm1 := (Hm.out.below hb1)
            have G1 := bch G hb1 (Nat.le_refl _)
            have hgs1 := G1.size
            have hgm1 : w.heap.size < w1.heap.size := Nat.lt_of_lt_of_le hgm hb1.size
            have HO1 := own_below HO.out hb1
            go_wp2_with (first | (go_at_call 56; go_must (refine (add_ok w.heap.size w.heap.size dict.size ((st.length : Int) - dict.size) p t.lit t.far t.len _ (Hm1.alloc _) hD0 h' hM0 hM1 hln hF (by omega)).mono ?_; rintro e w3 ⟨rfl, hb3, hm3, hk3⟩; obtain ⟨q0, q1, q2⟩ := box_but hk3.out hgm1; have HO3 := own_but (HO1.alloc _) hb3 hk3.out (Nat.lt_succ_self _); have hgs3 := hb3.size)) | (at_builtin; go_must (refine wpList_append_own _ rfl _ _ 40 rfl (w.heap.size + 1) 73 i0 (.agg #[.string ⟨#[]⟩, .int .i64 0, .int .i64 0]) 3 32 Try.underlying40 hi hz0 hz1 hz2 rfl (by decide) _ _ _ rfl (HO3.alloc _) ⟨w3.heap.size, 0, none⟩ 1 1 [.string t.lit, .int .i64 t.far, .int .i64 t.len] rfl rfl (news3 _ _ _ _ _) (one3 _ _ _ rfl rfl rfl) (ml_le (by omega)) (by omega) (by simp at hgs3 ⊢; omega) ?_; intro v4 w4 hown4 hgrow4 _)))
            go_roundw
            case rel =>
              have hkl := HK.out
              have hl1 := HL.out
              have htc : tcs (l ++ [t]) = tcs l ++ [.string t.lit, .int .i64 t.far, .int .i64 t.len] := tcs_append _ _
              refine ⟨S2, l ++ [t], Tk.make st t, decide (t.lit.size ≠ 0), rfl, by rw [htc, List.length_append]; exact hown4, HD2, HRn, by simp; omega, by omega, ?_, hS2b, ?_⟩
              · rw [← HD.out, show ((Tk.make st t).length : Int) - dict.size = (st.length : Int) - dict.size + t.lit.size + t.len by omega]
                exact (hm3.alloc _).grown (HO3.alloc _) hgrow4
              · have hB3 := (G1.alloc hgs1 _).trans hb3
                exact (hB3.alloc hB3.size _).grown hgrow4 (by have := hB3.size; simp; omega) (fun k hk => by have := (HO3.lt k hk).1; omega)
            case measure => exact HS.out

/-- What Read tells, dictionaries that may be. -/
theorem read_any (dict s : ByteArray) (w : World) (hd : dict.size ≤ 256) (hlong : 1024 < s.size → readOf dict s = none) :
    Calls Try.prog 35 #[.string dict, .string s] w fun e w' => Below w.heap.size w w' ∧
      ((readOf dict s = none ∧ e = .returned (.tuple #[.slice none 0 0, .int .i64 1])) ∨ ∃ l ad cap, readOf dict s = some l ∧ e = .returned (.tuple #[.slice ad l.length cap, .int .i64 0]) ∧ SlAt w' ad l) := by
  by_cases hs : s.size ≤ 1024
  · exact read_short dict s w hd hs
  · exact (read_long dict s w hd (by omega)).mono fun e w' he => ⟨he.2, .inl ⟨hlong (by omega), he.1⟩⟩
end Go.Proofs.Ytbjbjbpgmojcbaa
