/- What toks.Parse tells: chapter 2's B2. -/
import Derived.Test.YtbjbjbpgmojcbaaToksLay1
namespace Go.Proofs.Ytbjbjbpgmojcbaa
open Go.RowKit Go.Maps Go.ChangeShapes

theorem lay1_any {w : World} {B bm gp ga gf gl base : Nat} {s : ByteArray} {r a f : Nat} {v : Value} {l : List Tk.T} (O : Ord B bm gp ga gf gl base) (h : PS w bm gp ga gf gl base s r a f v l) (ha : a ≤ s.size) (hs : s.size ≤ 2000) (hl : l.length ≤ 2000) :
    Calls Try.prog 57 #[.pointer (some ⟨gf, 0, none⟩), .pointer (some ⟨ga, 0, none⟩), .pointer (some ⟨gl, 0, none⟩), .pointer (some ⟨gp, 0, none⟩)] w fun e w' => e = .returned (.tuple #[]) ∧ Below B w w' ∧ ∃ v', PS w' bm gp ga gf gl base s r a f v' (l ++ Tk.lay s f a) := by
  by_cases hf : f < a
  · exact lay1_yes O h hf ha hs hl
  · exact lay1_no h hf

set_option maxRecDepth 4000 in
set_option maxHeartbeats 1000000 in
theorem parse_many (dict text : ByteArray) (w : World) (hd : 256 < dict.size ∨ 512 < text.size) :
    Calls Try.prog 30 #[.string dict, .string text] w fun e w' => e = .returned (.tuple #[.slice none 0 0, .int .i64 2]) ∧ Below w.heap.size w w' := by
  by_cases h1 : 256 < dict.size
  · have d1 : decide ((256 : Int) < (dict.size : Int)) = true := by simp; omega
    have d1' : (256 : Int) < (dict.size : Int) := by omega
    go_enter Try.func30, Try.ntmps30
    go_wp2_with fail
    go_ret2
    exact ⟨rfl, Below.refl _ _⟩
  · have d1 : decide ((256 : Int) < (dict.size : Int)) = false := by simp; omega
    have d1' : (dict.size : Int) ≤ 256 := by omega
    have d2 : decide ((512 : Int) < (text.size : Int)) = true := by simp; omega
    have d2' : (512 : Int) < (text.size : Int) := by omega
    go_enter Try.func30, Try.ntmps30
    go_wp2_with fail
    go_ret2
    exact ⟨rfl, Below.refl _ _⟩

theorem past_made (w : World) (base : Nat) (hb : w.heap.size < base) (No : Nat → Prop) (s : ByteArray) : ∃ D : DataW Value, IsMap D ∧ (w.alloc (.map #[] 0)).ownsGroups Try.prog 9 base 3 .i64 w.heap.size 0 D ∧ (w.alloc (.map #[] 0)).Shuns w.heap.size No ∧ Reads D s 0 := by
  refine ⟨.map [], isMap_empty, ⟨#[], 0, (MapKept.heap_alloc w _).1, ⟨by simp, MapKept.stamped_empty 0, by simp⟩, Nat.le_refl _, rfl, hb, by simp, by simp⟩, World.Shuns_made w No, ?_⟩
  intro k
  rfl

/-- At the beginning. -/
theorem ps_start (w : World) (s : ByteArray) (d : Nat) (T1 T2 T3 T4 : TypeId) :
    PS (((((w.alloc (.map #[] 0)).alloc (.cells #[.string s, .map (some w.heap.size), .int .i64 0] T1)).alloc (.cells #[.int .i64 (d : Nat)] T2)).alloc (.cells #[.int .i64 (d : Nat)] T3)).alloc (.cells #[.slice none 0 0] T4)) w.heap.size (w.heap.size + 1) (w.heap.size + 1 + 1) (w.heap.size + 1 + 1 + 1) (w.heap.size + 1 + 1 + 1 + 1) (w.heap.size + 1 + 1 + 1 + 1 + 1) s 0 d d (.slice none 0 0) [] := by
  have hs : ∀ (u : World) (o : Obj), (u.alloc o).heap.size = u.heap.size + 1 := fun u o => by simp
  obtain ⟨W1, hW1⟩ : ∃ W1, W1 = w.alloc (.map #[] 0) := ⟨_, rfl⟩
  have s1 : W1.heap.size = w.heap.size + 1 := by rw [hW1, hs]
  have hmap := past_made w (w.heap.size + 1 + 1 + 1 + 1 + 1) (by omega) (fun g => (Value.slice none 0 0).ownBlock = some g) s
  rw [← hW1] at hmap ⊢
  clear hW1
  obtain ⟨W2, hW2⟩ : ∃ W2, W2 = W1.alloc (.cells #[.string s, .map (some w.heap.size), .int .i64 0] T1) := ⟨_, rfl⟩
  have s2 : W2.heap.size = w.heap.size + 1 + 1 := by rw [hW2, hs, s1]
  have b2 : Below W1.heap.size W1 W2 := by rw [hW2]; exact (Below.refl _ _).alloc (Nat.le_refl _) _
  have c20 : W2.cell? ⟨w.heap.size + 1, 0, none⟩ = some (.string s) := by rw [hW2, ← s1, World.cell?_alloc_mark]; rfl
  have c21 : W2.cell? ⟨w.heap.size + 1, 1, none⟩ = some (.map (some w.heap.size)) := by rw [hW2, ← s1, World.cell?_alloc_mark]; rfl
  have c22 : W2.cell? ⟨w.heap.size + 1, 2, none⟩ = some (.int .i64 ((0 : Nat) : Int)) := by rw [hW2, ← s1, World.cell?_alloc_mark]; rfl
  have f22 : W2.frozen? ⟨w.heap.size + 1, 2, none⟩ = false := by rw [hW2, ← s1, World.frozen?_alloc_mark]; simp
  rw [← hW2]
  clear hW2
  obtain ⟨W3, hW3⟩ : ∃ W3, W3 = W2.alloc (.cells #[.int .i64 (d : Nat)] T2) := ⟨_, rfl⟩
  have s3 : W3.heap.size = w.heap.size + 1 + 1 + 1 := by rw [hW3, hs, s2]
  have b3 : Below W2.heap.size W2 W3 := by rw [hW3]; exact (Below.refl _ _).alloc (Nat.le_refl _) _
  have c3 : W3.cell? ⟨w.heap.size + 1 + 1, 0, none⟩ = some (.int .i64 (d : Nat)) := by rw [hW3, ← s2, World.cell?_alloc_mark]; rfl
  have f3 : W3.frozen? ⟨w.heap.size + 1 + 1, 0, none⟩ = false := by rw [hW3, ← s2, World.frozen?_alloc_mark]; simp
  rw [← hW3]
  clear hW3
  obtain ⟨W4, hW4⟩ : ∃ W4, W4 = W3.alloc (.cells #[.int .i64 (d : Nat)] T3) := ⟨_, rfl⟩
  have s4 : W4.heap.size = w.heap.size + 1 + 1 + 1 + 1 := by rw [hW4, hs, s3]
  have b4 : Below W3.heap.size W3 W4 := by rw [hW4]; exact (Below.refl _ _).alloc (Nat.le_refl _) _
  have c4 : W4.cell? ⟨w.heap.size + 1 + 1 + 1, 0, none⟩ = some (.int .i64 (d : Nat)) := by rw [hW4, ← s3, World.cell?_alloc_mark]; rfl
  have f4 : W4.frozen? ⟨w.heap.size + 1 + 1 + 1, 0, none⟩ = false := by rw [hW4, ← s3, World.frozen?_alloc_mark]; simp
  rw [← hW4]
  clear hW4
  obtain ⟨W5, hW5⟩ : ∃ W5, W5 = W4.alloc (.cells #[.slice none 0 0] T4) := ⟨_, rfl⟩
  have s5 : W5.heap.size = w.heap.size + 1 + 1 + 1 + 1 + 1 := by rw [hW5, hs, s4]
  have b5 : Below W4.heap.size W4 W5 := by rw [hW5]; exact (Below.refl _ _).alloc (Nat.le_refl _) _
  have c5 : W5.cell? ⟨w.heap.size + 1 + 1 + 1 + 1, 0, none⟩ = some (.slice none 0 0) := by rw [hW5, ← s4, World.cell?_alloc_mark]; rfl
  have f5 : W5.frozen? ⟨w.heap.size + 1 + 1 + 1 + 1, 0, none⟩ = false := by rw [hW5, ← s4, World.frozen?_alloc_mark]; simp
  rw [← hW5]
  clear hW5
  have b45 := b4.trans (b5.mono (by omega))
  have b35 := b3.trans (b45.mono (by omega))
  have b25 := b2.trans (b35.mono (by omega))
  obtain ⟨D, hm, ho, hsh, hr⟩ := hmap
  have hg : W1.grownBy W5 none := ⟨b25.os, b25.tape, b25.output, b25.size, fun k hk _ => b25.block k hk⟩
  refine ⟨⟨?_, ?_, ?_, ?_, by omega, by omega, by omega, D, hm, ho.kept hg (by simp) (fun es clock _ x _ => by cases x.val.ownBlock <;> simp), hsh.kept hg (by omega) (by simp), hr⟩, ?_, ?_, ?_, ?_, c5, f5, World.ownsRow_nil _ _ _ _⟩
  · exact (b35.cell (by show w.heap.size + 1 < _; omega)).trans c20
  · exact (b35.cell (by show w.heap.size + 1 < _; omega)).trans c21
  · exact (b35.cell (by show w.heap.size + 1 < _; omega)).trans c22
  · exact (b35.frozen (by show w.heap.size + 1 < _; omega)).trans f22
  · exact (b45.cell (by show w.heap.size + 1 + 1 < _; omega)).trans c3
  · exact (b45.frozen (by show w.heap.size + 1 + 1 < _; omega)).trans f3
  · exact (b5.cell (by show w.heap.size + 1 + 1 + 1 < _; omega)).trans c4
  · exact (b5.frozen (by show w.heap.size + 1 + 1 + 1 < _; omega)).trans f4

theorem five {w : World} {bm gp ga gf gl base : Nat} {s : ByteArray} {r a f n : Nat} {v : Value} {l : List Tk.T} (h : PS (w.setCell ⟨ga, 0, none⟩ (.int .i64 ((a + n : Nat) : Int))) bm gp ga gf gl base s r (a + n) f v l) :
    (w.setCell ⟨ga, 0, none⟩ (.int .i64 ((a : Int) + (n : Int)))).cell? ⟨ga, 0, none⟩ = some (.int .i64 ((a : Int) + (n : Int))) ∧ (w.setCell ⟨ga, 0, none⟩ (.int .i64 ((a : Int) + (n : Int)))).cell? ⟨gf, 0, none⟩ = some (.int .i64 (f : Nat)) ∧ (w.setCell ⟨ga, 0, none⟩ (.int .i64 ((a : Int) + (n : Int)))).frozen? ⟨gf, 0, none⟩ = false :=
  ⟨h.ca, h.cf, h.ff⟩

theorem below5 (w : World) (o1 o2 o3 o4 o5 : Obj) : Below w.heap.size w (((((w.alloc o1).alloc o2).alloc o3).alloc o4).alloc o5) :=
  (((((Below.refl w.heap.size w).alloc (Nat.le_refl _) o1).alloc (by simp) o2).alloc (by simp; omega) o3).alloc (by simp; omega) o4).alloc (by simp; omega) o5

set_option maxRecDepth 4000 in
set_option maxHeartbeats 2000000 in
theorem parse_ok (dict text : ByteArray) (w : World) (hd : dict.size ≤ 256) (ht : text.size ≤ 512) :
    Calls Try.prog 30 #[.string dict, .string text] w fun e w' => Below w.heap.size w w' ∧ ∃ ad cap, e = .returned (.tuple #[.slice ad (Tk.P (dict ++ text) dict.size dict.size).length cap, .int .i64 0]) ∧ SlAt w' ad (Tk.P (dict ++ text) dict.size dict.size) := by
  have d1 : decide ((256 : Int) < (dict.size : Int)) = false := by simp; omega
  have d1' : (dict.size : Int) ≤ 256 := by omega
  have d2 : decide ((512 : Int) < (text.size : Int)) = false := by simp; omega
  have d2' : (text.size : Int) ≤ 512 := by omega
  have hmm := @run_makeMap Try.prog
  obtain ⟨i0, hi, hz0, hz1, hz2⟩ := info_parts info_tok
  go_enter Try.func30, Try.ntmps30
  go_wp2_with fail
  have hst := ps_start w (dict ++ text) dict.size 80 3 3 40
  have hB5 := below5 w (.map #[] 0) (.cells #[.string (dict ++ text), .map (some w.heap.size), .int .i64 0] 80) (.cells #[.int .i64 (dict.size : Nat)] 3) (.cells #[.int .i64 (dict.size : Nat)] 3) (.cells #[.slice none 0 0] 40)
  have O : Hid (Ord w.heap.size w.heap.size (w.heap.size + 1) (w.heap.size + 1 + 1) (w.heap.size + 1 + 1 + 1) (w.heap.size + 1 + 1 + 1 + 1) (w.heap.size + 1 + 1 + 1 + 1 + 1)) := ⟨by omega, by omega, by omega, by omega, by omega, by omega⟩
  have hsz : (dict ++ text).size = dict.size + text.size := Nm.apps _ _
  generalize hs0 : dict ++ text = s at *
  have hs1 : s.size ≤ 2000 := by omega
  have hds : dict.size ≤ s.size := by omega
  have HS0 : Hid (dict ++ text = s) := hs0
  clear hsz hs0 hmm d1 d1' d2 d2'
  generalize hd0 : dict.size = d at *
  have HD0 : Hid (dict.size = d) := hd0
  clear hd0
  generalize w.heap.size + 1 + 1 + 1 + 1 + 1 = base at *
  generalize w.heap.size + 1 + 1 + 1 + 1 = gl at *
  generalize w.heap.size + 1 + 1 + 1 = gf at *
  generalize w.heap.size + 1 + 1 = ga at *
  generalize w.heap.size + 1 = gp at *
  go_loopw [11, 12] (fun _ _ wr => ∃ (r a f : Nat) (v : Value) (l : List Tk.T), PS wr w.heap.size gp ga gf gl base s r a f v l ∧ r ≤ a ∧ f ≤ a ∧ a ≤ s.size ∧ l.length ≤ f ∧ Hid (l ++ Tk.P s a f = Tk.P s d d) ∧ Below w.heap.size w wr) (fun _ _ wr => s.size - cellInt wr ⟨ga, 0, none⟩)
  case atStart => exact ⟨0, d, d, .slice none 0 0, [], hst, by omega, by omega, hds, by simp, rfl, hB5⟩
  case round =>
    clear hst hB5
    obtain ⟨r, a, f, v, l, h, hra, hfa, has, hlf, hP, G⟩ := hrel
    have H : Hid (PS wr w.heap.size gp ga gf gl base s r a f v l) := h
    have hca := h.ca
    have hc0 := h.past.c0
    have hnoH : Hid (∀ g, v.ownBlock = some g → g < wr.heap.size) := fun g hg => (h.own.lt g hg).2
    have hws := G.size
    clear h
    by_cases hend : a < s.size
    · have d3 : decide ((a : Int) < (s.size : Int)) = true := by simp; omega
      have d3' : decide (a < s.size) = true := by simp; omega
      rcases Tk.lng_bst s.data.toList a with ⟨hb1, hb2⟩ | ⟨hb1, hb2⟩
      · have HN : Hid (l ++ Tk.P s (a + 1) f = Tk.P s d d) := by
          show _ = _
          rw [← hP.out, Tk.P_lit hend hb1]
        have HZ : Hid (Tk.lng s.data.toList a = (0, 0)) := hb2
        clear hb1 hb2 hP
        go_wp2_with (first | (go_at_call 58; go_must (refine (reach_any a H.out.past hnoH.out hra has hs1).mono ?_; rintro e w1 ⟨rfl, hk1, r1, hr1, hr2, hr3, hp1⟩; have H1 : Hid (PS w1 w.heap.size gp ga gf gl base s r1 a f v l) := H.out.reach O.out hk1 hp1; have hca1 := H1.out.ca; have HK1 : Hid (Below w.heap.size wr w1) := hk1.below (by have := O.out.p; omega) (Nat.le_refl _) (by have := O.out.p; have := O.out.a; have := O.out.f; have := O.out.l; have := O.out.s; omega) hws; have HR3 : Hid (a + 3 ≤ s.size → r1 = a) := hr3; clear hk1 hp1 hr3)) | (go_at_call 59; go_must (refine (longest_any a H1.out.past HR3.out has hs1).mono ?_; rintro e w2 ⟨rfl, k2, hw2⟩; rw [HZ.out]; have HB2 : Hid (Below w1.heap.size w1 w2) := (by show Below _ _ _; rw [hw2]; exact below_drewN (Below.refl _ _) _); have H2 : Hid (PS w2 w.heap.size gp ga gf gl base s r1 a f v l) := H1.out.below O.out HB2.out; have hca2 := H2.out.ca; have hfa2 := H2.out.fa; clear hw2)))
        have HBW : Below w.heap.size w w2 := (G.trans HK1.out).trans (HB2.out.mono (Nat.le_trans hws HK1.out.size))
        have hga : w.heap.size ≤ ga := by have := O.out.p; have := O.out.a; omega
        go_roundw
        case rel => exact ⟨r1, a + 1, f, v, l, H2.out.setAt O.out (a + 1), by omega, by omega, by omega, hlf, HN, HBW.setCell hga _⟩
        case measure =>
          have hx : (w2.setCell ⟨ga, 0, none⟩ (.int .i64 ((a : Int) + 1))).cell? ⟨ga, 0, none⟩ = some (.int .i64 ((a + 1 : Nat) : Int)) := (H2.out.setAt O.out (a + 1)).ca
          unfold cellInt
          rw [hx, hca]
          simp [intOf]
          omega
      · obtain ⟨far, n, hfn⟩ : ∃ far n, Tk.bst s.data.toList a = (far, n) := ⟨_, _, rfl⟩
        have hbo := Tk.bst_ok s.data.toList a
        rw [hfn] at hbo hb1 hb2
        simp only at hbo hb1
        have hl : s.data.toList.length = s.size := by simp
        have hmost : Tk.most s.data.toList a ≤ s.size - a ∧ Tk.most s.data.toList a ≤ 64 := by unfold Tk.most; omega
        have hn64 : n ≤ 64 := by omega
        have han : a + n ≤ s.size := by omega
        have hfar : far ≤ a := by
          rcases hbo.2 with e | e
          · have := congrArg Prod.fst e; simp at this; omega
          · omega
        have HN : Hid ((l ++ Tk.lay s f a) ++ [⟨⟨#[]⟩, (far : Nat), (n : Nat)⟩] ++ Tk.P s (a + n) (a + n) = Tk.P s d d) := by
          show _ = _
          rw [← hP.out, Tk.P_copy hend (by rw [hfn]; simp; omega), hfn]
          simp
        have hlay : (l ++ Tk.lay s f a).length ≤ a := by
          rw [List.length_append]
          unfold Tk.lay
          split <;> simp <;> omega
        have HZ : Hid (Tk.lng s.data.toList a = (far, n)) := hb2
        have d4 : decide ((n : Int) < 3) = false := by simp; omega
        have d4' : decide (n < 3) = false := by simp; omega
        have hwr : IntKind.i64.wrap ((a : Int) + (n : Int)) = (a : Int) + (n : Int) := IntWalk.i64_in _ ⟨by omega, by omega⟩
        clear hb2 hP hfn hbo hmost hl
        obtain ⟨l3, hl3⟩ : ∃ l3, l ++ Tk.lay s f a = l3 := ⟨_, rfl⟩
        rw [hl3] at HN hlay
        have HL3 : Hid (l ++ Tk.lay s f a = l3) := hl3
        clear hl3
        go_wp2_with (first | (go_at_call 58; go_must (refine (reach_any a H.out.past hnoH.out hra has hs1).mono ?_; rintro e w1 ⟨rfl, hk1, r1, hr1, hr2, hr3, hp1⟩; have H1 : Hid (PS w1 w.heap.size gp ga gf gl base s r1 a f v l) := H.out.reach O.out hk1 hp1; have hca1 := H1.out.ca; have HK1 : Hid (Below w.heap.size wr w1) := hk1.below (by have := O.out.p; omega) (Nat.le_refl _) (by have := O.out.p; have := O.out.a; have := O.out.f; have := O.out.l; have := O.out.s; omega) hws; have HR3 : Hid (a + 3 ≤ s.size → r1 = a) := hr3; clear hk1 hp1 hr3)) | (go_at_call 59; go_must (refine (longest_any a H1.out.past HR3.out has hs1).mono ?_; rintro e w2 ⟨rfl, k2, hw2⟩; rw [HZ.out]; have HB2 : Hid (Below w1.heap.size w1 w2) := (by show Below _ _ _; rw [hw2]; exact below_drewN (Below.refl _ _) _); have H2 : Hid (PS w2 w.heap.size gp ga gf gl base s r1 a f v l) := H1.out.below O.out HB2.out; have hca2 := H2.out.ca; have hfa2 := H2.out.fa; clear hw2)) | (go_at_call 57; go_must (refine (lay1_any O.out H2.out has hs1 (by omega)).mono ?_; rintro e w3 ⟨rfl, hb3, v3, h3⟩; rw [HL3.out] at h3; have H3 : Hid (PS w3 w.heap.size gp ga gf gl base s r1 a f v3 l3) := h3; have hcl3 := h3.cl; have HB3 : Hid (Below w.heap.size w2 w3) := hb3; have hbs3 := h3.bs; have hl3 : ∀ o, (w3.alloc o).cell? ⟨gl, 0, none⟩ = some v3 := fun o => (World.cell?_alloc_lt _ _ _ (World.block_lt_of_cell? w3 _ hcl3)).trans hcl3; clear h3 hb3)) | (at_builtin; go_must (refine wpList_append_lies _ rfl _ _ 40 rfl base 73 i0 (.agg #[.string ⟨#[]⟩, .int .i64 0, .int .i64 0]) 3 32 Try.underlying40 hi hz0 hz1 hz2 rfl (by decide) v3 _ _ rfl (H3.out.own.alloc _) ⟨w3.heap.size, 0, none⟩ 1 1 [.string ⟨#[]⟩, .int .i64 (far : Nat), .int .i64 (n : Nat)] rfl rfl (news3 _ _ _ _ _) (one3 _ _ _ rfl rfl rfl) (by decide) (ml_le (by omega)) (by omega) (by simp; omega) _ rfl ?_; intro g cp w4 hown4 hgrow4 hat4 hlt4; obtain ⟨p4, c4, f4⟩ := H3.out.laid (t := ⟨⟨#[]⟩, (far : Nat), (n : Nat)⟩) O.out hown4 ((World.grownBy_alloc w3 _ _).trans hgrow4) (hat4.imp id (fun e => by rw [e]; simp)); have H4 : Hid _ := p4; have hca4 := p4.ca; have hfa4 := p4.fa; have p5 := p4.setAt O.out (a + n); have H5 : Hid _ := p5; obtain ⟨hca5, hcf5, hff5⟩ := five p5; clear p4 p5)))
        have HBW : Below w.heap.size w w2 := (G.trans HK1.out).trans (HB2.out.mono (Nat.le_trans hws HK1.out.size))
        have HB4 : Below w.heap.size w w4 := ((HBW.trans HB3.out).grown ((World.grownBy_alloc w3 _ _).trans hgrow4) (Nat.le_trans HBW.size HB3.out.size) (fun k hk => by have := (H3.out.own.lt k hk).1; have := O.out.p; have := O.out.a; have := O.out.f; have := O.out.l; have := O.out.s; omega))
        have hga : w.heap.size ≤ ga := by have := O.out.p; have := O.out.a; omega
        have hgf : w.heap.size ≤ gf := by have := O.out.f; omega
        have hgl : w.heap.size ≤ gl := by have := O.out.l; omega
        have H6 := H5.out.setFrom O.out (a + n)
        rw [Int.natCast_add] at H6
        go_roundw
        case rel => exact ⟨r1, a + n, a + n, _, l3 ++ [⟨⟨#[]⟩, (far : Nat), (n : Nat)⟩], H6, by omega, by omega, by omega, by simp; omega, HN, ((HB4.setCell hgl _).setCell hga _).setCell hgf _⟩
        case measure =>
          have hx := H6.ca
          rw [Int.natCast_add] at hx
          unfold cellInt
          rw [hx, hca]
          simp [intOf]
          omega
    · have d3 : decide ((a : Int) < (s.size : Int)) = false := by simp; omega
      have d3' : decide (a < s.size) = false := by simp; omega
      have HE : Hid (l ++ Tk.lay s f a = Tk.P s d d) := by
        show _ = _
        rw [← hP.out, Tk.P_end (by omega)]
      clear hP
      go_wp2_with (first | (go_at_call 57; go_must (refine (lay1_any O.out H.out has hs1 (by omega)).mono ?_; rintro e w3 ⟨rfl, hb3, v3, h3⟩; have H3 : Hid (PS w3 w.heap.size gp ga gf gl base s r a f v3 (l ++ Tk.lay s f a)) := h3; have hcl3 := h3.cl; have HB3 : Hid (Below w.heap.size wr w3) := hb3; clear h3 hb3)))
      go_ret2
      obtain ⟨ad, cap, hv, hsl⟩ := sl_of_row H3.out.own
      refine ⟨G.trans HB3.out, ad, cap, ?_, ?_⟩
      · rw [HS0.out, HD0.out, ← HE.out, ← hv]
        rfl
      · rw [HS0.out, HD0.out, ← HE.out]
        exact hsl
end Go.Proofs.Ytbjbjbpgmojcbaa
