/- A part of the proof: what it leans on. -/
import Derived.Deep.Slices
import Derived.SizedLaws
import Derived.Carry
import Derived.ChangeSame
import Derived.Test.YtbjbjbpgmojcbabGreatBook08
import Derived.Test.YtbjbjbpgmojcbabGreatBook09
import Derived.Test.YtbjbjbpgmojcbabGreatBook11
import Derived.Test.YtbjbjbpgmojcbabGreatBook12
import Derived.Test.YtbjbjbpgmojcbabGreatBook13
namespace Go.Proofs.YtbjbjbpgmojcbabGreat
open Go.RowKit
set_option maxRecDepth 4000 in
set_option maxHeartbeats 2000000 in
theorem textAt_any (ad af : Option Addr) (cd cf : Nat) (a : Ar.A) (i : Nat) (w : World) (h : ArV w ad af a) (hs : SaneA a) (hc : Ar.chk a = 0) (hi : i < a.files.length) :
    Calls Tryz.prog 65 #[av ad cd af cf a, .int .i64 (i : Nat)] w fun e w' => e = .returned (.string (Ar.tx a.dicts (Ar.fa a.files i))) ∧ Below w.heap.size w w' := by
  have hb := fun o => (Below.refl w.heap.size w).alloc (Nat.le_refl _) o
  obtain ⟨m1, m2, m3⟩ := Ar.many_iff.1 (Ar.chk_zero.1 hc).1
  have hok := Ar.okAt_parts (Ar.gdK_at (Ar.chk_zero.1 hc).2 hi)
  have hh : Ar.has a.dicts (Ar.fa a.files i).dict = true := (Bool.and_eq_true _ _ ▸ hok.2.2 : _ ∧ _).1
  have hup : (Ar.up a.dicts (Ar.fa a.files i)).2 = 0 := Ar.okf_up hok.2.2
  have C1 : Hid (∀ w', Below w.heap.size w w' → Calls Tryz.prog 63 #[av ad cd af cf a, .int .i64 (Ar.fa a.files i).dict] w' fun e w2 => e = .returned (.string (Ar.dct a.dicts (Ar.fa a.files i).dict)) ∧ Below w'.heap.size w' w2) := fun w' h9 => dictOf_any ad af cd cf a _ w' (h.ds.below h9) hs.nd hh
  have C2 : Hid (∀ w', Calls Tryz.prog 62 #[.string (Ar.dct a.dicts (Ar.fa a.files i).dict), .string (Ar.fa a.files i).blk] w' fun e w2 => UnpSaid (Ar.up a.dicts (Ar.fa a.files i)) w' e w2) := fun w' => unpackOf_any _ _ w' (Ar.dct_size (Ar.chk_zero.1 hc).1 _) (hs.bk i)
  obtain ⟨b, off, rfl, hbl, hcell⟩ := h.fs.at hi
  obtain ⟨c0, c1, c2, c3, c4⟩ := hcell
  unfold Ar.tx
  unfold UnpSaid at C2
  unfold av at C1 ⊢
  generalize Ar.dct a.dicts (Ar.fa a.files i).dict = X at *
  generalize (Ar.fa a.files i).dict = f1 at *
  generalize (Ar.fa a.files i).blk = f4 at *
  obtain ⟨⟨T, E⟩, hTE⟩ : ∃ p, Ar.up a.dicts (Ar.fa a.files i) = p := ⟨_, rfl⟩
  rw [hTE] at hup C2 ⊢
  simp only at hup C2 ⊢
  subst hup
  have C3 : Hid (∀ w', Calls Tryz.prog 62 #[.string X, .string f4] w' fun e w2 => e = .returned (.tuple #[.string T, .bool true]) ∧ Below w'.heap.size w' w2) := fun w' => (C2.out w').mono (by
    rintro e w2 ⟨x, rfl, h1, _, G⟩
    exact ⟨by rw [h1 rfl]; rfl, G⟩)
  clear C2
  clear hTE hok hh h hs hc c0 c2 c3
  generalize a.dicts.length = D at *
  generalize a.files.length = N at *
  have hii : (i : Int) < (N : Int) := by omega
  have hNi : (N : Int) ≤ 12 := by omega
  go_enter Tryz.func65, Tryz.ntmps65
  go_wp2_with fail
  have a0 : (w.alloc (.cells #[.slice ad D cd, .slice (some ⟨b, off, none⟩) N cf] 25 (0, 0))).cell? ⟨w.heap.size, 0, none⟩ = some (.slice ad D cd) := World.cell?_alloc_new _ _ _ 0
  have a1 : (w.alloc (.cells #[.slice ad D cd, .slice (some ⟨b, off, none⟩) N cf] 25 (0, 0))).cell? ⟨w.heap.size, 1, none⟩ = some (.slice (some ⟨b, off, none⟩) N cf) := World.cell?_alloc_new _ _ _ 1
  have B1 := hb (.cells #[.slice ad D cd, .slice (some ⟨b, off, none⟩) N cf] 25 (0, 0))
  have hz : w.heap.size < (w.alloc (.cells #[.slice ad D cd, .slice (some ⟨b, off, none⟩) N cf] 25 (0, 0))).heap.size := by simp
  generalize (w.alloc (.cells #[.slice ad D cd, .slice (some ⟨b, off, none⟩) N cf] 25 (0, 0))) = w1 at *
  have k1 := (B1.cell (p := ⟨b, off + i * 5 + 1, none⟩) hbl).trans c1
  have k4 := (B1.cell (p := ⟨b, off + i * 5 + 4, none⟩) hbl).trans c4
  have hbl1 : b < w1.heap.size := Nat.lt_of_lt_of_le hbl B1.size
  have HS : Hid (∀ w', Below w1.heap.size w1 w' → Below w1.heap.size w1 w' ∧ w'.cell? ⟨w.heap.size, 0, none⟩ = some (.slice ad D cd) ∧ w'.cell? ⟨w.heap.size, 1, none⟩ = some (.slice (some ⟨b, off, none⟩) N cf) ∧ w'.cell? ⟨b, off + i * 5 + 1, none⟩ = some (.int .i64 f1) ∧ w'.cell? ⟨b, off + i * 5 + 4, none⟩ = some (.string f4)) := fun w' h9 =>
    ⟨h9, (h9.cell (p := ⟨w.heap.size, 0, none⟩) hz).trans a0, (h9.cell (p := ⟨w.heap.size, 1, none⟩) hz).trans a1, (h9.cell (p := ⟨b, off + i * 5 + 1, none⟩) hbl1).trans k1, (h9.cell (p := ⟨b, off + i * 5 + 4, none⟩) hbl1).trans k4⟩
  have C1' : Hid (∀ w', Below w1.heap.size w1 w' → Calls Tryz.prog 63 #[.agg #[.slice ad D cd, .slice (some ⟨b, off, none⟩) N cf], .int .i64 f1] w' fun e w2 => e = .returned (.string X) ∧ Below w'.heap.size w' w2) := fun w' h9 => C1.out w' (bch B1 h9 (Nat.le_refl _))
  clear a0 a1 k1 k4 c1 c4 C1
  go_region_held3 (fun w' => Below w1.heap.size w1 w' ∧ w'.cell? ⟨w.heap.size, 0, none⟩ = some (.slice ad D cd) ∧ w'.cell? ⟨w.heap.size, 1, none⟩ = some (.slice (some ⟨b, off, none⟩) N cf) ∧ w'.cell? ⟨b, off + i * 5 + 1, none⟩ = some (.int .i64 f1) ∧ w'.cell? ⟨b, off + i * 5 + 4, none⟩ = some (.string f4))
    (first | (exact HS.out _ ((Below.refl _ _).drew)) | (exact HS.out _ (bch (And.left (by assumption)) G6 (Nat.le_refl _))) | (exact HS.out _ (bch (And.left (by assumption)) G5 (Nat.le_refl _))))
    (first
      | (go_at_call 63; refine (C1'.out _ ?_).mono ?_; exact And.left (by assumption); rintro e w5 ⟨rfl, G5⟩)
      | (go_at_call 62; refine (C3.out _).mono ?_; rintro e w6 ⟨rfl, G6⟩))
  all_goals
    have B6 : Below w.heap.size w w6 := bch B1 (bch (bch ((Below.refl _ _).drew) G5 (Nat.le_refl _)) G6 (Nat.le_refl _)) (Nat.le_refl _)
    go_wp2_with fail
    go_ret
    exact ⟨rfl, B6⟩
end Go.Proofs.YtbjbjbpgmojcbabGreat
namespace Go.Proofs.YtbjbjbpgmojcbabGreat
open Go.RowKit
set_option maxRecDepth 4000 in
set_option maxHeartbeats 2000000 in
theorem getOf_from (ad af : Option Addr) (cd cf : Nat) (a : Ar.A) (name : ByteArray) (w : World) (h : ArV w ad af a) (hs : SaneA a)
    (CA : ∀ w', Below w.heap.size w w' → Calls Tryz.prog 19 #[av ad cd af cf a] w' fun e w2 => e = .returned (.int .i64 (Ar.chk a)) ∧ Below w'.heap.size w' w2) :
    Calls Tryz.prog 23 #[av ad cd af cf a, .string name] w fun e w' => e = .returned (.tuple #[.string (Ar.getT a name), .int .i64 (Ar.getE a name)]) ∧ Below w.heap.size w w' := by
  have hb := fun o => (Below.refl w.heap.size w).alloc (Nat.le_refl _) o
  have C1 : Hid (∀ w', Below w.heap.size w w' → Calls Tryz.prog 19 #[av ad cd af cf a] w' fun e w2 => e = .returned (.int .i64 (Ar.chk a)) ∧ Below w'.heap.size w' w2) := CA
  clear CA
  by_cases hc : Ar.chk a = 0
  · obtain ⟨m1, m2, m3⟩ := Ar.many_iff.1 (Ar.chk_zero.1 hc).1
    have hfat := Ar.fat_is (Ar.chk_srt hc) name
    have C2 : Hid (∀ w', Below w.heap.size w w' → Calls Tryz.prog 59 #[av ad cd af cf a, .string name] w' fun e w2 => e = .returned (.int .i64 (match Ar.fatK a.files name a.files.length with | none => -1 | some i => (i : Int))) ∧ Below w'.heap.size w' w2) := fun w' h9 => fileAt_any ad af cd cf a name w' (h.fs.below h9) m2
    rw [hfat] at C2
    rw [hc] at C1
    cases hT : Ar.there a.files name with
    | false =>
      have e5 : Ar.getE a name = 5 := by unfold Ar.getE; rw [if_neg (fun h9 => h9 hc), if_neg (by rw [hT]; decide)]
      have eT : Ar.getT a name = ⟨#[]⟩ := by unfold Ar.getT; rw [e5, if_neg (by decide)]
      rw [e5, eT]
      rw [hT, if_neg (by decide)] at C2
      simp only at C2
      unfold av at C1 C2 ⊢
      clear h hs hc hfat hT e5 eT m3
      generalize a.dicts.length = D at *
      generalize a.files.length = N at *
      go_enter Tryz.func23, Tryz.ntmps23
      go_wp2_with fail
      refine (C1.out _ (hb _)).mono ?_
      rintro e w1 ⟨rfl, G⟩
      have a0 := (G.cell (p := ⟨w.heap.size, 0, none⟩) (by simp)).trans (World.cell?_alloc_new _ _ _ 0)
      have a1 := (G.cell (p := ⟨w.heap.size, 1, none⟩) (by simp)).trans (World.cell?_alloc_new _ _ _ 1)
      simp at a0 a1
      have B1 := bch (hb _) G (Nat.le_refl _)
      clear G
      go_wp2_with fail
      refine (C2.out _ B1).mono ?_
      rintro e w2 ⟨rfl, G⟩
      go_wp2_with fail
      go_ret2
      exact ⟨rfl, bch B1 G (Nat.le_refl _)⟩
    | true =>
      have hp := (Ar.there_parts hT).1
      have e5 : Ar.getE a name = 0 := by unfold Ar.getE; rw [if_neg (fun h9 => h9 hc), if_pos hT]
      have eT : Ar.getT a name = Ar.tx a.dicts (Ar.fa a.files (Ar.pos a.files name)) := by unfold Ar.getT; rw [if_pos e5]
      rw [e5, eT]
      rw [hT, if_pos rfl] at C2
      simp only at C2
      have C3 : Hid (∀ w', Below w.heap.size w w' → Calls Tryz.prog 65 #[av ad cd af cf a, .int .i64 (Ar.pos a.files name : Nat)] w' fun e w2 => e = .returned (.string (Ar.tx a.dicts (Ar.fa a.files (Ar.pos a.files name)))) ∧ Below w'.heap.size w' w2) := fun w' h9 => textAt_any ad af cd cf a _ w' (h.below h9) hs hc hp
      generalize Ar.tx a.dicts (Ar.fa a.files (Ar.pos a.files name)) = T at *
      generalize Ar.pos a.files name = p at *
      unfold av at C1 C2 C3 ⊢
      clear h hs hc hfat hT e5 eT m3
      generalize a.dicts.length = D at *
      generalize a.files.length = N at *
      have hpn : ¬ (p : Int) < 0 := by omega
      have dpn : decide ((p : Int) < 0) = false := decide_eq_false hpn
      go_enter Tryz.func23, Tryz.ntmps23
      go_wp2_with fail
      refine (C1.out _ (hb _)).mono ?_
      rintro e w1 ⟨rfl, G⟩
      have a0 := (G.cell (p := ⟨w.heap.size, 0, none⟩) (by simp)).trans (World.cell?_alloc_new _ _ _ 0)
      have a1 := (G.cell (p := ⟨w.heap.size, 1, none⟩) (by simp)).trans (World.cell?_alloc_new _ _ _ 1)
      simp at a0 a1
      have hz1 : w.heap.size < w1.heap.size := World.block_lt_of_cell? w1 _ a0
      have B1 := bch (hb _) G (Nat.le_refl _)
      clear G
      go_wp2_with fail
      refine (C2.out _ B1).mono ?_
      rintro e w2 ⟨rfl, G⟩
      have k0 := (G.cell (p := ⟨w.heap.size, 0, none⟩) hz1).trans a0
      have k1 := (G.cell (p := ⟨w.heap.size, 1, none⟩) hz1).trans a1
      have B2 := bch B1 G (Nat.le_refl _)
      clear G a0 a1
      go_wp2_with fail
      refine (C3.out _ B2).mono ?_
      rintro e w3 ⟨rfl, G⟩
      go_wp2_with fail
      go_ret2
      exact ⟨rfl, bch B2 G (Nat.le_refl _)⟩
  · have e : Ar.getE a name = Ar.chk a := by unfold Ar.getE; rw [if_pos hc]
    have e2 : Ar.getT a name = ⟨#[]⟩ := by unfold Ar.getT; rw [e, if_neg hc]
    rw [e, e2]
    unfold av at C1 ⊢
    generalize Ar.chk a = E at *
    generalize a.dicts.length = D at *
    generalize a.files.length = N at *
    have e1 : (E != 0) = true := by simpa using hc
    have e3 : (E == 0) = false := by simpa using hc
    clear h hs e e2
    go_enter Tryz.func23, Tryz.ntmps23
    go_wp2_with fail
    refine (C1.out _ (hb _)).mono ?_
    rintro e w1 ⟨rfl, G⟩
    go_wp2_with fail
    go_ret2
    exact ⟨rfl, bch (hb _) G (Nat.le_refl _)⟩
end Go.Proofs.YtbjbjbpgmojcbabGreat
namespace Go.Proofs.YtbjbjbpgmojcbabGreat
open Go.RowKit
theorem get_small {a : Ar.A} {name : ByteArray} (h9 : Ar.getE a name = 0) : (Ar.getT a name).size ≤ 512 := by
  obtain ⟨h1, h2⟩ := Ar.getE_zero h9
  unfold Ar.getT
  rw [if_pos h9]
  have h3 := (Ar.there_parts h2).1
  exact Ar.tx_size h1 (by rw [Ar.fa_get h3]; exact List.getElem_mem h3)
set_option maxRecDepth 4000 in
set_option maxHeartbeats 2000000 in
theorem rangeOf_from (ad af : Option Addr) (cd cf : Nat) (a : Ar.A) (name : ByteArray) (i n : Int) (w : World) (h : ArV w ad af a) (hs : SaneA a) (hi : -9223372036854775808 ≤ i ∧ i ≤ 9223372036854775807) (hn : -9223372036854775808 ≤ n ∧ n ≤ 9223372036854775807)
    (CA : ∀ w', Below w.heap.size w w' → Calls Tryz.prog 19 #[av ad cd af cf a] w' fun e w2 => e = .returned (.int .i64 (Ar.chk a)) ∧ Below w'.heap.size w' w2) :
    Calls Tryz.prog 24 #[av ad cd af cf a, .string name, .int .i64 i, .int .i64 n] w fun e w' => e = .returned (.tuple #[.string (Ar.rngT a name i n), .int .i64 (Ar.rngE a name i n)]) ∧ Below w.heap.size w w' := by
  have hb := fun o => (Below.refl w.heap.size w).alloc (Nat.le_refl _) o
  have c1 := fun o => getOf_from ad af cd cf a name (w.alloc o) (h.below (hb o)) hs (fun w' h9 => CA w' (bch (hb o) h9 (Nat.le_refl _)))
  have hT : Ar.getE a name = 0 → (Ar.getT a name).size ≤ 512 := fun h9 => get_small h9
  have R1 := fun hE h => Ar.rng_yes (a := a) (name := name) (i := i) (n := n) hE h
  have R2 := fun hE h => Ar.rng_no (a := a) (name := name) (i := i) (n := n) hE h
  have R3 := fun hE => Ar.rng_bad (a := a) (name := name) (i := i) (n := n) hE
  generalize Ar.rngE a name i n = RE at *
  generalize Ar.rngT a name i n = RT at *
  unfold av at c1 ⊢
  generalize Ar.getE a name = E at *
  generalize Ar.getT a name = T at *
  generalize a.dicts.length = D at *
  generalize a.files.length = F at *
  clear h hs CA
  by_cases hE : E = 0
  · subst hE
    have hT5 := hT rfl
    have hTi : (T.size : Int) ≤ 512 := by omega
    have W1 := fun w => within_any i 0 (T.size : Int) w
    by_cases h1 : 0 ≤ i ∧ i ≤ (T.size : Int)
    · have hw : IntKind.i64.wrap ((T.size : Int) - i) = (T.size : Int) - i := IntWalk.i64_in _ ⟨by omega, by omega⟩
      have W2 := fun w => within_any n 0 ((T.size : Int) - i) w
      rw [decide_eq_true h1] at W1
      by_cases h2 : 0 ≤ n ∧ n ≤ (T.size : Int) - i
      · rw [decide_eq_true h2] at W2
        obtain ⟨rfl, rfl⟩ := R1 rfl (by omega)
        clear R1 R2 R3
        obtain ⟨I, rfl⟩ : ∃ I : Nat, i = (I : Int) := ⟨i.toNat, by omega⟩
        obtain ⟨N, rfl⟩ : ∃ N : Nat, n = (N : Int) := ⟨n.toNat, by omega⟩
        rw [Int.toNat_natCast, Int.toNat_natCast]
        have h4 : (I : Int) + (N : Int) ≤ (T.size : Int) := by omega
        have h5 : (I : Int) ≤ (I : Int) + (N : Int) := by omega
        go_enter Tryz.func24, Tryz.ntmps24
        go_wp2_with fail
        refine (c1 _).mono ?_
        rintro e w1 ⟨rfl, G⟩
        go_wp2_with fail
        refine (W1 _).mono ?_
        rintro e w2 ⟨rfl, rfl⟩
        go_wp2_with fail
        refine (W2 _).mono ?_
        rintro e w3 ⟨rfl, rfl⟩
        go_wp2_with fail
        go_ret2
        exact ⟨rfl, bch (hb _) G (Nat.le_refl _)⟩
      · rw [decide_eq_false h2] at W2
        obtain ⟨rfl, rfl⟩ := R2 rfl (by omega)
        go_enter Tryz.func24, Tryz.ntmps24
        go_wp2_with fail
        refine (c1 _).mono ?_
        rintro e w1 ⟨rfl, G⟩
        go_wp2_with fail
        refine (W1 _).mono ?_
        rintro e w2 ⟨rfl, rfl⟩
        go_wp2_with fail
        refine (W2 _).mono ?_
        rintro e w3 ⟨rfl, rfl⟩
        go_wp2_with fail
        go_ret2
        exact ⟨rfl, bch (hb _) G (Nat.le_refl _)⟩
    · rw [decide_eq_false h1] at W1
      obtain ⟨rfl, rfl⟩ := R2 rfl (by omega)
      go_enter Tryz.func24, Tryz.ntmps24
      go_wp2_with fail
      refine (c1 _).mono ?_
      rintro e w1 ⟨rfl, G⟩
      go_wp2_with fail
      refine (W1 _).mono ?_
      rintro e w2 ⟨rfl, rfl⟩
      go_wp2_with fail
      go_ret2
      exact ⟨rfl, bch (hb _) G (Nat.le_refl _)⟩
  · obtain ⟨hRE, rfl⟩ := R3 hE
    rw [hRE]
    clear hRE R1 R2 R3
    have e1 : (E != 0) = true := by simpa using hE
    have e2 : (E == 0) = false := by simpa using hE
    go_enter Tryz.func24, Tryz.ntmps24
    go_wp2_with fail
    refine (c1 _).mono ?_
    rintro e w1 ⟨rfl, G⟩
    go_wp2_with fail
    go_ret2
    exact ⟨rfl, bch (hb _) G (Nat.le_refl _)⟩
end Go.Proofs.YtbjbjbpgmojcbabGreat
namespace Go.Proofs.YtbjbjbpgmojcbabGreat
open Go.ChangeShapes Go.WideShapes Go.RowKit Go.Deep
theorem weights_all {H : Type} {P : Program} {e : TypeId} {f : Nat → DataW H} {n i : Nat} (hi : i < n) {m : Nat} (h : m ∈ (f i).weights P e) : m ∈ DataW.weightsAll P e ((List.range n).map f) := by
  have gen : ∀ (l : List (DataW H)) (d : DataW H), d ∈ l → m ∈ d.weights P e → m ∈ DataW.weightsAll P e l := by
    intro l
    induction l with
    | nil => intro d h; simp at h
    | cons a l ih =>
      intro d hd hm
      rw [DataW.weightsAll, List.mem_append]
      rcases List.mem_cons.1 hd with rfl | hd
      · exact .inl hm
      · exact .inr (ih d hd hm)
  exact gen _ (f i) (List.mem_map.2 ⟨i, List.mem_range.2 hi, rfl⟩) h
theorem row_lt {W : World} {a : Addr} {n : Nat} {ps : List MemPlace} (h : ∀ x ∈ MemPlace.row a (n + 1) ++ ps, x.block < W.heap.size) : a.block < W.heap.size := by
  refine h (.cell a.block (a.off + 0)) ?_
  rw [List.mem_append]
  left
  exact List.mem_map.2 ⟨0, List.mem_range.2 (by omega), rfl⟩
end Go.Proofs.YtbjbjbpgmojcbabGreat
namespace Go.Proofs.YtbjbjbpgmojcbabGreat
open Go.ChangeShapes Go.WideShapes Go.RowKit Go.Deep
theorem tx_laid : laidOutB Tryz.prog = true := by kernel_rfl
theorem tx_cells : Tryz.prog.cellsOf 9 = 1 := by kernel_rfl
theorem tx_bytes : Tryz.prog.bytesOf 9 = 16 := by kernel_rfl
theorem open_texts {H : Type} {enc : TypeId × Value → H} {W : World} {a : Option Addr} {len cap fuel : Nat} {d : DataW H} {ps : List MemPlace}
    (hf : DataW.trod enc Tryz.prog W 0 (fun _ => true) true fuel 22 [.slice a len cap] = some (d, ps))
    (hsz : ∀ n ∈ d.weights Tryz.prog 22, n ≤ reachBytes) :
    ∃ l : List ByteArray, len = l.length ∧ TxSl W a l ∧ l.length ≤ 8796093022208 ∧ (∀ i, (Tr.xa l i).size ≤ 140737488355328) := by
  have lt : ∀ x ∈ ps, x.block < W.heap.size := DataW.trod_lt fuel _ _ _ hf
  rcases open_slice1 Tryz.underlying22 tx_cells hf with ⟨hcs, _⟩ | ⟨x, len', cap', m, n, V, D, Pl, hcs, _, hl, hm, hmm, hx, each⟩
  · simp at hcs
    obtain ⟨rfl, rfl, rfl⟩ := hcs
    exact ⟨[], rfl, .inl rfl, by simp, fun i => by show 0 ≤ _; omega⟩
  · simp at hcs
    obtain ⟨rfl, rfl, rfl⟩ := hcs
    simp only [if_true] at hmm
    subst hmm
    have hx1 := congrArg Prod.fst hx
    have hx2 := congrArg Prod.snd hx
    dsimp only at hx1 hx2
    rw [hx1] at hsz
    rw [hx2] at lt
    clear hx hx1 hx2 hf
    have key : ∀ i, i < m → ∃ q : ByteArray, W.cell? (x.add i) = some (.string q) ∧ D i = .lit (.string q.data.toList) := by
      intro i hi
      obtain ⟨h1, h2⟩ := each i hi
      obtain ⟨s, hs0, hy0, _⟩ := DataW.trod_string Tryz.underlying9 h2
      simp only [List.cons.injEq, and_true] at hs0
      rw [hs0] at h1
      exact ⟨s, h1, congrArg Prod.fst hy0⟩
    have : Inhabited ByteArray := ⟨⟨#[]⟩⟩
    obtain ⟨q, hq⟩ := choose_lt key
    have hlen : ((List.range len).map q).length = len := by simp
    have hxa : ∀ i, i < len → Tr.xa ((List.range len).map q) i = q i := fun i hi => by simp [Tr.xa, hi]
    refine ⟨(List.range len).map q, hlen.symm, ?_, ?_, ?_⟩
    · by_cases h0 : len = 0
      · left; simp [h0]
      · right
        obtain ⟨b, off, sp⟩ := x
        have hc0 := (hq 0 (by omega)).1
        have hsp : sp = none := by simpa [Addr.add] using World.cell?_spot hc0
        subst hsp
        have hb : b < W.heap.size := by
          rw [show m = (m - 1) + 1 by omega] at lt
          exact row_lt lt
        refine ⟨b, off, rfl, hb, fun i hi => ?_⟩
        rw [hlen] at hi
        rw [hxa i hi, ← (hq i (by omega)).1, add_plain]
    · rw [hlen]
      have := hsz ((((List.range len).map D).length + ((List.range (m - len)).map fun j => D (len + j)).length) * Tryz.prog.bytesOf 9) (by rw [DataW.weights, Tryz.underlying22]; exact List.mem_cons_self ..)
      rw [tx_bytes] at this
      simp [reachBytes] at this
      omega
    · intro i
      by_cases hi : i < len
      · rw [hxa i hi]
        have hd := (hq i (by omega)).2
        have hw : (q i).data.toList.length ∈ (D i).weights Tryz.prog 9 := by
          rw [hd, DataW.weights]
          exact List.mem_singleton.2 rfl
        have := hsz _ (by rw [DataW.weights, Tryz.underlying22]; exact List.mem_cons_of_mem _ (List.mem_append.2 (.inl (weights_all hi hw))))
        have h2 : (q i).data.toList.length = (q i).size := by simp
        rw [h2] at this
        simp [reachBytes] at this
        omega
      · have : Tr.xa ((List.range len).map q) i = ⟨#[]⟩ := by simp [Tr.xa, show len ≤ i by omega]
        rw [this]
        show 0 ≤ _
        omega
end Go.Proofs.YtbjbjbpgmojcbabGreat
namespace Go.Proofs.YtbjbjbpgmojcbabGreat
open Go.ChangeShapes Go.WideShapes Go.RowKit Go.Deep
theorem fl_cells : Tryz.prog.cellsOf 46 = 5 := by kernel_rfl
theorem fl_bytes : Tryz.prog.bytesOf 46 = 56 := by kernel_rfl
theorem fl_str : Tryz.prog.cellsOf 9 = 1 := by kernel_rfl
theorem fl_int : Tryz.prog.cellsOf 3 = 1 := by kernel_rfl
theorem ar_cells : Tryz.prog.cellsOf 25 = 2 := by kernel_rfl
theorem ar_sl1 : Tryz.prog.cellsOf 22 = 1 := by kernel_rfl
theorem ar_sl2 : Tryz.prog.cellsOf 23 = 1 := by kernel_rfl
def fieldsIn : Option TypeDesc → List (TypeId × Nat)
  | some (.struct fs) => fs.toList.map (fun f => (f.type, f.offset))
  | _ => []
theorem fields5 {u : Option TypeDesc} {a0 a1 a2 a3 a4 : TypeId × Nat} (h : fieldsIn u = [a0, a1, a2, a3, a4]) : ∃ f0 f1 f2 f3 f4 : Field, u = some (.struct #[f0, f1, f2, f3, f4]) ∧ (f0.type = a0.1 ∧ f0.offset = a0.2) ∧ (f1.type = a1.1 ∧ f1.offset = a1.2) ∧ (f2.type = a2.1 ∧ f2.offset = a2.2) ∧ (f3.type = a3.1 ∧ f3.offset = a3.2) ∧ (f4.type = a4.1 ∧ f4.offset = a4.2) := by
  unfold fieldsIn at h
  split at h
  · rename_i fs0
    obtain ⟨fs⟩ := fs0
    match fs, h with
    | [f0, f1, f2, f3, f4], h =>
      simp at h
      obtain ⟨rfl, rfl, rfl, rfl, rfl⟩ := h
      exact ⟨f0, f1, f2, f3, f4, rfl, ⟨rfl, rfl⟩, ⟨rfl, rfl⟩, ⟨rfl, rfl⟩, ⟨rfl, rfl⟩, ⟨rfl, rfl⟩⟩
    | [], h => simp at h
    | [_], h => simp at h
    | [_, _], h => simp at h
    | [_, _, _], h => simp at h
    | [_, _, _, _], h => simp at h
    | _ :: _ :: _ :: _ :: _ :: _ :: _, h => simp at h
  · simp at h
theorem fields2 {u : Option TypeDesc} {a0 a1 : TypeId × Nat} (h : fieldsIn u = [a0, a1]) : ∃ f0 f1 : Field, u = some (.struct #[f0, f1]) ∧ (f0.type = a0.1 ∧ f0.offset = a0.2) ∧ (f1.type = a1.1 ∧ f1.offset = a1.2) := by
  unfold fieldsIn at h
  split at h
  · rename_i fs0
    obtain ⟨fs⟩ := fs0
    match fs, h with
    | [f0, f1], h =>
      simp at h
      obtain ⟨rfl, rfl⟩ := h
      exact ⟨f0, f1, rfl, ⟨rfl, rfl⟩, ⟨rfl, rfl⟩⟩
    | [], h => simp at h
    | [_], h => simp at h
    | _ :: _ :: _ :: _, h => simp at h
  · simp at h
theorem fl_fields : fieldsIn (Tryz.prog.underlying 46) = [(9, 0), (3, 1), (3, 2), (3, 3), (9, 4)] := by kernel_rfl
theorem ar_fields : fieldsIn (Tryz.prog.underlying 25) = [(22, 0), (23, 1)] := by kernel_rfl
theorem len5 {α : Type} {l : List α} (h : l.length = 5) : ∃ a b c d e, l = [a, b, c, d, e] := by
  match l, h with
  | [a, b, c, d, e], _ => exact ⟨a, b, c, d, e, rfl⟩
theorem len2 {α : Type} {l : List α} (h : l.length = 2) : ∃ a b, l = [a, b] := by
  match l, h with
  | [a, b], _ => exact ⟨a, b, rfl⟩
theorem open_files {H : Type} {enc : TypeId × Value → H} {W : World} {a : Option Addr} {len cap fuel : Nat} {d : DataW H} {ps : List MemPlace}
    (hf : DataW.trod enc Tryz.prog W 0 (fun _ => true) true fuel 23 [.slice a len cap] = some (d, ps))
    (hsz : ∀ n ∈ d.weights Tryz.prog 23, n ≤ reachBytes) :
    ∃ l : List Ar.F, len = l.length ∧ FlSl W a l ∧ l.length ≤ 8796093022208 ∧ (∀ f ∈ l, f.name.size ≤ 140737488355328 ∧ f.blk.size ≤ 140737488355328) := by
  obtain ⟨f0, f1, f2, f3, f4, hs, ⟨t0, o0⟩, ⟨t1, o1⟩, ⟨t2, o2⟩, ⟨t3, o3⟩, ⟨t4, o4⟩⟩ := fields5 fl_fields
  have lt : ∀ x ∈ ps, x.block < W.heap.size := DataW.trod_lt fuel _ _ _ hf
  rcases open_slice Tryz.underlying23 hf with ⟨hcs, _⟩ | ⟨x, len', cap', m, n, D, Pl, hcs, _, hl, hm, hmm, hx, each⟩
  · simp at hcs
    obtain ⟨rfl, rfl, rfl⟩ := hcs
    exact ⟨[], rfl, .inl rfl, by simp, by simp⟩
  · simp at hcs
    obtain ⟨rfl, rfl, rfl⟩ := hcs
    simp only [if_true] at hmm
    subst hmm
    have hx1 := congrArg Prod.fst hx
    have hx2 := congrArg Prod.snd hx
    dsimp only at hx1 hx2
    rw [hx1] at hsz
    rw [hx2] at lt
    clear hx hx1 hx2 hf
    have key : ∀ i, i < m → ∃ q : Ar.F, W.cell? (x.add (i * 5)) = some (.string q.name) ∧ W.cell? (x.add (i * 5 + 1)) = some (.int .i64 q.dict) ∧ W.cell? (x.add (i * 5 + 2)) = some (.int .i64 q.size) ∧ W.cell? (x.add (i * 5 + 3)) = some (.int .i64 q.sum) ∧ W.cell? (x.add (i * 5 + 4)) = some (.string q.blk) ∧ D i = .agg [.lit (.string q.name.data.toList), .lit (.int .i64 q.dict), .lit (.int .i64 q.size), .lit (.int .i64 q.sum), .lit (.string q.blk.data.toList)] := by
      intro i hi
      obtain ⟨cs', h1, h2⟩ := each i hi
      rw [fl_cells] at h1
      obtain ⟨_, hlen, hcell⟩ := World.cells?_some h1
      obtain ⟨xs, k, hk, hxy, _, hxl, hfs⟩ := DataW.trod_struct hs h2
      obtain ⟨y0, y1, y2, y3, y4, rfl⟩ := len5 (show xs.length = 5 from hxl)
      obtain ⟨v0, v1, v2, v3, v4, rfl⟩ := len5 hlen
      have g0 := hfs 0 f0 rfl
      have g1 := hfs 1 f1 rfl
      have g2 := hfs 2 f2 rfl
      have g3 := hfs 3 f3 rfl
      have g4 := hfs 4 f4 rfl
      simp [t0, o0, t1, o1, t2, o2, t3, o3, t4, o4, fl_str, fl_int] at g0 g1 g2 g3 g4
      have e0 := hcell 0 (by omega)
      have e1 := hcell 1 (by omega)
      have e2 := hcell 2 (by omega)
      have e3 := hcell 3 (by omega)
      have e4 := hcell 4 (by omega)
      rw [add_add] at e0 e1 e2 e3 e4
      obtain ⟨s, hs0, hy0, _⟩ := DataW.trod_string Tryz.underlying9 g0
      obtain ⟨p, hp0, hy1, _⟩ := DataW.trod_int Tryz.underlying3 g1
      obtain ⟨r, hr0, hy2, _⟩ := DataW.trod_int Tryz.underlying3 g2
      obtain ⟨u, hu0, hy3, _⟩ := DataW.trod_int Tryz.underlying3 g3
      obtain ⟨z, hz0, hy4, _⟩ := DataW.trod_string Tryz.underlying9 g4
      simp only [List.cons.injEq, and_true] at hs0 hp0 hr0 hu0 hz0
      subst hs0 hp0 hr0 hu0 hz0 hy0 hy1 hy2 hy3 hy4
      simp only [Prod.mk.injEq] at hxy
      exact ⟨⟨s, p, r, u, z⟩, by simpa using e0, by simpa using e1, by simpa using e2, by simpa using e3, by simpa using e4, by simpa using hxy.1⟩
    have : Inhabited Ar.F := ⟨Ar.fz⟩
    obtain ⟨q, hq⟩ := choose_lt key
    have hlen : ((List.range len).map q).length = len := by simp
    refine ⟨(List.range len).map q, hlen.symm, ?_, ?_, ?_⟩
    · by_cases h0 : len = 0
      · left; simp [h0]
      · right
        obtain ⟨b, off, sp⟩ := x
        have hc0 := (hq 0 (by omega)).1
        have hsp : sp = none := by simpa [Addr.add] using World.cell?_spot hc0
        subst hsp
        have hb : b < W.heap.size := by
          rw [fl_cells, show m * 5 = (m * 5 - 1) + 1 by omega] at lt
          exact row_lt lt
        refine ⟨b, off, rfl, hb, fun i hi => ?_⟩
        rw [hlen] at hi
        obtain ⟨q0, q1, q2, q3, q4, _⟩ := hq i (by omega)
        have e : Ar.fa ((List.range len).map q) i = q i := by simp [Ar.fa, hi]
        rw [e]
        refine ⟨?_, ?_, ?_, ?_, ?_⟩
        · rw [← q0, add_plain]
        · rw [← q1, add_plain, Nat.add_assoc]
        · rw [← q2, add_plain, Nat.add_assoc]
        · rw [← q3, add_plain, Nat.add_assoc]
        · rw [← q4, add_plain, Nat.add_assoc]
    · rw [hlen]
      have := hsz ((((List.range len).map D).length + ((List.range (m - len)).map fun j => D (len + j)).length) * Tryz.prog.bytesOf 46) (by rw [DataW.weights, Tryz.underlying23]; exact List.mem_cons_self ..)
      rw [fl_bytes] at this
      simp [reachBytes] at this
      omega
    · intro t ht
      obtain ⟨i, hi, rfl⟩ := List.mem_map.1 ht
      have hi' := List.mem_range.1 hi
      have hd := (hq i (by omega)).2.2.2.2.2
      have hw1 : (q i).name.data.toList.length ∈ (D i).weights Tryz.prog 46 := by
        rw [hd, DataW.weights, hs]
        simp only [List.map_cons, List.map_nil]
        rw [DataW.weightsEach, List.mem_append]
        left
        rw [DataW.weights]
        exact List.mem_singleton.2 rfl
      have hw2 : (q i).blk.data.toList.length ∈ (D i).weights Tryz.prog 46 := by
        rw [hd, DataW.weights, hs]
        simp only [List.map_cons, List.map_nil]
        rw [DataW.weightsEach, List.mem_append]
        right
        rw [DataW.weightsEach, List.mem_append]
        right
        rw [DataW.weightsEach, List.mem_append]
        right
        rw [DataW.weightsEach, List.mem_append]
        right
        rw [DataW.weightsEach, List.mem_append]
        left
        rw [DataW.weights]
        exact List.mem_singleton.2 rfl
      have k1 := hsz _ (by rw [DataW.weights, Tryz.underlying23]; exact List.mem_cons_of_mem _ (List.mem_append.2 (.inl (weights_all hi' hw1))))
      have k2 := hsz _ (by rw [DataW.weights, Tryz.underlying23]; exact List.mem_cons_of_mem _ (List.mem_append.2 (.inl (weights_all hi' hw2))))
      have j1 : (q i).name.data.toList.length = (q i).name.size := by simp
      have j2 : (q i).blk.data.toList.length = (q i).blk.size := by simp
      rw [j1] at k1
      rw [j2] at k2
      simp [reachBytes] at k1 k2
      omega
theorem slice_is {H : Type} {enc : TypeId × Value → H} {P : Program} {W : World} {fuel : Nat} {t e : TypeId} {v : Value} {x : DataW H × List MemPlace} (hu : P.underlying t = some (.slice e)) (h : DataW.trod enc P W 0 (fun _ => true) true fuel t [v] = some x) : ∃ a len cap, v = .slice a len cap := by
  rcases DataW.trod_slice hu h with ⟨h1, _⟩ | ⟨a, len, cap, _, _, _, _, h1, _⟩
  · simp at h1; exact ⟨_, _, _, h1⟩
  · simp at h1; exact ⟨_, _, _, h1⟩
set_option maxRecDepth 100000 in
theorem open_arch {H : Type} {enc : TypeId × Value → H} {W : World} {v : Value} {d : DataW H} {ps : List MemPlace} {r : Reach} {b0 : Nat}
    (hv : Value.okWide Tryz.prog W r b0 25 v)
    (h : DataW.Trod enc Tryz.prog W 0 (fun _ => true) true 25 v d ps)
    (hsz : ∀ n ∈ d.weights Tryz.prog 25, n ≤ reachBytes) :
    ∃ ad cd af cf a, v = av ad cd af cf a ∧ ArV W ad af a ∧ SaneA a := by
  obtain ⟨f0, f1, hs, ⟨t0, o0⟩, ⟨t1, o1⟩⟩ := fields2 ar_fields
  obtain ⟨xs0, rfl, _⟩ := okWide_struct hs hv
  obtain ⟨xs⟩ := xs0
  obtain ⟨fuel, hf⟩ := h
  obtain ⟨y0, y1, n, hx, hl, g0, g1⟩ := trod_struct2 hs hf
  rw [ar_cells] at hl
  simp only [Value.cells] at hl g0 g1
  obtain ⟨v0, v1, rfl⟩ := len2 hl
  simp [t0, o0, t1, o1, ar_sl1, ar_sl2] at g0 g1
  obtain ⟨ad, n1, cd, rfl⟩ := slice_is Tryz.underlying22 g0
  obtain ⟨af, n2, cf, rfl⟩ := slice_is Tryz.underlying23 g1
  have hd := congrArg Prod.fst hx
  dsimp only at hd
  have hw : ∀ n, n ∈ y0.1.weights Tryz.prog 22 ∨ n ∈ y1.1.weights Tryz.prog 23 → n ≤ reachBytes := by
    intro n hn
    refine hsz n ?_
    rw [hd, DataW.weights, hs]
    simp only [List.map_cons, List.map_nil, t0, t1]
    rw [DataW.weightsEach, List.mem_append, DataW.weightsEach, List.mem_append]
    rcases hn with hn | hn
    · exact .inl hn
    · exact .inr (.inl hn)
  obtain ⟨l1, rfl, S1, N1, M1⟩ := open_texts g0 (fun n hn => hw n (.inl hn))
  obtain ⟨l2, rfl, S2, N2, M2⟩ := open_files g1 (fun n hn => hw n (.inr hn))
  refine ⟨ad, cd, af, cf, ⟨l1, l2⟩, rfl, ⟨S1, S2⟩, sane_of N1 N2 (fun d hd => ?_) M2⟩
  obtain ⟨i, hi, rfl⟩ := List.getElem_of_mem hd
  have := M1 i
  simpa [Tr.xa, hi] using this
end Go.Proofs.YtbjbjbpgmojcbabGreat
namespace Go.Proofs.YtbjbjbpgmojcbabGreat
open Go.RowKit
set_option maxRecDepth 4000 in
set_option maxHeartbeats 2000000 in
theorem same_any (ad af ad' af' : Option Addr) (cd cf cd' cf' : Nat) (a : Ar.A) (w : World) (h : ArV w ad af a) (h' : ArV w ad' af' a) (hD : a.dicts.length ≤ 8796093022208) (hN : a.files.length ≤ 8796093022208) :
    Calls Tryz.prog 20 #[av ad cd af cf a, av ad' cd' af' cf' a] w fun e w' => e = .returned (.bool true) ∧ Below w.heap.size w w' := by
  have hb := fun o p => ((Below.refl w.heap.size w).alloc (Nat.le_refl _) o).alloc (by simp) p
  have HX : Hid (∀ w', Below w.heap.size w w' → ∀ k, k < a.dicts.length → ∃ b off, ad = some ⟨b, off, none⟩ ∧ b < w'.heap.size ∧ w'.cell? ⟨b, off + k, none⟩ = some (.string (Tr.xa a.dicts k))) := fun w' hb k hk => (h.ds.below hb).at hk
  have HX' : Hid (∀ w', Below w.heap.size w w' → ∀ k, k < a.dicts.length → ∃ b off, ad' = some ⟨b, off, none⟩ ∧ b < w'.heap.size ∧ w'.cell? ⟨b, off + k, none⟩ = some (.string (Tr.xa a.dicts k))) := fun w' hb k hk => (h'.ds.below hb).at hk
  have HF : Hid (∀ w', Below w.heap.size w w' → ∀ k, k < a.files.length → ∃ b off, af = some ⟨b, off, none⟩ ∧ b < w'.heap.size ∧ FlC w' b (off + k * 5) (Ar.fa a.files k)) := fun w' h9 k hk => (h.fs.below h9).at hk
  have HF' : Hid (∀ w', Below w.heap.size w w' → ∀ k, k < a.files.length → ∃ b off, af' = some ⟨b, off, none⟩ ∧ b < w'.heap.size ∧ FlC w' b (off + k * 5) (Ar.fa a.files k)) := fun w' h9 k hk => (h'.fs.below h9).at hk
  unfold av
  clear h h'
  generalize a.dicts.length = D at *
  generalize a.files.length = N at *
  have hDi : (D : Int) ≤ 8796093022208 := by omega
  have hNi : (N : Int) ≤ 8796093022208 := by omega
  go_enter Tryz.func20, Tryz.ntmps20
  go_wp2_with fail
  obtain ⟨k1, k2⟩ := box2 w #[.slice ad D cd, .slice af N cf] #[.slice ad' D cd', .slice af' N cf'] 25 25
  have B1 := hb (.cells #[.slice ad D cd, .slice af N cf] 25 (0, 0)) (.cells #[.slice ad' D cd', .slice af' N cf'] 25 (0, 0))
  generalize ((w.alloc (.cells #[.slice ad D cd, .slice af N cf] 25 (0, 0))).alloc (.cells #[.slice ad' D cd', .slice af' N cf'] 25 (0, 0))) = w1 at *
  have a0 : w1.cell? ⟨w.heap.size, 0, none⟩ = some (.slice ad D cd) := k1 0
  have a1 : w1.cell? ⟨w.heap.size, 1, none⟩ = some (.slice af N cf) := k1 1
  have b0 : w1.cell? ⟨w.heap.size + 1, 0, none⟩ = some (.slice ad' D cd') := k2 0
  have b1 : w1.cell? ⟨w.heap.size + 1, 1, none⟩ = some (.slice af' N cf') := k2 1
  clear k1 k2
  go_loopw [5] (fun i wr => ∃ k : Nat, k ≤ D ∧ i = .int .i64 k ∧ (∀ p, wr.cell? p = w1.cell? p) ∧ Below w.heap.size w wr) (fun i _ => D - (intOf i).toNat)
  case atStart => exact ⟨0, by omega, rfl, fun _ => rfl, B1⟩
  case round =>
    obtain ⟨k, hk2, rfl, hsame, B2⟩ := hrel
    have a0' := (hsame _).trans a0
    have b0' := (hsame _).trans b0
    have a1' := (hsame _).trans a1
    have b1' := (hsame _).trans b1
    by_cases hlt : k < D
    · have d1 : decide ((k : Int) < (D : Int)) = true := by simp; omega
      have d1' : decide (k < D) = true := by simp; omega
      have hki : (k : Int) < (D : Int) := by omega
      obtain ⟨b, off, rfl, hbl, hc⟩ := HX.out wr B2 k hlt
      obtain ⟨b', off', rfl, hbl', hc'⟩ := HX'.out wr B2 k hlt
      have HSm : Hid (∀ p, wr.cell? p = w1.cell? p) := hsame
      clear hsame
      generalize Tr.xa a.dicts k = X at *
      go_wp2_with fail
      go_region
      all_goals
        go_wp2_with fail
        go_roundw
        case rel => exact ⟨k + 1, by omega, by go_num, fun p => HSm.out p, B2.drew⟩
        case measure => simp [intOf]; omega
    · obtain rfl : k = D := by omega
      have d1 : decide ((k : Int) < (k : Int)) = false := by simp
      have HSm : Hid (∀ p, wr.cell? p = w1.cell? p) := hsame
      clear hsame
      go_wp2_with fail
      go_loopw [6] (fun i w2 => ∃ m : Nat, m ≤ N ∧ i = .int .i64 m ∧ (∀ p, w2.cell? p = w1.cell? p) ∧ Below w.heap.size w w2) (fun i _ => N - (intOf i).toNat)
      case atStart => exact ⟨0, by omega, rfl, HSm.out, B2⟩
      case round =>
        obtain ⟨m, hm2, rfl, hsame2, B3⟩ := hrel
        have a2 := (hsame2 _).trans a1
        have b2 := (hsame2 _).trans b1
        have HSm2 : Hid (∀ p, World.cell? _ p = w1.cell? p) := hsame2
        clear hsame2 a0' b0' a1' b1'
        by_cases hlt : m < N
        · have d2 : decide ((m : Int) < (N : Int)) = true := by simp; omega
          have d2' : decide (m < N) = true := by simp; omega
          have hmi : (m : Int) < (N : Int) := by omega
          obtain ⟨b, off, rfl, hbl, hcell⟩ := HF.out _ B3 m hlt
          obtain ⟨c0, c1, c2, c3, c4⟩ := hcell
          obtain ⟨b', off', rfl, hbl', hcell'⟩ := HF'.out _ B3 m hlt
          obtain ⟨e0, e1, e2, e3, e4⟩ := hcell'
          generalize (Ar.fa a.files m).name = f0 at *
          generalize (Ar.fa a.files m).dict = f1 at *
          generalize (Ar.fa a.files m).size = f2 at *
          generalize (Ar.fa a.files m).sum = f3 at *
          generalize (Ar.fa a.files m).blk = f4 at *
          go_wp2_with fail
          go_region
          all_goals
            go_wp2_with fail
            go_roundw
            case rel => exact ⟨m + 1, by omega, by go_num, fun p => HSm2.out p, B3.drew⟩
            case measure => simp [intOf]; omega
        · obtain rfl : m = N := by omega
          have d2 : decide ((m : Int) < (m : Int)) = false := by simp
          go_wp2_with fail
          go_ret
          exact ⟨rfl, B3⟩
end Go.Proofs.YtbjbjbpgmojcbabGreat
