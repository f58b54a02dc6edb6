/- Plain: chapter 3's own way of making trees comes to what Build makes. -/
import Derived.Test.YtbjbjbpgmojcbaaRefTake
import Derived.Test.YtbjbjbpgmojcbaaCodeBestMath
namespace Go.Proofs.Ytbjbjbpgmojcbaa
namespace Cd

/-- Two trees become one. -/
def mrg (a b : Tr) : Tr := ⟨fun i => a.h i || b.h i, a.w + b.w⟩
def incr (t : Tr) (L : Nat → Int) : Nat → Int := fun i => if t.h i = true then L i + 1 else L i
def fst (l : List Tr) : Tr := tl l (kF l l.length)
def oth (l : List Tr) : List Tr := rK l (kF l l.length) l.length
/-- All rounds, with fuel. -/
def boR : Nat → List Tr → (Nat → Int) → (Nat → Int)
  | 0, _, L => L
  | n + 1, l, L => if l.length ≤ 1 then L else boR n (oth (oth l) ++ [mrg (fst l) (fst (oth l))]) (incr (mrg (fst l) (fst (oth l))) L)

theorem rK_erase (l : List Tr) (k : Nat) : ∀ i, i ≤ l.length → rK l k i = (l.take i).eraseIdx k := by
  intro i
  induction i with
  | zero => intro _; simp [rK]
  | succ i ih =>
    intro hi
    have e : l.take (i + 1) = l.take i ++ [tl l i] := by
      rw [List.take_add_one, List.getElem?_eq_getElem (by omega)]
      simp [tl, List.getD_eq_getElem?_getD, List.getElem?_eq_getElem (show i < l.length by omega)]
    have hl : (l.take i).length = i := by rw [List.length_take]; omega
    rw [rK, ih (by omega), e]
    by_cases h : i = k
    · rw [if_pos h, ← h, List.eraseIdx_append_of_length_le (by omega), hl, Nat.sub_self, List.eraseIdx_of_length_le (by omega)]
      simp
    · rw [if_neg h]
      by_cases h2 : k < i
      · rw [List.eraseIdx_append_of_lt_length (by omega)]
      · rw [List.eraseIdx_append_of_length_le (by omega), hl, List.eraseIdx_of_length_le (by omega), List.eraseIdx_of_length_le (by simp; omega)]
theorem oth_erase (l : List Tr) : oth l = l.eraseIdx (kF l l.length) := by rw [oth, rK_erase l _ _ (Nat.le_refl _), List.take_length]

theorem lgt_iff (s t : Tr) : lgt s t = true ↔ s.w < t.w ∨ (s.w = t.w ∧ ls s.h < ls t.h) := by
  unfold lgt
  by_cases h : s.w = t.w
  · rw [if_pos h, decide_eq_true_eq]; omega
  · rw [if_neg h, decide_eq_true_eq]; omega
theorem kF_min (l : List Tr) : ∀ i, ∀ j, j < i → lgt (tl l j) (tl l (kF l i)) = false := by
  intro i
  induction i with
  | zero => intro j h; omega
  | succ i ih =>
    intro j hj
    rw [kF]
    by_cases h : lgt (tl l i) (tl l (kF l i)) = true
    · rw [if_pos h]
      by_cases e : j = i
      · subst e; exact lgt_self _
      · have h1 := ih j (by omega)
        rw [Bool.eq_false_iff] at h1 ⊢
        intro h2
        apply h1
        rw [lgt_iff] at h h2 ⊢
        omega
    · rw [if_neg h]
      by_cases e : j = i
      · subst e; exact Bool.eq_false_iff.2 h
      · exact ih j (by omega)

/-- The tree of a representative. -/
def tof (W T : Nat → Int) (r : Nat) : Tr := ⟨fun i => decide (T i = (r : Int)), W r⟩
/-- The representatives of what weighs, each known by its least sign. -/
structure Reps (W T : Nat → Int) (rs : List Nat) : Prop where
  nd : rs.Nodup
  mem : ∀ r, r ∈ rs ↔ r < 16 ∧ W r ≠ 0
  self : ∀ r, r ∈ rs → T r = (r : Int)
  least : ∀ r, r ∈ rs → ∀ i, T i = (r : Int) → r ≤ i
theorem lsF_is {h : Nat → Bool} {r : Nat} (hr : h r = true) : ∀ m k, k ≤ r → r < k + m → (∀ i, k ≤ i → i < r → h i = false) → lsF h m k = r := by
  intro m
  induction m with
  | zero => intro k h1 h2 _; omega
  | succ m ih =>
    intro k h1 h2 h3
    rw [lsF]
    by_cases e : k = r
    · subst e; rw [if_pos hr]
    · rw [if_neg (by simp [h3 k (Nat.le_refl _) (by omega)])]
      exact ih (k + 1) (by omega) (by omega) (fun i h4 h5 => h3 i (by omega) h5)
theorem Reps.ls {W T : Nat → Int} {rs : List Nat} (H : Reps W T rs) {r : Nat} (hr : r ∈ rs) : ls (tof W T r).h = r := by
  have h16 := ((H.mem r).1 hr).1
  refine lsF_is (by simp [tof, H.self r hr]) 16 0 (by omega) (by omega) (fun i _ hi => ?_)
  simp only [tof, decide_eq_false_iff_not]
  intro h
  have := H.least r hr i h
  omega
theorem tl_map {W T : Nat → Int} {rs : List Nat} {j : Nat} (h : j < rs.length) : tl (rs.map (tof W T)) j = tof W T rs[j] := by
  simp [tl, List.getD_eq_getElem?_getD, List.getElem?_eq_getElem h]
theorem map_erase {α β : Type} (f : α → β) : ∀ (l : List α) (k : Nat), (l.map f).eraseIdx k = (l.eraseIdx k).map f
  | [], _ => by simp
  | _ :: _, 0 => by simp
  | a :: l, k + 1 => by simp [map_erase f l k]
/-- The first: it weighs least, of one weight it is the least. -/
theorem first_of {W T : Nat → Int} {rs : List Nat} (hls : ∀ r, r ∈ rs → ls (tof W T r).h = r) (hn : rs ≠ []) : ∃ k, ∃ h : k < rs.length, fst (rs.map (tof W T)) = tof W T rs[k] ∧ oth (rs.map (tof W T)) = (rs.eraseIdx k).map (tof W T) ∧ ∀ r, r ∈ rs → W rs[k] < W r ∨ (W rs[k] = W r ∧ rs[k] ≤ r) := by
  have hl : 0 < rs.length := List.length_pos_iff.2 hn
  obtain ⟨k, hk⟩ : ∃ k, kF (rs.map (tof W T)) (rs.map (tof W T)).length = k := ⟨_, rfl⟩
  have hlt := kF_lt (rs.map (tof W T)) (rs.map (tof W T)).length
  rw [hk, List.length_map] at hlt
  have hkl : k < rs.length := by omega
  refine ⟨k, hkl, ?_, ?_, fun r hr => ?_⟩
  · rw [fst, hk, tl_map hkl]
  · rw [oth_erase, hk, map_erase]
  · obtain ⟨j, hj, rfl⟩ := List.getElem_of_mem hr
    have h1 := kF_min (rs.map (tof W T)) (rs.map (tof W T)).length j (by rw [List.length_map]; exact hj)
    rw [hk, tl_map hj, tl_map hkl, Bool.eq_false_iff] at h1
    rw [Ne, lgt_iff, hls _ (List.getElem_mem hj), hls _ (List.getElem_mem hkl)] at h1
    simp only [tof] at h1
    omega
theorem lt2_lex (W : Nat → Int) : ∀ k, (∀ i, i < k → W i ≠ 0 → (lt2 W k).1 ≠ -1 ∧ (W (lt2 W k).1.toNat < W i ∨ (W (lt2 W k).1.toNat = W i ∧ (lt2 W k).1 ≤ (i : Int)))) ∧ (∀ i, i < k → W i ≠ 0 → (i : Int) ≠ (lt2 W k).1 → (lt2 W k).2 ≠ -1 ∧ (W (lt2 W k).2.toNat < W i ∨ (W (lt2 W k).2.toNat = W i ∧ (lt2 W k).2 ≤ (i : Int)))) := by
  intro k
  induction k with
  | zero => exact ⟨fun i h => by omega, fun i h => by omega⟩
  | succ k ih =>
    obtain ⟨i1, i2⟩ := ih
    have hs := lt2_sg W k
    have hb : ∀ a, Sg W k a → a < (k : Int) := fun a h => by rcases h with h | ⟨p, h1, h2, _⟩ <;> omega
    have b1 := hb _ hs.1
    have b2 := hb _ hs.2
    rw [lt2, ltS]
    generalize lt2 W k = P at *
    obtain ⟨A, B⟩ := P
    simp only at *
    by_cases h0 : W k = 0
    · rw [if_pos h0]
      refine ⟨fun i hi ni => i1 i ?_ ni, fun i hi ni => i2 i ?_ ni⟩ <;> (by_cases e : i = k; (subst e; exact absurd h0 ni); omega)
    · rw [if_neg h0]
      by_cases h1 : A = -1 ∨ W k < W A.toNat
      · rw [if_pos h1]
        simp only [Int.toNat_natCast]
        refine ⟨fun i hi ni => ⟨by omega, ?_⟩, fun i hi ni ne => ?_⟩
        · by_cases e : i = k
          · subst e; omega
          · have := i1 i (by omega) ni; omega
        · exact i1 i (by omega) ni
      · rw [if_neg h1]
        by_cases h2 : B = -1 ∨ W k < W B.toNat
        · rw [if_pos h2]
          simp only [Int.toNat_natCast]
          refine ⟨fun i hi ni => ?_, fun i hi ni ne => ⟨by omega, ?_⟩⟩
          · by_cases e : i = k
            · subst e; omega
            · exact i1 i (by omega) ni
          · by_cases e : i = k
            · subst e; omega
            · have := i2 i (by omega) ni ne; omega
        · rw [if_neg h2]
          simp only
          refine ⟨fun i hi ni => ?_, fun i hi ni ne => ?_⟩
          · by_cases e : i = k
            · subst e; omega
            · exact i1 i (by omega) ni
          · by_cases e : i = k
            · subst e; omega
            · exact i2 i (by omega) ni ne
theorem nd_inj {rs : List Nat} (h : rs.Nodup) {i j : Nat} (hi : i < rs.length) (hj : j < rs.length) (e : rs[i] = rs[j]) : i = j := by
  have h1 := List.pairwise_iff_getElem.1 h
  rcases Nat.lt_trichotomy i j with h2 | h2 | h2
  · exact absurd e (h1 i j hi hj h2)
  · exact h2
  · exact absurd e.symm (h1 j i hj hi h2)
theorem mem_erase {rs : List Nat} (h : rs.Nodup) {k : Nat} (hk : k < rs.length) (x : Nat) : x ∈ rs.eraseIdx k ↔ x ∈ rs ∧ x ≠ rs[k] := by
  rw [List.mem_eraseIdx_iff_getElem]
  constructor
  · rintro ⟨i, hi, hne, rfl⟩
    exact ⟨List.getElem_mem _, fun e => hne (nd_inj h hi hk e)⟩
  · rintro ⟨h1, h2⟩
    obtain ⟨i, hi, rfl⟩ := List.getElem_of_mem h1
    exact ⟨i, hi, fun e => h2 (by subst e; rfl), rfl⟩
theorem nd_erase {rs : List Nat} (h : rs.Nodup) (k : Nat) : (rs.eraseIdx k).Nodup := List.Nodup.sublist (List.eraseIdx_sublist rs k) h

/-- ONE WAY AND THE OTHER COME TO THE SAME. -/
theorem boR_bldR : ∀ n (W T L : Nat → Int) (rs : List Nat), Reps W T rs → (∀ i, i < 16 → 0 ≤ W i) → boR n (rs.map (tof W T)) L = bldR n W T L := by
  intro n
  induction n with
  | zero => intro W T L rs _ _; rfl
  | succ n ih =>
    intro W T L rs H hW
    obtain ⟨x1, x2⟩ := lt2_lex W 16
    by_cases hsec : (lt2 W 16).2 = -1
    · rw [bldR_end hsec, boR, if_pos]
      rw [List.length_map]
      rcases Nat.lt_or_ge 1 rs.length with h | h
      · exfalso
        have m0 := (H.mem _).1 (List.getElem_mem (show 0 < rs.length by omega))
        have m1 := (H.mem _).1 (List.getElem_mem h)
        have hne : rs[0] ≠ rs[1] := fun e => by have := nd_inj H.nd (by omega) h e; omega
        by_cases e : ((rs[0] : Nat) : Int) = (lt2 W 16).1
        · exact (x2 rs[1] m1.1 m1.2 (by omega)).1 hsec
        · exact (x2 rs[0] m0.1 m0.2 e).1 hsec
      · exact h
    · obtain ⟨p, q, hpq, hp, hq, hne, np, nq⟩ := lt2_two hsec
      rw [hpq] at x1 x2
      simp only [Int.toNat_natCast] at x1 x2
      have mp : p ∈ rs := (H.mem p).2 ⟨hp, np⟩
      have mq : q ∈ rs := (H.mem q).2 ⟨hq, nq⟩
      have hls : ∀ r, r ∈ rs → ls (tof W T r).h = r := fun r hr => H.ls hr
      obtain ⟨k1, hk1, f1, o1, l1⟩ := first_of hls (List.ne_nil_of_mem mp)
      have e1 : rs[k1] = p := by
        have a1 := l1 p mp
        have m1 := (H.mem _).1 (List.getElem_mem hk1)
        have a2 := x1 rs[k1] m1.1 m1.2
        omega
      rw [e1] at f1 l1
      have hm1 := mem_erase H.nd hk1
      rw [e1] at hm1
      have hnd1 := nd_erase H.nd k1
      have hlen : ¬ (rs.map (tof W T)).length ≤ 1 := by
        rw [List.length_map]
        intro h
        obtain ⟨i, hi, e⟩ := List.getElem_of_mem mp
        obtain ⟨j, hj, e'⟩ := List.getElem_of_mem mq
        have : i = j := by omega
        subst this
        exact hne (by rw [← e, ← e'])
      generalize rs.eraseIdx k1 = rs1 at *
      have mq1 : q ∈ rs1 := (hm1 q).2 ⟨mq, fun e => hne e.symm⟩
      obtain ⟨k2, hk2, f2, o2, l2⟩ := first_of (fun r hr => hls r ((hm1 r).1 hr).1) (List.ne_nil_of_mem mq1)
      have e2 : rs1[k2] = q := by
        have a1 := l2 q mq1
        have b1 := (hm1 _).1 (List.getElem_mem hk2)
        have m1 := (H.mem _).1 b1.1
        have a2 := x2 rs1[k2] m1.1 m1.2 (by omega)
        omega
      rw [e2] at f2 l2
      have hm2 := mem_erase hnd1 hk2
      rw [e2] at hm2
      have hnd2 := nd_erase hnd1 k2
      generalize rs1.eraseIdx k2 = rs2 at *
      have hr2 : ∀ r, r ∈ rs2 ↔ r ∈ rs ∧ r ≠ p ∧ r ≠ q := fun r => by rw [hm2, hm1]; exact ⟨fun h => ⟨h.1.1, h.1.2, h.2⟩, fun h => ⟨⟨h.1, h.2.1⟩, h.2.2⟩⟩
      obtain ⟨w1, w2, w3⟩ := rW_at (W := W) hne
      have hWp := hW p hp
      have hWq := hW q hq
      rw [boR, if_neg hlen, f1, o1, f2, o2, bldR_next hpq]
      have eL : incr (mrg (tof W T p) (tof W T q)) L = rL T L p q := by
        funext i
        simp only [incr, mrg, tof, rL, Bool.or_eq_true, decide_eq_true_eq]
      have eM : mrg (tof W T p) (tof W T q) = tof (rW W p q) (rT T p q) (min p q) := by
        unfold mrg tof
        rw [w1]
        congr 1
        funext i
        rw [Bool.eq_iff_iff, Bool.or_eq_true, decide_eq_true_eq, decide_eq_true_eq, decide_eq_true_eq]
        by_cases h : T i = (p : Int) ∨ T i = (q : Int)
        · have hT : rT T p q i = ((min p q : Nat) : Int) := if_pos h
          exact ⟨fun _ => hT, fun _ => h⟩
        · have hT : rT T p q i = T i := if_neg h
          rw [hT]
          omega
      have eR : rs2.map (tof W T) = rs2.map (tof (rW W p q) (rT T p q)) := by
        apply List.map_congr_left
        intro r hr
        obtain ⟨_, n1, n2⟩ := (hr2 r).1 hr
        unfold tof
        rw [w3 r n1 n2]
        congr 1
        funext i
        rw [Bool.eq_iff_iff, decide_eq_true_eq, decide_eq_true_eq]
        by_cases h : T i = (p : Int) ∨ T i = (q : Int)
        · have hT : rT T p q i = ((min p q : Nat) : Int) := if_pos h
          rw [hT]
          omega
        · have hT : rT T p q i = T i := if_neg h
          rw [hT]
      rw [eL, eM, eR, ← List.map_singleton, ← List.map_append]
      refine ih (rW W p q) (rT T p q) (rL T L p q) (rs2 ++ [min p q]) ⟨?_, fun r => ?_, fun r hr => ?_, fun r hr i hi => ?_⟩ (rW_pos hW hp hq)
      · rw [List.nodup_append]
        refine ⟨hnd2, by simp, fun a ha b hb => ?_⟩
        simp only [List.mem_singleton] at hb
        have := (hr2 a).1 ha
        omega
      · rw [List.mem_append, List.mem_singleton, hr2 r, H.mem r]
        by_cases e : r = min p q
        · subst e
          rw [w1]
          refine ⟨fun _ => ⟨by omega, by omega⟩, fun _ => .inr rfl⟩
        · by_cases e2 : r = max p q
          · subst e2
            rw [w2]
            refine ⟨fun h => ?_, fun h => absurd rfl h.2⟩
            rcases h with h | h
            · omega
            · omega
          · rw [w3 r (by omega) (by omega)]
            refine ⟨fun h => ?_, fun h => .inl ⟨h, by omega, by omega⟩⟩
            rcases h with h | h
            · exact h.1
            · exact absurd h e
      · rw [List.mem_append, List.mem_singleton] at hr
        rcases hr with hr | hr
        · obtain ⟨m, n1, n2⟩ := (hr2 r).1 hr
          have := H.self r m
          simp only [rT]
          rw [if_neg (by omega), this]
        · subst hr
          have h1 := H.self p mp
          have h2 := H.self q mq
          simp only [rT]
          by_cases h : p ≤ q
          · rw [show min p q = p by omega, if_pos (.inl h1)]
          · rw [show min p q = q by omega, if_pos (.inr h2)]
      · rw [List.mem_append, List.mem_singleton] at hr
        simp only [rT] at hi
        rcases hr with hr | hr
        · obtain ⟨m, n1, n2⟩ := (hr2 r).1 hr
          by_cases h : T i = (p : Int) ∨ T i = (q : Int)
          · rw [if_pos h] at hi; omega
          · rw [if_neg h] at hi; exact H.least r m i hi
        · subst hr
          by_cases h : T i = (p : Int) ∨ T i = (q : Int)
          · rcases h with h | h
            · have := H.least p mp i h; omega
            · have := H.least q mq i h; omega
          · rw [if_neg h] at hi; omega

/-- The trees at first. -/
def in0 (c : Nat → Int) : Nat → List Nat
  | 0 => []
  | k + 1 => if 0 < c k then in0 c k ++ [k] else in0 c k
theorem in0_mem (c : Nat → Int) : ∀ k r, r ∈ in0 c k ↔ r < k ∧ 0 < c r := by
  intro k
  induction k with
  | zero => intro r; simp [in0]
  | succ k ih =>
    intro r
    rw [in0]
    by_cases h : 0 < c k
    · rw [if_pos h, List.mem_append, ih, List.mem_singleton]
      constructor
      · rintro (h1 | h1)
        · exact ⟨by omega, h1.2⟩
        · subst h1; exact ⟨by omega, h⟩
      · rintro ⟨h1, h2⟩
        by_cases e : r = k
        · exact .inr e
        · exact .inl ⟨by omega, h2⟩
    · rw [if_neg h, ih]
      constructor
      · rintro ⟨h1, h2⟩; exact ⟨by omega, h2⟩
      · rintro ⟨h1, h2⟩
        by_cases e : r = k
        · subst e; exact absurd h2 h
        · exact ⟨by omega, h2⟩
theorem in0_nd (c : Nat → Int) : ∀ k, (in0 c k).Nodup := by
  intro k
  induction k with
  | zero => simp [in0]
  | succ k ih =>
    rw [in0]
    split
    · rw [List.nodup_append]
      refine ⟨ih, by simp, fun a ha b hb => ?_⟩
      simp only [List.mem_singleton] at hb
      have := (in0_mem c k a).1 ha
      omega
    · exact ih
theorem in0_len (c : Nat → Int) : ∀ k, (in0 c k).length ≤ k := by
  intro k
  induction k with
  | zero => simp [in0]
  | succ k ih =>
    rw [in0]
    split
    · simp; omega
    · omega
theorem in0_reps {c : Nat → Int} (hc : ∀ i, i < 16 → 0 ≤ c i) : Reps c (fun i => i) (in0 c 16) :=
  ⟨in0_nd c 16, fun r => by
    rw [in0_mem]
    constructor
    · rintro ⟨h1, h2⟩; exact ⟨h1, by omega⟩
    · rintro ⟨h1, h2⟩; have := hc r h1; exact ⟨h1, by omega⟩, fun r _ => rfl, fun r _ i h => by have h9 : ((i : Nat) : Int) = (r : Int) := h; omega⟩
/-- What BuildOf tells is what Build tells. -/
theorem bld_cases {c : Nat → Int} (h : InR c 2048 16) : (in0 c 16 = [] → bld c = (fun _ => 0, 5)) ∧ (∀ r, in0 c 16 = [r] → bld c = (upd (fun _ => 0) r 1, 0)) ∧ (2 ≤ (in0 c 16).length → bld c = (boR 16 ((in0 c 16).map (tof c fun i => i)) (fun _ => 0), 0)) := by
  have hc : ∀ i, i < 16 → 0 ≤ c i := fun i hi => (h i hi).1
  obtain ⟨x1, x2⟩ := lt2_lex c 16
  obtain ⟨s1, s2⟩ := lt2_sg c 16
  refine ⟨fun e => ?_, fun r e => ?_, fun e => ?_⟩
  · rcases s1 with s1 | ⟨p, e1, hp, np⟩
    · rw [bld, if_neg (fun h9 => h9 h), if_pos s1]
    · exfalso
      have := (in0_mem c 16 p).2 ⟨hp, by have := hc p hp; omega⟩
      rw [e] at this
      simp at this
  · have mr := (in0_mem c 16 r).1 (by rw [e]; simp)
    have hf := x1 r mr.1 (by omega)
    have hfst : (lt2 c 16).1 = (r : Int) := by
      rcases s1 with s1 | ⟨p, e1, hp, np⟩
      · exact absurd s1 hf.1
      · have := (in0_mem c 16 p).2 ⟨hp, by have := hc p hp; omega⟩
        rw [e, List.mem_singleton] at this
        omega
    have hsec : (lt2 c 16).2 = -1 := by
      by_cases h9 : (lt2 c 16).2 = -1
      · exact h9
      · exfalso
        obtain ⟨p, q, hpq, hp, hq, hne, np, nq⟩ := lt2_two h9
        have m1 := (in0_mem c 16 p).2 ⟨hp, by have := hc p hp; omega⟩
        have m2 := (in0_mem c 16 q).2 ⟨hq, by have := hc q hq; omega⟩
        rw [e, List.mem_singleton] at m1 m2
        omega
    rw [bld, if_neg (fun h9 => h9 h), if_neg hf.1, if_pos hsec, hfst, Int.toNat_natCast]
  · have m0 := (in0_mem c 16 _).1 (List.getElem_mem (show 0 < (in0 c 16).length by omega))
    have m1 := (in0_mem c 16 _).1 (List.getElem_mem (show 1 < (in0 c 16).length by omega))
    have hne : (in0 c 16)[0] ≠ (in0 c 16)[1] := fun e9 => by have := nd_inj (in0_nd c 16) (by omega) (by omega) e9; omega
    have hf := x1 _ m0.1 (by omega)
    have hsec : (lt2 c 16).2 ≠ -1 := by
      by_cases e9 : (((in0 c 16)[0] : Nat) : Int) = (lt2 c 16).1
      · exact (x2 _ m1.1 (by omega) (by omega)).1
      · exact (x2 _ m0.1 (by omega) e9).1
    rw [bld, if_neg (fun h9 => h9 h), if_neg hf.1, if_neg hsec, boR_bldR 16 c (fun i => i) _ _ (in0_reps hc) hc]
/-- All that is weighed. -/
def sw (l : List Tr) : Int := (l.map (·.w)).sum
theorem sw_erase : ∀ (l : List Tr) (k : Nat) (h : k < l.length), sw (l.eraseIdx k) + l[k].w = sw l
  | a :: l, 0, _ => by simp [sw]; omega
  | a :: l, k + 1, h => by
    have := sw_erase l k (by simpa using h)
    simp only [sw, List.eraseIdx_cons_succ, List.map_cons, List.sum_cons, List.getElem_cons_succ] at this ⊢
    omega
theorem tl_get {l : List Tr} {k : Nat} (h : k < l.length) : tl l k = l[k] := by simp [tl, List.getD_eq_getElem?_getD, List.getElem?_eq_getElem h]
theorem fst_lt {l : List Tr} (h : 1 ≤ l.length) : kF l l.length < l.length := by have := kF_lt l l.length; omega
theorem oth_len {l : List Tr} (h : 1 ≤ l.length) : (oth l).length + 1 = l.length := by
  rw [oth_erase, List.length_eraseIdx_of_lt (fst_lt h)]
  omega
theorem oth_sw {l : List Tr} (h : 1 ≤ l.length) : sw (oth l) + (fst l).w = sw l := by
  rw [oth_erase, fst, tl_get (fst_lt h)]
  exact sw_erase l _ _
theorem oth_pos {l : List Tr} (h : 1 ≤ l.length) (hw : ∀ t, t ∈ l → 0 ≤ t.w) : (∀ t, t ∈ oth l → 0 ≤ t.w) ∧ 0 ≤ (fst l).w := by
  refine ⟨fun t ht => ?_, ?_⟩
  · rw [oth_erase] at ht
    exact hw t (List.mem_of_mem_eraseIdx ht)
  · rw [fst, tl_get (fst_lt h)]
    exact hw _ (List.getElem_mem _)
theorem sw_pos : ∀ (l : List Tr), (∀ t, t ∈ l → 0 ≤ t.w) → 0 ≤ sw l
  | [], _ => by simp [sw]
  | a :: l, h => by
    have := sw_pos l (fun t ht => h t (by simp [ht]))
    have h1 := h a (by simp)
    simp only [sw, List.map_cons, List.sum_cons] at this ⊢
    omega
theorem sw_app (l : List Tr) (t : Tr) : sw (l ++ [t]) = sw l + t.w := by simp [sw]
/-- What a round keeps. -/
structure Fine (l : List Tr) (L : Nat → Int) : Prop where
  len : l.length ≤ 16
  pos : ∀ t, t ∈ l → 0 ≤ t.w
  sum : sw l ≤ 32768
  low : ∀ i, 0 ≤ L i ∧ L i + (l.length : Int) ≤ 16
theorem Fine.two {l : List Tr} {L : Nat → Int} (H : Fine l L) (h : 2 ≤ l.length) : 0 ≤ (fst l).w ∧ 0 ≤ (fst (oth l)).w ∧ (fst l).w + (fst (oth l)).w ≤ 32768 ∧ (oth l).length + 1 = l.length ∧ (oth (oth l)).length + 2 = l.length ∧ Fine (oth (oth l) ++ [mrg (fst l) (fst (oth l))]) (incr (mrg (fst l) (fst (oth l))) L) := by
  have l1 := oth_len (l := l) (by omega)
  have l2 := oth_len (l := oth l) (by omega)
  have s1 := oth_sw (l := l) (by omega)
  have s2 := oth_sw (l := oth l) (by omega)
  obtain ⟨p1, q1⟩ := oth_pos (l := l) (by omega) H.pos
  obtain ⟨p2, q2⟩ := oth_pos (l := oth l) (by omega) p1
  have p3 := sw_pos _ p2
  have hs := H.sum
  refine ⟨q1, q2, by omega, l1, by omega, ?_, fun t ht => ?_, ?_, fun i => ?_⟩
  · have := H.len; rw [List.length_append, List.length_singleton]; omega
  · rw [List.mem_append, List.mem_singleton] at ht
    rcases ht with ht | ht
    · exact p2 t ht
    · subst ht; show 0 ≤ (fst l).w + (fst (oth l)).w; omega
  · rw [sw_app]
    show sw (oth (oth l)) + ((fst l).w + (fst (oth l)).w) ≤ _
    omega
  · have := H.low i
    rw [List.length_append, List.length_singleton]
    unfold incr
    split <;> omega
theorem sw_le : ∀ (l : List Tr), (∀ t, t ∈ l → t.w ≤ 2048) → sw l ≤ 2048 * l.length
  | [], _ => by simp [sw]
  | a :: l, h => by
    have := sw_le l (fun t ht => h t (by simp [ht]))
    have h1 := h a (by simp)
    simp only [sw, List.map_cons, List.sum_cons, List.length_cons] at this ⊢
    omega
theorem fine0 {c : Nat → Int} (h : InR c 2048 16) : Fine ((in0 c 16).map (tof c fun i => i)) (fun _ => 0) := by
  have hl := in0_len c 16
  have hb : ∀ t, t ∈ (in0 c 16).map (tof c fun i => i) → 0 ≤ t.w ∧ t.w ≤ 2048 := fun t ht => by
    obtain ⟨r, hr, rfl⟩ := List.mem_map.1 ht
    exact h r ((in0_mem c 16 r).1 hr).1
  have hs := sw_le _ (fun t ht => (hb t ht).2)
  rw [List.length_map] at hs
  refine ⟨by rw [List.length_map]; exact hl, fun t ht => (hb t ht).1, by omega, fun i => ⟨by omega, by rw [List.length_map]; omega⟩⟩
end Cd
end Go.Proofs.Ytbjbjbpgmojcbaa
