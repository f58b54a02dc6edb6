/- Plain facts: right toks are small; their bytes are read as they were; what is read was written; what is parsed plays as the text. -/
import Derived.Test.YtbjbjbpgmojcbaaToksFrom
import Derived.Test.YtbjbjbpgmojcbaaToksWrite2
import Derived.Test.YtbjbjbpgmojcbaaToksParse
namespace Go.Proofs.Ytbjbjbpgmojcbaa

/-- A tok that is right somewhere. -/
def Okt (t : Tk.T) : Prop := (t.lit.size ≠ 0 ∧ t.far = 0 ∧ t.len = 0 ∧ t.lit.size ≤ 512) ∨ (t.lit.size = 0 ∧ 1 ≤ t.far ∧ t.far ≤ 768 ∧ 3 ≤ t.len ∧ t.len ≤ 64)

theorem run_ok1 {d : Nat} {s : List UInt8} {p : Bool} {t : Tk.T} {l : List Tk.T} (h : (Tk.run d s p (t :: l)).1 = 0) : Tk.err d s p t = 0 ∧ (Tk.run d (Tk.make s t) (decide (t.lit.size ≠ 0)) l).1 = 0 := by
  by_cases e : Tk.err d s p t = 0
  · rw [Tk.run_good e] at h
    exact ⟨e, h⟩
  · rw [Tk.run_bad e] at h
    exact absurd h e

theorem tb_two {t : Tk.T} (h : Okt t) : (tb t).length ≤ 2 * (t.lit.size + t.len.toNat) := by
  unfold tb
  rcases h with ⟨h0, h1, h2, h3⟩ | ⟨h0, h1, h2, h3, h4⟩
  · rw [if_pos h0, List.length_append]
    have hl : t.lit.data.toList.length = t.lit.size := by simp
    rw [hl]
    by_cases h5 : 2 * t.lit.size < 128
    · rw [Nm.nb_lt h5]
      simp only [List.length_cons, List.length_nil]
      omega
    · have := Nm.nb_len_le 1 (2 * t.lit.size) (by omega)
      omega
  · rw [if_neg (by omega), List.length_append]
    have a1 := Nm.nb_len_le 1 (2 * t.len + 1).toNat (by omega)
    have a2 := Nm.nb_len_le 1 t.far.toNat (by omega)
    omega

theorem run_okt {d : Nat} (hd : d ≤ 256) : ∀ (l : List Tk.T) (s : List UInt8) (p : Bool), d ≤ s.length → s.length ≤ d + 512 → (Tk.run d s p l).1 = 0 →
    (∀ t ∈ l, Okt t) ∧ (tbs l).length + 2 * s.length ≤ 2 * (d + 512) ∧ l.length + s.length ≤ d + 512 := by
  intro l
  induction l with
  | nil => intro s p h1 h2 _; refine ⟨fun t h => by simp at h, ?_, ?_⟩ <;> simp [tbs] <;> omega
  | cons t l ih =>
    intro s p h1 h2 h
    obtain ⟨he, h⟩ := run_ok1 h
    obtain ⟨m1, m2, m3, m4, m5⟩ := Tk.make_ok he
    have ok : Okt t := by
      by_cases h0 : t.lit.size = 0
      · have := m3 h0
        exact .inr ⟨h0, by omega, by omega, by omega, by omega⟩
      · have := m4 h0
        exact .inl ⟨h0, this.1, this.2, by omega⟩
    have ht := tb_two ok
    obtain ⟨i1, i2, i3⟩ := ih (Tk.make s t) _ (by omega) (by omega) h
    have hpos : 1 ≤ t.lit.size + t.len.toNat := by rcases ok with h | h <;> omega
    refine ⟨?_, ?_, ?_⟩
    · intro u hu
      rcases List.mem_cons.1 hu with rfl | hu
      · exact ok
      · exact i1 u hu
    · simp only [tbs, List.length_append]
      omega
    · simp only [List.length_cons]
      omega

/-- What is right with a dictionary. -/
theorem check_okt {dict : ByteArray} {l : List Tk.T} (h : checkOf dict l = 0) : (∀ t ∈ l, Okt t) ∧ (tbs l).length ≤ 1024 ∧ l.length ≤ 512 := by
  obtain ⟨hd, h1⟩ := check_ok h
  have hl : dict.data.toList.length = dict.size := by simp
  have := run_okt hd l dict.data.toList false (by omega) (by omega) h1
  exact ⟨this.1, by omega, by omega⟩

theorem check_small {dict : ByteArray} {l : List Tk.T} (h : checkOf dict l = 0) : Small l := by
  obtain ⟨h1, _, h3⟩ := check_okt h
  refine ⟨by omega, fun t ht => ?_⟩
  rcases h1 t ht with h | h <;> omega

theorem small_sane {l : List Tk.T} (h : Small l) : Sane l := ⟨by have := h.1; omega, fun t ht => by have := h.2 t ht; omega⟩

theorem one_tb {t : Tk.T} (h : Okt t) (r : List UInt8) : Tk.one ⟨(tb t ++ r).toArray⟩ = some (t, (tb t).length) := by
  unfold Tk.one tb
  rcases h with ⟨h0, h1, h2, h3⟩ | ⟨h0, h1, h2, h3, h4⟩
  · rw [if_pos h0]
    have hl : t.lit.data.toList.length = t.lit.size := by simp
    have hf : Nm.from_ (⟨(Nm.nb (2 * t.lit.size) ++ t.lit.data.toList ++ r).toArray⟩ : ByteArray).data.toList = some (2 * t.lit.size, (Nm.nb (2 * t.lit.size)).length) := by
      show Nm.from_ (Nm.nb (2 * t.lit.size) ++ t.lit.data.toList ++ r).toArray.toList = _
      rw [List.toList_toArray, List.append_assoc]
      exact Nm.from_nb _ _ (by omega)
    rw [hf]
    simp only
    rw [if_neg (by omega), if_neg]
    · congr 2
      · obtain ⟨x, f, n⟩ := t
        simp only at h1 h2
        subst h1 h2
        congr 1
        apply Nm.ba_ext
        rw [Tk.ext_data]
        show (((Nm.nb (2 * x.size) ++ x.data.toList ++ r).toArray.toList).drop _).take _ = _
        rw [List.toList_toArray, List.append_assoc, List.drop_left, show (Nm.nb (2 * x.size)).length + 2 * x.size / 2 - (Nm.nb (2 * x.size)).length = x.data.toList.length by simp]
        exact List.take_left ..
      · rw [List.length_append, hl]
        omega
    · show ¬ (Nm.nb (2 * t.lit.size) ++ t.lit.data.toList ++ r).toArray.size - _ < _
      simp only [List.size_toArray, List.length_append, hl]
      omega
  · rw [if_neg (by omega)]
    have hf : Nm.from_ (⟨(Nm.nb (2 * t.len + 1).toNat ++ Nm.nb t.far.toNat ++ r).toArray⟩ : ByteArray).data.toList = some ((2 * t.len + 1).toNat, (Nm.nb (2 * t.len + 1).toNat).length) := by
      show Nm.from_ (Nm.nb (2 * t.len + 1).toNat ++ Nm.nb t.far.toNat ++ r).toArray.toList = _
      rw [List.toList_toArray, List.append_assoc]
      exact Nm.from_nb _ _ (by omega)
    rw [hf]
    simp only
    rw [if_pos (by omega), Tk.ext_end]
    have hg : Nm.from_ ((⟨(Nm.nb (2 * t.len + 1).toNat ++ Nm.nb t.far.toNat ++ r).toArray⟩ : ByteArray).data.toList.drop (Nm.nb (2 * t.len + 1).toNat).length) = some (t.far.toNat, (Nm.nb t.far.toNat).length) := by
      show Nm.from_ ((Nm.nb (2 * t.len + 1).toNat ++ Nm.nb t.far.toNat ++ r).toArray.toList.drop _) = _
      rw [List.toList_toArray, List.append_assoc, List.drop_left]
      exact Nm.from_nb _ _ (by omega)
    rw [hg]
    simp only
    congr 2
    · obtain ⟨x, f, n⟩ := t
      simp only at h0 h1 h2 h3 h4
      congr 1
      · apply Nm.ba_ext
        have : x.data.toList.length = 0 := h0
        rw [List.eq_nil_of_length_eq_zero this]
      · simp only
        omega
      · simp only
        omega
    · rw [List.length_append]

theorem D_tbs : ∀ (l : List Tk.T), (∀ t ∈ l, Okt t) → Tk.D ⟨(tbs l).toArray⟩ = some l := by
  intro l
  induction l with
  | nil => intro _; exact Tk.D_nil rfl
  | cons t l ih =>
    intro h
    rw [show tbs (t :: l) = tb t ++ tbs l from rfl, Tk.D_some (one_tb (h t (by simp)) (tbs l))]
    have e : (⟨(tb t ++ tbs l).toArray⟩ : ByteArray).extract (tb t).length (⟨(tb t ++ tbs l).toArray⟩ : ByteArray).size = ⟨(tbs l).toArray⟩ := by
      apply Nm.ba_ext
      rw [Tk.ext_end]
      show (tb t ++ tbs l).toArray.toList.drop _ = (tbs l).toArray.toList
      rw [List.toList_toArray, List.toList_toArray, List.drop_left]
    rw [e, ih (fun u hu => h u (by simp [hu]))]
    rfl

theorem tb_one {s : ByteArray} {t : Tk.T} {k : Nat} (h : Tk.one s = some (t, k)) (ho : Okt t) : tb t = s.data.toList.take k := by
  unfold Tk.one at h
  have hl : s.data.toList.length = s.size := by simp
  cases hf : Nm.from_ s.data.toList with
  | none => rw [hf] at h; simp at h
  | some x =>
    obtain ⟨n, j⟩ := x
    rw [hf] at h
    simp only at h
    obtain ⟨f1, f2, f3, f4, f5⟩ := Nm.nb_from hf
    by_cases hp : n % 2 = 1
    · rw [if_pos hp] at h
      cases hg : Nm.from_ (s.extract j s.size).data.toList with
      | none => rw [hg] at h; simp at h
      | some y =>
        obtain ⟨f, i⟩ := y
        rw [hg] at h
        simp only [Option.some.injEq, Prod.mk.injEq] at h
        obtain ⟨rfl, rfl⟩ := h
        obtain ⟨g1, g2, g3, g4, g5⟩ := Nm.nb_from hg
        rw [Tk.ext_end] at g2
        unfold tb
        rw [if_neg (fun h => h rfl)]
        simp only
        rw [show (2 * ((n / 2 : Nat) : Int) + 1).toNat = n by omega, show ((f : Nat) : Int).toNat = f by omega, f2, g2, List.take_add]
    · rw [if_neg hp] at h
      by_cases hb : s.size - j < n / 2
      · rw [if_pos hb] at h; simp at h
      · rw [if_neg hb] at h
        simp only [Option.some.injEq, Prod.mk.injEq] at h
        obtain ⟨rfl, rfl⟩ := h
        have hz : (s.extract j (j + n / 2)).size = n / 2 := by simp; omega
        unfold tb
        rcases ho with ho | ho
        · rw [if_pos ho.1]
          simp only
          rw [hz, show 2 * (n / 2) = n by omega, f2, Tk.ext_data, show j + n / 2 - j = n / 2 by omega, List.take_add]
        · exact absurd ho.2.1 (by simp)

theorem tbs_D : ∀ (n : Nat) (s : ByteArray) (l : List Tk.T), s.size ≤ n → Tk.D s = some l → (∀ t ∈ l, Okt t) → tbs l = s.data.toList := by
  intro n
  induction n with
  | zero =>
    intro s l h1 h2 _
    rw [Tk.D_nil (by omega)] at h2
    cases h2
    have : s.data.toList.length = 0 := show s.size = 0 by omega
    rw [List.eq_nil_of_length_eq_zero this]
    rfl
  | succ n ih =>
    intro s l h1 h2 h3
    by_cases h0 : s.size = 0
    · exact ih s l (by omega) h2 h3
    · cases ho : Tk.one s with
      | none => rw [Tk.D_none h0 ho] at h2; cases h2
      | some x =>
        obtain ⟨t, k⟩ := x
        have hp := Tk.one_pos ho
        rw [Tk.D_some ho] at h2
        cases hD : Tk.D (s.extract k s.size) with
        | none => rw [hD] at h2; cases h2
        | some m =>
          rw [hD] at h2
          simp only [Option.map_some, Option.some.injEq] at h2
          subst h2
          have := ih (s.extract k s.size) m (by rw [Tk.ext_size]; omega) hD (fun u hu => h3 u (by simp [hu]))
          rw [Tk.ext_end] at this
          rw [show tbs (t :: m) = tb t ++ tbs m from rfl, this, tb_one ho (h3 t (by simp)), List.take_append_drop]

theorem readOf_some {dict s : ByteArray} {l : List Tk.T} (hd : dict.size ≤ 256) (h : readOf dict s = some l) : Tk.D s = some l ∧ checkOf dict l = 0 := by
  unfold readOf at h
  cases hD : Tk.D s with
  | none => rw [hD] at h; simp at h
  | some m =>
    rw [hD] at h
    simp only at h
    by_cases hr : (Tk.run dict.size dict.data.toList false m).1 = 0
    · rw [if_pos hr] at h
      cases h
      refine ⟨rfl, ?_⟩
      unfold checkOf
      rw [if_neg (by omega), hr]
    · rw [if_neg hr] at h; cases h

theorem readOf_of {dict s : ByteArray} {l : List Tk.T} (hD : Tk.D s = some l) (hc : checkOf dict l = 0) : readOf dict s = some l := by
  unfold readOf
  rw [hD]
  simp only
  rw [if_pos (check_ok hc).2]

/-- What is read was written. -/
theorem read_tbs {dict s : ByteArray} {l : List Tk.T} (hd : dict.size ≤ 256) (h : readOf dict s = some l) : (⟨(tbs l).toArray⟩ : ByteArray) = s ∧ checkOf dict l = 0 := by
  obtain ⟨h1, h2⟩ := readOf_some hd h
  refine ⟨?_, h2⟩
  rw [tbs_D s.size s l (Nat.le_refl _) h1 (check_okt h2).1, Nm.ba_list]

theorem read_long0 {dict s : ByteArray} (hd : dict.size ≤ 256) (h : 1024 < s.size) : readOf dict s = none := by
  cases hr : readOf dict s with
  | none => rfl
  | some l =>
    obtain ⟨h1, h2⟩ := read_tbs hd hr
    have := (check_okt h2).2.1
    rw [← h1] at h
    have e : (⟨(tbs l).toArray⟩ : ByteArray).size = (tbs l).length := rfl
    omega

theorem from_read {dict s : ByteArray} (hd : dict.size ≤ 256) : fromOf dict s = readOf dict s := by
  unfold fromOf readOf
  cases hD : Tk.D s with
  | none => rfl
  | some l =>
    simp only
    by_cases hr : (Tk.run dict.size dict.data.toList false l).1 = 0
    · have hc : checkOf dict l = 0 := by unfold checkOf; rw [if_neg (by omega), hr]
      rw [if_pos hr, if_pos ⟨(check_okt hc).2.2, hc⟩]
    · have hc : ¬ checkOf dict l = 0 := by unfold checkOf; rw [if_neg (by omega)]; exact hr
      rw [if_neg hr, if_neg (fun h => hc h.2)]

/-- What is written is read. -/
theorem read_write {dict : ByteArray} {l : List Tk.T} (hc : checkOf dict l = 0) : readOf dict ⟨(tbs l).toArray⟩ = some l := readOf_of (D_tbs l (check_okt hc).1) hc

theorem copy_take (l : List UInt8) (a far : Nat) (h1 : 1 ≤ far) (h2 : far ≤ a) : ∀ n, (∀ j, j < n → l[a - far + j]? = l[a + j]?) → a + n ≤ l.length → Tk.copy far n (l.take a) = l.take (a + n) := by
  intro n
  induction n with
  | zero => intro _ _; rfl
  | succ n ih =>
    intro h hl
    rw [Tk.copy_succ, ih (fun j hj => h j (by omega)) (by omega)]
    have hlen : (l.take (a + n)).length = a + n := by rw [List.length_take]; omega
    rw [hlen, List.getD_eq_getElem?_getD, List.getElem?_take, if_pos (by omega), show a + n - far = a - far + n by omega, h n (by omega), List.getElem?_eq_getElem (show a + n < l.length by omega), Option.getD_some, show a + (n + 1) = (a + n) + 1 by omega, List.take_add_one, List.getElem?_eq_getElem (show a + n < l.length by omega)]
    rfl

theorem err_copy {d : Nat} {s : List UInt8} {p : Bool} {f n : Nat} (h1 : 3 ≤ n) (h2 : n ≤ 64) (h3 : 1 ≤ f) (h4 : f ≤ s.length) (h5 : s.length + n ≤ d + 512) : Tk.err d s p ⟨⟨#[]⟩, (f : Nat), (n : Nat)⟩ = 0 := by
  unfold Tk.err
  rw [if_neg (fun h => h rfl), if_neg (by simp only; omega), if_neg (by simp only; omega)]
theorem make_copy {s : List UInt8} {f n : Nat} : Tk.make s ⟨⟨#[]⟩, (f : Nat), (n : Nat)⟩ = Tk.copy f n s := by
  unfold Tk.make
  rw [if_neg (fun h => h rfl)]
  rfl
theorem err_lay {d : Nat} {s : List UInt8} {x : ByteArray} (h0 : x.size ≠ 0) (h5 : s.length + x.size ≤ d + 512) : Tk.err d s false ⟨x, 0, 0⟩ = 0 := by
  unfold Tk.err
  rw [if_pos h0, if_neg (by simp), if_neg (by simp only; omega)]
theorem make_lay {s : List UInt8} {x : ByteArray} (h0 : x.size ≠ 0) : Tk.make s ⟨x, 0, 0⟩ = s ++ x.data.toList := by
  unfold Tk.make
  rw [if_pos h0]

/-- Behind what is laid. -/
theorem run_lay (s : ByteArray) (d f a : Nat) (m : List Tk.T) (h1 : f ≤ a) (h2 : a ≤ s.size) (h3 : s.size ≤ d + 512) : ∃ p, Tk.run d (s.data.toList.take f) false (Tk.lay s f a ++ m) = Tk.run d (s.data.toList.take a) p m := by
  have hl : s.data.toList.length = s.size := by simp
  unfold Tk.lay
  by_cases h : f < a
  · rw [if_pos h]
    have hz : (s.extract f a).size = a - f := by simp; omega
    have hlen : (s.data.toList.take f).length = f := by rw [List.length_take]; omega
    refine ⟨decide ((s.extract f a).size ≠ 0), ?_⟩
    rw [List.cons_append, List.nil_append, Tk.run_good (err_lay (by omega) (by rw [hlen, hz]; omega)), make_lay (by omega), Tk.ext_data, ← List.take_add, show f + (a - f) = a by omega]
  · rw [if_neg h]
    refine ⟨false, ?_⟩
    rw [show f = a by omega]
    rfl

theorem P_run (s : ByteArray) (d : Nat) (h3 : s.size ≤ d + 512) : ∀ (n a f : Nat), s.size - a ≤ n → f ≤ a → a ≤ s.size → Tk.run d (s.data.toList.take f) false (Tk.P s a f) = (0, s.data.toList) := by
  have hl : s.data.toList.length = s.size := by simp
  intro n
  induction n with
  | zero =>
    intro a f h1 h2 h4
    rw [Tk.P_end (by omega)]
    obtain ⟨p, hp⟩ := run_lay s d f a [] h2 h4 h3
    rw [List.append_nil] at hp
    rw [hp, Tk.run, List.take_of_length_le (by omega)]
  | succ n ih =>
    intro a f h1 h2 h4
    by_cases ha : a < s.size
    · by_cases hb : (Tk.bst s.data.toList a).2 < 3
      · rw [Tk.P_lit ha hb]
        exact ih (a + 1) f (by omega) (by omega) (by omega)
      · rw [Tk.P_copy ha hb]
        obtain ⟨b1, b2⟩ := Tk.bst_ok s.data.toList a
        generalize Tk.bst s.data.toList a = b at *
        obtain ⟨far, len⟩ := b
        simp only at hb b1 b2 ⊢
        rcases b2 with b2 | ⟨b2, b3, b4, b5⟩
        · simp only [Prod.mk.injEq] at b2; omega
        · unfold Tk.most at b1
          have hlen : (s.data.toList.take a).length = a := by rw [List.length_take]; omega
          obtain ⟨p, hp⟩ := run_lay s d f a (⟨⟨#[]⟩, (far : Nat), (len : Nat)⟩ :: Tk.P s (a + len) (a + len)) h2 h4 h3
          rw [hp, Tk.run_good (err_copy (by omega) (by omega) b2 (by omega) (by omega)), make_copy, copy_take s.data.toList a far b2 b3 len (fun j hj => Tk.alk_same _ _ _ _ j (by rw [← b5]; exact hj)) (by omega)]
          exact ih (a + len) (a + len) (by omega) (Nat.le_refl _) (by omega)
    · exact ih a f (by omega) h2 h4

/-- What is parsed plays as the text. -/
theorem parse_plays (dict text : ByteArray) (hd : dict.size ≤ 256) (ht : text.size ≤ 512) : checkOf dict (Tk.P (dict ++ text) dict.size dict.size) = 0 ∧ playOf dict (Tk.P (dict ++ text) dict.size dict.size) = text := by
  have h := P_run (dict ++ text) dict.size (by rw [Nm.apps]; omega) _ dict.size dict.size (Nat.le_refl _) (Nat.le_refl _) (by rw [Nm.apps]; omega)
  have hl : dict.data.toList.length = dict.size := by simp
  rw [Nm.appd, ← hl, List.take_left] at h
  rw [hl] at h
  have hc : checkOf dict (Tk.P (dict ++ text) dict.size dict.size) = 0 := by
    unfold checkOf
    rw [if_neg (by omega), h]
  refine ⟨hc, ?_⟩
  unfold playOf
  rw [if_neg (by rw [hc]; simp), h]
  simp only
  rw [← hl, List.drop_left, Nm.ba_list]
end Go.Proofs.Ytbjbjbpgmojcbaa
