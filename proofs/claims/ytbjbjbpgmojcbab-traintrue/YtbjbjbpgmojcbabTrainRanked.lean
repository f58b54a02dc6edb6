/- What train.ranked comes to: the pieces that stand in two texts at least, by falling counts, and of one count by rising bytes. -/
import Derived.Test.YtbjbjbpgmojcbabTrainCmp
import Derived.Sort.OwnSorted
import Derived.Sort.KeysCollected
import Derived.OwnWalk
namespace Go.Proofs.Ytbjbjbpgmojcbab
open Go.RowKit Go.Maps Go.WideMaps Go.Sort Go.Shelf

namespace Tr
/-- The pieces that were gathered so far. -/
def Got (xs : List ByteArray) (D : DataW Unit) (left : Lit → Bool) (ss : List ByteArray) : Prop := ss.Nodup ∧ ∀ q, q ∈ ss ↔ (has D (kl q) = true ∧ left (kl q) = false ∧ 2 ≤ ct xs q)
theorem Got.start (xs : List ByteArray) (D : DataW Unit) : Got xs D (has D) [] := ⟨List.nodup_nil, fun q => by cases has D (kl q) <;> simp⟩
theorem kl_same (p : ByteArray) : (kl p).sameKey (kl p) = true := by simp [kl, Lit.sameKey]
theorem Got.yes {xs : List ByteArray} {D : DataW Unit} {left : Lit → Bool} {ss : List ByteArray} (h : Got xs D left ss) {x : ByteArray} (hl : left (kl x) = true) (hh : has D (kl x) = true) (h2 : 2 ≤ ct xs x) : Got xs D (fun z => left z && !z.sameKey (kl x)) (ss ++ [x]) := by
  refine ⟨?_, fun q => ?_⟩
  · rw [List.nodup_append]
    refine ⟨h.1, by simp, fun a ha b hb => ?_⟩
    rw [List.mem_singleton] at hb
    rintro rfl
    subst hb
    have := ((h.2 a).1 ha).2.1
    rw [hl] at this; cases this
  · rw [List.mem_append, List.mem_singleton, h.2 q]
    by_cases e : q = x
    · subst e; simp [hh, h2, kl_same]
    · simp [sameKey_ne (kl_ne e), e]
theorem Got.no {xs : List ByteArray} {D : DataW Unit} {left : Lit → Bool} {ss : List ByteArray} (h : Got xs D left ss) {x : ByteArray} (h2 : ct xs x < 2) : Got xs D (fun z => left z && !z.sameKey (kl x)) ss := by
  refine ⟨h.1, fun q => ?_⟩
  rw [h.2 q]
  by_cases e : q = x
  · subst e; constructor
    · rintro ⟨_, _, h3⟩; omega
    · rintro ⟨_, _, h3⟩; omega
  · simp [sameKey_ne (kl_ne e)]
theorem Got.all {xs : List ByteArray} {D : DataW Unit} {left : Lit → Bool} {ss : List ByteArray} (h : Got xs D left ss) (hl : ∀ k, left k = false) (h3 : ∀ q : ByteArray, q.size = 4 → D.atKey (kl q) (i64 0) = i64 (ct xs q)) (h4 : ∀ x : List UInt8, has D (.string x) = true → x.length = 4 ∧ 1 ≤ ct xs ⟨x.toArray⟩) :
    ∀ q, q ∈ ss ↔ (q.size = 4 ∧ 2 ≤ ct xs q) := by
  intro q
  rw [h.2 q]
  constructor
  · rintro ⟨h5, _, h6⟩
    have := (h4 q.data.toList h5).1
    exact ⟨by rw [← this]; simp, h6⟩
  · rintro ⟨h5, h6⟩
    refine ⟨?_, hl _, h6⟩
    cases hh : has D (kl q) with
    | true => rfl
    | false =>
      have h7 := h3 q h5
      rw [atKey_of_not_has hh] at h7
      simp [i64] at h7
      omega

/- Pieces as values, and the sort. -/
structure Pc where
  val : ByteArray
  four : val.size = 4
instance : Inhabited Pc := ⟨⟨⟨#[0, 0, 0, 0]⟩, rfl⟩⟩
theorem Pc.same : ∀ {a b : Pc}, a.val = b.val → a = b
  | ⟨_, _⟩, ⟨_, _⟩, rfl => rfl
def enc (p : Pc) : Value := .string p.val
def cfp (xs : List ByteArray) (a b : Pc) : Int := cmpf xs a.val b.val
theorem ltOf_is (xs : List ByteArray) (a b : Pc) : ltOf (cfp xs) a b = lt xs a.val b.val := cmpf_lt xs a.val b.val
theorem swo (xs : List ByteArray) : SWO (ltOf (cfp xs)) where
  irrefl x := by rw [ltOf_is, lt_irr]
  trans x y z h1 h2 := by rw [ltOf_is] at *; exact lt_trans h1 h2
  ntrans x y z h1 h2 := by rw [ltOf_is] at *; exact lt_ntrans h1 h2
theorem parts (xs : List ByteArray) (x y : Pc) (h1 : ltOf (cfp xs) x y = false) (h2 : ltOf (cfp xs) y x = false) : x = y := by
  rw [ltOf_is] at *
  exact Pc.same (lt_total h1 h2)
theorem grown_sort {w : World} {g n : Nat} {os : Array Obj} (d : Array Pc) : w.grownBy (sortWorld enc w g 0 n d os) (some g) := by
  unfold sortWorld
  refine ⟨rfl, rfl, rfl, by simp, fun k hk hne => ?_⟩
  rw [heap_grow_old _ _ (by simpa using hk)]
  have : g ≠ k := fun e => hne (by rw [e])
  simp [putRow, mapBlock, Sort.ahead, Array.getElem?_modify, this]
theorem CM.kept {w w' : World} {b n : Nat} {f : ByteArray → Nat} {row : Option Nat} (h : CM w b n f) (hg : w.grownBy w' row) (hne : some b ≠ row) : CM w' b n f := by
  obtain ⟨D, h1, h2⟩ := h
  exact ⟨D, h1.kept hg hne, h2⟩
/-- What the sort leaves is ranked. -/
theorem ranked_is {xs ss : List ByteArray} (h : ss.Nodup) (h4 : ∀ q, q ∈ ss ↔ (q.size = 4 ∧ 2 ≤ ct xs q)) (ps : List Pc) (hps : ps.map Pc.val = ss) :
    Rk xs ((ps.mergeSort fun x y => !ltOf (cfp xs) y x).map Pc.val) := by
  have hperm := List.mergeSort_perm ps (fun x y => !ltOf (cfp xs) y x)
  refine ⟨?_, fun p => ?_⟩
  · have hs : (ps.mergeSort fun x y => !ltOf (cfp xs) y x).Pairwise (fun x y => (!ltOf (cfp xs) y x) = true) := by
      refine List.pairwise_mergeSort ?_ ?_ ps
      · intro a b c h1 h2
        simp only [Bool.not_eq_true', ltOf_is] at *
        exact lt_ntrans h2 h1
      · intro a b
        simp only [Bool.or_eq_true, Bool.not_eq_true', ltOf_is]
        cases h9 : lt xs b.val a.val with
        | false => exact .inl rfl
        | true => exact .inr (lt_asymm h9)
    have hnd : (ps.mergeSort fun x y => !ltOf (cfp xs) y x).Nodup := by
      rw [hperm.nodup_iff]
      subst hps
      exact (List.pairwise_map.1 h).imp fun hne e => hne (congrArg _ e)
    refine List.pairwise_map.2 ?_
    refine (hs.and hnd).imp ?_
    rintro a b ⟨h1, h2⟩
    simp only [Bool.not_eq_true', ltOf_is] at h1
    cases h9 : lt xs a.val b.val with
    | true => rfl
    | false => exact absurd (Pc.same (lt_total h9 h1)) h2
  · rw [← h4 p, ← hps, List.mem_map, List.mem_map]
    constructor
    · rintro ⟨a, h1, h2⟩; exact ⟨a, hperm.mem_iff.1 h1, h2⟩
    · rintro ⟨a, h1, h2⟩; exact ⟨a, hperm.mem_iff.2 h1, h2⟩
theorem lift : ∀ ss : List ByteArray, (∀ q ∈ ss, q.size = 4) → ∃ ps : List Pc, ps.map Pc.val = ss
  | [], _ => ⟨[], rfl⟩
  | a :: ss, h => by
    obtain ⟨ps, hp⟩ := lift ss (fun q hq => h q (List.mem_cons_of_mem _ hq))
    exact ⟨⟨a, h a (List.mem_cons_self ..)⟩ :: ps, by rw [List.map_cons, hp]⟩
/-- A slice of texts in new memory. -/
def TxFar (lo : Nat) (w : World) (ad : Option Addr) (xs : List ByteArray) : Prop := xs = [] ∨ ∃ b off, ad = some ⟨b, off, none⟩ ∧ lo ≤ b ∧ TxAt w b off xs
theorem holds_pc {w : World} {g : Nat} {cur : Array Value} {e : TypeId} {ps : List Pc} (hb : w.heap[g]? = some (.cells cur e (0, 0))) (ht : cur.toList.take ps.length = ps.map enc) : Holds enc w g 0 ps.toArray := by
  intro j hj
  have hj' : j < ps.length := by simpa using hj
  refine ⟨?_, by simp [World.frozen?, hb]⟩
  have h1 : (cur.toList.take ps.length)[j]? = (ps.map enc)[j]? := by rw [ht]
  rw [List.getElem?_take_of_lt hj'] at h1
  simp only [World.cell?, hb, Nat.zero_add]
  simp only [Option.isSome_none, Bool.false_eq_true, if_false]
  rw [← Array.getElem?_toList, h1]
  simp [hj']
theorem tx_holds {w : World} {g : Nat} {ps : List Pc} (hg : g < w.heap.size) (h : Holds enc w g 0 ps.toArray) : TxAt w g 0 (ps.map Pc.val) := by
  refine ⟨hg, fun i hi => ?_⟩
  rw [List.length_map] at hi
  rw [(h i (by simpa using hi)).1]
  simp [xa, enc, hi]
end Tr
theorem rankSort_any (xs : List ByteArray) (hn : xs.length ≤ 12) (ps : List Tr.Pc) (hl : ps.length ≤ 6144) (g cap mb bx : Nat) (w : World) (hH : Holds Tr.enc w g 0 ps.toArray) (hg : g < w.heap.size) (hgm : mb ≠ g) (hgb : bx ≠ g)
    (hcx : w.cell? ⟨bx, 0, none⟩ = some (.map (some mb))) (hC : Tr.CM w mb 6144 (Tr.ct xs)) :
    Calls Try.prog 23 #[.slice (some ⟨g, 0, none⟩) ps.length cap, .func (.func 24) #[] #[.pointer (some ⟨bx, 0, none⟩)]] w fun e w' =>
      e = .returned (.tuple #[]) ∧ Tr.TxAt w' g 0 ((ps.mergeSort fun x y => !ltOf (Tr.cfp xs) y x).map Tr.Pc.val) ∧ w.grownBy w' (some g) := by
  have eg : ∀ args w, (callFunc 24 args).run Try.prog w = .ok (.enter 24 args) w := enters_of Try.func24 (by kernel_rfl) rfl
  have hcon := Try.slices_SortFunc_total Tr.enc (fun _ => rfl) (Tr.cfp xs) (Tr.swo xs) 24 #[.pointer (some ⟨bx, 0, none⟩)] g 0 cap ps.toArray w eg
    (fun m os dk _ x y => (rankCmp_any xs hn x.val y.val x.four y.four bx mb _ ((Tr.grown_sort dk).cell hcx (by simpa using hgb)) (hC.kept (Tr.grown_sort dk) (by simpa using hgm))).mono fun e w' ⟨he, hw⟩ => ⟨he, 0, #[], by rw [hw, grow_empty]; rfl⟩)
    hH hg (by simp; omega) (Tr.parts xs)
  have hs : ps.toArray.size = ps.length := by simp
  rw [hs] at hcon
  refine hcon.mono ?_
  rintro e w' ⟨rfl, n, os, rfl⟩
  refine ⟨rfl, Tr.tx_holds (lt_sortWorld _ _ _ _ _ _ _ hg) (holds_sortWorld Tr.enc w g 0 n ps.toArray _ os hg hH (by simp)), Tr.grown_sort _⟩

set_option maxRecDepth 4000 in
set_option maxHeartbeats 2000000 in
theorem ranked_any (xs : List ByteArray) (ad : Option Addr) (cap : Nat) (w : World) (hx : TxSl w ad xs) (hn : xs.length ≤ 12) (hB : ∀ i, (Tr.xa xs i).size ≤ 512) (hM : Mx w) :
    Calls Try.prog 14 #[.slice ad xs.length cap] w fun e w' => ∃ ad' cap' L, e = .returned (.slice ad' (L : List ByteArray).length cap') ∧ L.length ≤ cap' ∧ L.length ≤ 6144 ∧ Tr.TxFar w.heap.size w' ad' L ∧ Tr.Rk xs L ∧ Below w.heap.size w w' := by
  have c1 := counted_any xs ad cap w hx hn hB hM
  clear hB hM hx
  obtain ⟨i0, hi, hz0, hz1, hz2⟩ := info_parts (P := Try.prog) (e := 9) (z := .string ⟨#[]⟩) (size := 1) (bytes := 16) (by kernel_rfl)
  go_enter Try.func14, Try.ntmps14
  go_wp2_with fail
  refine c1.mono ?_
  rintro e w1 ⟨rfl, ⟨D, hown, hD2, hD3, hD4⟩, B1⟩
  clear c1
  have hs1 : w.heap.size < w1.heap.size := hown.lt
  go_wp2_with (first
    | (at_range; refine wpList_range_own _ rfl _ 41 rfl 9 3 keyS Try.underlying41 _ w.heap.size 6144 _ rfl (hown.alloc _) ?_; intro w0 hrg0 hg0 hs0)
    | fail)
  go_frame
  have hs9 : (w1.alloc (.cells #[.map (some w.heap.size)] 41 (0, 0))).heap.size = w1.heap.size + 1 := by simp
  have hcx : w0.cell? ⟨w1.heap.size, 0, none⟩ = some (.map (some w.heap.size)) := hg0.cell (cell_one_new _ _ _ 0 _ rfl) (by simp)
  have B0 : Below w.heap.size w w0 := (B1.alloc B1.size _).grown hg0 (by simp; omega) (fun j hj => by cases hj)
  have hz := hown.size_le
  generalize (w1.alloc (.cells #[.map (some w.heap.size)] 41 (0, 0))).heap.size = r at hs9 hrg0 hs0 ⊢
  have hs8 : Hid (r = w1.heap.size + 1) := hs9
  clear hs9
  go_loopw [4] (fun v wr => ∃ (left : Lit → Bool) (cnt : Nat) (ss : List ByteArray), wr.ranges Try.prog 9 (plainElem Try.prog 3) w.heap.size r 6144 D left cnt ∧ ss.length + cnt ≤ 6144 ∧
      wr.ownsRow (w1.heap.size + 2) 9 1 v ss.length (ss.map Value.string) ∧ Tr.Got xs D left ss ∧ wr.cell? ⟨w1.heap.size, 0, none⟩ = some (.map (some w.heap.size)) ∧ w1.heap.size + 2 ≤ wr.heap.size ∧ Below w.heap.size w wr)
    (fun _ wr => wr.rangeLeft w.heap.size r)
  case atStart => exact ⟨_, _, [], hrg0, by simpa using hz, ⟨rfl, .inl ⟨rfl, rfl⟩⟩, Tr.Got.start xs D, hcx, by have := hs8.out; omega, B0⟩
  case round =>
    clear hrg0 hg0 hs0 hcx B0 hz
    obtain ⟨left, cnt, ss, hrg, hcs, hrow, hG, hcx, hsz, hnx⟩ := hrel
    go_wp2_with (first
      | (at_next; (refine wpList_next_ranges _ rfl _ rfl 9 keyS (plainElem Try.prog 3) Value.string (Value.int .i64) (fun key kl hk => by obtain ⟨x, hx, _⟩ := Maps.keyOf_str Try.underlying9 hk; exact ⟨⟨x.toArray⟩, hx⟩) (fun v y hv => by obtain ⟨c, rfl, _⟩ := plainElem_int_inv Try.underlying3 hv; exact ⟨c, rfl⟩) w.heap.size r 6144 _ _ _ rfl hrg ?_ ?_))
      | fail)
    · intro hc0 hl0
      have hall := hG.all hl0 hD3 hD4
      obtain ⟨ps, hps⟩ := Tr.lift ss (fun q hq => ((hall q).1 hq).1)
      have HR : Hid (Tr.Rk xs ((ps.mergeSort fun x y => !ltOf (Tr.cfp xs) y x).map Tr.Pc.val)) := Tr.ranked_is hG.1 hall ps hps
      have hlen : ps.length = ss.length := by rw [← hps, List.length_map]
      have hCM : Tr.CM wr w.heap.size 6144 (Tr.ct xs) := ⟨D, hrg.owns, hD2, hD3, hD4⟩
      rcases hrow.2 with ⟨hnil, hn0⟩ | ⟨g, cap', cur, hv, hbase, hb, h1, h2, h3, h4⟩
      · have c2 := fun fv => Try.slices_SortFunc_none (α := Tr.Pc) none 0 fv wr
        obtain rfl : ps = [] := List.length_eq_zero_iff.1 (by omega)
        clear hrow hps hlen hn0 hall hG hrg hcx hCM hown
        subst hnil
        go_wp2_with fail
        refine (c2 _).mono ?_
        rintro e w2 ⟨rfl, rfl⟩
        go_wp2_with fail
        go_ret
        exact ⟨none, 0, [], rfl, by simp, by simp, .inl rfl, by simpa using HR.out, hnx⟩
      · have hH : Holds Tr.enc wr g 0 ps.toArray := Tr.holds_pc hb (by rw [hlen, ← Nat.mul_one ss.length, h4, ← hps, List.map_map]; rfl)
        have hgl : g < wr.heap.size := (Array.getElem?_eq_some_iff.1 hb).1
        have c2 := rankSort_any xs hn ps (by omega) g cap' w.heap.size w1.heap.size wr hH hgl (by omega) (by omega) hcx hCM
        have hll : ((ps.mergeSort fun x y => !ltOf (Tr.cfp xs) y x).map Tr.Pc.val).length = ss.length := by rw [List.length_map, List.length_mergeSort, hlen]
        rw [hlen] at c2
        generalize (ps.mergeSort fun x y => !ltOf (Tr.cfp xs) y x).map Tr.Pc.val = L at *
        have hll' : Hid (L.length = ss.length) := hll
        clear hrow hps hlen hall hG hrg hcx hCM hown h4 h3 hb hH hll
        subst hv
        go_wp2_with fail
        refine c2.mono ?_
        rintro e w2 ⟨rfl, hT, hgr⟩
        have B2 := hnx.grown hgr hnx.size (fun j hj => by cases hj; omega)
        go_wp2_with fail
        go_ret
        exact ⟨some ⟨g, 0, none⟩, cap', L, by rw [hll'.out]; rfl, by rw [hll'.out]; exact h1, by rw [hll'.out]; omega, .inr ⟨g, 0, rfl, by omega, hT⟩, HR.out, B2⟩
    · intro x c kl yd yp w2 cnt2 hkey hlk hv hat hrg2 hlt hg2 hs2 hen
      obtain ⟨x', ex, rfl, _⟩ := Maps.keyOf_str Try.underlying9 hkey
      obtain rfl : x = ⟨x'.toArray⟩ := by cases ex; rfl
      have hkx : Lit.string x' = Tr.kl ⟨x'.toArray⟩ := by simp [Tr.kl]
      have hx4 := hD4 x' (has_true_of_atKey hat)
      rw [hkx] at hlk hrg2 hat
      have hh : has D (Tr.kl ⟨x'.toArray⟩) = true := has_true_of_atKey hat
      obtain ⟨c', hc1, hc2, _⟩ := plainElem_int_inv Try.underlying3 hv
      obtain rfl : c = c' := by cases hc1; rfl
      have hcc : c = (Tr.ct xs ⟨x'.toArray⟩ : Int) := Tr.CM.at_is hD3 _ ((Tr.sz_mk x').trans hx4.1) c (by rw [hat]; cases hc2; rfl)
      have hrow2 := hrow.kept hg2 (Or.inr (row_ne_iter hrow hrg).symm)
      have hcx2 := hg2.cell hcx (by simp; have := hs8.out; omega)
      have hsz2 : w1.heap.size + 2 ≤ w2.heap.size := by omega
      have B2 : Below w.heap.size w w2 := hnx.grown hg2 hnx.size (fun j hj => by cases hj; have := hs8.out; omega)
      generalize (⟨x'.toArray⟩ : ByteArray) = X at *
      clear hs2 hrow hcx hnx hkey hx4 ex hc1 hc2 hv
      by_cases h2 : 2 ≤ Tr.ct xs X
      · have hci : (2 : Int) ≤ c := by omega
        have d1 : decide ((2 : Int) ≤ c) = true := decide_eq_true hci
        have hG2 := hG.yes hlk hh h2
        clear hcc hG
        go_wp2_with (first
          | (at_builtin; refine wpList_append_own _ rfl _ _ 22 rfl (w1.heap.size + 2) 9 i0 (.string ⟨#[]⟩) 1 16 Try.underlying22 hi hz0 hz1 hz2 rfl (by decide) _ _ _ rfl (hrow2.alloc _) ⟨w2.heap.size, 0, none⟩ 1 1 [.string X] rfl rfl (cell_one_new _ _ _) (by simp [Value.oneCell']) (by unfold maxLen at *; omega) (by omega) (by simp; omega) ?_; intro v' w3 hown' hg3 hnil3; go_frame)
          | fail)
        have hne1 := row_ne_low hrow2 (b := w.heap.size) (by omega)
        have hne2 := row_ne_iter hrow2 hrg2
        have hne3 := row_ne_low hrow2 (b := w1.heap.size) (by omega)
        have hrg3 := (hrg2.alloc (.cells #[.string X] 9 (0, 0))).kept hg3 hne1 hne2
        have hcx3 := hg3.cell (((World.grownBy_alloc w2 (.cells #[.string X] 9 (0, 0)) none).cell hcx2 (by simp))) hne3
        have hsz3 : w1.heap.size + 2 ≤ w3.heap.size := by have := hg3.size; simp at this; omega
        have B3 : Below w.heap.size w w3 := (B2.alloc B2.size (.cells #[.string X] 9 (0, 0))).grown hg3 (by simp; omega) (fun j hj => by have := (hrow2.lt j hj).1; omega)
        go_roundw
        case rel => exact ⟨_, cnt2, ss ++ [X], hrg3, by simp; omega, by simpa using hown', hG2, hcx3, hsz3, B3⟩
        case measure => rw [hrg3.left_eq, hrg.left_eq]; exact hlt
      · have hci : ¬ (2 : Int) ≤ c := by omega
        have d1 : decide ((2 : Int) ≤ c) = false := decide_eq_false hci
        have hG2 := hG.no (x := X) (by omega)
        clear hcc hG
        go_wp2_with fail
        go_roundw
        case rel => exact ⟨_, cnt2, ss, hrg2, by omega, hrow2, hG2, hcx2, hsz2, B2⟩
        case measure => rw [hrg2.left_eq, hrg.left_eq]; exact hlt
end Go.Proofs.Ytbjbjbpgmojcbab
